/-
  Control: the program's, the whole.
-/
import Derived.Test.YtecljmpojninfaaT34
import Derived.Maps.AppendAt
import Derived.Test.YtecljmpojninfaaCuA
namespace Go.Proofs.Ytecljmpojninfaa
open Go.RowKit Go.Maps Va Lb
set_option linter.all false

def CtlL (l : List Int) : Prop := l.length ≤ 2000 ∧ ∀ x ∈ l, -100000 ≤ x ∧ x ≤ 100000
noncomputable instance (l : List Int) : Decidable (CtlL l) := Classical.propDecidable _

set_option maxRecDepth 20000 in
set_option maxHeartbeats 1000000 in
theorem ictls_any (ao : Option Addr) (n cap : Nat) (l : List Int) (w : World) (h : VRw 1 cvI w (.slice ao n cap) l) (hn : l.length ≤ 1048576) :
    Calls Try.prog 38 #[.slice ao n cap] w fun e w' => e = .returned (.bool (decide (CtlL l))) ∧ w = w' := by
  obtain rfl := h.len
  have HH := hidden h
  clear h
  by_cases hs : l.length ≤ 2000
  · have hs1 : ¬ (2000 : Int) < (l.length : Int) := by omega
    go_enter Try.func38, Try.ntmps38
    go_wp2_with fail
    go_loopw [4, 10] (fun _ iv wr => ∃ i : Nat, i ≤ l.length ∧ iv = .int .i64 i ∧ wr = w ∧ Hid (∀ y ∈ l.take i, -100000 ≤ y ∧ y ≤ 100000)) (fun _ iv _ => l.length - (intOf iv).toNat)
    case atStart => exact ⟨0, Nat.zero_le _, rfl, rfl, by intro y hy; simp at hy⟩
    case round =>
      obtain ⟨i, hi, rfl, rfl, hok⟩ := hrel
      by_cases hlt : i < l.length
      · have hlti : (i : Int) < (l.length : Int) := by omega
        obtain ⟨y, hy⟩ := some_of l i hlt
        have ky := ivalue_any y
        obtain ⟨g, off, rfl, hg, c0⟩ := vint_cell HH.out hy
        have HX := hidden hy
        clear hy
        cases q1 : vlB y with
        | false =>
          have HY : Hid (decide (CtlL l) = false) := decide_eq_false (fun q => by have := vlB_iff.2 (q.2 y (List.mem_of_getElem? HX.out)); rw [q1] at this; cases this)
          rw [q1] at ky
          clear q1
          go_wp2_with (go_at_call 37; refine (ky _).mono ?_; rintro e w1 ⟨rfl, hw1⟩; obtain rfl := hw1)
          go_ret
          exact ⟨ret_boolT HY.out.symm, rfl⟩
        | true =>
          have HN : Hid (∀ y ∈ l.take (i + 1), -100000 ≤ y ∧ y ≤ 100000) := by
            rw [Hid, take_snL HX.out]
            intro z hz
            rcases List.mem_append.1 hz with q | q
            · exact hok.out z q
            · simp at q; subst q; exact vlB_iff.1 q1
          rw [q1] at ky
          clear q1
          go_wp2_with (go_at_call 37; refine (ky _).mono ?_; rintro e w1 ⟨rfl, hw1⟩; obtain rfl := hw1)
          go_roundw
          case rel => exact ⟨i + 1, by omega, rfl, by simp, HN⟩
          case measure => simp [intOf]; omega
      · have hlti : ¬ (i : Int) < (l.length : Int) := by omega
        have HY : Hid (decide (CtlL l) = true) := decide_eq_true ⟨hs, by have := hok.out; rw [List.take_of_length_le (by omega)] at this; exact this⟩
        go_wp2_with fail
        go_ret
        exact ⟨ret_boolT HY.out.symm, rfl⟩
  · have hs1 : (2000 : Int) < (l.length : Int) := by omega
    have HY : Hid (decide (CtlL l) = false) := decide_eq_false (fun q => hs q.1)
    go_enter Try.func38, Try.ntmps38
    go_wp2_with fail
    go_ret
    exact ⟨ret_boolT HY.out.symm, rfl⟩

theorem rules_ok {s : Int} (h0 : 1 ≤ s) (h1 : s ≤ 100000) : ∀ r ∈ rules s, (1 ≤ r.c ∧ r.c ≤ 2000) ∧ (0 ≤ r.f ∧ r.f ≤ 1000000) := by
  intro r hr
  simp only [rules, List.mem_cons, List.not_mem_nil, or_false] at hr
  rcases hr with rfl | rfl | rfl | rfl | rfl | rfl <;> (dsimp only; omega)
theorem offs_snoc {t : Int} {l : List Int} {i : Nat} {x : Int} (hx : l[i]? = some x) : offs t (l.take (i + 1)) = offs t (l.take i) ++ [x - t] := by
  unfold offs
  rw [take_snL hx, List.map_append]
  rfl

theorem pb_keepT {W W' : World} {g B : Nat} {vs : Array Value} {t : TypeId} (h : PB W B vs t) (hk : Keep g W W') (hg : B ≠ g) : PB W' B vs t := (hk.block B h.lt hg).trans h
theorem pb_neS {W : World} {B C : Nat} {vs us : Array Value} {t u : TypeId} (h : PB W B vs t) (k : PB W C us u) (hn : vs.size ≠ us.size) : B ≠ C := fun e => by
  subst e
  have : some (Obj.cells vs t) = some (Obj.cells us u) := h.symm.trans k
  simp only [Option.some.injEq, Obj.cells.injEq] at this
  exact hn (by rw [this.1])
theorem RulesAt.keep {W W' : World} {g G : Nat} {vs : List Value} {rs : List Rl} {t : TypeId} (h : RulesAt W G vs rs) (hv : 0 < vs.length) (h0 : PB W g #[] t) (hk : Keep g W W') : RulesAt W' G vs rs := by
  refine ⟨h.1, pb_keepT h.2.1 hk (pb_neS h.2.1 h0 (by rw [List.size_toArray]; show vs.length ≠ 0; omega)), fun i v r hv hr => ?_⟩
  obtain ⟨a, b, c, h1, h2, h3, h4⟩ := h.2.2 i v r hv hr
  exact ⟨a, b, c, h1, pb_keepT h2 hk (pb_neS h2 h0 (by simp)), pb_keepT h3 hk (pb_neS h3 h0 (by simp)), pb_keepT h4 hk (pb_neS h4 h0 (by simp))⟩
theorem Keep.grownT {g : Nat} {a b c : World} {r : Option Nat} (h : Keep g a b) (hg : b.grownBy c r) (hr : ∀ k, r = some k → k = g ∨ a.heap.size ≤ k) : Keep g a c :=
  ⟨hg.os.trans h.os, hg.tape.trans h.tape, hg.output.trans h.output, Nat.le_trans h.size hg.size, fun j hj hjg => (hg.block j (Nat.lt_of_lt_of_le hj h.size) (fun e => by rcases hr j e.symm with q | q; exact hjg q; omega)).trans (h.block j hj hjg)⟩
theorem Keep.belowT {g : Nat} {a b c : World} (h : Keep g a b) (hb : Below b.heap.size b c) : Keep g a c :=
  ⟨hb.os.trans h.os, hb.tape.trans h.tape, hb.output.trans h.output, Nat.le_trans h.size hb.size, fun j hj hjg => (hb.block j (Nat.lt_of_lt_of_le hj h.size)).trans (h.block j hj hjg)⟩

set_option maxRecDepth 20000 in
set_option maxHeartbeats 8000000 in
theorem icontrol_any (t s : Int) (ao : Option Addr) (n cap : Nat) (l : List Int) (w : World) (h : VRw 1 cvI w (.slice ao n cap) l) (hn : l.length ≤ 1048576) :
    Calls Try.prog 11 #[.int .i64 t, .int .i64 s, .slice ao n cap] w fun e w' => ∃ v', e = .returned v' ∧ VOwn 1 cvI w' w.heap.size v' (control t s l) ∧ Below w.heap.size w w' := by
  obtain rfl := h.len
  have HR := hidden h
  have HV : Hid (control t s l = if CtlOk t s l then ctlTo t s l l.length else []) := rfl
  obtain ⟨i0, hi0, hv0, hv1, hv2⟩ := info_partsW infoW64
  have HOA := hidden (ownW_new w 2 1)
  have HBA : Hid (Below w.heap.size w (w.alloc (.cells #[] 2))) := (Below.refl _ _).alloc (Nat.le_refl _) _
  have kc := ictls_any ao l.length cap l _ (h.below HBA.out) hn
  generalize control t s l = R at *
  clear h
  have kt := ivalue_any t
  have bad : ¬ CtlOk t s l → R = [] := fun q => by rw [HV.out, if_neg q]
  cases g1 : vlB t with
  | false =>
    have HN := hidden (bad (fun q => by rw [vlB_iff.2 q.1] at g1; cases g1))
    rw [g1] at kt
    clear bad HV kc
    go_enter Try.func11, Try.ntmps11
    go_wp2_with (go_at_call 37; refine (kt _).mono ?_; rintro e w1 ⟨rfl, hw1⟩; obtain rfl := hw1)
    go_ret
    exact vownE (b := 0) HN.out rfl HOA.out HBA.out
  | true =>
  have ht := vlB_iff.1 g1
  rw [g1] at kt
  by_cases g2 : s < 1
  · have HN := hidden (bad (fun q => by have := q.2.1; omega))
    clear bad HV kc
    go_enter Try.func11, Try.ntmps11
    go_wp2_with (go_at_call 37; refine (kt _).mono ?_; rintro e w1 ⟨rfl, hw1⟩; obtain rfl := hw1)
    go_ret
    exact vownE (b := 0) HN.out rfl HOA.out HBA.out
  by_cases g3 : 100000 < s
  · have HN := hidden (bad (fun q => by have := q.2.1; omega))
    clear bad HV kc
    go_enter Try.func11, Try.ntmps11
    go_wp2_with (go_at_call 37; refine (kt _).mono ?_; rintro e w1 ⟨rfl, hw1⟩; obtain rfl := hw1)
    go_ret
    exact vownE (b := 0) HN.out rfl HOA.out HBA.out
  have hs0 : 1 ≤ s := by omega
  have hs1 : s ≤ 100000 := by omega
  have HKR := hidden (irules_any s hs0 hs1)
  by_cases g4 : CtlL l
  · rw [decide_eq_true g4] at kc
    have hok := g4
    have HKC := hidden kc
    clear kc g1 g4
    have HCk : Hid (CtlOk t s l) := ⟨ht, ⟨hs0, hs1⟩, hok.1, hok.2⟩
    have HN : Hid (R = ctlTo t s l l.length) := by rw [Hid, HV.out, if_pos HCk.out]
    have hl2 := hok.1
    obtain ⟨ht0, ht1⟩ := ht
    clear bad HV hok
    go_enter Try.func11, Try.ntmps11
    go_wp2_with (first | (go_at_call 37; refine (kt _).mono ?_; rintro e w1 ⟨rfl, hw1⟩; obtain rfl := hw1) | (go_at_call 38; refine HKC.out.mono ?_; rintro e w1 ⟨rfl, hw1⟩; obtain rfl := hw1))
    refine (HKR.out _).mono ?_
    rintro e w2 ⟨G, v0, v1, v2, v3, v4, v5, rfl, hG, hrs, hb2⟩
    have b2 := onto HBA.out hb2
    have HO7 := hidden (ownW_below HOA.out hb2)
    have HRU : Hid (RulesAt w2 G [v0, v1, v2, v3, v4, v5] (rules s)) := by
      refine ⟨rfl, hG, fun i v r hv hr => ?_⟩
      obtain ⟨r0, r1, r2, r3, r4, r5⟩ := hrs
      have hi := get_ltL hv
      simp only [List.length_cons, List.length_nil] at hi
      rcases (show i = 0 ∨ i = 1 ∨ i = 2 ∨ i = 3 ∨ i = 4 ∨ i = 5 by omega) with rfl | rfl | rfl | rfl | rfl | rfl
      all_goals (simp only [rules, List.getElem?_cons_zero, List.getElem?_cons_succ, Option.some.injEq] at hv hr; subst hv; subst hr; assumption)
    have HP0 : Hid (PB w2 w.heap.size #[] 2) := (PB.new w #[] 2).below hb2
    clear hG hrs hb2 HOA HBA HKR
    have HO9 := hidden (ownW_new w2 2 1)
    have bA : Below w2.heap.size w2 (w2.alloc (.cells #[] 2)) := (Below.refl _ _).alloc (Nat.le_refl _) _
    have HO7A := hidden (ownW_below HO7.out bA)
    have HK0 := hidden ((Keep.refl w.heap.size w2).belowT bA)
    have b3 := onto b2 bA
    have hlt72 : w.heap.size < w2.heap.size := (ownW_lt HO7.out _ rfl).2
    clear bA HO7 b2
    have HCC := hidden (fun (W : World) (ad : Option Addr) (c : Nat) (i : Nat) (hi : i < l.length) (hW : RulesAt W G [v0, v1, v2, v3, v4, v5] (rules s)) (hV : VRw 1 cvI W (.slice ad (i + 1) c) (offs t (l.take (i + 1)))) => icode_any G [v0, v1, v2, v3, v4, v5] (rules s) (rules_ok hs0 hs1) (by show 6 ≤ 100; omega) ad (i + 1) c (offs t (l.take (i + 1))) W hW hV (by unfold offs; rw [List.length_map, List.length_take]; omega))
    rw [show (rules s).length = 6 from rfl] at HCC
    generalize hwA : w2.alloc (.cells #[] 2) = wA at *
    go_wp2_with fail
    go_loopw [7, 9, 11, 35] (fun ov av _ iv wr => ∃ (i : Nat), i ≤ l.length ∧ iv = .int .i64 i ∧ (∃ ad c, ov = .slice ad i c ∧ wr.ownsRow w.heap.size 2 1 (.slice ad i c) i ((ctlTo t s l i).map fun z => Value.int .i64 z) ∧ Hid (∀ k, (Value.slice ad i c).ownBlock = some k → k = w.heap.size ∨ w2.heap.size ≤ k) ∧ ∃ ad9 c9, av = .slice ad9 i c9 ∧ wr.ownsRow w2.heap.size 2 1 (.slice ad9 i c9) i ((offs t (l.take i)).map fun z => Value.int .i64 z) ∧ Hid ((Value.slice ad i c).ownBlock ≠ (Value.slice ad9 i c9).ownBlock)) ∧ Hid (Keep w.heap.size w2 wr) ∧ Below w.heap.size w wr) (fun _ _ _ iv _ => l.length - (intOf iv).toNat)
    case atStart => exact ⟨0, Nat.zero_le _, rfl, ⟨_, _, rfl, HO7A.out, (fun k e => by simp only [Value.ownBlock, Option.some.injEq] at e; exact .inl e.symm), _, _, rfl, HO9.out, (fun e => by simp only [Value.ownBlock, Option.some.injEq] at e; omega)⟩, HK0, b3⟩
    case round =>
      clear HO7A HO9 HK0 b3 hwA
      obtain ⟨i, hi, rfl, ⟨ad, c, rfl, ho7, HK7, ad9, c9, rfl, ho9, HNE⟩, HKP, hb⟩ := hrel
      have hsz := hb.size
      have hsz2 := HKP.out.size
      have HO7 := hidden ho7
      have HO9 := hidden ho9
      clear ho7 ho9
      by_cases hlt : i < l.length
      · have hlti : (i : Int) < (l.length : Int) := by omega
        obtain ⟨x, hx⟩ := some_of l i hlt
        have hxb := HCk.out.2.2.2 x (List.mem_of_getElem? hx)
        obtain ⟨hx0, hx1⟩ := hxb
        obtain ⟨g, off, rfl, hg, c0⟩ := vint_cell (HR.out.below hb) hx
        have HOS := hidden (offs_snoc (t := t) hx)
        have HCT : Hid (ctlTo t s l (i + 1) = ctlTo t s l i ++ [codeR s (offs t (l.take (i + 1)))]) := rfl
        have STEP1 : Hid (∀ (ad5 : Option Addr) (c5 : Nat) (w5 : World), w5.ownsRow w2.heap.size 2 1 (.slice ad5 (i + 1) c5) (i + 1) (((offs t (l.take i)).map fun z => Value.int .i64 z) ++ [.int .i64 (x - t)]) → (wr.alloc (.cells #[.int .i64 (x - t)] 2)).grownBy w5 (Value.slice ad9 i c9).ownBlock → ((Value.slice ad5 (i + 1) c5).ownBlock = (Value.slice ad9 i c9).ownBlock ∨ (Value.slice ad5 (i + 1) c5).ownBlock = some (wr.alloc (.cells #[.int .i64 (x - t)] 2)).heap.size) →
            VRw 1 cvI w5 (.slice ad5 (i + 1) c5) (offs t (l.take (i + 1))) ∧ w5.ownsRow w.heap.size 2 1 (.slice ad i c) i ((ctlTo t s l i).map fun z => Value.int .i64 z) ∧ w5.ownsRow w2.heap.size 2 1 (.slice ad5 (i + 1) c5) (i + 1) ((offs t (l.take (i + 1))).map fun z => Value.int .i64 z) ∧ (Value.slice ad i c).ownBlock ≠ (Value.slice ad5 (i + 1) c5).ownBlock ∧ RulesAt w5 G [v0, v1, v2, v3, v4, v5] (rules s) ∧ w2.heap.size ≤ w5.heap.size ∧ Keep w.heap.size w2 w5 ∧ Below w.heap.size w w5) := by
          intro ad5 c5 w5 ho5 hg5 hat5
          have bA : Below wr.heap.size wr (wr.alloc (.cells #[.int .i64 (x - t)] 2)) := (Below.refl _ _).alloc (Nat.le_refl _) _
          have k7 := ownW_below HO7.out bA
          have k9 := ownW_below HO9.out bA
          have l9 := ownW_lt k9
          have bb : Below w.heap.size w w5 := (hb.trans (bA.mono hsz)).grown hg5 (by simp; omega) (fun k hk => by have := (l9 k hk).1; omega)
          have hof : w5.ownsRow w2.heap.size 2 1 (.slice ad5 (i + 1) c5) (i + 1) ((offs t (l.take (i + 1))).map fun z => Value.int .i64 z) := by rw [HOS.out, List.map_append]; exact ho5
          have hol : (offs t (l.take (i + 1))).length = i + 1 := by unfold offs; rw [List.length_map, List.length_take]; omega
          have hne7 : (Value.slice ad i c).ownBlock ≠ (Value.slice ad5 (i + 1) c5).ownBlock := fun e => by
            rcases hat5 with q | q
            · exact HNE.out (e.trans q)
            · rw [q] at e
              have := (ownW_lt HO7.out _ e).2
              simp only [World.size_alloc] at this
              omega
          have kp : Keep w.heap.size w2 w5 := (HKP.out.belowT bA).grownT hg5 (fun k hk => .inr (l9 k hk).1)
          refine ⟨?_, k7.kept hg5 (.inr HNE.out), hof, hne7, HRU.out.keep (by show 0 < 6; omega) HP0.out kp, kp.size, kp, bb⟩
          exact (vownI (L := offs t (l.take (i + 1))) (by rw [hol]; exact hof)).row
        have STEP2 : Hid (∀ (ad5 : Option Addr) (c5 : Nat) (w5 w6 : World) (C : Int) (ad8 : Option Addr) (c8 : Nat) (w8 : World), w5.ownsRow w.heap.size 2 1 (.slice ad i c) i ((ctlTo t s l i).map fun z => Value.int .i64 z) → w5.ownsRow w2.heap.size 2 1 (.slice ad5 (i + 1) c5) (i + 1) ((offs t (l.take (i + 1))).map fun z => Value.int .i64 z) → (Value.slice ad i c).ownBlock ≠ (Value.slice ad5 (i + 1) c5).ownBlock → w2.heap.size ≤ w5.heap.size → Keep w.heap.size w2 w5 → Below w.heap.size w w5 → Below w5.heap.size w5 w6 → (w6.alloc (.cells #[.int .i64 C] 2)).grownBy w8 (Value.slice ad i c).ownBlock → ((Value.slice ad8 (i + 1) c8).ownBlock = (Value.slice ad i c).ownBlock ∨ (Value.slice ad8 (i + 1) c8).ownBlock = some (w6.alloc (.cells #[.int .i64 C] 2)).heap.size) →
            w8.ownsRow w2.heap.size 2 1 (.slice ad5 (i + 1) c5) (i + 1) ((offs t (l.take (i + 1))).map fun z => Value.int .i64 z) ∧ (Value.slice ad8 (i + 1) c8).ownBlock ≠ (Value.slice ad5 (i + 1) c5).ownBlock ∧ (∀ k, (Value.slice ad8 (i + 1) c8).ownBlock = some k → k = w.heap.size ∨ w2.heap.size ≤ k) ∧ Keep w.heap.size w2 w8 ∧ Below w.heap.size w w8) := by
          intro ad5 c5 w5 w6 C ad8 c8 w8 h7 h9 hne hz hkp hbw hb6 hg8 hat8
          have bA : Below w6.heap.size w6 (w6.alloc (.cells #[.int .i64 C] 2)) := (Below.refl _ _).alloc (Nat.le_refl _) _
          have k9 := ownW_below (ownW_below h9 hb6) bA
          have z6 := hb6.size
          refine ⟨k9.kept hg8 (.inr (fun e => hne e.symm)), fun e => ?_, fun k hk => ?_, ((hkp.belowT hb6).belowT bA).grownT hg8 (fun k hk => HK7.out k hk), ?_⟩
          · rcases hat8 with q | q
            · exact hne (q.symm.trans e)
            · rw [q] at e
              have := (ownW_lt (ownW_below h9 hb6) _ e.symm).2
              simp only [World.size_alloc] at this
              omega
          · rcases hat8 with q | q
            · exact HK7.out k (q.symm.trans hk)
            · rw [q] at hk
              have := Option.some.inj hk
              simp at this
              exact .inr (by omega)
          · exact ((hbw.trans (hb6.mono hbw.size)).trans (bA.mono (Nat.le_trans hbw.size z6))).grown hg8 (by have := hbw.size; simp; omega) (fun k hk => by rcases HK7.out k hk with q | q <;> omega)
        clear hx
        go_wp2_with (first | (at_builtin; refine wpList_append_own_at _ rfl (.tmp 39) (.tmp 43) 24 rfl w2.heap.size 2 i0 (.int .i64 0) 1 8 Try.underlying24 hi0 hv0 hv1 hv2 rfl (by decide) _ i ((offs t (l.take i)).map fun z => Value.int .i64 z) rfl (HO9.out.alloc _) ⟨wr.heap.size, 0, none⟩ 1 1 [.int .i64 (x - t)] rfl rfl (cell_oneW _ _ _) (by simp [Value.oneCell']) (by unfold maxLen; omega) (by omega) (by simp; omega) ?_; intro v5 w5 ho5 hg5 hn5 hat5; obtain ⟨ad5, c5, rfl⟩ := ownW_slice ho5; have S5 := hidden (STEP1.out _ _ _ ho5 hg5 hat5); clear ho5 hg5 hn5 hat5; have z5 := S5.out.2.2.2.2.2.1) | (go_at_call 40; refine (HCC.out w5 _ _ i hlt S5.out.2.2.2.2.1 S5.out.1).mono ?_; rintro e w6 ⟨rfl, hb6⟩; have z6 := hb6.size; have HO76 := hidden (ownW_below S5.out.2.1 hb6)) | (at_builtin; refine wpList_append_own_at _ rfl (.tmp 45) (.tmp 49) 24 rfl w.heap.size 2 i0 (.int .i64 0) 1 8 Try.underlying24 hi0 hv0 hv1 hv2 rfl (by decide) _ i ((ctlTo t s l i).map fun z => Value.int .i64 z) rfl (HO76.out.alloc _) ⟨w6.heap.size, 0, none⟩ 1 1 [.int .i64 (codeR s (offs t (l.take (i + 1))))] rfl rfl (cell_oneW _ _ _) (by simp [Value.oneCell']) (by unfold maxLen; omega) (by omega) (by simp; omega) ?_; intro v8 w8 ho8 hg8 hn8 hat8; obtain ⟨ad8, c8, rfl⟩ := ownW_slice ho8; skip))
        have F := STEP2.out _ _ _ _ _ _ _ _ S5.out.2.1 S5.out.2.2.1 S5.out.2.2.2.1 S5.out.2.2.2.2.2.1 S5.out.2.2.2.2.2.2.1 S5.out.2.2.2.2.2.2.2 hb6 hg8 hat8
        go_roundw
        case rel => exact ⟨i + 1, by omega, rfl, ⟨_, _, rfl, by rw [HCT.out, List.map_append]; exact ho8, F.2.2.1, _, _, rfl, F.1, F.2.1⟩, F.2.2.2.1, F.2.2.2.2⟩
        case measure => simp [intOf]; omega
      · have hlti : ¬ (i : Int) < (l.length : Int) := by omega
        have hil : i = l.length := by omega
        subst hil
        go_wp2_with fail
        go_ret
        rw [HN.out]
        exact ⟨_, rfl, vownI (by rw [ctlTo_len]; exact HO7.out), hb⟩
  · rw [decide_eq_false g4] at kc
    have HN := hidden (bad (fun q => g4 ⟨q.2.2.1, q.2.2.2⟩))
    clear bad HV g4 g1 HKR
    go_enter Try.func11, Try.ntmps11
    go_wp2_with (first | (go_at_call 37; refine (kt _).mono ?_; rintro e w1 ⟨rfl, hw1⟩; obtain rfl := hw1) | (go_at_call 38; refine kc.mono ?_; rintro e w1 ⟨rfl, hw1⟩; obtain rfl := hw1))
    go_ret
    exact vownE (b := 0) HN.out rfl HOA.out HBA.out
end Go.Proofs.Ytecljmpojninfaa
