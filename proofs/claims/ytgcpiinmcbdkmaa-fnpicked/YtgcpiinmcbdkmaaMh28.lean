/-
  Merged: Q30.
-/
import Derived.Test.YtgcpiinmcbdkmaaMh27
namespace Go.Proofs.Ytgcpiinmcbdkmaa
open Go.RowKit Va Bl
set_option linter.all false
set_option maxRecDepth 20000 in
set_option maxHeartbeats 4000000 in
theorem iclo_any (x : Ut) (ta : Option Addr) (tn tc : Nat) (a : Da) (B : Nat) (w : World) (hB : PB w B #[.int .i64 a.k, .int .i64 a.id, .int .i64 a.t] 35) :
    Calls Try.prog 100 #[aI (x, .slice ta tn tc), .pointer (some ⟨B, 0, none⟩)] w fun e w' => e = .returned (.bool (decide (x.id = a.id))) ∧ Below w.heap.size w w' := by
  have HT := hidden (fun W => told_any x ta tn tc W)
  have HB := hidden hB
  clear hB
  unfold aI aU at *
  dsimp only
  go_enter Try.func100, Try.ntmps100
  go_upto_region 1 with fail
  refine regDc1 (x := x) (a9 := a) rfl rfl rfl HB.out (fun W hW => HT.out W) ?_
  intro b' w3 hf hb3 hv
  rw [layDc1 hf, hv]
  clear hv hf
  generalize Rg.out (Rg.opsOf Try.f100 1) b' 0 = y0
  generalize Rg.out (Rg.opsOf Try.f100 1) b' 1 = y1
  generalize Rg.out (Rg.opsOf Try.f100 1) b' 2 = y2
  generalize Rg.out (Rg.opsOf Try.f100 1) b' 3 = y3
  generalize Rg.out (Rg.opsOf Try.f100 1) b' 4 = y4
  generalize Rg.out (Rg.opsOf Try.f100 1) b' 5 = y5
  go_frame
  go_wp2_with fail
  go_ret
  exact ⟨rfl, hb3⟩
set_option maxRecDepth 20000 in
set_option maxHeartbeats 4000000 in
theorem iplace_any (a : Da) (B : Nat) (L : List (Ut × Value)) (ab : Option Addr) (cb b : Nat) (w : World) (ho : w.ownsRow b 78 1 (.slice ab L.length cb) L.length (L.map aI)) (hA : Antis w b L) (hL : L.length ≤ 1048576) (hB : PB w B #[.int .i64 a.k, .int .i64 a.id, .int .i64 a.t] 35) :
    Calls Try.prog 99 #[.slice ab L.length cb, .func (.func 100) #[] #[.pointer (some ⟨B, 0, none⟩)]] w fun e w' => e = .returned (.int .i64 (plI (placeOf (L.map Prod.fst) a.id))) ∧ Below w.heap.size w w' := by
  have HO := hidden ho
  have HA := hidden hA
  have HB := hidden hB
  clear ho hA hB
  go_enter Try.func99, Try.ntmps99
  go_wp2_with fail
  go_loopw [5, 8] (fun _ iv wr => ∃ i : Nat, i ≤ L.length ∧ iv = .int .i64 i ∧ Below w.heap.size w wr ∧ Hid (∀ j y, j < i → (L.map Prod.fst)[j]? = some y → ¬ y.id = a.id)) (fun _ iv _ => L.length - (intOf iv).toNat)
  case atStart => exact ⟨0, Nat.zero_le _, rfl, Below.refl _ _, fun j y hj => absurd hj (by omega)⟩
  case round =>
    obtain ⟨i, hi, rfl, hb, hok⟩ := hrel
    by_cases hlt : i < L.length
    · have hlti : (i : Int) < (L.length : Int) := by omega
      obtain ⟨⟨x, tv⟩, hx⟩ := some_of L i hlt
      obtain ⟨ta, tc, htv⟩ := ownW_slice (HA.out.1 _ (List.mem_of_getElem? hx))
      dsimp only at htv
      subst htv
      obtain ⟨g, c9, he, -, hg, -, u0⟩ := own_at (ownW_below HO.out hb) hx
      simp only [Value.slice.injEq, true_and] at he
      obtain ⟨rfl, rfl⟩ := he
      have hK := iclo_any x ta x.ant.length tc a B wr (HB.out.below hb)
      have HX : Hid ((L.map Prod.fst)[i]? = some x) := by rw [Hid, List.getElem?_map, hx]; rfl
      unfold aI aU at u0 hK
      dsimp only at u0 hK
      clear hx
      by_cases hq : x.id = a.id
      · have HE : Hid (plI (placeOf (L.map Prod.fst) a.id) = i) := by rw [Hid, place_hit HX.out hq hok.out]; rfl
        rw [decide_eq_true hq] at hK
        clear hq HX hok
        go_wp2_with (go_at_call 100; refine hK.mono ?_; rintro e w1 ⟨rfl, hb1⟩; have bA := onto hb hb1; clear hb1)
        go_ret
        exact ⟨ret_int HE.out.symm, bA⟩
      · have HZ : Hid (∀ j y, j < i + 1 → (L.map Prod.fst)[j]? = some y → ¬ y.id = a.id) := fun j y hj hy => by
          rcases Nat.lt_succ_iff_lt_or_eq.1 hj with q | rfl
          · exact hok.out j y q hy
          · have := HX.out.symm.trans hy
            obtain rfl := Option.some.inj this
            exact hq
        rw [decide_eq_false hq] at hK
        clear hq HX hok
        go_wp2_with (go_at_call 100; refine hK.mono ?_; rintro e w1 ⟨rfl, hb1⟩; have bA := onto hb hb1; clear hb1)
        go_roundw
        case rel => exact ⟨i + 1, by omega, rfl, bA, HZ⟩
        case measure => simp [intOf]; omega
    · have hlti : ¬ (i : Int) < (L.length : Int) := by omega
      have hil : i = L.length := by omega
      subst hil
      have HE : Hid (plI (placeOf (L.map Prod.fst) a.id) = -1) := by rw [Hid, place_none (fun j y hj hy => hok.out j y (by simpa using hj) hy)]; rfl
      go_wp2_with fail
      go_ret
      exact ⟨ret_int HE.out.symm, hb⟩
def FDo6 (B C g m c kp : Nat) (a9 : Da) (n : Nd) (tn u9 z9 : Value) (r9 : Int) (i9 : Nat) (v : Value) (w : World) : Prop :=
  match i9 with
  | 0 => v = .agg #[.int .i64 a9.k, .int .i64 a9.id, .int .i64 a9.t]
  | 1 => v = .slice (some ⟨g, 0, none⟩) m c
  | 2 => v = .int .i64 (kp : Nat)
  | 3 => v = .pointer (some ⟨g, kp, none⟩)
  | 4 => v = u9
  | 5 => v = .agg #[.int .i64 n.p, .int .i64 n.g, tn]
  | 6 => v = .tuple #[z9, .int .i64 r9]
  | 7 => v = .tuple #[z9, .int .i64 r9]
  | 8 => v = z9
  | 9 => v = .int .i64 r9
  | 10 => v = z9
  | 11 => v = .int .i64 r9
  | _ => True
theorem sizeDo6 : (Rg.opsOf Try.f55 6).size = 12 := by kernel_rfl
set_option maxRecDepth 20000 in
set_option maxHeartbeats 8000000 in
theorem regDo6 {Q : Exit → Act → World → Prop} {a : Act} {w9 : World} {B C g m c kp : Nat} {a9 : Da} {n : Nd} {tn u9 z9 : Value} {r9 : Int} (ha : a.tmps.size = 40)
    (k1 : a.tmps[1]? = some (.slice (some ⟨g, 0, none⟩) m c)) (k3 : a.tmps[3]? = some (.pointer (some ⟨B, 0, none⟩))) (k5 : a.tmps[5]? = some (.pointer (some ⟨C, 0, none⟩))) (k7 : a.tmps[7]? = some (.int .i64 (kp : Nat))) (hD : PB w9 B #[.int .i64 a9.k, .int .i64 a9.id, .int .i64 a9.t] 35)(hE : PB w9 C #[.int .i64 n.p, .int .i64 n.g, tn] 27)(hin : kp < m) (hgl : g < w9.heap.size) (y0 : w9.cell? ⟨g, kp, none⟩ = some u9) (hK : ∀ W, Below w9.heap.size w9 W → Calls Try.prog 101 #[.agg #[.int .i64 a9.k, .int .i64 a9.id, .int .i64 a9.t], u9, .agg #[.int .i64 n.p, .int .i64 n.g, tn]] W fun e W' => e = .returned (.tuple #[z9, .int .i64 r9]) ∧ Below W.heap.size W W')
    (hend : ∀ b' w', Rg.Fr (Rg.opsOf Try.f55 6) a b' → Below w9.heap.size w9 w' → Rg.out (Rg.opsOf Try.f55 6) b' 10 = z9 → Rg.out (Rg.opsOf Try.f55 6) b' 11 = .int .i64 r9 → Q .normal b' w') :
    (Code.region 6 (Rg.opsOf Try.f55 6) true).wp Try.prog Q a w9 := by
  refine Rg.region_set3 (by kernel_rfl) (fun _ w' => Below w9.heap.size w9 w') (FDo6 B C g m c kp a9 n tn u9 z9 r9) (by rw [ha, sizeDo6]; kernel_rfl) (st_drew (Below.refl _ _)) ?_ ?_
  case refine_2 =>
    intro l b' w' hf hall hI hA
    rw [sizeDo6] at hA
    exact hend b' w' hf hI (hA 10 (by decide)) (hA 11 (by decide))
  case refine_1 =>
    clear hend
    have HS : ∀ {w w' : World}, Below w.heap.size w w' → ∀ k9 y9, FDo6 B C g m c kp a9 n tn u9 z9 r9 k9 y9 w → FDo6 B C g m c kp a9 n tn u9 z9 r9 k9 y9 w' := fun hb k9 y9 h => by
      unfold FDo6 at *
      split at h <;> exact h
    intro i' hi'
    rw [sizeDo6] at hi'
    rcases (show i' = 0 ∨ i' = 1 ∨ i' = 2 ∨ i' = 3 ∨ i' = 4 ∨ i' = 5 ∨ i' = 6 ∨ i' = 7 ∨ i' = 8 ∨ i' = 9 ∨ i' = 10 ∨ i' = 11 by omega) with rfl | rfl | rfl | rfl | rfl | rfl | rfl | rfl | rfl | rfl | rfl | rfl
    · intro ll bb w' hs hlf hN hO hf hI hA
      clear hi'
      have q3 := hf.kept (s := 3) (by rw [sizeDo6]; kernel_rfl) k3
      obtain ⟨b0, b1, b2⟩ := (hD.below hI).three
      exact Rg.op_value (o := ⟨some 24, Op.load 35 (Operand.tmp 3), _, _, _, _⟩) (x := .agg #[.int .i64 a9.k, .int .i64 a9.id, .int .i64 a9.t]) rfl rfl (by clear hA HS hN hO hD hE hK; simp only [execOp]; go_simp) ⟨_, rfl, (fun h => by cases h), rfl, hI, fun _ _ _ _ h => h⟩
    · intro ll bb w' hs hlf hN hO hf hI hA
      clear hi'
      have q0 := hf.kept (s := 1) (by rw [sizeDo6]; kernel_rfl) k1
      exact Rg.op_value (o := ⟨some 25, Op.move (Operand.tmp 1), _, _, _, _⟩) (x := .slice (some ⟨g, 0, none⟩) m c) rfl rfl (by clear hA HS hN hO hD hE hK; simp only [execOp]; go_simp) ⟨_, rfl, (fun h => by cases h), rfl, hI, fun _ _ _ _ h => h⟩
    · intro ll bb w' hs hlf hN hO hf hI hA
      clear hi'
      have q0 := hf.kept (s := 7) (by rw [sizeDo6]; kernel_rfl) k7
      exact Rg.op_value (o := ⟨some 26, Op.move (Operand.tmp 7), _, _, _, _⟩) (x := .int .i64 (kp : Nat)) rfl rfl (by clear hA HS hN hO hD hE hK; simp only [execOp]; go_simp) ⟨_, rfl, (fun h => by cases h), rfl, hI, fun _ _ _ _ h => h⟩
    · intro ll bb w' hs hlf hN hO hf hI hA
      clear hi'
      have q25 : bb.tmps[25]? = some _ := hf.tmp (k := 1) rfl (by rw [ha]; decide) (hA 1 (by kernel_rfl))
      have q26 : bb.tmps[26]? = some _ := hf.tmp (k := 2) rfl (by rw [ha]; decide) (hA 2 (by kernel_rfl))
      have hi5 : ((kp : Nat) : Int) < (m : Int) := by omega
      exact Rg.op_value (o := ⟨some 27, Op.indexAddr 75 (Operand.tmp 25) (Operand.tmp 26), _, _, _, _⟩) (x := .pointer (some ⟨g, kp, none⟩)) rfl rfl (by clear hA HS hN hO hD hE hK; simp only [execOp]; go_simp) ⟨_, rfl, (fun h => by cases h), rfl, hI, fun _ _ _ _ h => h⟩
    · intro ll bb w' hs hlf hN hO hf hI hA
      clear hi'
      have q27 : bb.tmps[27]? = some _ := hf.tmp (k := 3) rfl (by rw [ha]; decide) (hA 3 (by kernel_rfl))
      have e8 := (hI.cell (p := ⟨g, kp, none⟩) hgl).trans y0
      exact Rg.op_value (o := ⟨some 28, Op.load 78 (Operand.tmp 27), _, _, _, _⟩) (x := u9) rfl rfl (by clear hA HS hN hO hD hE hK; simp only [execOp]; go_simp) ⟨_, rfl, (fun h => by cases h), rfl, hI, fun _ _ _ _ h => h⟩
    · intro ll bb w' hs hlf hN hO hf hI hA
      clear hi'
      have q5 := hf.kept (s := 5) (by rw [sizeDo6]; kernel_rfl) k5
      obtain ⟨d0, d1, d2⟩ := (hE.below hI).three
      exact Rg.op_value (o := ⟨some 29, Op.load 27 (Operand.tmp 5), _, _, _, _⟩) (x := .agg #[.int .i64 n.p, .int .i64 n.g, tn]) rfl rfl (by clear hA HS hN hO hD hE hK; simp only [execOp]; go_simp) ⟨_, rfl, (fun h => by cases h), rfl, hI, fun _ _ _ _ h => h⟩
    · intro ll bb w' hs hlf hN hO hf hI hA
      clear hi'
      have q24 : bb.tmps[24]? = some _ := hf.tmp (k := 0) rfl (by rw [ha]; decide) (hA 0 (by kernel_rfl))
      have q28 : bb.tmps[28]? = some _ := hf.tmp (k := 4) rfl (by rw [ha]; decide) (hA 4 (by kernel_rfl))
      have q29 : bb.tmps[29]? = some _ := hf.tmp (k := 5) rfl (by rw [ha]; decide) (hA 5 (by kernel_rfl))
      refine Rg.op_call (o := ⟨some 30, Op.call { callee := Callee.value (Operand.func 101), args := #[(Operand.tmp 24), (Operand.tmp 28), (Operand.tmp 29)], argTypes := _ }, _, _, _, _⟩) rfl rfl (by clear hA HS hN hO hD hE hK; simp only [execOp, resolve]; go_simp) (hK w' hI) ?_
      rintro e w2 ⟨rfl, hb2⟩
      exact ⟨_, rfl, _, rfl, (fun h => by cases h), rfl, onto hI hb2, fun k9 y9 _ _ h => HS hb2 k9 y9 h⟩
    · intro ll bb w' hs hlf hN hO hf hI hA
      clear hi'
      have q30 : bb.tmps[30]? = some _ := hf.tmp (k := 6) rfl (by rw [ha]; decide) (hA 6 (by kernel_rfl))
      exact Rg.op_value (o := ⟨some 23, Op.move (Operand.tmp 30), _, _, _, _⟩) (x := .tuple #[z9, .int .i64 r9]) rfl rfl (by clear hA HS hN hO hD hE hK; simp only [execOp]; go_simp) ⟨_, rfl, (fun h => by cases h), rfl, hI, fun _ _ _ _ h => h⟩
    · intro ll bb w' hs hlf hN hO hf hI hA
      clear hi'
      have q23 : bb.tmps[23]? = some _ := hf.tmp (k := 7) rfl (by rw [ha]; decide) (hA 7 (by kernel_rfl))
      exact Rg.op_value (o := ⟨some 31, Op.extract (Operand.tmp 23) 0, _, _, _, _⟩) (x := z9) rfl rfl (by clear hA HS hN hO hD hE hK; simp only [execOp]; go_simp) ⟨_, rfl, (fun h => by cases h), rfl, hI, fun _ _ _ _ h => h⟩
    · intro ll bb w' hs hlf hN hO hf hI hA
      clear hi'
      have q23 : bb.tmps[23]? = some _ := hf.tmp (k := 7) rfl (by rw [ha]; decide) (hA 7 (by kernel_rfl))
      exact Rg.op_value (o := ⟨some 32, Op.extract (Operand.tmp 23) 1, _, _, _, _⟩) (x := .int .i64 r9) rfl rfl (by clear hA HS hN hO hD hE hK; simp only [execOp]; go_simp) ⟨_, rfl, (fun h => by cases h), rfl, hI, fun _ _ _ _ h => h⟩
    · intro ll bb w' hs hlf hN hO hf hI hA
      clear hi'
      have q31 : bb.tmps[31]? = some _ := hf.tmp (k := 8) rfl (by rw [ha]; decide) (hA 8 (by kernel_rfl))
      exact Rg.op_value (o := ⟨some 8, Op.assign (Operand.tmp 31), _, _, _, _⟩) (x := z9) rfl rfl (by clear hA HS hN hO hD hE hK; simp only [execOp]; go_simp) ⟨_, rfl, (fun h => by cases h), rfl, hI, fun _ _ _ _ h => h⟩
    · intro ll bb w' hs hlf hN hO hf hI hA
      clear hi'
      have q32 : bb.tmps[32]? = some _ := hf.tmp (k := 9) rfl (by rw [ha]; decide) (hA 9 (by kernel_rfl))
      exact Rg.op_value (o := ⟨some 9, Op.assign (Operand.tmp 32), _, _, _, _⟩) (x := .int .i64 r9) rfl rfl (by clear hA HS hN hO hD hE hK; simp only [execOp]; go_simp) ⟨_, rfl, (fun h => by cases h), rfl, hI, fun _ _ _ _ h => h⟩
theorem dDo6_0 : Rg.dstAt (Rg.opsOf Try.f55 6) 0 = some 24 := by kernel_rfl
theorem dDo6_1 : Rg.dstAt (Rg.opsOf Try.f55 6) 1 = some 25 := by kernel_rfl
theorem dDo6_2 : Rg.dstAt (Rg.opsOf Try.f55 6) 2 = some 26 := by kernel_rfl
theorem dDo6_3 : Rg.dstAt (Rg.opsOf Try.f55 6) 3 = some 27 := by kernel_rfl
theorem dDo6_4 : Rg.dstAt (Rg.opsOf Try.f55 6) 4 = some 28 := by kernel_rfl
theorem dDo6_5 : Rg.dstAt (Rg.opsOf Try.f55 6) 5 = some 29 := by kernel_rfl
theorem dDo6_6 : Rg.dstAt (Rg.opsOf Try.f55 6) 6 = some 30 := by kernel_rfl
theorem dDo6_7 : Rg.dstAt (Rg.opsOf Try.f55 6) 7 = some 23 := by kernel_rfl
theorem dDo6_8 : Rg.dstAt (Rg.opsOf Try.f55 6) 8 = some 31 := by kernel_rfl
theorem dDo6_9 : Rg.dstAt (Rg.opsOf Try.f55 6) 9 = some 32 := by kernel_rfl
theorem dDo6_10 : Rg.dstAt (Rg.opsOf Try.f55 6) 10 = some 8 := by kernel_rfl
theorem dDo6_11 : Rg.dstAt (Rg.opsOf Try.f55 6) 11 = some 9 := by kernel_rfl
theorem layDo6 {a b : Act} (hf : Rg.Fr (Rg.opsOf Try.f55 6) a b) : b = ((((((((((((a.put (some 24) (Rg.out (Rg.opsOf Try.f55 6) b 0)).put (some 25) (Rg.out (Rg.opsOf Try.f55 6) b 1)).put (some 26) (Rg.out (Rg.opsOf Try.f55 6) b 2)).put (some 27) (Rg.out (Rg.opsOf Try.f55 6) b 3)).put (some 28) (Rg.out (Rg.opsOf Try.f55 6) b 4)).put (some 29) (Rg.out (Rg.opsOf Try.f55 6) b 5)).put (some 30) (Rg.out (Rg.opsOf Try.f55 6) b 6)).put (some 23) (Rg.out (Rg.opsOf Try.f55 6) b 7)).put (some 31) (Rg.out (Rg.opsOf Try.f55 6) b 8)).put (some 32) (Rg.out (Rg.opsOf Try.f55 6) b 9)).put (some 8) (Rg.out (Rg.opsOf Try.f55 6) b 10)).put (some 9) (Rg.out (Rg.opsOf Try.f55 6) b 11)) := by
  have h := hf.chain
  rw [sizeDo6, show List.range 12 = [0, 1, 2, 3, 4, 5, 6, 7, 8, 9, 10, 11] from by decide] at h
  simp only [List.foldl_cons, List.foldl_nil, dDo6_0, dDo6_1, dDo6_2, dDo6_3, dDo6_4, dDo6_5, dDo6_6, dDo6_7, dDo6_8, dDo6_9, dDo6_10, dDo6_11] at h
  exact h
set_option maxRecDepth 20000 in
set_option maxHeartbeats 8000000 in
theorem idoon_any (a : Da) (L : List (Ut × Value)) (ab : Option Addr) (cb : Nat) (n : Nd) (na : Option Addr) (nn nc : Nat) (w0 w : World) (ho : w.ownsRow w0.heap.size 78 1 (.slice ab L.length cb) L.length (L.map aI)) (hA : Antis w w0.heap.size L) (hl : ∀ p ∈ L, p.1.ant.length ≤ 1048576) (hL : L.length ≤ 300) (hN : IRw w (.slice na nn nc) n.ag) (hn : n.ag.length ≤ 1048576) (hb : Below w0.heap.size w0 w) :
    Calls Try.prog 55 #[aDo a, .slice ab L.length cb, aN n (.slice na nn nc)] w fun e w' => e = .returned (.int .i64 (codeOn (L.map Prod.fst) n a)) ∧ ∃ L' : List (Ut × Value), L'.map Prod.fst = doneL (L.map Prod.fst) n a ∧ L'.length = L.length ∧ w'.ownsRow w0.heap.size 78 1 (.slice ab L.length cb) L.length (L'.map aI) ∧ Antis w' w0.heap.size L' ∧ Below w0.heap.size w0 w' := by
  have hbw := hb.size
  have b0 : Below w.heap.size w ((w.alloc (.cells #[.int .i64 a.k, .int .i64 a.id, .int .i64 a.t] 35)).alloc (.cells #[.int .i64 n.p, .int .i64 n.g, .slice na nn nc] 27)) := by repeat (first | exact Below.refl _ _ | assumption | refine st_drew ?_ | refine st_drewN ?_ _ | refine Below.setCell ?_ (by first | omega | (simp; done) | (simp; omega)) _ | refine Below.alloc ?_ (by first | omega | (simp; done) | (simp; omega)) _)
  have PD := hidden ((PB.new w #[.int .i64 a.k, .int .i64 a.id, .int .i64 a.t] 35).alloc (.cells #[.int .i64 n.p, .int .i64 n.g, .slice na nn nc] 27))
  have PN := hidden (PB.new (w.alloc (.cells #[.int .i64 a.k, .int .i64 a.id, .int .i64 a.t] 35)) #[.int .i64 n.p, .int .i64 n.g, .slice na nn nc] 27)
  simp only [World.size_alloc] at PD PN
  have k1 := idoing_any a
  have k2 := fun W hW => ineed_any n na nn nc W hW hn
  have HN := hidden (fun W (hW : Below w.heap.size w W) => hN.below hW)
  have HO := hidden (fun W (hW : Below w.heap.size w W) => ownW_below ho hW)
  have HA := hidden (fun W (hW : Below w.heap.size w W) => hA.below hW)
  have HB := hidden (fun W (hW : Below w.heap.size w W) => hb.trans (hW.mono hbw))
  have HL := hidden hl
  clear ho hA hN hl hb
  unfold aDo aN at *
  cases hd : doingB a with
  | false =>
    rw [hd] at k1
    have HC : Hid (codeOn (L.map Prod.fst) n a = 2) := by rw [Hid, codeOn, if_neg (by rw [hd]; simp)]
    have HD : Hid (doneL (L.map Prod.fst) n a = L.map Prod.fst) := by rw [Hid, doneL, HC.out]; rfl
    rw [HC.out]
    clear hd
    go_enter Try.func55, Try.ntmps55
    go_wp2_with (go_at_call 98; refine (k1 _).mono ?_; rintro e w1 ⟨rfl, hb1⟩; have bA := onto b0 hb1; clear hb1)
    go_ret
    exact ⟨rfl, L, HD.out.symm, rfl, HO.out _ bA, HA.out _ bA, HB.out _ bA⟩
  | true =>
    rw [hd] at k1
    cases hne : needB n with
    | false =>
      rw [hne] at k2
      have HC : Hid (codeOn (L.map Prod.fst) n a = 2) := by rw [Hid, codeOn, if_neg (by rw [hne]; simp)]
      have HD : Hid (doneL (L.map Prod.fst) n a = L.map Prod.fst) := by rw [Hid, doneL, HC.out]; rfl
      rw [HC.out]
      clear hd hne
      go_enter Try.func55, Try.ntmps55
      go_wp2_with (first | (go_at_call 98; refine (k1 _).mono ?_; rintro e w1 ⟨rfl, hb1⟩; obtain ⟨q0, q1, q2⟩ := (PN.out.below hb1).three; have bA := onto b0 hb1; clear hb1) | (go_at_call 42; refine (k2 _ (HN.out _ bA)).mono ?_; rintro e w2 ⟨rfl, hb2⟩; have bB := onto bA hb2; clear hb2))
      go_ret
      exact ⟨rfl, L, HD.out.symm, rfl, HO.out _ bB, HA.out _ bB, HB.out _ bB⟩
    | true =>
      rw [hne] at k2
      have hk := doing_k hd
      have k3 := fun W (hW : Below w.heap.size w W) hB => iplace_any a w.heap.size L ab cb w0.heap.size W (HO.out W hW) (HA.out W hW) (by omega) hB
      have HC0 : Hid (codeOn (L.map Prod.fst) n a = match placeOf (L.map Prod.fst) a.id with | none => 3 | some k => codeU ((L.map Prod.fst).getD k default) n a) := by rw [Hid, codeOn, if_pos ⟨hd, hne⟩]; rfl
      clear hd hne
      cases hp : placeOf (L.map Prod.fst) a.id with
      | none =>
        rw [hp] at k3
        have HC : Hid (codeOn (L.map Prod.fst) n a = 3) := by rw [Hid, HC0.out, hp]
        have HD : Hid (doneL (L.map Prod.fst) n a = L.map Prod.fst) := by rw [Hid, doneL, HC.out]; rfl
        rw [HC.out]
        rw [show plI none = -1 from rfl] at k3
        clear hp HC0
        go_enter Try.func55, Try.ntmps55
        go_wp2_with (first | (go_at_call 98; refine (k1 _).mono ?_; rintro e w1 ⟨rfl, hb1⟩; have pD := hidden (PD.out.below hb1); obtain ⟨q0, q1, q2⟩ := (PN.out.below hb1).three; have bA := onto b0 hb1; clear hb1) | (go_at_call 42; refine (k2 _ (HN.out _ bA)).mono ?_; rintro e w2 ⟨rfl, hb2⟩; have pD2 := hidden (pD.out.below hb2); have bB := onto bA hb2; clear hb2) | (go_at_call 99; refine (k3 _ bB pD2.out).mono ?_; rintro e w3 ⟨rfl, hb3⟩; have bC := onto bB hb3; clear hb3))
        go_ret
        exact ⟨rfl, L, HD.out.symm, rfl, HO.out _ bC, HA.out _ bC, HB.out _ bC⟩
      | some k =>
        rw [hp] at k3
        rw [show plI (some k) = (k : Int) from rfl] at k3
        obtain ⟨x, hx, hxi⟩ := place_get hp
        obtain ⟨q, hq, hqx⟩ := map_take rfl hx
        obtain ⟨x', tv⟩ := q
        obtain ⟨ta, tc, htv⟩ := ownW_slice ((HA.out w (Below.refl _ _)).1 _ (List.mem_of_getElem? hq))
        dsimp only at hqx htv
        subst hqx
        subst htv
        have hkl := get_lt' hq
        have HC : Hid (codeOn (L.map Prod.fst) n a = codeU x' n a) := by rw [Hid, HC0.out, hp]; simp only; rw [getD_at hx]
        have HD : Hid (codeU x' n a = 0 → doneL (L.map Prod.fst) n a = (L.set k (onU x' n a.k, .slice ta x'.ant.length tc)).map Prod.fst) := fun h0 => by rw [doneL, HC.out, if_pos h0, hp]; simp only; rw [getD_at hx, codeU_fine h0, List.map_set]
        have HD2 : Hid (¬ codeU x' n a = 0 → doneL (L.map Prod.fst) n a = L.map Prod.fst) := fun h0 => by rw [doneL, HC.out, if_neg h0]
        obtain ⟨gb, cc, he, hgb, hgl, hgc, -⟩ := own_at (HO.out w (Below.refl _ _)) hq
        simp only [Value.slice.injEq, true_and] at he
        obtain ⟨rfl, rfl⟩ := he
        have KO := hidden (fun W (hW : Below w.heap.size w W) => ion_any x' ta x'.ant.length tc n na nn nc a W (by have := (HA.out W hW).irw _ (List.mem_of_getElem? hq); exact this) (HL.out _ (List.mem_of_getElem? hq)) (HN.out W hW) hn hk)
        have HQ := hidden hq
        rw [HC.out]
        have HCl := hidden (fun W (hW : Below w.heap.size w W) => own_at (HO.out W hW) hq)
        clear hp HC0 hx hq hxi HC
        unfold aDo aN at KO
        go_enter Try.func55, Try.ntmps55
        go_upto_region 6 with (first | (go_at_call 98; refine (k1 _).mono ?_; rintro e w1 ⟨rfl, hb1⟩; have pD := hidden (PD.out.below hb1); have pN := hidden (PN.out.below hb1); obtain ⟨q0, q1, q2⟩ := pN.out.three; have bA := onto b0 hb1; clear hb1) | (go_at_call 42; refine (k2 _ (HN.out _ bA)).mono ?_; rintro e w2 ⟨rfl, hb2⟩; have pD2 := hidden (pD.out.below hb2); have pN2 := hidden (pN.out.below hb2); have bB := onto bA hb2; clear hb2) | (go_at_call 99; refine (k3 _ bB pD2.out).mono ?_; rintro e w3 ⟨rfl, hb3⟩; have pD3 := hidden (pD2.out.below hb3); have pN3 := hidden (pN2.out.below hb3); have bC := onto bB hb3; clear hb3))
        have y0 : w3.cell? ⟨gb, k, none⟩ = some (aI (x', .slice ta x'.ant.length tc)) := by
          obtain ⟨g', c', he, -, -, -, hc⟩ := HCl.out w3 bC
          simp only [Value.slice.injEq, Option.some.injEq, Addr.mk.injEq, and_true, true_and] at he
          rw [← he.1] at hc
          exact hc
        have hgl3 : gb < w3.heap.size := Nat.lt_of_lt_of_le hgl bC.size
        have HY0 := hidden y0
        clear y0
        refine regDo6 (a9 := a) (n := n) (u9 := aI (x', .slice ta x'.ant.length tc)) (z9 := aI (onU x' n a.k, .slice ta x'.ant.length tc)) (r9 := codeU x' n a) rfl rfl rfl rfl rfl pD3.out pN3.out hkl hgl3 HY0.out (fun W hW => KO.out W (onto bC hW)) ?_
        intro b' w4 hf hb4 hv1 hv2
        rw [layDo6 hf, hv1, hv2]
        clear hv1 hv2 hf
        generalize Rg.out (Rg.opsOf Try.f55 6) b' 0 = y0
        generalize Rg.out (Rg.opsOf Try.f55 6) b' 1 = y1
        generalize Rg.out (Rg.opsOf Try.f55 6) b' 2 = y2
        generalize Rg.out (Rg.opsOf Try.f55 6) b' 3 = y3
        generalize Rg.out (Rg.opsOf Try.f55 6) b' 4 = y4
        generalize Rg.out (Rg.opsOf Try.f55 6) b' 5 = y5
        generalize Rg.out (Rg.opsOf Try.f55 6) b' 6 = y6
        generalize Rg.out (Rg.opsOf Try.f55 6) b' 7 = y7
        generalize Rg.out (Rg.opsOf Try.f55 6) b' 8 = y8
        generalize Rg.out (Rg.opsOf Try.f55 6) b' 9 = y9
        have bD := onto bC hb4
        have y4 : w4.cell? ⟨gb, k, none⟩ = some (aI (x', .slice ta x'.ant.length tc)) := (hb4.cell (p := ⟨gb, k, none⟩) hgl3).trans HY0.out
        have f4 : w4.frozen? ⟨gb, k, none⟩ = false := ownQ_fro (HO.out w4 bD) k
        have hki : (k : Int) < (L.length : Int) := by omega
        have OW := hidden (ownQ_put (HO.out w4 bD) k (by omega) (aI (onU x' n a.k, .slice ta x'.ant.length tc)))
        have AW := hidden ((HA.out w4 bD).set (b := gb) (o := k) (fun p hp kk hkk => by
          intro e
          exact ownQ_apart ((HA.out w4 bD).1 p hp) (HO.out w4 bD) (by decide) kk hkk (by rw [e]; rfl)) (aI (onU x' n a.k, .slice ta x'.ant.length tc)))
        have BW := hidden ((HB.out w4 bD).setCell (p := ⟨gb, k, none⟩) hgb (aI (onU x' n a.k, .slice ta x'.ant.length tc)))
        have BD := hidden bD
        clear hb4 bD HY0 hgl3 k1 k2 k3
        unfold aI aU at y4
        dsimp only at y4
        have HAU : aI (onU x' n a.k, .slice ta x'.ant.length tc) = .iface (ifT (onU x' n a.k).st) (.agg #[.int .i64 (onU x' n a.k).id, .int .i64 (onU x' n a.k).grp, .slice ta x'.ant.length tc, .int .i64 (onU x' n a.k).til, .int .i64 (onU x' n a.k).st, .int .i64 (onU x' n a.k).fr]) := rfl
        rw [HAU] at OW AW BW ⊢
        go_frame
        by_cases hc0 : codeU x' n a = 0
        · have HE0 := hidden (HD.out hc0)
          rw [hc0]
          go_wp2_with fail
          go_ret
          refine ⟨ret_int hc0.symm, L.set k (onU x' n a.k, .slice ta x'.ant.length tc), HE0.out.symm, by rw [List.length_set], ?_, ?_, BW.out⟩
          · rw [List.map_set]; exact OW.out
          · exact AW.out.turn HQ.out (on_ant x' n a.k)
        · have HE0 := hidden (HD2.out hc0)
          have hc1 : (codeU x' n a == 0) = false := by simpa using hc0
          generalize hcd : codeU x' n a = cd at *
          have HCD := hidden hcd
          clear hcd
          go_wp2_with fail
          go_ret
          exact ⟨ret_int HCD.out.symm, L, HE0.out.symm, rfl, HO.out _ BD.out, HA.out _ BD.out, HB.out _ BD.out⟩
end Go.Proofs.Ytgcpiinmcbdkmaa
