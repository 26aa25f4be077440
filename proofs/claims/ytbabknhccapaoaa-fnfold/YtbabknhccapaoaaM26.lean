/-
  How often each number is corrected: the region that counts.
-/
import Derived.Test.YtbabknhccapaoaaM25
import Derived.Maps.AppendAt
namespace Go.Proofs.Ytbabknhccapaoaa
open Go.RowKit Va Mg Go.Maps
set_option linter.all false

theorem icorr_cells (x : Lt) (w : World) : Calls Try.prog 54 #[.agg #[.int .i64 x.f, .int .i64 x.s, .int .i64 x.c, .int .i64 x.k, .int .i64 x.v]] w fun e w' => e = .returned (.agg #[.int .i64 x.f, .int .i64 x.c]) ∧ Below w.heap.size w w' := icorr_any x w
theorem below_grownM {w w' : World} (hb : Below w.heap.size w w') (row : Option Nat) : w.grownBy w' row := ⟨hb.os, hb.tape, hb.output, hb.size, fun k hk _ => hb.block k hk⟩
theorem pbG {w w' : World} {b V : Nat} {vs : Array Value} {t : TypeId} (h : PB w V vs t) (hg : w.grownBy w' (some b)) (hV : V ≠ b) : PB w' V vs t := (hg.block V h.lt (fun e => hV (Option.some.inj e))).trans h
theorem grown_setR {w : World} {b : Nat} {es : Array MapEntry} {ck : Nat} (hb : w.heap[b]? = some (.map es ck)) (o : Obj) : w.grownBy (ChangeMaps.setBlock w b o) (some b) :=
  ⟨rfl, rfl, rfl, by simp [ChangeMaps.setBlock], fun i _ hi => ChangeMaps.heap_setBlock_other hb _ (fun e => hi (by rw [e]))⟩
def FR5 (b : Nat) (x : Lt) (c : Int) (st : Nat) (k : Nat) (v : Value) (w : World) : Prop :=
  match k with
  | 0 => v = .map (some b)
  | 1 => v = .agg #[.int .i64 x.f, .int .i64 x.s, .int .i64 x.c, .int .i64 x.k, .int .i64 x.v]
  | 2 => v = .agg #[.int .i64 x.f, .int .i64 x.c]
  | 3 => v = .int .i64 c
  | 4 => v = .int .i64 (c + 1)
  | 5 => v = .tuple #[.int .i64 c, goInt st]
  | 6 => v = goInt st
  | _ => True
def IR5 (w9 : World) (b : Nat) (x : Lt) (n : Nat) (D : DataW Unit) (c : Int) (o1 : Obj) (l : Array Bool) (w : World) : Prop :=
  w9.grownBy w (some b) ∧ (l.getD 7 false = true → w.ownsMap Try.prog 80 (plainElem Try.prog 3) b (n + 1) (D.put (kN x.f x.c) (.lit (.int .i64 (c + 1))))) ∧ (l.getD 7 false = false → (l.getD 5 false = true → w.heap[b]? = some o1) ∧ (l.getD 5 false = false → w.heap[b]? = w9.heap[b]?))
theorem sameR5 {w9 : World} {b : Nat} {x : Lt} {n : Nat} {D : DataW Unit} {c : Int} {o1 : Obj} {l : Array Bool} {w : World} {i : Nat} (hi : i ≠ 5) (hi2 : i ≠ 7) (hI : IR5 w9 b x n D c o1 l w) : IR5 w9 b x n D c o1 (l.setIfInBounds i true) w := by
  unfold IR5
  rw [Rg.set_ne hi, Rg.set_ne hi2]
  exact hI
theorem belR5 {w9 : World} {b : Nat} {x : Lt} {n : Nat} {D : DataW Unit} {c : Int} {o1 : Obj} {l : Array Bool} {w w2 : World} (hb9 : b < w9.heap.size) (hb : Below w.heap.size w w2) (hI : IR5 w9 b x n D c o1 l w) : IR5 w9 b x n D c o1 l w2 := by
  have hbl : w2.heap[b]? = w.heap[b]? := hb.block b (Nat.lt_of_lt_of_le hb9 hI.1.size)
  exact ⟨hI.1.trans (below_grownM hb _), fun h => Rt.own_heap (hI.2.1 h) hbl, fun h => ⟨fun h2 => hbl.trans ((hI.2.2 h).1 h2), fun h2 => hbl.trans ((hI.2.2 h).2 h2)⟩⟩
theorem sizeR5 : (Rg.opsOf Try.f38 5).size = 8 := by kernel_rfl
theorem dR5_7 : Rg.dstAt (Rg.opsOf Try.f38 5) 7 = none := by kernel_rfl

set_option maxRecDepth 20000 in
set_option maxHeartbeats 8000000 in
theorem regR5 {Q : Exit → Act → World → Prop} {a : Act} {w9 : World} {V b n : Nat} {x : Lt} {D : DataW Unit} {c : Int} (ha : a.tmps.size = 23)
    (k3 : a.tmps[3]? = some (.map (some b))) (k5 : a.tmps[5]? = some (.pointer (some ⟨V, 0, none⟩))) (hP : PB w9 V #[.int .i64 x.f, .int .i64 x.s, .int .i64 x.c, .int .i64 x.k, .int .i64 x.v] 29) (hVb : V ≠ b) (hown : w9.ownsMap Try.prog 80 (plainElem Try.prog 3) b n D) (hn : n < maxLen) (bo : Wi x.f) (bt : Wi x.c) (hc : D.atKey (kN x.f x.c) (.lit (.int .i64 0)) = .lit (.int .i64 c)) (c0 : 0 ≤ c) (c1 : c ≤ 1000000)
    (hend : ∀ b' w', Rg.Fr (Rg.opsOf Try.f38 5) a b' → w9.grownBy w' (some b) → w'.ownsMap Try.prog 80 (plainElem Try.prog 3) b (n + 1) (D.put (kN x.f x.c) (.lit (.int .i64 (c + 1)))) → Q .normal b' w') :
    (Code.region 5 (Rg.opsOf Try.f38 5) true).wp Try.prog Q a w9 := by
  have hz : ∀ u : World, (zeroValue 3).run Try.prog u = .ok (.int .i64 0) u := fun u => by kernel_rfl
  obtain ⟨st, es1, ck1, hme, hlo, hst⟩ := Rt.entry_own lawN Try.underlying77 Try.underlying3 hz hown hn (key_num bo bt) hc
  have hl0 : ∀ u : World, u.heap[b]? = w9.heap[b]? → (Instr.lookup 77 (.map (some b)) (.agg #[.int .i64 x.f, .int .i64 x.c]) false).run Try.prog u = .ok (.int .i64 c) u := fun u hu => by
    obtain ⟨c', q1, q2, _⟩ := (Rt.own_heap hown hu).lookup_int keyedN Try.underlying77 Try.underlying3 (hz u) (key_num bo bt)
    rw [hc] at q2
    have : c = c' := by simpa using q2
    rw [q1, this]
  have hL5 : ∀ {ll : Array Bool}, (∀ k, Rg.aftOf .any (Rg.opsOf Try.f38 5) 7 k = true → ll.getD k false = true) → ll.getD 5 false = true := fun hL => by
    first | exact hL 5 (by kernel_rfl)
  obtain ⟨es, ck, hes, -⟩ := id hown
  refine Rg.region_set4 (by kernel_rfl) (IR5 w9 b x n D c (.map es1 ck1)) (FR5 b x c st) (by rw [ha, sizeR5]; kernel_rfl) ⟨⟨rfl, rfl, rfl, Nat.le_refl _, fun _ _ _ => rfl⟩, fun h => (by rw [Rg.none_yet] at h; cases h), fun _ => ⟨fun h => (by rw [Rg.none_yet] at h; cases h), fun _ => rfl⟩⟩ ?_ ?_
  case refine_2 =>
    intro l b' w' hf hall hI hA
    rw [sizeR5] at hall
    exact hend b' w' hf hI.1 (hI.2.1 (hall 7 (by omega)))
  case refine_1 =>
    clear hend
    intro i' hi'
    rw [sizeR5] at hi'
    rcases (show i' = 0 ∨ i' = 1 ∨ i' = 2 ∨ i' = 3 ∨ i' = 4 ∨ i' = 5 ∨ i' = 6 ∨ i' = 7 by omega) with rfl | rfl | rfl | rfl | rfl | rfl | rfl | rfl
    · intro ll bb w' hs hlf hN hO hf hIl hL hA
      clear hi'
      have q3 := hf.kept (s := 3) (by rw [sizeR5]; kernel_rfl) k3
      exact Rg.op_value (o := ⟨some 15, Op.move (Operand.tmp 3), _, _, _, _⟩) (x := .map (some b)) rfl rfl (by clear hA hN hO hL; simp only [execOp]; go_simp) ⟨_, rfl, (fun h => by cases h), rfl, sameR5 (by decide) (by decide) hIl, fun _ _ _ _ h => h⟩
    · intro ll bb w' hs hlf hN hO hf hIl hL hA
      clear hi'
      have q5 := hf.kept (s := 5) (by rw [sizeR5]; kernel_rfl) k5
      obtain ⟨e0, e1, e2, e3, e4⟩ := (pbG hP hIl.1 hVb).fiveM
      exact Rg.op_value (o := ⟨some 16, Op.load 29 (Operand.tmp 5), _, _, _, _⟩) (x := .agg #[.int .i64 x.f, .int .i64 x.s, .int .i64 x.c, .int .i64 x.k, .int .i64 x.v]) rfl rfl (by clear hA hN hO hL; simp only [execOp]; go_simp) ⟨_, rfl, (fun h => by cases h), rfl, sameR5 (by decide) (by decide) hIl, fun _ _ _ _ h => h⟩
    · intro ll bb w' hs hlf hN hO hf hIl hL hA
      clear hi'
      have q16 : bb.tmps[16]? = some _ := hf.tmp (k := 1) rfl (by rw [ha]; decide) (hA 1 (by kernel_rfl))
      refine Rg.op_call (o := ⟨some 17, Op.call { callee := Callee.value (Operand.func 54), args := #[Operand.tmp 16], argTypes := _ }, _, _, _, _⟩) rfl rfl (by clear hA hN hO hL; simp only [execOp, resolve]; go_simp) (icorr_cells x w') ?_
      rintro e w2 ⟨rfl, hb2⟩
      exact ⟨_, rfl, _, rfl, (fun h => by cases h), rfl, sameR5 (by decide) (by decide) (belR5 hown.lt hb2 hIl), fun _ _ _ _ h => h⟩
    · intro ll bb w' hs hlf hN hO hf hIl hL hA
      clear hi'
      have q15 : bb.tmps[15]? = some _ := hf.tmp (k := 0) rfl (by rw [ha]; decide) (hA 0 (by kernel_rfl))
      have q17 : bb.tmps[17]? = some _ := hf.tmp (k := 2) rfl (by rw [ha]; decide) (hA 2 (by kernel_rfl))
      have h7 := hN 7 (by kernel_rfl)
      have hl : (Instr.lookup 77 (.map (some b)) (.agg #[.int .i64 x.f, .int .i64 x.c]) false).run Try.prog w' = .ok (.int .i64 c) w' := by
        cases h5 : ll.getD 5 false with
        | true => exact hlo _ (hIl.2.2 h7 |>.1 h5)
        | false => exact hl0 _ (hIl.2.2 h7 |>.2 h5)
      exact Rg.op_value (o := ⟨some 18, Op.lookup 77 (Operand.tmp 15) (Operand.tmp 17) false, _, _, _, _⟩) (x := .int .i64 c) rfl rfl (by clear hA hN hO hL; simp only [execOp]; go_simp) ⟨_, rfl, (fun h => by cases h), rfl, sameR5 (by decide) (by decide) hIl, fun _ _ _ _ h => h⟩
    · intro ll bb w' hs hlf hN hO hf hIl hL hA
      clear hi'
      have q18 : bb.tmps[18]? = some _ := hf.tmp (k := 3) rfl (by rw [ha]; decide) (hA 3 (by kernel_rfl))
      have hw : IntKind.i64.wrap (c + 1) = c + 1 := by rw [IntKind.wrap_i64]; omega
      exact Rg.op_value (o := ⟨some 19, Op.binOp BinOp.add 3 (Operand.tmp 18) (Operand.const (Value.int .i64 1)) 3, _, _, _, _⟩) (x := .int .i64 (c + 1)) rfl rfl (by clear hA hN hO hL; simp only [execOp]; go_simp) ⟨_, rfl, (fun h => by cases h), rfl, sameR5 (by decide) (by decide) hIl, fun _ _ _ _ h => h⟩
    · intro ll bb w' hs hlf hN hO hf hIl hL hA
      clear hi'
      have q15 : bb.tmps[15]? = some _ := hf.tmp (k := 0) rfl (by rw [ha]; decide) (hA 0 (by kernel_rfl))
      have q17 : bb.tmps[17]? = some _ := hf.tmp (k := 2) rfl (by rw [ha]; decide) (hA 2 (by kernel_rfl))
      have h7 := hN 7 (by kernel_rfl)
      have h5 := (hIl.2.2 h7).2 hlf
      have hm := hme w' h5
      have hob : w'.heap[b]? = some (.map es ck) := h5.trans hes
      have hgr : w'.grownBy (ChangeMaps.setBlock w' b (.map es1 ck1)) (some b) := grown_setR hob (.map es1 ck1)
      have hE : IR5 w9 b x n D c (.map es1 ck1) (ll.setIfInBounds 5 true) (ChangeMaps.setBlock w' b (.map es1 ck1)) :=
        ⟨hIl.1.trans hgr, fun h => (by rw [Rg.set_ne (by decide), h7] at h; cases h), fun _ => ⟨fun _ => ChangeMaps.heap_setBlock_same hob _, fun h => (by rw [Rg.set_self hs (by rw [sizeR5]; decide)] at h; cases h)⟩⟩
      clear hA hN hIl hO hL
      exact Rg.op_value (o := ⟨some 20, Op.mapEntry 77 (Operand.tmp 15) (Operand.tmp 17), _, _, _, _⟩) (x := .tuple #[.int .i64 c, goInt st]) (w' := ChangeMaps.setBlock w' b (.map es1 ck1)) rfl rfl (by clear hE hgr hob h5; simp only [execOp]; go_simp) ⟨_, rfl, (fun h => by cases h), rfl, hE, fun _ _ _ _ h => h⟩
    · intro ll bb w' hs hlf hN hO hf hIl hL hA
      clear hi'
      have q20 : bb.tmps[20]? = some _ := hf.tmp (k := 5) rfl (by rw [ha]; decide) (hA 5 (by kernel_rfl))
      exact Rg.op_value (o := ⟨some 21, Op.extract (Operand.tmp 20) 1, _, _, _, _⟩) (x := goInt st) rfl rfl (by clear hA hN hO hL; simp only [execOp]; go_simp) ⟨_, rfl, (fun h => by cases h), rfl, sameR5 (by decide) (by decide) hIl, fun _ _ _ _ h => h⟩
    · intro ll bb w' hs hlf hN hO hf hIl hL hA
      clear hi'
      have q15 : bb.tmps[15]? = some _ := hf.tmp (k := 0) rfl (by rw [ha]; decide) (hA 0 (by kernel_rfl))
      have q21 : bb.tmps[21]? = some _ := hf.tmp (k := 6) rfl (by rw [ha]; decide) (hA 6 (by kernel_rfl))
      have q19 : bb.tmps[19]? = some _ := hf.tmp (k := 4) rfl (by rw [ha]; decide) (hA 4 (by kernel_rfl))
      have h5 := (hIl.2.2 hlf).1 (hL5 hL)
      obtain ⟨o2, hs2, ho2⟩ := hst w' (c + 1) (WalkArith.wf_i64 (by omega)) h5
      have hs3 : (Instr.entryStore 77 (.map (some b)) (.int .i64 st) (.int .i64 (c + 1))).run Try.prog w' = .ok () (ChangeMaps.setBlock w' b o2) := hs2
      clear hs2
      have hgr : w'.grownBy (ChangeMaps.setBlock w' b o2) (some b) := grown_setR h5 o2
      have hE : IR5 w9 b x n D c (.map es1 ck1) (ll.setIfInBounds 7 true) (ChangeMaps.setBlock w' b o2) :=
        ⟨hIl.1.trans hgr, fun _ => ho2 _ (ChangeMaps.heap_setBlock_same h5 o2), fun h => (by rw [Rg.set_self hs (by rw [sizeR5]; decide)] at h; cases h)⟩
      clear hA hN hIl hO hL ho2 hgr
      refine Rg.op_skip (o := ⟨none, Op.entryStore 77 (Operand.tmp 15) (Operand.tmp 21) (Operand.tmp 19), _, _, _, _⟩) (w' := ChangeMaps.setBlock w' b o2) rfl rfl ?_ ⟨undef, (by rw [dR5_7]), (fun _ => trivial), trivial, hE, fun k y _ _ h => h⟩
      clear hE
      simp only [execOp]
      go_simp
theorem dR5_0 : Rg.dstAt (Rg.opsOf Try.f38 5) 0 = some 15 := by kernel_rfl
theorem dR5_1 : Rg.dstAt (Rg.opsOf Try.f38 5) 1 = some 16 := by kernel_rfl
theorem dR5_2 : Rg.dstAt (Rg.opsOf Try.f38 5) 2 = some 17 := by kernel_rfl
theorem dR5_3 : Rg.dstAt (Rg.opsOf Try.f38 5) 3 = some 18 := by kernel_rfl
theorem dR5_4 : Rg.dstAt (Rg.opsOf Try.f38 5) 4 = some 19 := by kernel_rfl
theorem dR5_5 : Rg.dstAt (Rg.opsOf Try.f38 5) 5 = some 20 := by kernel_rfl
theorem dR5_6 : Rg.dstAt (Rg.opsOf Try.f38 5) 6 = some 21 := by kernel_rfl
theorem layR5 {a b : Act} (hf : Rg.Fr (Rg.opsOf Try.f38 5) a b) : b = ((((((a.put (some 15) (Rg.out (Rg.opsOf Try.f38 5) b 0)).put (some 16) (Rg.out (Rg.opsOf Try.f38 5) b 1)).put (some 17) (Rg.out (Rg.opsOf Try.f38 5) b 2)).put (some 18) (Rg.out (Rg.opsOf Try.f38 5) b 3)).put (some 19) (Rg.out (Rg.opsOf Try.f38 5) b 4)).put (some 20) (Rg.out (Rg.opsOf Try.f38 5) b 5)).put (some 21) (Rg.out (Rg.opsOf Try.f38 5) b 6) := by
  have h := hf.chain
  rw [sizeR5, show List.range 8 = [0, 1, 2, 3, 4, 5, 6, 7] from by decide] at h
  simp only [List.foldl_cons, List.foldl_nil, dR5_0, dR5_1, dR5_2, dR5_3, dR5_4, dR5_5, dR5_6, dR5_7, put_noneM] at h
  exact h
end Go.Proofs.Ytbabknhccapaoaa
