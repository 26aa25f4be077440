/-
  Somebody more, as the specification says: the region that draws its order.
-/
import Derived.Test.YtoehnlbkgpjhmaaTr23
import Derived.Test.YtoehnlbkgpjhmaaTr9
namespace Go.Proofs.Ytoehnlbkgpjhmaa
open Go.RowKit Go.WideShapes Va Lb Tr Go.Maps
set_option linter.all false
theorem flag_other {ll : Array Bool} {i j : Nat} (h : i ≠ j) : (ll.setIfInBounds i true).getD j false = ll.getD j false := by
  rw [Array.getD_eq_getD_getElem?, Array.getElem?_setIfInBounds_ne h, Array.getD_eq_getD_getElem?]
/-- The boxes of the specification's Enrol: t, the answer, out; the answer's is written once. -/
structure EI (x : Tl) (ta ad : Option Addr) (tc c base gb B0 B1 B2 : Nat) (f : Bool) (w9 w' : World) : Prop where
  bel : Below base w9 w'
  p0 : PB w' B0 #[.int .i64 x.arms, .int .i64 x.block, .slice ta x.coins.length tc, .int .i64 x.told] 26
  p2 : PB w' B2 #[.int .i64 x.arms, .int .i64 x.block, .slice ad x.coins.length c, .int .i64 (x.told + 1)] 26
  p1f : f = false → PB w' B1 #[.int .i64 0, .int .i64 0, .slice none 0 0, .int .i64 0] 26
  p1t : f = true → PB w' B1 #[.int .i64 x.arms, .int .i64 x.block, .slice ad x.coins.length c, .int .i64 (x.told + 1)] 26
  own : VOwn 1 cvI w' gb (.slice ad x.coins.length c) x.coins
  row : VRw 1 cvI w' (.slice ta x.coins.length tc) x.coins
  rows : ∀ W, Below base w' W → VRw 1 cvI W (.slice ta x.coins.length tc) x.coins
  lo : base ≤ B1 ∧ B1 < gb ∧ B1 ≠ B0 ∧ B1 ≠ B2 ∧ base ≤ w'.heap.size
theorem EI.below {x : Tl} {ta ad : Option Addr} {tc c base gb B0 B1 B2 : Nat} {f : Bool} {w9 w w' : World} (h : EI x ta ad tc c base gb B0 B1 B2 f w9 w) (hb : Below w.heap.size w w') : EI x ta ad tc c base gb B0 B1 B2 f w9 w' :=
  ⟨h.bel.trans (hb.mono h.lo.2.2.2.2), h.p0.below hb, h.p2.below hb, fun q => (h.p1f q).below hb, fun q => (h.p1t q).below hb, h.own.below hb, h.row.below hb, fun W hW => h.rows W ((hb.mono h.lo.2.2.2.2).trans hW), h.lo.1, h.lo.2.1, h.lo.2.2.1, h.lo.2.2.2.1, Nat.le_trans h.lo.2.2.2.2 hb.size⟩
theorem EI.put {x : Tl} {ta ad : Option Addr} {tc c base gb B0 B1 B2 : Nat} {w9 w : World} (h : EI x ta ad tc c base gb B0 B1 B2 false w9 w) : EI x ta ad tc c base gb B0 B1 B2 true w9 ((((w.setCell ⟨B1, 0, none⟩ (.int .i64 x.arms)).setCell ⟨B1, 1, none⟩ (.int .i64 x.block)).setCell ⟨B1, 2, none⟩ (.slice ad x.coins.length c)).setCell ⟨B1, 3, none⟩ (.int .i64 (x.told + 1))) := by
  obtain ⟨bel, p0, p2, p1f, -, own, row, rows, l1, l2, l3, l4, l5⟩ := h
  have b4 : Below base w ((((w.setCell ⟨B1, 0, none⟩ (.int .i64 x.arms)).setCell ⟨B1, 1, none⟩ (.int .i64 x.block)).setCell ⟨B1, 2, none⟩ (.slice ad x.coins.length c)).setCell ⟨B1, 3, none⟩ (.int .i64 (x.told + 1))) := ((((Below.refl base w).setCell (p := ⟨B1, 0, none⟩) l1 _).setCell (p := ⟨B1, 1, none⟩) l1 _).setCell (p := ⟨B1, 2, none⟩) l1 _).setCell (p := ⟨B1, 3, none⟩) l1 _
  exact ⟨bel.trans b4, (((p0.far l3 _ _).far l3 _ _).far l3 _ _).far l3 _ _, (((p2.far l4 _ _).far l4 _ _).far l4 _ _).far l4 _ _, (fun q => by cases q), fun _ => (p1f rfl).fill4 _ _ _ _, own_farT (own_farT (own_farT (own_farT own l2 _ _) l2 _ _) l2 _ _) l2 _ _, rows _ b4, fun W hW => rows W (b4.trans hW), l1, l2, l3, l4, Nat.le_trans l5 b4.size⟩

def FSn6 (x : Tl) (ta ad : Option Addr) (tc c base gb B0 B1 B2 : Nat) (A : Int) (i9 : Nat) (v : Value) (w : World) : Prop :=
  match i9 with
  | 0 => v = .agg #[.int .i64 x.arms, .int .i64 x.block, .slice ad x.coins.length c, .int .i64 (x.told + 1)]
  | 1 => v = .agg #[.int .i64 x.arms, .int .i64 x.block, .slice ta x.coins.length tc, .int .i64 x.told]
  | 2 => v = .pointer (some ⟨B0, 3, none⟩)
  | 3 => v = .int .i64 x.told
  | 4 => v = .int .i64 A
  | 5 => v = undef
  | 6 => v = .int .i64 A
  | _ => True
theorem sizeSn6 : (Rg.opsOf Try.f17 6).size = 7 := by kernel_rfl

set_option maxRecDepth 20000 in
set_option maxHeartbeats 8000000 in
theorem regSn6 {Q : Exit → Act → World → Prop} {a : Act} {w9 : World} {x : Tl} {ta ad : Option Addr} {tc c base gb B0 B1 B2 : Nat} {A : Int} (ha : a.tmps.size = 29)
    (k1 : a.tmps[1]? = some (.pointer (some ⟨B0, 0, none⟩))) (k2 : a.tmps[2]? = some (.pointer (some ⟨B1, 0, none⟩))) (k4 : a.tmps[4]? = some (.pointer (some ⟨B2, 0, none⟩))) (h0I : EI x ta ad tc c base gb B0 B1 B2 ((Array.replicate (Rg.opsOf Try.f17 6).size false).getD 5 false) w9 { w9 with drawn := w9.drawn + 1 }) (HC : ∀ W, VRw 1 cvI W (.slice ta x.coins.length tc) x.coins → Calls Try.prog 12 #[.agg #[.int .i64 x.arms, .int .i64 x.block, .slice ta x.coins.length tc, .int .i64 x.told], .int .i64 x.told] W fun e w' => e = .returned (.int .i64 A) ∧ Below W.heap.size W w')
    (hend : ∀ b' w', Rg.Fr (Rg.opsOf Try.f17 6) a b' → EI x ta ad tc c base gb B0 B1 B2 true w9 w' → Rg.out (Rg.opsOf Try.f17 6) b' 6 = .int .i64 A → Q .normal b' w') :
    (Code.region 6 (Rg.opsOf Try.f17 6) true).wp Try.prog Q a w9 := by
  refine Rg.region_set3 (by kernel_rfl) (fun ll9 w' => EI x ta ad tc c base gb B0 B1 B2 (ll9.getD 5 false) w9 w') (FSn6 x ta ad tc c base gb B0 B1 B2 A) (by rw [ha, sizeSn6]; kernel_rfl) (h0I) ?_ ?_
  case refine_2 =>
    intro l b' w' hf hall hI hA
    rw [sizeSn6] at hA
    exact hend b' w' hf (by rw [hall 5 (by rw [sizeSn6]; decide)] at hI; exact hI) (hA 6 (by decide))
  case refine_1 =>
    clear hend
    have HS : ∀ {w w' : World}, Below w.heap.size w w' → ∀ k9 y9, FSn6 x ta ad tc c base gb B0 B1 B2 A k9 y9 w → FSn6 x ta ad tc c base gb B0 B1 B2 A k9 y9 w' := fun hb k9 y9 h => by
      unfold FSn6 at *
      split at h <;> exact h
    intro i' hi'
    rw [sizeSn6] at hi'
    rcases (show i' = 0 ∨ i' = 1 ∨ i' = 2 ∨ i' = 3 ∨ i' = 4 ∨ i' = 5 ∨ i' = 6 by omega) with rfl | rfl | rfl | rfl | rfl | rfl | rfl
    · intro ll bb w' hs hlf hN hO hf hI hA
      clear hi'
      have q4 := hf.kept (s := 4) (by rw [sizeSn6]; kernel_rfl) k4
      obtain ⟨e0, e1, e2, e3⟩ := hI.p2.four
      exact Rg.op_value (o := ⟨some 24, Op.load 26 (Operand.tmp 4), _, _, _, _⟩) (x := .agg #[.int .i64 x.arms, .int .i64 x.block, .slice ad x.coins.length c, .int .i64 (x.told + 1)]) rfl rfl (by clear hA HS hN hO HC; simp only [execOp]; go_simp) ⟨_, rfl, (fun h => by cases h), rfl, (by rw [flag_other (by decide)]; exact hI), fun _ _ _ _ h => h⟩
    · intro ll bb w' hs hlf hN hO hf hI hA
      clear hi'
      have q1 := hf.kept (s := 1) (by rw [sizeSn6]; kernel_rfl) k1
      obtain ⟨e0, e1, e2, e3⟩ := hI.p0.four
      exact Rg.op_value (o := ⟨some 25, Op.load 26 (Operand.tmp 1), _, _, _, _⟩) (x := .agg #[.int .i64 x.arms, .int .i64 x.block, .slice ta x.coins.length tc, .int .i64 x.told]) rfl rfl (by clear hA HS hN hO HC; simp only [execOp]; go_simp) ⟨_, rfl, (fun h => by cases h), rfl, (by rw [flag_other (by decide)]; exact hI), fun _ _ _ _ h => h⟩
    · intro ll bb w' hs hlf hN hO hf hI hA
      clear hi'
      have q1 := hf.kept (s := 1) (by rw [sizeSn6]; kernel_rfl) k1
      exact Rg.op_value (o := ⟨some 26, Op.fieldAddr 26 (Operand.tmp 1) 3, _, _, _, _⟩) (x := .pointer (some ⟨B0, 3, none⟩)) rfl rfl (by clear hA HS hN hO HC; simp only [execOp]; go_simp) ⟨_, rfl, (fun h => by cases h), rfl, (by rw [flag_other (by decide)]; exact hI), fun _ _ _ _ h => h⟩
    · intro ll bb w' hs hlf hN hO hf hI hA
      clear hi'
      have q26 : bb.tmps[26]? = some _ := hf.tmp (k := 2) rfl (by rw [ha]; decide) (hA 2 (by kernel_rfl))
      obtain ⟨e0, e1, e2, e3⟩ := hI.p0.four
      exact Rg.op_value (o := ⟨some 27, Op.load 2 (Operand.tmp 26), _, _, _, _⟩) (x := .int .i64 x.told) rfl rfl (by clear hA HS hN hO HC; simp only [execOp]; go_simp) ⟨_, rfl, (fun h => by cases h), rfl, (by rw [flag_other (by decide)]; exact hI), fun _ _ _ _ h => h⟩
    · intro ll bb w' hs hlf hN hO hf hI hA
      clear hi'
      have q25 : bb.tmps[25]? = some _ := hf.tmp (k := 1) rfl (by rw [ha]; decide) (hA 1 (by kernel_rfl))
      have q27 : bb.tmps[27]? = some _ := hf.tmp (k := 3) rfl (by rw [ha]; decide) (hA 3 (by kernel_rfl))
      refine Rg.op_call (o := ⟨some 28, Op.call { callee := Callee.value (Operand.func 12), args := #[(Operand.tmp 25), (Operand.tmp 27)], argTypes := _ }, _, _, _, _⟩) rfl rfl (by clear hA HS hN hO HC; simp only [execOp, resolve]; go_simp) (HC _ hI.row) ?_
      rintro e w2 ⟨rfl, hb2⟩
      exact ⟨_, rfl, _, rfl, (fun h => by cases h), rfl, (by rw [flag_other (by decide)]; exact hI.below hb2), fun k9 y9 _ _ h => HS hb2 k9 y9 h⟩
    · intro ll bb w' hs hlf hN hO hf hI hA
      clear hi'
      have q2 := hf.kept (s := 2) (by rw [sizeSn6]; kernel_rfl) k2
      have q24 : bb.tmps[24]? = some _ := hf.tmp (k := 0) rfl (by rw [ha]; decide) (hA 0 (by kernel_rfl))
      rw [hlf] at hI
      obtain ⟨e0, e1, e2, e3⟩ := (hI.p1f rfl).four
      obtain ⟨g0, g1, g2, g3, -⟩ := (hI.p1f rfl).cold
      exact Rg.op_skip (w' := ((((w'.setCell ⟨B1, 0, none⟩ (.int .i64 x.arms)).setCell ⟨B1, 1, none⟩ (.int .i64 x.block)).setCell ⟨B1, 2, none⟩ (.slice ad x.coins.length c)).setCell ⟨B1, 3, none⟩ (.int .i64 (x.told + 1)))) (o := ⟨none, Op.store 26 (Operand.tmp 2) (Operand.tmp 24), _, _, _, _⟩) rfl rfl (by clear hA HS hN hO HC hI; simp only [execOp]; go_simp) ⟨undef, rfl, (fun _ => rfl), rfl, (by rw [flag_set (by rw [hs, sizeSn6]; decide)]; exact hI.put), fun k9 y9 _ _ h => by
        unfold FSn6 at *
        split at h <;> exact h⟩
    · intro ll bb w' hs hlf hN hO hf hI hA
      clear hi'
      have q28 : bb.tmps[28]? = some _ := hf.tmp (k := 4) rfl (by rw [ha]; decide) (hA 4 (by kernel_rfl))
      exact Rg.op_value (o := ⟨some 3, Op.assign (Operand.tmp 28), _, _, _, _⟩) (x := .int .i64 A) rfl rfl (by clear hA HS hN hO HC; simp only [execOp]; go_simp) ⟨_, rfl, (fun h => by cases h), rfl, (by rw [flag_other (by decide)]; exact hI), fun _ _ _ _ h => h⟩

theorem dSn6_0 : Rg.dstAt (Rg.opsOf Try.f17 6) 0 = some 24 := by kernel_rfl
theorem dSn6_1 : Rg.dstAt (Rg.opsOf Try.f17 6) 1 = some 25 := by kernel_rfl
theorem dSn6_2 : Rg.dstAt (Rg.opsOf Try.f17 6) 2 = some 26 := by kernel_rfl
theorem dSn6_3 : Rg.dstAt (Rg.opsOf Try.f17 6) 3 = some 27 := by kernel_rfl
theorem dSn6_4 : Rg.dstAt (Rg.opsOf Try.f17 6) 4 = some 28 := by kernel_rfl
theorem dSn6_5 : Rg.dstAt (Rg.opsOf Try.f17 6) 5 = none := by kernel_rfl
theorem dSn6_6 : Rg.dstAt (Rg.opsOf Try.f17 6) 6 = some 3 := by kernel_rfl
theorem laySn6 {a b : Act} (hf : Rg.Fr (Rg.opsOf Try.f17 6) a b) : b = (((((((a.put (some 24) (Rg.out (Rg.opsOf Try.f17 6) b 0)).put (some 25) (Rg.out (Rg.opsOf Try.f17 6) b 1)).put (some 26) (Rg.out (Rg.opsOf Try.f17 6) b 2)).put (some 27) (Rg.out (Rg.opsOf Try.f17 6) b 3)).put (some 28) (Rg.out (Rg.opsOf Try.f17 6) b 4)).put none (Rg.out (Rg.opsOf Try.f17 6) b 5)).put (some 3) (Rg.out (Rg.opsOf Try.f17 6) b 6)) := by
  have h := hf.chain
  rw [sizeSn6, show List.range 7 = [0, 1, 2, 3, 4, 5, 6] from by decide] at h
  simp only [List.foldl_cons, List.foldl_nil, dSn6_0, dSn6_1, dSn6_2, dSn6_3, dSn6_4, dSn6_5, dSn6_6] at h
  exact h
end Go.Proofs.Ytoehnlbkgpjhmaa
