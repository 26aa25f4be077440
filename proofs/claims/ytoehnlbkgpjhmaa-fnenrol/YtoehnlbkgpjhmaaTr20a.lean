/-
  How many are in each arm, as the program counts: the region that draws its order.
-/
import Derived.Test.YtoehnlbkgpjhmaaTr13a
namespace Go.Proofs.Ytoehnlbkgpjhmaa
open Go.RowKit Go.WideShapes Va Lb Tr Go.Maps
set_option linter.all false


def FIb7 (x : Tl) (ta : Option Addr) (tc B n d base : Nat) (i9 : Nat) (v : Value) (w : World) : Prop :=
  match i9 with
  | 0 => v = .agg #[.int .i64 x.arms, .int .i64 x.block, .slice ta x.coins.length tc, .int .i64 x.told]
  | 1 => v = .int .i64 (n : Nat)
  | 2 => v = .pointer (some ⟨B, 1, none⟩)
  | 3 => v = .int .i64 x.block
  | 4 => v = .int .i64 (d : Nat)
  | 5 => ∃ Bo Bt Bb Br, v = onF Bo Bt Bb Br ∧ OS x ta tc d base Bo Bt Bb Br w
  | 6 => ∃ Bo Bt Bb Br, v = onF Bo Bt Bb Br ∧ OS x ta tc d base Bo Bt Bb Br w
  | _ => True
theorem sizeIb7 : (Rg.opsOf Try.f18 7).size = 7 := by kernel_rfl

set_option maxRecDepth 20000 in
set_option maxHeartbeats 8000000 in
theorem regIb7 {Q : Exit → Act → World → Prop} {a : Act} {w9 : World} {x : Tl} {ta : Option Addr} {tc B n d base : Nat} (ha : a.tmps.size = 50)
    (k1 : a.tmps[1]? = some (.pointer (some ⟨B, 0, none⟩))) (k4 : a.tmps[4]? = some (.int .i64 (n : Nat))) (hBl : B < w9.heap.size) (x0 : w9.cell? ⟨B, 0, none⟩ = some (.int .i64 x.arms)) (x1 : w9.cell? ⟨B, 1, none⟩ = some (.int .i64 x.block)) (x2 : w9.cell? ⟨B, 2, none⟩ = some (.slice ta x.coins.length tc)) (x3 : w9.cell? ⟨B, 3, none⟩ = some (.int .i64 x.told)) (hz0 : ¬ x.block = 0) (hbk : 1 ≤ x.block) (hdt : (n : Int).tdiv x.block = (d : Int)) (hdv : (n : Int) / x.block = (d : Int)) (hd9 : d ≤ 1000) (hbs : base ≤ w9.heap.size)
    (hend : ∀ b' w', Rg.Fr (Rg.opsOf Try.f18 7) a b' → Below w9.heap.size w9 w' → FIb7 x ta tc B n d base 6 (Rg.out (Rg.opsOf Try.f18 7) b' 6) w' → Q .normal b' w') :
    (Code.region 7 (Rg.opsOf Try.f18 7) true).wp Try.prog Q a w9 := by
  refine Rg.region_set3 (by kernel_rfl) (fun _ w' => Below w9.heap.size w9 w') (FIb7 x ta tc B n d base) (by rw [ha, sizeIb7]; kernel_rfl) (st_drew (Below.refl _ _)) ?_ ?_
  case refine_2 =>
    intro l b' w' hf hall hI hA
    rw [sizeIb7] at hA
    exact hend b' w' hf hI (hA 6 (by decide))
  case refine_1 =>
    clear hend
    have HS : ∀ {w w' : World}, Below w.heap.size w w' → ∀ k9 y9, FIb7 x ta tc B n d base k9 y9 w → FIb7 x ta tc B n d base k9 y9 w' := fun hb k9 y9 h => by
      unfold FIb7 at *
      split at h <;> first | exact h | (obtain ⟨Bo, Bt, Bb, Br, h1, h2⟩ := h; exact ⟨Bo, Bt, Bb, Br, h1, h2.below hb⟩)
    intro i' hi'
    rw [sizeIb7] at hi'
    rcases (show i' = 0 ∨ i' = 1 ∨ i' = 2 ∨ i' = 3 ∨ i' = 4 ∨ i' = 5 ∨ i' = 6 by omega) with rfl | rfl | rfl | rfl | rfl | rfl | rfl
    · intro ll bb w' hs hlf hN hO hf hI hA
      clear hi'
      have q1 := hf.kept (s := 1) (by rw [sizeIb7]; kernel_rfl) k1
      have e0 := (hI.cell (p := ⟨B, 0, none⟩) hBl).trans x0
      have e1 := (hI.cell (p := ⟨B, 1, none⟩) hBl).trans x1
      have e2 := (hI.cell (p := ⟨B, 2, none⟩) hBl).trans x2
      have e3 := (hI.cell (p := ⟨B, 3, none⟩) hBl).trans x3
      exact Rg.op_value (o := ⟨some 22, Op.load 26 (Operand.tmp 1), _, _, _, _⟩) (x := .agg #[.int .i64 x.arms, .int .i64 x.block, .slice ta x.coins.length tc, .int .i64 x.told]) rfl rfl (by clear hA HS hN hO hdt hdv; simp only [execOp]; go_simp) ⟨_, rfl, (fun h => by cases h), rfl, hI, fun _ _ _ _ h => h⟩
    · intro ll bb w' hs hlf hN hO hf hI hA
      clear hi'
      have q0 := hf.kept (s := 4) (by rw [sizeIb7]; kernel_rfl) k4
      exact Rg.op_value (o := ⟨some 23, Op.move (Operand.tmp 4), _, _, _, _⟩) (x := .int .i64 (n : Nat)) rfl rfl (by clear hA HS hN hO hdt hdv; simp only [execOp]; go_simp) ⟨_, rfl, (fun h => by cases h), rfl, hI, fun _ _ _ _ h => h⟩
    · intro ll bb w' hs hlf hN hO hf hI hA
      clear hi'
      have q1 := hf.kept (s := 1) (by rw [sizeIb7]; kernel_rfl) k1
      exact Rg.op_value (o := ⟨some 24, Op.fieldAddr 26 (Operand.tmp 1) 1, _, _, _, _⟩) (x := .pointer (some ⟨B, 1, none⟩)) rfl rfl (by clear hA HS hN hO hdt hdv; simp only [execOp]; go_simp) ⟨_, rfl, (fun h => by cases h), rfl, hI, fun _ _ _ _ h => h⟩
    · intro ll bb w' hs hlf hN hO hf hI hA
      clear hi'
      have q24 : bb.tmps[24]? = some _ := hf.tmp (k := 2) rfl (by rw [ha]; decide) (hA 2 (by kernel_rfl))
      have e1 := (hI.cell (p := ⟨B, 1, none⟩) hBl).trans x1
      exact Rg.op_value (o := ⟨some 25, Op.load 2 (Operand.tmp 24), _, _, _, _⟩) (x := .int .i64 x.block) rfl rfl (by clear hA HS hN hO hdt hdv; simp only [execOp]; go_simp) ⟨_, rfl, (fun h => by cases h), rfl, hI, fun _ _ _ _ h => h⟩
    · intro ll bb w' hs hlf hN hO hf hI hA
      clear hi'
      have q23 : bb.tmps[23]? = some _ := hf.tmp (k := 1) rfl (by rw [ha]; decide) (hA 1 (by kernel_rfl))
      have q25 : bb.tmps[25]? = some _ := hf.tmp (k := 3) rfl (by rw [ha]; decide) (hA 3 (by kernel_rfl))
      have hn0 : ¬ x.block = 0 := hz0
      have hn1 : (x.block == 0) = false := by rw [beq_eq_false_iff_ne]; exact hz0
      have hn2 : ¬ x.block = -1 := by omega
      have ht9 := hdt
      have hu9 := hdv
      have hw9 : IntKind.i64.wrap ((d : Int)) = (d : Int) := by rw [IntKind.wrap_i64]; omega
      exact Rg.op_value (o := ⟨some 26, Op.binOp BinOp.quo 2 (Operand.tmp 23) (Operand.tmp 25) 2, _, _, _, _⟩) (x := .int .i64 (d : Nat)) rfl rfl (by clear hA HS hN hO hdt hdv; simp only [execOp]; go_simp) ⟨_, rfl, (fun h => by cases h), rfl, hI, fun _ _ _ _ h => h⟩
    · intro ll bb w' hs hlf hN hO hf hI hA
      clear hi'
      have q22 : bb.tmps[22]? = some _ := hf.tmp (k := 0) rfl (by rw [ha]; decide) (hA 0 (by kernel_rfl))
      have q26 : bb.tmps[26]? = some _ := hf.tmp (k := 4) rfl (by rw [ha]; decide) (hA 4 (by kernel_rfl))
      refine Rg.op_call (o := ⟨some 27, Op.call { callee := Callee.value (Operand.func 40), args := #[(Operand.tmp 22), (Operand.tmp 26)], argTypes := _ }, _, _, _, _⟩) rfl rfl (by clear hA HS hN hO hdt hdv; simp only [execOp, resolve]; go_simp; try rfl) (oonce_any x ta tc d w') ?_
      rintro e w2 ⟨Bo, Bt, Bb, Br, rfl, hos, hb2⟩
      exact ⟨_, rfl, _, rfl, (fun h => by cases h), ⟨Bo, Bt, Bb, Br, rfl, hos.base_le (Nat.le_trans hbs hI.size)⟩, onto hI hb2, fun k9 y9 _ _ h => HS hb2 k9 y9 h⟩
    · intro ll bb w' hs hlf hN hO hf hI hA
      clear hi'
      obtain ⟨Bo, Bt, Bb, Br, h1, h2⟩ := hA 5 (by kernel_rfl)
      have q27 : bb.tmps[27]? = some (onF Bo Bt Bb Br) := hf.tmp (k := 5) rfl (by rw [ha]; decide) h1
      exact Rg.op_value (o := ⟨some 5, Op.assign (Operand.tmp 27), _, _, _, _⟩) (x := onF Bo Bt Bb Br) rfl rfl (by clear hA HS hN hO hdt hdv h1; simp only [execOp]; go_simp) ⟨_, rfl, (fun h => by cases h), ⟨Bo, Bt, Bb, Br, rfl, h2⟩, hI, fun _ _ _ _ h => h⟩

theorem dIb7_0 : Rg.dstAt (Rg.opsOf Try.f18 7) 0 = some 22 := by kernel_rfl
theorem dIb7_1 : Rg.dstAt (Rg.opsOf Try.f18 7) 1 = some 23 := by kernel_rfl
theorem dIb7_2 : Rg.dstAt (Rg.opsOf Try.f18 7) 2 = some 24 := by kernel_rfl
theorem dIb7_3 : Rg.dstAt (Rg.opsOf Try.f18 7) 3 = some 25 := by kernel_rfl
theorem dIb7_4 : Rg.dstAt (Rg.opsOf Try.f18 7) 4 = some 26 := by kernel_rfl
theorem dIb7_5 : Rg.dstAt (Rg.opsOf Try.f18 7) 5 = some 27 := by kernel_rfl
theorem dIb7_6 : Rg.dstAt (Rg.opsOf Try.f18 7) 6 = some 5 := by kernel_rfl
theorem layIb7 {a b : Act} (hf : Rg.Fr (Rg.opsOf Try.f18 7) a b) : b = (((((((a.put (some 22) (Rg.out (Rg.opsOf Try.f18 7) b 0)).put (some 23) (Rg.out (Rg.opsOf Try.f18 7) b 1)).put (some 24) (Rg.out (Rg.opsOf Try.f18 7) b 2)).put (some 25) (Rg.out (Rg.opsOf Try.f18 7) b 3)).put (some 26) (Rg.out (Rg.opsOf Try.f18 7) b 4)).put (some 27) (Rg.out (Rg.opsOf Try.f18 7) b 5)).put (some 5) (Rg.out (Rg.opsOf Try.f18 7) b 6)) := by
  have h := hf.chain
  rw [sizeIb7, show List.range 7 = [0, 1, 2, 3, 4, 5, 6] from by decide] at h
  simp only [List.foldl_cons, List.foldl_nil, dIb7_0, dIb7_1, dIb7_2, dIb7_3, dIb7_4, dIb7_5, dIb7_6] at h
  exact h
end Go.Proofs.Ytoehnlbkgpjhmaa
