/-
  Masked counts: the law's test, a region that draws its order.
-/
import Derived.Test.YtinnmebpipnccaaA3
import Derived.Test.YtinnmebpipnccaaRs
namespace Go.Proofs.Ytinnmebpipnccaa
open Go.RowKit Va Ax
set_option linter.all false

def FMs18 (ga oa gb ob nl nm cc1 cc2 i : Nat) (x y s : Int) (i9 : Nat) (v : Value) (w : World) : Prop :=
  match i9 with
  | 0 => v = .slice (some ⟨ga, oa, none⟩) nl cc1
  | 1 => v = .int .i64 (i : Nat)
  | 2 => v = .pointer (some ⟨ga, oa + i, none⟩)
  | 3 => v = .int .i64 x
  | 4 => v = .bool (decide (1 ≤ x))
  | 5 => v = .bool (decide (1 ≤ x))
  | 6 => v = cond (true && ((decide (1 ≤ x)) == true)) (.slice (some ⟨ga, oa, none⟩) nl cc1) undef
  | 7 => v = cond (true && ((decide (1 ≤ x)) == true)) (.int .i64 (i : Nat)) undef
  | 8 => v = cond (true && ((decide (1 ≤ x)) == true)) (.pointer (some ⟨ga, oa + i, none⟩)) undef
  | 9 => v = cond (true && ((decide (1 ≤ x)) == true)) (.int .i64 x) undef
  | 10 => v = cond (true && ((decide (1 ≤ x)) == true)) (.int .i64 s) undef
  | 11 => v = cond (true && ((decide (1 ≤ x)) == true)) (.bool (decide (x ≤ s))) undef
  | 12 => v = .bool ((decide (1 ≤ x)) && (decide (x ≤ s)))
  | 13 => v = .bool ((decide (1 ≤ x)) && (decide (x ≤ s)))
  | 14 => v = cond (true && (((decide (1 ≤ x)) && (decide (x ≤ s))) == true)) (.slice (some ⟨gb, ob, none⟩) nm cc2) undef
  | 15 => v = cond (true && (((decide (1 ≤ x)) && (decide (x ≤ s))) == true)) (.int .i64 (i : Nat)) undef
  | 16 => v = cond (true && (((decide (1 ≤ x)) && (decide (x ≤ s))) == true)) (.pointer (some ⟨gb, ob + i, none⟩)) undef
  | 17 => v = cond (true && (((decide (1 ≤ x)) && (decide (x ≤ s))) == true)) (.int .i64 y) undef
  | 18 => v = cond (true && (((decide (1 ≤ x)) && (decide (x ≤ s))) == true)) (.bool (y != -1)) undef
  | 19 => v = .bool (((decide (1 ≤ x)) && (decide (x ≤ s))) && (y != -1))
  | 20 => v = .bool (((decide (1 ≤ x)) && (decide (x ≤ s))) && (y != -1))
  | 21 => v = cond (true && ((((decide (1 ≤ x)) && (decide (x ≤ s))) && (y != -1)) == false)) (.slice (some ⟨gb, ob, none⟩) nm cc2) undef
  | 22 => v = cond (true && ((((decide (1 ≤ x)) && (decide (x ≤ s))) && (y != -1)) == false)) (.int .i64 (i : Nat)) undef
  | 23 => v = cond (true && ((((decide (1 ≤ x)) && (decide (x ≤ s))) && (y != -1)) == false)) (.pointer (some ⟨gb, ob + i, none⟩)) undef
  | 24 => v = cond (true && ((((decide (1 ≤ x)) && (decide (x ≤ s))) && (y != -1)) == false)) (.int .i64 y) undef
  | 25 => v = cond (true && ((((decide (1 ≤ x)) && (decide (x ≤ s))) && (y != -1)) == false)) (.bool (y != -1)) undef
  | 26 => v = cond (true && ((((decide (1 ≤ x)) && (decide (x ≤ s))) && (y != -1)) == false)) (.bool (y != -1)) undef
  | 27 => v = cond ((true && ((((decide (1 ≤ x)) && (decide (x ≤ s))) && (y != -1)) == false)) && ((y != -1) == true)) (.slice (some ⟨gb, ob, none⟩) nm cc2) undef
  | 28 => v = cond ((true && ((((decide (1 ≤ x)) && (decide (x ≤ s))) && (y != -1)) == false)) && ((y != -1) == true)) (.int .i64 (i : Nat)) undef
  | 29 => v = cond ((true && ((((decide (1 ≤ x)) && (decide (x ≤ s))) && (y != -1)) == false)) && ((y != -1) == true)) (.pointer (some ⟨gb, ob + i, none⟩)) undef
  | 30 => v = cond ((true && ((((decide (1 ≤ x)) && (decide (x ≤ s))) && (y != -1)) == false)) && ((y != -1) == true)) (.int .i64 y) undef
  | 31 => v = cond ((true && ((((decide (1 ≤ x)) && (decide (x ≤ s))) && (y != -1)) == false)) && ((y != -1) == true)) (.slice (some ⟨ga, oa, none⟩) nl cc1) undef
  | 32 => v = cond ((true && ((((decide (1 ≤ x)) && (decide (x ≤ s))) && (y != -1)) == false)) && ((y != -1) == true)) (.int .i64 (i : Nat)) undef
  | 33 => v = cond ((true && ((((decide (1 ≤ x)) && (decide (x ≤ s))) && (y != -1)) == false)) && ((y != -1) == true)) (.pointer (some ⟨ga, oa + i, none⟩)) undef
  | 34 => v = cond ((true && ((((decide (1 ≤ x)) && (decide (x ≤ s))) && (y != -1)) == false)) && ((y != -1) == true)) (.int .i64 x) undef
  | 35 => v = cond ((true && ((((decide (1 ≤ x)) && (decide (x ≤ s))) && (y != -1)) == false)) && ((y != -1) == true)) (.bool (y != x)) undef
  | 36 => v = cond (true && ((((decide (1 ≤ x)) && (decide (x ≤ s))) && (y != -1)) == false)) (.bool ((y != -1) && (y != x))) undef
  | 37 => v = .bool ((((decide (1 ≤ x)) && (decide (x ≤ s))) && (y != -1)) || ((y != -1) && (y != x)))
  | _ => True
theorem sizeMs18 : (Rg.opsOf Try.f3 18).size = 38 := by kernel_rfl

set_option maxRecDepth 20000 in
set_option maxHeartbeats 8000000 in
theorem regMs18 {Q : Exit → Act → World → Prop} {a : Act} {w9 : World} {ga oa gb ob nl nm cc1 cc2 i : Nat} {x y s : Int} (ha : a.tmps.size = 107)
    (k3 : a.tmps[3]? = some (.slice (some ⟨ga, oa, none⟩) nl cc1)) (k5 : a.tmps[5]? = some (.slice (some ⟨gb, ob, none⟩) nm cc2)) (k9 : a.tmps[9]? = some (.int .i64 (i : Nat))) (k4 : a.tmps[4]? = some (.int .i64 s)) (hin : i < nl) (him : i < nm) (hil : i < 1000000) (hga : ga < w9.heap.size) (hgb : gb < w9.heap.size) (u0 : w9.cell? ⟨ga, oa + i, none⟩ = some (.int .i64 x)) (v0 : w9.cell? ⟨gb, ob + i, none⟩ = some (.int .i64 y))
    (hend : ∀ b' w', Rg.Fr (Rg.opsOf Try.f3 18) a b' → Below w9.heap.size w9 w' → Rg.out (Rg.opsOf Try.f3 18) b' 37 = .bool ((((decide (1 ≤ x)) && (decide (x ≤ s))) && (y != -1)) || ((y != -1) && (y != x))) → Q .normal b' w') :
    (Code.region 18 (Rg.opsOf Try.f3 18) true).wp Try.prog Q a w9 := by
  refine Rg.region_set3 (by kernel_rfl) (fun _ w' => Below w9.heap.size w9 w') (FMs18 ga oa gb ob nl nm cc1 cc2 i x y s) (by rw [ha, sizeMs18]; kernel_rfl) (st_drew (Below.refl _ _)) ?_ ?_
  case refine_2 =>
    intro l b' w' hf hall hI hA
    rw [sizeMs18] at hA
    exact hend b' w' hf hI (hA 37 (by decide))
  case refine_1 =>
    clear hend
    have HS : ∀ {w w' : World}, Below w.heap.size w w' → ∀ k9 y9, FMs18 ga oa gb ob nl nm cc1 cc2 i x y s k9 y9 w → FMs18 ga oa gb ob nl nm cc1 cc2 i x y s k9 y9 w' := fun hb k9 y9 h => by
      unfold FMs18 at *
      split at h <;> exact h
    intro i' hi'
    rw [sizeMs18] at hi'
    rcases (show i' = 0 ∨ i' = 1 ∨ i' = 2 ∨ i' = 3 ∨ i' = 4 ∨ i' = 5 ∨ i' = 6 ∨ i' = 7 ∨ i' = 8 ∨ i' = 9 ∨ i' = 10 ∨ i' = 11 ∨ i' = 12 ∨ i' = 13 ∨ i' = 14 ∨ i' = 15 ∨ i' = 16 ∨ i' = 17 ∨ i' = 18 ∨ i' = 19 ∨ i' = 20 ∨ i' = 21 ∨ i' = 22 ∨ i' = 23 ∨ i' = 24 ∨ i' = 25 ∨ i' = 26 ∨ i' = 27 ∨ i' = 28 ∨ i' = 29 ∨ i' = 30 ∨ i' = 31 ∨ i' = 32 ∨ i' = 33 ∨ i' = 34 ∨ i' = 35 ∨ i' = 36 ∨ i' = 37 by omega) with rfl | rfl | rfl | rfl | rfl | rfl | rfl | rfl | rfl | rfl | rfl | rfl | rfl | rfl | rfl | rfl | rfl | rfl | rfl | rfl | rfl | rfl | rfl | rfl | rfl | rfl | rfl | rfl | rfl | rfl | rfl | rfl | rfl | rfl | rfl | rfl | rfl | rfl
    · intro ll bb w' hs hlf hN hO hf hI hA
      clear hi'
      have q0 := hf.kept (s := 3) (by rw [sizeMs18]; kernel_rfl) k3
      exact Rg.op_value (o := ⟨some 54, Op.move (Operand.tmp 3), _, _, _, _⟩) (x := .slice (some ⟨ga, oa, none⟩) nl cc1) rfl rfl (by clear hA HS hN hO ; simp only [execOp]; go_simp) ⟨_, rfl, (fun h => by cases h), rfl, hI, fun _ _ _ _ h => h⟩
    · intro ll bb w' hs hlf hN hO hf hI hA
      clear hi'
      have q0 := hf.kept (s := 9) (by rw [sizeMs18]; kernel_rfl) k9
      exact Rg.op_value (o := ⟨some 55, Op.move (Operand.tmp 9), _, _, _, _⟩) (x := .int .i64 (i : Nat)) rfl rfl (by clear hA HS hN hO ; simp only [execOp]; go_simp) ⟨_, rfl, (fun h => by cases h), rfl, hI, fun _ _ _ _ h => h⟩
    · intro ll bb w' hs hlf hN hO hf hI hA
      clear hi'
      have q54 : bb.tmps[54]? = some _ := hf.tmp (k := 0) rfl (by rw [ha]; decide) (hA 0 (by kernel_rfl))
      have q55 : bb.tmps[55]? = some _ := hf.tmp (k := 1) rfl (by rw [ha]; decide) (hA 1 (by kernel_rfl))
      have hi5 : ((i : Nat) : Int) < (nl : Int) := by omega
      exact Rg.op_value (o := ⟨some 56, Op.indexAddr 24 (Operand.tmp 54) (Operand.tmp 55), _, _, _, _⟩) (x := .pointer (some ⟨ga, oa + i, none⟩)) rfl rfl (by clear hA HS hN hO ; simp only [execOp]; go_simp) ⟨_, rfl, (fun h => by cases h), rfl, hI, fun _ _ _ _ h => h⟩
    · intro ll bb w' hs hlf hN hO hf hI hA
      clear hi'
      have q56 : bb.tmps[56]? = some _ := hf.tmp (k := 2) rfl (by rw [ha]; decide) (hA 2 (by kernel_rfl))
      have e0 := (hI.cell (p := ⟨ga, oa + i, none⟩) hga).trans u0
      exact Rg.op_value (o := ⟨some 57, Op.load 2 (Operand.tmp 56), _, _, _, _⟩) (x := .int .i64 x) rfl rfl (by clear hA HS hN hO ; simp only [execOp]; go_simp) ⟨_, rfl, (fun h => by cases h), rfl, hI, fun _ _ _ _ h => h⟩
    · intro ll bb w' hs hlf hN hO hf hI hA
      clear hi'
      have q57 : bb.tmps[57]? = some _ := hf.tmp (k := 3) rfl (by rw [ha]; decide) (hA 3 (by kernel_rfl))
      exact Rg.op_value (o := ⟨some 58, Op.binOp BinOp.geq 2 (Operand.tmp 57) (Operand.const (Value.int .i64 1)) 2, _, _, _, _⟩) (x := .bool (decide (1 ≤ x))) rfl rfl (by clear hA HS hN hO ; simp only [execOp]; go_simp) ⟨_, rfl, (fun h => by cases h), rfl, hI, fun _ _ _ _ h => h⟩
    · intro ll bb w' hs hlf hN hO hf hI hA
      clear hi'
      have q58 : bb.tmps[58]? = some _ := hf.tmp (k := 4) rfl (by rw [ha]; decide) (hA 4 (by kernel_rfl))
      exact Rg.op_value (o := ⟨some 59, Op.move (Operand.tmp 58), _, _, _, _⟩) (x := .bool (decide (1 ≤ x))) rfl rfl (by clear hA HS hN hO ; simp only [execOp]; go_simp) ⟨_, rfl, (fun h => by cases h), rfl, hI, fun _ _ _ _ h => h⟩
    · intro ll bb w' hs hlf hN hO hf hI hA
      clear hi'
      have qg : bb.tmps[59]? = some (cond true (.bool (decide (1 ≤ x))) undef) := hf.tmp (k := 5) rfl (by rw [ha]; decide) (hA 5 (by kernel_rfl))
      cases hP : (true && ((decide (1 ≤ x)) == true)) with
      | false => exact Rg.op_none (o := ⟨some 60, _, _, _, _, _⟩) rfl (Rg.unwanted_c (g := 5) rfl rfl qg hP) ⟨_, rfl, (fun h => by cases h), Rg.cond_f hP, hI, fun _ _ _ _ h => h⟩
      | true =>
        have hw := Rg.wanted_c (ops := (Rg.opsOf Try.f3 18)) (o := (Rg.opsOf Try.f3 18)[6]'(by rw [sizeMs18]; decide)) (g := 5) rfl rfl qg hP
        have g0 := Rg.pc_r hP
        have q0 := hf.kept (s := 3) (by rw [sizeMs18]; kernel_rfl) k3
        exact Rg.op_value (o := ⟨some 60, Op.move (Operand.tmp 3), _, _, _, _⟩) (x := .slice (some ⟨ga, oa, none⟩) nl cc1) rfl hw (by clear hA HS hN hO ; simp only [execOp]; go_simp) ⟨_, rfl, (fun h => by cases h), (Rg.cond_t hP).symm, hI, fun _ _ _ _ h => h⟩
    · intro ll bb w' hs hlf hN hO hf hI hA
      clear hi'
      have qg : bb.tmps[59]? = some (cond true (.bool (decide (1 ≤ x))) undef) := hf.tmp (k := 5) rfl (by rw [ha]; decide) (hA 5 (by kernel_rfl))
      cases hP : (true && ((decide (1 ≤ x)) == true)) with
      | false => exact Rg.op_none (o := ⟨some 61, _, _, _, _, _⟩) rfl (Rg.unwanted_c (g := 5) rfl rfl qg hP) ⟨_, rfl, (fun h => by cases h), Rg.cond_f hP, hI, fun _ _ _ _ h => h⟩
      | true =>
        have hw := Rg.wanted_c (ops := (Rg.opsOf Try.f3 18)) (o := (Rg.opsOf Try.f3 18)[7]'(by rw [sizeMs18]; decide)) (g := 5) rfl rfl qg hP
        have g0 := Rg.pc_r hP
        have q0 := hf.kept (s := 9) (by rw [sizeMs18]; kernel_rfl) k9
        exact Rg.op_value (o := ⟨some 61, Op.move (Operand.tmp 9), _, _, _, _⟩) (x := .int .i64 (i : Nat)) rfl hw (by clear hA HS hN hO ; simp only [execOp]; go_simp) ⟨_, rfl, (fun h => by cases h), (Rg.cond_t hP).symm, hI, fun _ _ _ _ h => h⟩
    · intro ll bb w' hs hlf hN hO hf hI hA
      clear hi'
      have qg : bb.tmps[59]? = some (cond true (.bool (decide (1 ≤ x))) undef) := hf.tmp (k := 5) rfl (by rw [ha]; decide) (hA 5 (by kernel_rfl))
      cases hP : (true && ((decide (1 ≤ x)) == true)) with
      | false => exact Rg.op_none (o := ⟨some 62, _, _, _, _, _⟩) rfl (Rg.unwanted_c (g := 5) rfl rfl qg hP) ⟨_, rfl, (fun h => by cases h), Rg.cond_f hP, hI, fun _ _ _ _ h => h⟩
      | true =>
        have hw := Rg.wanted_c (ops := (Rg.opsOf Try.f3 18)) (o := (Rg.opsOf Try.f3 18)[8]'(by rw [sizeMs18]; decide)) (g := 5) rfl rfl qg hP
        have g0 := Rg.pc_r hP
        have q60 : bb.tmps[60]? = some (.slice (some ⟨ga, oa, none⟩) nl cc1) := hf.tmp (k := 6) rfl (by rw [ha]; decide) (Eq.trans (hA 6 (by kernel_rfl)) (Rg.cond_t hP))
        have q61 : bb.tmps[61]? = some (.int .i64 (i : Nat)) := hf.tmp (k := 7) rfl (by rw [ha]; decide) (Eq.trans (hA 7 (by kernel_rfl)) (Rg.cond_t hP))
        have hi5 : ((i : Nat) : Int) < (nl : Int) := by omega
        exact Rg.op_value (o := ⟨some 62, Op.indexAddr 24 (Operand.tmp 60) (Operand.tmp 61), _, _, _, _⟩) (x := .pointer (some ⟨ga, oa + i, none⟩)) rfl hw (by clear hA HS hN hO ; simp only [execOp]; go_simp) ⟨_, rfl, (fun h => by cases h), (Rg.cond_t hP).symm, hI, fun _ _ _ _ h => h⟩
    · intro ll bb w' hs hlf hN hO hf hI hA
      clear hi'
      have qg : bb.tmps[59]? = some (cond true (.bool (decide (1 ≤ x))) undef) := hf.tmp (k := 5) rfl (by rw [ha]; decide) (hA 5 (by kernel_rfl))
      cases hP : (true && ((decide (1 ≤ x)) == true)) with
      | false => exact Rg.op_none (o := ⟨some 63, _, _, _, _, _⟩) rfl (Rg.unwanted_c (g := 5) rfl rfl qg hP) ⟨_, rfl, (fun h => by cases h), Rg.cond_f hP, hI, fun _ _ _ _ h => h⟩
      | true =>
        have hw := Rg.wanted_c (ops := (Rg.opsOf Try.f3 18)) (o := (Rg.opsOf Try.f3 18)[9]'(by rw [sizeMs18]; decide)) (g := 5) rfl rfl qg hP
        have g0 := Rg.pc_r hP
        have q62 : bb.tmps[62]? = some (.pointer (some ⟨ga, oa + i, none⟩)) := hf.tmp (k := 8) rfl (by rw [ha]; decide) (Eq.trans (hA 8 (by kernel_rfl)) (Rg.cond_t hP))
        have e0 := (hI.cell (p := ⟨ga, oa + i, none⟩) hga).trans u0
        exact Rg.op_value (o := ⟨some 63, Op.load 2 (Operand.tmp 62), _, _, _, _⟩) (x := .int .i64 x) rfl hw (by clear hA HS hN hO ; simp only [execOp]; go_simp) ⟨_, rfl, (fun h => by cases h), (Rg.cond_t hP).symm, hI, fun _ _ _ _ h => h⟩
    · intro ll bb w' hs hlf hN hO hf hI hA
      clear hi'
      have qg : bb.tmps[59]? = some (cond true (.bool (decide (1 ≤ x))) undef) := hf.tmp (k := 5) rfl (by rw [ha]; decide) (hA 5 (by kernel_rfl))
      cases hP : (true && ((decide (1 ≤ x)) == true)) with
      | false => exact Rg.op_none (o := ⟨some 64, _, _, _, _, _⟩) rfl (Rg.unwanted_c (g := 5) rfl rfl qg hP) ⟨_, rfl, (fun h => by cases h), Rg.cond_f hP, hI, fun _ _ _ _ h => h⟩
      | true =>
        have hw := Rg.wanted_c (ops := (Rg.opsOf Try.f3 18)) (o := (Rg.opsOf Try.f3 18)[10]'(by rw [sizeMs18]; decide)) (g := 5) rfl rfl qg hP
        have g0 := Rg.pc_r hP
        have q0 := hf.kept (s := 4) (by rw [sizeMs18]; kernel_rfl) k4
        exact Rg.op_value (o := ⟨some 64, Op.move (Operand.tmp 4), _, _, _, _⟩) (x := .int .i64 s) rfl hw (by clear hA HS hN hO ; simp only [execOp]; go_simp) ⟨_, rfl, (fun h => by cases h), (Rg.cond_t hP).symm, hI, fun _ _ _ _ h => h⟩
    · intro ll bb w' hs hlf hN hO hf hI hA
      clear hi'
      have qg : bb.tmps[59]? = some (cond true (.bool (decide (1 ≤ x))) undef) := hf.tmp (k := 5) rfl (by rw [ha]; decide) (hA 5 (by kernel_rfl))
      cases hP : (true && ((decide (1 ≤ x)) == true)) with
      | false => exact Rg.op_none (o := ⟨some 65, _, _, _, _, _⟩) rfl (Rg.unwanted_c (g := 5) rfl rfl qg hP) ⟨_, rfl, (fun h => by cases h), Rg.cond_f hP, hI, fun _ _ _ _ h => h⟩
      | true =>
        have hw := Rg.wanted_c (ops := (Rg.opsOf Try.f3 18)) (o := (Rg.opsOf Try.f3 18)[11]'(by rw [sizeMs18]; decide)) (g := 5) rfl rfl qg hP
        have g0 := Rg.pc_r hP
        have q63 : bb.tmps[63]? = some (.int .i64 x) := hf.tmp (k := 9) rfl (by rw [ha]; decide) (Eq.trans (hA 9 (by kernel_rfl)) (Rg.cond_t hP))
        have q64 : bb.tmps[64]? = some (.int .i64 s) := hf.tmp (k := 10) rfl (by rw [ha]; decide) (Eq.trans (hA 10 (by kernel_rfl)) (Rg.cond_t hP))
        exact Rg.op_value (o := ⟨some 65, Op.binOp BinOp.leq 2 (Operand.tmp 63) (Operand.tmp 64) 2, _, _, _, _⟩) (x := .bool (decide (x ≤ s))) rfl hw (by clear hA HS hN hO ; simp only [execOp]; go_simp) ⟨_, rfl, (fun h => by cases h), (Rg.cond_t hP).symm, hI, fun _ _ _ _ h => h⟩
    · intro ll bb w' hs hlf hN hO hf hI hA
      clear hi'
      have q59 : bb.tmps[59]? = some _ := hf.tmp (k := 5) rfl (by rw [ha]; decide) (hA 5 (by kernel_rfl))
      cases hC : (decide (1 ≤ x)) with
      | false =>
        have hval : ((.bool ((decide (1 ≤ x)) && (decide (x ≤ s))) : Value)) = .bool false := by rw [hC]; rfl
        exact Rg.op_value (o := ⟨some 66, Op.pick (Operand.tmp 59) (Operand.tmp 65) (Operand.const (Value.bool false)), _, _, _, _⟩) (x := .bool false) rfl rfl (by rw [hC] at q59; clear hA HS hN hO  hval; simp only [execOp]; go_simp) ⟨_, rfl, (fun h => by cases h), (by show ((.bool false : Value)) = _; exact hval.symm), hI, fun _ _ _ _ h => h⟩
      | true =>
        have hB : (true && ((decide (1 ≤ x)) == true)) = true := by rw [hC]; rfl
        have q65 : bb.tmps[65]? = some (.bool (decide (x ≤ s))) := hf.tmp (k := 11) rfl (by rw [ha]; decide) (Eq.trans (hA 11 (by kernel_rfl)) (Rg.cond_t hB))
        have hval : ((.bool ((decide (1 ≤ x)) && (decide (x ≤ s))) : Value)) = .bool (decide (x ≤ s)) := by rw [hC]; rfl
        exact Rg.op_value (o := ⟨some 66, Op.pick (Operand.tmp 59) (Operand.tmp 65) (Operand.const (Value.bool false)), _, _, _, _⟩) (x := .bool (decide (x ≤ s))) rfl rfl (by rw [hC] at q59; clear hA HS hN hO  hval; simp only [execOp]; go_simp) ⟨_, rfl, (fun h => by cases h), (by show ((.bool (decide (x ≤ s)) : Value)) = _; exact hval.symm), hI, fun _ _ _ _ h => h⟩
    · intro ll bb w' hs hlf hN hO hf hI hA
      clear hi'
      have q66 : bb.tmps[66]? = some _ := hf.tmp (k := 12) rfl (by rw [ha]; decide) (hA 12 (by kernel_rfl))
      exact Rg.op_value (o := ⟨some 67, Op.move (Operand.tmp 66), _, _, _, _⟩) (x := .bool ((decide (1 ≤ x)) && (decide (x ≤ s)))) rfl rfl (by clear hA HS hN hO ; simp only [execOp]; go_simp) ⟨_, rfl, (fun h => by cases h), rfl, hI, fun _ _ _ _ h => h⟩
    · intro ll bb w' hs hlf hN hO hf hI hA
      clear hi'
      have qg : bb.tmps[67]? = some (cond true (.bool ((decide (1 ≤ x)) && (decide (x ≤ s)))) undef) := hf.tmp (k := 13) rfl (by rw [ha]; decide) (hA 13 (by kernel_rfl))
      cases hP : (true && (((decide (1 ≤ x)) && (decide (x ≤ s))) == true)) with
      | false => exact Rg.op_none (o := ⟨some 68, _, _, _, _, _⟩) rfl (Rg.unwanted_c (g := 13) rfl rfl qg hP) ⟨_, rfl, (fun h => by cases h), Rg.cond_f hP, hI, fun _ _ _ _ h => h⟩
      | true =>
        have hw := Rg.wanted_c (ops := (Rg.opsOf Try.f3 18)) (o := (Rg.opsOf Try.f3 18)[14]'(by rw [sizeMs18]; decide)) (g := 13) rfl rfl qg hP
        have g0 := Rg.pc_r hP
        have q0 := hf.kept (s := 5) (by rw [sizeMs18]; kernel_rfl) k5
        exact Rg.op_value (o := ⟨some 68, Op.move (Operand.tmp 5), _, _, _, _⟩) (x := .slice (some ⟨gb, ob, none⟩) nm cc2) rfl hw (by clear hA HS hN hO ; simp only [execOp]; go_simp) ⟨_, rfl, (fun h => by cases h), (Rg.cond_t hP).symm, hI, fun _ _ _ _ h => h⟩
    · intro ll bb w' hs hlf hN hO hf hI hA
      clear hi'
      have qg : bb.tmps[67]? = some (cond true (.bool ((decide (1 ≤ x)) && (decide (x ≤ s)))) undef) := hf.tmp (k := 13) rfl (by rw [ha]; decide) (hA 13 (by kernel_rfl))
      cases hP : (true && (((decide (1 ≤ x)) && (decide (x ≤ s))) == true)) with
      | false => exact Rg.op_none (o := ⟨some 69, _, _, _, _, _⟩) rfl (Rg.unwanted_c (g := 13) rfl rfl qg hP) ⟨_, rfl, (fun h => by cases h), Rg.cond_f hP, hI, fun _ _ _ _ h => h⟩
      | true =>
        have hw := Rg.wanted_c (ops := (Rg.opsOf Try.f3 18)) (o := (Rg.opsOf Try.f3 18)[15]'(by rw [sizeMs18]; decide)) (g := 13) rfl rfl qg hP
        have g0 := Rg.pc_r hP
        have q0 := hf.kept (s := 9) (by rw [sizeMs18]; kernel_rfl) k9
        exact Rg.op_value (o := ⟨some 69, Op.move (Operand.tmp 9), _, _, _, _⟩) (x := .int .i64 (i : Nat)) rfl hw (by clear hA HS hN hO ; simp only [execOp]; go_simp) ⟨_, rfl, (fun h => by cases h), (Rg.cond_t hP).symm, hI, fun _ _ _ _ h => h⟩
    · intro ll bb w' hs hlf hN hO hf hI hA
      clear hi'
      have qg : bb.tmps[67]? = some (cond true (.bool ((decide (1 ≤ x)) && (decide (x ≤ s)))) undef) := hf.tmp (k := 13) rfl (by rw [ha]; decide) (hA 13 (by kernel_rfl))
      cases hP : (true && (((decide (1 ≤ x)) && (decide (x ≤ s))) == true)) with
      | false => exact Rg.op_none (o := ⟨some 70, _, _, _, _, _⟩) rfl (Rg.unwanted_c (g := 13) rfl rfl qg hP) ⟨_, rfl, (fun h => by cases h), Rg.cond_f hP, hI, fun _ _ _ _ h => h⟩
      | true =>
        have hw := Rg.wanted_c (ops := (Rg.opsOf Try.f3 18)) (o := (Rg.opsOf Try.f3 18)[16]'(by rw [sizeMs18]; decide)) (g := 13) rfl rfl qg hP
        have g0 := Rg.pc_r hP
        have q68 : bb.tmps[68]? = some (.slice (some ⟨gb, ob, none⟩) nm cc2) := hf.tmp (k := 14) rfl (by rw [ha]; decide) (Eq.trans (hA 14 (by kernel_rfl)) (Rg.cond_t hP))
        have q69 : bb.tmps[69]? = some (.int .i64 (i : Nat)) := hf.tmp (k := 15) rfl (by rw [ha]; decide) (Eq.trans (hA 15 (by kernel_rfl)) (Rg.cond_t hP))
        have hi6 : ((i : Nat) : Int) < (nm : Int) := by omega
        exact Rg.op_value (o := ⟨some 70, Op.indexAddr 24 (Operand.tmp 68) (Operand.tmp 69), _, _, _, _⟩) (x := .pointer (some ⟨gb, ob + i, none⟩)) rfl hw (by clear hA HS hN hO ; simp only [execOp]; go_simp) ⟨_, rfl, (fun h => by cases h), (Rg.cond_t hP).symm, hI, fun _ _ _ _ h => h⟩
    · intro ll bb w' hs hlf hN hO hf hI hA
      clear hi'
      have qg : bb.tmps[67]? = some (cond true (.bool ((decide (1 ≤ x)) && (decide (x ≤ s)))) undef) := hf.tmp (k := 13) rfl (by rw [ha]; decide) (hA 13 (by kernel_rfl))
      cases hP : (true && (((decide (1 ≤ x)) && (decide (x ≤ s))) == true)) with
      | false => exact Rg.op_none (o := ⟨some 71, _, _, _, _, _⟩) rfl (Rg.unwanted_c (g := 13) rfl rfl qg hP) ⟨_, rfl, (fun h => by cases h), Rg.cond_f hP, hI, fun _ _ _ _ h => h⟩
      | true =>
        have hw := Rg.wanted_c (ops := (Rg.opsOf Try.f3 18)) (o := (Rg.opsOf Try.f3 18)[17]'(by rw [sizeMs18]; decide)) (g := 13) rfl rfl qg hP
        have g0 := Rg.pc_r hP
        have q70 : bb.tmps[70]? = some (.pointer (some ⟨gb, ob + i, none⟩)) := hf.tmp (k := 16) rfl (by rw [ha]; decide) (Eq.trans (hA 16 (by kernel_rfl)) (Rg.cond_t hP))
        have f0 := (hI.cell (p := ⟨gb, ob + i, none⟩) hgb).trans v0
        exact Rg.op_value (o := ⟨some 71, Op.load 2 (Operand.tmp 70), _, _, _, _⟩) (x := .int .i64 y) rfl hw (by clear hA HS hN hO ; simp only [execOp]; go_simp) ⟨_, rfl, (fun h => by cases h), (Rg.cond_t hP).symm, hI, fun _ _ _ _ h => h⟩
    · intro ll bb w' hs hlf hN hO hf hI hA
      clear hi'
      have qg : bb.tmps[67]? = some (cond true (.bool ((decide (1 ≤ x)) && (decide (x ≤ s)))) undef) := hf.tmp (k := 13) rfl (by rw [ha]; decide) (hA 13 (by kernel_rfl))
      cases hP : (true && (((decide (1 ≤ x)) && (decide (x ≤ s))) == true)) with
      | false => exact Rg.op_none (o := ⟨some 72, _, _, _, _, _⟩) rfl (Rg.unwanted_c (g := 13) rfl rfl qg hP) ⟨_, rfl, (fun h => by cases h), Rg.cond_f hP, hI, fun _ _ _ _ h => h⟩
      | true =>
        have hw := Rg.wanted_c (ops := (Rg.opsOf Try.f3 18)) (o := (Rg.opsOf Try.f3 18)[18]'(by rw [sizeMs18]; decide)) (g := 13) rfl rfl qg hP
        have g0 := Rg.pc_r hP
        have q71 : bb.tmps[71]? = some (.int .i64 y) := hf.tmp (k := 17) rfl (by rw [ha]; decide) (Eq.trans (hA 17 (by kernel_rfl)) (Rg.cond_t hP))
        exact Rg.op_value (o := ⟨some 72, Op.binOp BinOp.neq 2 (Operand.tmp 71) (Operand.const (Value.int IntKind.i64 (-1))) 2, _, _, _, _⟩) (x := .bool (y != -1)) rfl hw (by clear hA HS hN hO ; simp only [execOp]; go_simp) ⟨_, rfl, (fun h => by cases h), (Rg.cond_t hP).symm, hI, fun _ _ _ _ h => h⟩
    · intro ll bb w' hs hlf hN hO hf hI hA
      clear hi'
      have q67 : bb.tmps[67]? = some _ := hf.tmp (k := 13) rfl (by rw [ha]; decide) (hA 13 (by kernel_rfl))
      cases hC : ((decide (1 ≤ x)) && (decide (x ≤ s))) with
      | false =>
        have hval : ((.bool (((decide (1 ≤ x)) && (decide (x ≤ s))) && (y != -1)) : Value)) = .bool false := by rw [hC]; rfl
        exact Rg.op_value (o := ⟨some 73, Op.pick (Operand.tmp 67) (Operand.tmp 72) (Operand.const (Value.bool false)), _, _, _, _⟩) (x := .bool false) rfl rfl (by rw [hC] at q67; clear hA HS hN hO  hval; simp only [execOp]; go_simp) ⟨_, rfl, (fun h => by cases h), (by show ((.bool false : Value)) = _; exact hval.symm), hI, fun _ _ _ _ h => h⟩
      | true =>
        have hB : (true && (((decide (1 ≤ x)) && (decide (x ≤ s))) == true)) = true := by rw [hC]; rfl
        have q72 : bb.tmps[72]? = some (.bool (y != -1)) := hf.tmp (k := 18) rfl (by rw [ha]; decide) (Eq.trans (hA 18 (by kernel_rfl)) (Rg.cond_t hB))
        have hval : ((.bool (((decide (1 ≤ x)) && (decide (x ≤ s))) && (y != -1)) : Value)) = .bool (y != -1) := by rw [hC]; rfl
        exact Rg.op_value (o := ⟨some 73, Op.pick (Operand.tmp 67) (Operand.tmp 72) (Operand.const (Value.bool false)), _, _, _, _⟩) (x := .bool (y != -1)) rfl rfl (by rw [hC] at q67; clear hA HS hN hO  hval; simp only [execOp]; go_simp) ⟨_, rfl, (fun h => by cases h), (by show ((.bool (y != -1) : Value)) = _; exact hval.symm), hI, fun _ _ _ _ h => h⟩
    · intro ll bb w' hs hlf hN hO hf hI hA
      clear hi'
      have q73 : bb.tmps[73]? = some _ := hf.tmp (k := 19) rfl (by rw [ha]; decide) (hA 19 (by kernel_rfl))
      exact Rg.op_value (o := ⟨some 74, Op.move (Operand.tmp 73), _, _, _, _⟩) (x := .bool (((decide (1 ≤ x)) && (decide (x ≤ s))) && (y != -1))) rfl rfl (by clear hA HS hN hO ; simp only [execOp]; go_simp) ⟨_, rfl, (fun h => by cases h), rfl, hI, fun _ _ _ _ h => h⟩
    · intro ll bb w' hs hlf hN hO hf hI hA
      clear hi'
      have qg : bb.tmps[74]? = some (cond true (.bool (((decide (1 ≤ x)) && (decide (x ≤ s))) && (y != -1))) undef) := hf.tmp (k := 20) rfl (by rw [ha]; decide) (hA 20 (by kernel_rfl))
      cases hP : (true && ((((decide (1 ≤ x)) && (decide (x ≤ s))) && (y != -1)) == false)) with
      | false => exact Rg.op_none (o := ⟨some 75, _, _, _, _, _⟩) rfl (Rg.unwanted_c (g := 20) rfl rfl qg hP) ⟨_, rfl, (fun h => by cases h), Rg.cond_f hP, hI, fun _ _ _ _ h => h⟩
      | true =>
        have hw := Rg.wanted_c (ops := (Rg.opsOf Try.f3 18)) (o := (Rg.opsOf Try.f3 18)[21]'(by rw [sizeMs18]; decide)) (g := 20) rfl rfl qg hP
        have g0 := Rg.pc_r hP
        have q0 := hf.kept (s := 5) (by rw [sizeMs18]; kernel_rfl) k5
        exact Rg.op_value (o := ⟨some 75, Op.move (Operand.tmp 5), _, _, _, _⟩) (x := .slice (some ⟨gb, ob, none⟩) nm cc2) rfl hw (by clear hA HS hN hO ; simp only [execOp]; go_simp) ⟨_, rfl, (fun h => by cases h), (Rg.cond_t hP).symm, hI, fun _ _ _ _ h => h⟩
    · intro ll bb w' hs hlf hN hO hf hI hA
      clear hi'
      have qg : bb.tmps[74]? = some (cond true (.bool (((decide (1 ≤ x)) && (decide (x ≤ s))) && (y != -1))) undef) := hf.tmp (k := 20) rfl (by rw [ha]; decide) (hA 20 (by kernel_rfl))
      cases hP : (true && ((((decide (1 ≤ x)) && (decide (x ≤ s))) && (y != -1)) == false)) with
      | false => exact Rg.op_none (o := ⟨some 76, _, _, _, _, _⟩) rfl (Rg.unwanted_c (g := 20) rfl rfl qg hP) ⟨_, rfl, (fun h => by cases h), Rg.cond_f hP, hI, fun _ _ _ _ h => h⟩
      | true =>
        have hw := Rg.wanted_c (ops := (Rg.opsOf Try.f3 18)) (o := (Rg.opsOf Try.f3 18)[22]'(by rw [sizeMs18]; decide)) (g := 20) rfl rfl qg hP
        have g0 := Rg.pc_r hP
        have q0 := hf.kept (s := 9) (by rw [sizeMs18]; kernel_rfl) k9
        exact Rg.op_value (o := ⟨some 76, Op.move (Operand.tmp 9), _, _, _, _⟩) (x := .int .i64 (i : Nat)) rfl hw (by clear hA HS hN hO ; simp only [execOp]; go_simp) ⟨_, rfl, (fun h => by cases h), (Rg.cond_t hP).symm, hI, fun _ _ _ _ h => h⟩
    · intro ll bb w' hs hlf hN hO hf hI hA
      clear hi'
      have qg : bb.tmps[74]? = some (cond true (.bool (((decide (1 ≤ x)) && (decide (x ≤ s))) && (y != -1))) undef) := hf.tmp (k := 20) rfl (by rw [ha]; decide) (hA 20 (by kernel_rfl))
      cases hP : (true && ((((decide (1 ≤ x)) && (decide (x ≤ s))) && (y != -1)) == false)) with
      | false => exact Rg.op_none (o := ⟨some 77, _, _, _, _, _⟩) rfl (Rg.unwanted_c (g := 20) rfl rfl qg hP) ⟨_, rfl, (fun h => by cases h), Rg.cond_f hP, hI, fun _ _ _ _ h => h⟩
      | true =>
        have hw := Rg.wanted_c (ops := (Rg.opsOf Try.f3 18)) (o := (Rg.opsOf Try.f3 18)[23]'(by rw [sizeMs18]; decide)) (g := 20) rfl rfl qg hP
        have g0 := Rg.pc_r hP
        have q75 : bb.tmps[75]? = some (.slice (some ⟨gb, ob, none⟩) nm cc2) := hf.tmp (k := 21) rfl (by rw [ha]; decide) (Eq.trans (hA 21 (by kernel_rfl)) (Rg.cond_t hP))
        have q76 : bb.tmps[76]? = some (.int .i64 (i : Nat)) := hf.tmp (k := 22) rfl (by rw [ha]; decide) (Eq.trans (hA 22 (by kernel_rfl)) (Rg.cond_t hP))
        have hi6 : ((i : Nat) : Int) < (nm : Int) := by omega
        exact Rg.op_value (o := ⟨some 77, Op.indexAddr 24 (Operand.tmp 75) (Operand.tmp 76), _, _, _, _⟩) (x := .pointer (some ⟨gb, ob + i, none⟩)) rfl hw (by clear hA HS hN hO ; simp only [execOp]; go_simp) ⟨_, rfl, (fun h => by cases h), (Rg.cond_t hP).symm, hI, fun _ _ _ _ h => h⟩
    · intro ll bb w' hs hlf hN hO hf hI hA
      clear hi'
      have qg : bb.tmps[74]? = some (cond true (.bool (((decide (1 ≤ x)) && (decide (x ≤ s))) && (y != -1))) undef) := hf.tmp (k := 20) rfl (by rw [ha]; decide) (hA 20 (by kernel_rfl))
      cases hP : (true && ((((decide (1 ≤ x)) && (decide (x ≤ s))) && (y != -1)) == false)) with
      | false => exact Rg.op_none (o := ⟨some 78, _, _, _, _, _⟩) rfl (Rg.unwanted_c (g := 20) rfl rfl qg hP) ⟨_, rfl, (fun h => by cases h), Rg.cond_f hP, hI, fun _ _ _ _ h => h⟩
      | true =>
        have hw := Rg.wanted_c (ops := (Rg.opsOf Try.f3 18)) (o := (Rg.opsOf Try.f3 18)[24]'(by rw [sizeMs18]; decide)) (g := 20) rfl rfl qg hP
        have g0 := Rg.pc_r hP
        have q77 : bb.tmps[77]? = some (.pointer (some ⟨gb, ob + i, none⟩)) := hf.tmp (k := 23) rfl (by rw [ha]; decide) (Eq.trans (hA 23 (by kernel_rfl)) (Rg.cond_t hP))
        have f0 := (hI.cell (p := ⟨gb, ob + i, none⟩) hgb).trans v0
        exact Rg.op_value (o := ⟨some 78, Op.load 2 (Operand.tmp 77), _, _, _, _⟩) (x := .int .i64 y) rfl hw (by clear hA HS hN hO ; simp only [execOp]; go_simp) ⟨_, rfl, (fun h => by cases h), (Rg.cond_t hP).symm, hI, fun _ _ _ _ h => h⟩
    · intro ll bb w' hs hlf hN hO hf hI hA
      clear hi'
      have qg : bb.tmps[74]? = some (cond true (.bool (((decide (1 ≤ x)) && (decide (x ≤ s))) && (y != -1))) undef) := hf.tmp (k := 20) rfl (by rw [ha]; decide) (hA 20 (by kernel_rfl))
      cases hP : (true && ((((decide (1 ≤ x)) && (decide (x ≤ s))) && (y != -1)) == false)) with
      | false => exact Rg.op_none (o := ⟨some 79, _, _, _, _, _⟩) rfl (Rg.unwanted_c (g := 20) rfl rfl qg hP) ⟨_, rfl, (fun h => by cases h), Rg.cond_f hP, hI, fun _ _ _ _ h => h⟩
      | true =>
        have hw := Rg.wanted_c (ops := (Rg.opsOf Try.f3 18)) (o := (Rg.opsOf Try.f3 18)[25]'(by rw [sizeMs18]; decide)) (g := 20) rfl rfl qg hP
        have g0 := Rg.pc_r hP
        have q78 : bb.tmps[78]? = some (.int .i64 y) := hf.tmp (k := 24) rfl (by rw [ha]; decide) (Eq.trans (hA 24 (by kernel_rfl)) (Rg.cond_t hP))
        exact Rg.op_value (o := ⟨some 79, Op.binOp BinOp.neq 2 (Operand.tmp 78) (Operand.const (Value.int IntKind.i64 (-1))) 2, _, _, _, _⟩) (x := .bool (y != -1)) rfl hw (by clear hA HS hN hO ; simp only [execOp]; go_simp) ⟨_, rfl, (fun h => by cases h), (Rg.cond_t hP).symm, hI, fun _ _ _ _ h => h⟩
    · intro ll bb w' hs hlf hN hO hf hI hA
      clear hi'
      have qg : bb.tmps[74]? = some (cond true (.bool (((decide (1 ≤ x)) && (decide (x ≤ s))) && (y != -1))) undef) := hf.tmp (k := 20) rfl (by rw [ha]; decide) (hA 20 (by kernel_rfl))
      cases hP : (true && ((((decide (1 ≤ x)) && (decide (x ≤ s))) && (y != -1)) == false)) with
      | false => exact Rg.op_none (o := ⟨some 80, _, _, _, _, _⟩) rfl (Rg.unwanted_c (g := 20) rfl rfl qg hP) ⟨_, rfl, (fun h => by cases h), Rg.cond_f hP, hI, fun _ _ _ _ h => h⟩
      | true =>
        have hw := Rg.wanted_c (ops := (Rg.opsOf Try.f3 18)) (o := (Rg.opsOf Try.f3 18)[26]'(by rw [sizeMs18]; decide)) (g := 20) rfl rfl qg hP
        have g0 := Rg.pc_r hP
        have q79 : bb.tmps[79]? = some (.bool (y != -1)) := hf.tmp (k := 25) rfl (by rw [ha]; decide) (Eq.trans (hA 25 (by kernel_rfl)) (Rg.cond_t hP))
        exact Rg.op_value (o := ⟨some 80, Op.move (Operand.tmp 79), _, _, _, _⟩) (x := .bool (y != -1)) rfl hw (by clear hA HS hN hO ; simp only [execOp]; go_simp) ⟨_, rfl, (fun h => by cases h), (Rg.cond_t hP).symm, hI, fun _ _ _ _ h => h⟩
    · intro ll bb w' hs hlf hN hO hf hI hA
      clear hi'
      have qg : bb.tmps[80]? = some (cond (true && ((((decide (1 ≤ x)) && (decide (x ≤ s))) && (y != -1)) == false)) (.bool (y != -1)) undef) := hf.tmp (k := 26) rfl (by rw [ha]; decide) (hA 26 (by kernel_rfl))
      cases hP : ((true && ((((decide (1 ≤ x)) && (decide (x ≤ s))) && (y != -1)) == false)) && ((y != -1) == true)) with
      | false => exact Rg.op_none (o := ⟨some 81, _, _, _, _, _⟩) rfl (Rg.unwanted_c (g := 26) rfl rfl qg hP) ⟨_, rfl, (fun h => by cases h), Rg.cond_f hP, hI, fun _ _ _ _ h => h⟩
      | true =>
        have hw := Rg.wanted_c (ops := (Rg.opsOf Try.f3 18)) (o := (Rg.opsOf Try.f3 18)[27]'(by rw [sizeMs18]; decide)) (g := 26) rfl rfl qg hP
        have g1 := Rg.pc_r hP
        have p1 := Rg.pc_l hP
        have g0 := Rg.pc_r p1
        have q0 := hf.kept (s := 5) (by rw [sizeMs18]; kernel_rfl) k5
        exact Rg.op_value (o := ⟨some 81, Op.move (Operand.tmp 5), _, _, _, _⟩) (x := .slice (some ⟨gb, ob, none⟩) nm cc2) rfl hw (by clear hA HS hN hO ; simp only [execOp]; go_simp) ⟨_, rfl, (fun h => by cases h), (Rg.cond_t hP).symm, hI, fun _ _ _ _ h => h⟩
    · intro ll bb w' hs hlf hN hO hf hI hA
      clear hi'
      have qg : bb.tmps[80]? = some (cond (true && ((((decide (1 ≤ x)) && (decide (x ≤ s))) && (y != -1)) == false)) (.bool (y != -1)) undef) := hf.tmp (k := 26) rfl (by rw [ha]; decide) (hA 26 (by kernel_rfl))
      cases hP : ((true && ((((decide (1 ≤ x)) && (decide (x ≤ s))) && (y != -1)) == false)) && ((y != -1) == true)) with
      | false => exact Rg.op_none (o := ⟨some 82, _, _, _, _, _⟩) rfl (Rg.unwanted_c (g := 26) rfl rfl qg hP) ⟨_, rfl, (fun h => by cases h), Rg.cond_f hP, hI, fun _ _ _ _ h => h⟩
      | true =>
        have hw := Rg.wanted_c (ops := (Rg.opsOf Try.f3 18)) (o := (Rg.opsOf Try.f3 18)[28]'(by rw [sizeMs18]; decide)) (g := 26) rfl rfl qg hP
        have g1 := Rg.pc_r hP
        have p1 := Rg.pc_l hP
        have g0 := Rg.pc_r p1
        have q0 := hf.kept (s := 9) (by rw [sizeMs18]; kernel_rfl) k9
        exact Rg.op_value (o := ⟨some 82, Op.move (Operand.tmp 9), _, _, _, _⟩) (x := .int .i64 (i : Nat)) rfl hw (by clear hA HS hN hO ; simp only [execOp]; go_simp) ⟨_, rfl, (fun h => by cases h), (Rg.cond_t hP).symm, hI, fun _ _ _ _ h => h⟩
    · intro ll bb w' hs hlf hN hO hf hI hA
      clear hi'
      have qg : bb.tmps[80]? = some (cond (true && ((((decide (1 ≤ x)) && (decide (x ≤ s))) && (y != -1)) == false)) (.bool (y != -1)) undef) := hf.tmp (k := 26) rfl (by rw [ha]; decide) (hA 26 (by kernel_rfl))
      cases hP : ((true && ((((decide (1 ≤ x)) && (decide (x ≤ s))) && (y != -1)) == false)) && ((y != -1) == true)) with
      | false => exact Rg.op_none (o := ⟨some 83, _, _, _, _, _⟩) rfl (Rg.unwanted_c (g := 26) rfl rfl qg hP) ⟨_, rfl, (fun h => by cases h), Rg.cond_f hP, hI, fun _ _ _ _ h => h⟩
      | true =>
        have hw := Rg.wanted_c (ops := (Rg.opsOf Try.f3 18)) (o := (Rg.opsOf Try.f3 18)[29]'(by rw [sizeMs18]; decide)) (g := 26) rfl rfl qg hP
        have g1 := Rg.pc_r hP
        have p1 := Rg.pc_l hP
        have g0 := Rg.pc_r p1
        have q81 : bb.tmps[81]? = some (.slice (some ⟨gb, ob, none⟩) nm cc2) := hf.tmp (k := 27) rfl (by rw [ha]; decide) (Eq.trans (hA 27 (by kernel_rfl)) (Rg.cond_t hP))
        have q82 : bb.tmps[82]? = some (.int .i64 (i : Nat)) := hf.tmp (k := 28) rfl (by rw [ha]; decide) (Eq.trans (hA 28 (by kernel_rfl)) (Rg.cond_t hP))
        have hi6 : ((i : Nat) : Int) < (nm : Int) := by omega
        exact Rg.op_value (o := ⟨some 83, Op.indexAddr 24 (Operand.tmp 81) (Operand.tmp 82), _, _, _, _⟩) (x := .pointer (some ⟨gb, ob + i, none⟩)) rfl hw (by clear hA HS hN hO ; simp only [execOp]; go_simp) ⟨_, rfl, (fun h => by cases h), (Rg.cond_t hP).symm, hI, fun _ _ _ _ h => h⟩
    · intro ll bb w' hs hlf hN hO hf hI hA
      clear hi'
      have qg : bb.tmps[80]? = some (cond (true && ((((decide (1 ≤ x)) && (decide (x ≤ s))) && (y != -1)) == false)) (.bool (y != -1)) undef) := hf.tmp (k := 26) rfl (by rw [ha]; decide) (hA 26 (by kernel_rfl))
      cases hP : ((true && ((((decide (1 ≤ x)) && (decide (x ≤ s))) && (y != -1)) == false)) && ((y != -1) == true)) with
      | false => exact Rg.op_none (o := ⟨some 84, _, _, _, _, _⟩) rfl (Rg.unwanted_c (g := 26) rfl rfl qg hP) ⟨_, rfl, (fun h => by cases h), Rg.cond_f hP, hI, fun _ _ _ _ h => h⟩
      | true =>
        have hw := Rg.wanted_c (ops := (Rg.opsOf Try.f3 18)) (o := (Rg.opsOf Try.f3 18)[30]'(by rw [sizeMs18]; decide)) (g := 26) rfl rfl qg hP
        have g1 := Rg.pc_r hP
        have p1 := Rg.pc_l hP
        have g0 := Rg.pc_r p1
        have q83 : bb.tmps[83]? = some (.pointer (some ⟨gb, ob + i, none⟩)) := hf.tmp (k := 29) rfl (by rw [ha]; decide) (Eq.trans (hA 29 (by kernel_rfl)) (Rg.cond_t hP))
        have f0 := (hI.cell (p := ⟨gb, ob + i, none⟩) hgb).trans v0
        exact Rg.op_value (o := ⟨some 84, Op.load 2 (Operand.tmp 83), _, _, _, _⟩) (x := .int .i64 y) rfl hw (by clear hA HS hN hO ; simp only [execOp]; go_simp) ⟨_, rfl, (fun h => by cases h), (Rg.cond_t hP).symm, hI, fun _ _ _ _ h => h⟩
    · intro ll bb w' hs hlf hN hO hf hI hA
      clear hi'
      have qg : bb.tmps[80]? = some (cond (true && ((((decide (1 ≤ x)) && (decide (x ≤ s))) && (y != -1)) == false)) (.bool (y != -1)) undef) := hf.tmp (k := 26) rfl (by rw [ha]; decide) (hA 26 (by kernel_rfl))
      cases hP : ((true && ((((decide (1 ≤ x)) && (decide (x ≤ s))) && (y != -1)) == false)) && ((y != -1) == true)) with
      | false => exact Rg.op_none (o := ⟨some 85, _, _, _, _, _⟩) rfl (Rg.unwanted_c (g := 26) rfl rfl qg hP) ⟨_, rfl, (fun h => by cases h), Rg.cond_f hP, hI, fun _ _ _ _ h => h⟩
      | true =>
        have hw := Rg.wanted_c (ops := (Rg.opsOf Try.f3 18)) (o := (Rg.opsOf Try.f3 18)[31]'(by rw [sizeMs18]; decide)) (g := 26) rfl rfl qg hP
        have g1 := Rg.pc_r hP
        have p1 := Rg.pc_l hP
        have g0 := Rg.pc_r p1
        have q0 := hf.kept (s := 3) (by rw [sizeMs18]; kernel_rfl) k3
        exact Rg.op_value (o := ⟨some 85, Op.move (Operand.tmp 3), _, _, _, _⟩) (x := .slice (some ⟨ga, oa, none⟩) nl cc1) rfl hw (by clear hA HS hN hO ; simp only [execOp]; go_simp) ⟨_, rfl, (fun h => by cases h), (Rg.cond_t hP).symm, hI, fun _ _ _ _ h => h⟩
    · intro ll bb w' hs hlf hN hO hf hI hA
      clear hi'
      have qg : bb.tmps[80]? = some (cond (true && ((((decide (1 ≤ x)) && (decide (x ≤ s))) && (y != -1)) == false)) (.bool (y != -1)) undef) := hf.tmp (k := 26) rfl (by rw [ha]; decide) (hA 26 (by kernel_rfl))
      cases hP : ((true && ((((decide (1 ≤ x)) && (decide (x ≤ s))) && (y != -1)) == false)) && ((y != -1) == true)) with
      | false => exact Rg.op_none (o := ⟨some 86, _, _, _, _, _⟩) rfl (Rg.unwanted_c (g := 26) rfl rfl qg hP) ⟨_, rfl, (fun h => by cases h), Rg.cond_f hP, hI, fun _ _ _ _ h => h⟩
      | true =>
        have hw := Rg.wanted_c (ops := (Rg.opsOf Try.f3 18)) (o := (Rg.opsOf Try.f3 18)[32]'(by rw [sizeMs18]; decide)) (g := 26) rfl rfl qg hP
        have g1 := Rg.pc_r hP
        have p1 := Rg.pc_l hP
        have g0 := Rg.pc_r p1
        have q0 := hf.kept (s := 9) (by rw [sizeMs18]; kernel_rfl) k9
        exact Rg.op_value (o := ⟨some 86, Op.move (Operand.tmp 9), _, _, _, _⟩) (x := .int .i64 (i : Nat)) rfl hw (by clear hA HS hN hO ; simp only [execOp]; go_simp) ⟨_, rfl, (fun h => by cases h), (Rg.cond_t hP).symm, hI, fun _ _ _ _ h => h⟩
    · intro ll bb w' hs hlf hN hO hf hI hA
      clear hi'
      have qg : bb.tmps[80]? = some (cond (true && ((((decide (1 ≤ x)) && (decide (x ≤ s))) && (y != -1)) == false)) (.bool (y != -1)) undef) := hf.tmp (k := 26) rfl (by rw [ha]; decide) (hA 26 (by kernel_rfl))
      cases hP : ((true && ((((decide (1 ≤ x)) && (decide (x ≤ s))) && (y != -1)) == false)) && ((y != -1) == true)) with
      | false => exact Rg.op_none (o := ⟨some 87, _, _, _, _, _⟩) rfl (Rg.unwanted_c (g := 26) rfl rfl qg hP) ⟨_, rfl, (fun h => by cases h), Rg.cond_f hP, hI, fun _ _ _ _ h => h⟩
      | true =>
        have hw := Rg.wanted_c (ops := (Rg.opsOf Try.f3 18)) (o := (Rg.opsOf Try.f3 18)[33]'(by rw [sizeMs18]; decide)) (g := 26) rfl rfl qg hP
        have g1 := Rg.pc_r hP
        have p1 := Rg.pc_l hP
        have g0 := Rg.pc_r p1
        have q85 : bb.tmps[85]? = some (.slice (some ⟨ga, oa, none⟩) nl cc1) := hf.tmp (k := 31) rfl (by rw [ha]; decide) (Eq.trans (hA 31 (by kernel_rfl)) (Rg.cond_t hP))
        have q86 : bb.tmps[86]? = some (.int .i64 (i : Nat)) := hf.tmp (k := 32) rfl (by rw [ha]; decide) (Eq.trans (hA 32 (by kernel_rfl)) (Rg.cond_t hP))
        have hi5 : ((i : Nat) : Int) < (nl : Int) := by omega
        exact Rg.op_value (o := ⟨some 87, Op.indexAddr 24 (Operand.tmp 85) (Operand.tmp 86), _, _, _, _⟩) (x := .pointer (some ⟨ga, oa + i, none⟩)) rfl hw (by clear hA HS hN hO ; simp only [execOp]; go_simp) ⟨_, rfl, (fun h => by cases h), (Rg.cond_t hP).symm, hI, fun _ _ _ _ h => h⟩
    · intro ll bb w' hs hlf hN hO hf hI hA
      clear hi'
      have qg : bb.tmps[80]? = some (cond (true && ((((decide (1 ≤ x)) && (decide (x ≤ s))) && (y != -1)) == false)) (.bool (y != -1)) undef) := hf.tmp (k := 26) rfl (by rw [ha]; decide) (hA 26 (by kernel_rfl))
      cases hP : ((true && ((((decide (1 ≤ x)) && (decide (x ≤ s))) && (y != -1)) == false)) && ((y != -1) == true)) with
      | false => exact Rg.op_none (o := ⟨some 88, _, _, _, _, _⟩) rfl (Rg.unwanted_c (g := 26) rfl rfl qg hP) ⟨_, rfl, (fun h => by cases h), Rg.cond_f hP, hI, fun _ _ _ _ h => h⟩
      | true =>
        have hw := Rg.wanted_c (ops := (Rg.opsOf Try.f3 18)) (o := (Rg.opsOf Try.f3 18)[34]'(by rw [sizeMs18]; decide)) (g := 26) rfl rfl qg hP
        have g1 := Rg.pc_r hP
        have p1 := Rg.pc_l hP
        have g0 := Rg.pc_r p1
        have q87 : bb.tmps[87]? = some (.pointer (some ⟨ga, oa + i, none⟩)) := hf.tmp (k := 33) rfl (by rw [ha]; decide) (Eq.trans (hA 33 (by kernel_rfl)) (Rg.cond_t hP))
        have e0 := (hI.cell (p := ⟨ga, oa + i, none⟩) hga).trans u0
        exact Rg.op_value (o := ⟨some 88, Op.load 2 (Operand.tmp 87), _, _, _, _⟩) (x := .int .i64 x) rfl hw (by clear hA HS hN hO ; simp only [execOp]; go_simp) ⟨_, rfl, (fun h => by cases h), (Rg.cond_t hP).symm, hI, fun _ _ _ _ h => h⟩
    · intro ll bb w' hs hlf hN hO hf hI hA
      clear hi'
      have qg : bb.tmps[80]? = some (cond (true && ((((decide (1 ≤ x)) && (decide (x ≤ s))) && (y != -1)) == false)) (.bool (y != -1)) undef) := hf.tmp (k := 26) rfl (by rw [ha]; decide) (hA 26 (by kernel_rfl))
      cases hP : ((true && ((((decide (1 ≤ x)) && (decide (x ≤ s))) && (y != -1)) == false)) && ((y != -1) == true)) with
      | false => exact Rg.op_none (o := ⟨some 89, _, _, _, _, _⟩) rfl (Rg.unwanted_c (g := 26) rfl rfl qg hP) ⟨_, rfl, (fun h => by cases h), Rg.cond_f hP, hI, fun _ _ _ _ h => h⟩
      | true =>
        have hw := Rg.wanted_c (ops := (Rg.opsOf Try.f3 18)) (o := (Rg.opsOf Try.f3 18)[35]'(by rw [sizeMs18]; decide)) (g := 26) rfl rfl qg hP
        have g1 := Rg.pc_r hP
        have p1 := Rg.pc_l hP
        have g0 := Rg.pc_r p1
        have q84 : bb.tmps[84]? = some (.int .i64 y) := hf.tmp (k := 30) rfl (by rw [ha]; decide) (Eq.trans (hA 30 (by kernel_rfl)) (Rg.cond_t hP))
        have q88 : bb.tmps[88]? = some (.int .i64 x) := hf.tmp (k := 34) rfl (by rw [ha]; decide) (Eq.trans (hA 34 (by kernel_rfl)) (Rg.cond_t hP))
        exact Rg.op_value (o := ⟨some 89, Op.binOp BinOp.neq 2 (Operand.tmp 84) (Operand.tmp 88) 2, _, _, _, _⟩) (x := .bool (y != x)) rfl hw (by clear hA HS hN hO ; simp only [execOp]; go_simp) ⟨_, rfl, (fun h => by cases h), (Rg.cond_t hP).symm, hI, fun _ _ _ _ h => h⟩
    · intro ll bb w' hs hlf hN hO hf hI hA
      clear hi'
      have qg : bb.tmps[74]? = some (cond true (.bool (((decide (1 ≤ x)) && (decide (x ≤ s))) && (y != -1))) undef) := hf.tmp (k := 20) rfl (by rw [ha]; decide) (hA 20 (by kernel_rfl))
      cases hP : (true && ((((decide (1 ≤ x)) && (decide (x ≤ s))) && (y != -1)) == false)) with
      | false => exact Rg.op_none (o := ⟨some 90, _, _, _, _, _⟩) rfl (Rg.unwanted_c (g := 20) rfl rfl qg hP) ⟨_, rfl, (fun h => by cases h), Rg.cond_f hP, hI, fun _ _ _ _ h => h⟩
      | true =>
        have hw := Rg.wanted_c (ops := (Rg.opsOf Try.f3 18)) (o := (Rg.opsOf Try.f3 18)[36]'(by rw [sizeMs18]; decide)) (g := 20) rfl rfl qg hP
        have g0 := Rg.pc_r hP
        have q80 : bb.tmps[80]? = some (.bool (y != -1)) := hf.tmp (k := 26) rfl (by rw [ha]; decide) (Eq.trans (hA 26 (by kernel_rfl)) (Rg.cond_t hP))
        cases hC : (y != -1) with
        | false =>
          have hval : ((.bool ((y != -1) && (y != x)) : Value)) = .bool false := by rw [hC]; rfl
          exact Rg.op_value (o := ⟨some 90, Op.pick (Operand.tmp 80) (Operand.tmp 89) (Operand.const (Value.bool false)), _, _, _, _⟩) (x := .bool false) rfl hw (by rw [hC] at q80; clear hA HS hN hO  hval; simp only [execOp]; go_simp) ⟨_, rfl, (fun h => by cases h), (by show ((.bool false : Value)) = _; exact hval.symm.trans (Rg.cond_t hP).symm), hI, fun _ _ _ _ h => h⟩
        | true =>
          have hB : ((true && ((((decide (1 ≤ x)) && (decide (x ≤ s))) && (y != -1)) == false)) && ((y != -1) == true)) = true := by
            rw [hC]; first | rfl | (rw [hP]; rfl) | simp_all
          have q89 : bb.tmps[89]? = some (.bool (y != x)) := hf.tmp (k := 35) rfl (by rw [ha]; decide) (Eq.trans (hA 35 (by kernel_rfl)) (Rg.cond_t hB))
          have hval : ((.bool ((y != -1) && (y != x)) : Value)) = .bool (y != x) := by rw [hC]; rfl
          exact Rg.op_value (o := ⟨some 90, Op.pick (Operand.tmp 80) (Operand.tmp 89) (Operand.const (Value.bool false)), _, _, _, _⟩) (x := .bool (y != x)) rfl hw (by rw [hC] at q80; clear hA HS hN hO  hval; simp only [execOp]; go_simp) ⟨_, rfl, (fun h => by cases h), (by show ((.bool (y != x) : Value)) = _; exact hval.symm.trans (Rg.cond_t hP).symm), hI, fun _ _ _ _ h => h⟩
    · intro ll bb w' hs hlf hN hO hf hI hA
      clear hi'
      have q74 : bb.tmps[74]? = some _ := hf.tmp (k := 20) rfl (by rw [ha]; decide) (hA 20 (by kernel_rfl))
      cases hC : (((decide (1 ≤ x)) && (decide (x ≤ s))) && (y != -1)) with
      | false =>
        have hB : (true && ((((decide (1 ≤ x)) && (decide (x ≤ s))) && (y != -1)) == false)) = true := by rw [hC]; rfl
        have q90 : bb.tmps[90]? = some (.bool ((y != -1) && (y != x))) := hf.tmp (k := 36) rfl (by rw [ha]; decide) (Eq.trans (hA 36 (by kernel_rfl)) (Rg.cond_t hB))
        have hval : ((.bool ((((decide (1 ≤ x)) && (decide (x ≤ s))) && (y != -1)) || ((y != -1) && (y != x))) : Value)) = .bool ((y != -1) && (y != x)) := by rw [hC]; rfl
        exact Rg.op_value (o := ⟨some 91, Op.pick (Operand.tmp 74) (Operand.const (Value.bool true)) (Operand.tmp 90), _, _, _, _⟩) (x := .bool ((y != -1) && (y != x))) rfl rfl (by rw [hC] at q74; clear hA HS hN hO  hval; simp only [execOp]; go_simp) ⟨_, rfl, (fun h => by cases h), (by show ((.bool ((y != -1) && (y != x)) : Value)) = _; exact hval.symm), hI, fun _ _ _ _ h => h⟩
      | true =>
        have hval : ((.bool ((((decide (1 ≤ x)) && (decide (x ≤ s))) && (y != -1)) || ((y != -1) && (y != x))) : Value)) = .bool true := by rw [hC]; rfl
        exact Rg.op_value (o := ⟨some 91, Op.pick (Operand.tmp 74) (Operand.const (Value.bool true)) (Operand.tmp 90), _, _, _, _⟩) (x := .bool true) rfl rfl (by rw [hC] at q74; clear hA HS hN hO  hval; simp only [execOp]; go_simp) ⟨_, rfl, (fun h => by cases h), (by show ((.bool true : Value)) = _; exact hval.symm), hI, fun _ _ _ _ h => h⟩

theorem dMs18_0 : Rg.dstAt (Rg.opsOf Try.f3 18) 0 = some 54 := by kernel_rfl
theorem dMs18_1 : Rg.dstAt (Rg.opsOf Try.f3 18) 1 = some 55 := by kernel_rfl
theorem dMs18_2 : Rg.dstAt (Rg.opsOf Try.f3 18) 2 = some 56 := by kernel_rfl
theorem dMs18_3 : Rg.dstAt (Rg.opsOf Try.f3 18) 3 = some 57 := by kernel_rfl
theorem dMs18_4 : Rg.dstAt (Rg.opsOf Try.f3 18) 4 = some 58 := by kernel_rfl
theorem dMs18_5 : Rg.dstAt (Rg.opsOf Try.f3 18) 5 = some 59 := by kernel_rfl
theorem dMs18_6 : Rg.dstAt (Rg.opsOf Try.f3 18) 6 = some 60 := by kernel_rfl
theorem dMs18_7 : Rg.dstAt (Rg.opsOf Try.f3 18) 7 = some 61 := by kernel_rfl
theorem dMs18_8 : Rg.dstAt (Rg.opsOf Try.f3 18) 8 = some 62 := by kernel_rfl
theorem dMs18_9 : Rg.dstAt (Rg.opsOf Try.f3 18) 9 = some 63 := by kernel_rfl
theorem dMs18_10 : Rg.dstAt (Rg.opsOf Try.f3 18) 10 = some 64 := by kernel_rfl
theorem dMs18_11 : Rg.dstAt (Rg.opsOf Try.f3 18) 11 = some 65 := by kernel_rfl
theorem dMs18_12 : Rg.dstAt (Rg.opsOf Try.f3 18) 12 = some 66 := by kernel_rfl
theorem dMs18_13 : Rg.dstAt (Rg.opsOf Try.f3 18) 13 = some 67 := by kernel_rfl
theorem dMs18_14 : Rg.dstAt (Rg.opsOf Try.f3 18) 14 = some 68 := by kernel_rfl
theorem dMs18_15 : Rg.dstAt (Rg.opsOf Try.f3 18) 15 = some 69 := by kernel_rfl
theorem dMs18_16 : Rg.dstAt (Rg.opsOf Try.f3 18) 16 = some 70 := by kernel_rfl
theorem dMs18_17 : Rg.dstAt (Rg.opsOf Try.f3 18) 17 = some 71 := by kernel_rfl
theorem dMs18_18 : Rg.dstAt (Rg.opsOf Try.f3 18) 18 = some 72 := by kernel_rfl
theorem dMs18_19 : Rg.dstAt (Rg.opsOf Try.f3 18) 19 = some 73 := by kernel_rfl
theorem dMs18_20 : Rg.dstAt (Rg.opsOf Try.f3 18) 20 = some 74 := by kernel_rfl
theorem dMs18_21 : Rg.dstAt (Rg.opsOf Try.f3 18) 21 = some 75 := by kernel_rfl
theorem dMs18_22 : Rg.dstAt (Rg.opsOf Try.f3 18) 22 = some 76 := by kernel_rfl
theorem dMs18_23 : Rg.dstAt (Rg.opsOf Try.f3 18) 23 = some 77 := by kernel_rfl
theorem dMs18_24 : Rg.dstAt (Rg.opsOf Try.f3 18) 24 = some 78 := by kernel_rfl
theorem dMs18_25 : Rg.dstAt (Rg.opsOf Try.f3 18) 25 = some 79 := by kernel_rfl
theorem dMs18_26 : Rg.dstAt (Rg.opsOf Try.f3 18) 26 = some 80 := by kernel_rfl
theorem dMs18_27 : Rg.dstAt (Rg.opsOf Try.f3 18) 27 = some 81 := by kernel_rfl
theorem dMs18_28 : Rg.dstAt (Rg.opsOf Try.f3 18) 28 = some 82 := by kernel_rfl
theorem dMs18_29 : Rg.dstAt (Rg.opsOf Try.f3 18) 29 = some 83 := by kernel_rfl
theorem dMs18_30 : Rg.dstAt (Rg.opsOf Try.f3 18) 30 = some 84 := by kernel_rfl
theorem dMs18_31 : Rg.dstAt (Rg.opsOf Try.f3 18) 31 = some 85 := by kernel_rfl
theorem dMs18_32 : Rg.dstAt (Rg.opsOf Try.f3 18) 32 = some 86 := by kernel_rfl
theorem dMs18_33 : Rg.dstAt (Rg.opsOf Try.f3 18) 33 = some 87 := by kernel_rfl
theorem dMs18_34 : Rg.dstAt (Rg.opsOf Try.f3 18) 34 = some 88 := by kernel_rfl
theorem dMs18_35 : Rg.dstAt (Rg.opsOf Try.f3 18) 35 = some 89 := by kernel_rfl
theorem dMs18_36 : Rg.dstAt (Rg.opsOf Try.f3 18) 36 = some 90 := by kernel_rfl
theorem dMs18_37 : Rg.dstAt (Rg.opsOf Try.f3 18) 37 = some 91 := by kernel_rfl
theorem layMs18 {a b : Act} (hf : Rg.Fr (Rg.opsOf Try.f3 18) a b) : b = ((((((((((((((((((((((((((((((((((((((a.put (some 54) (Rg.out (Rg.opsOf Try.f3 18) b 0)).put (some 55) (Rg.out (Rg.opsOf Try.f3 18) b 1)).put (some 56) (Rg.out (Rg.opsOf Try.f3 18) b 2)).put (some 57) (Rg.out (Rg.opsOf Try.f3 18) b 3)).put (some 58) (Rg.out (Rg.opsOf Try.f3 18) b 4)).put (some 59) (Rg.out (Rg.opsOf Try.f3 18) b 5)).put (some 60) (Rg.out (Rg.opsOf Try.f3 18) b 6)).put (some 61) (Rg.out (Rg.opsOf Try.f3 18) b 7)).put (some 62) (Rg.out (Rg.opsOf Try.f3 18) b 8)).put (some 63) (Rg.out (Rg.opsOf Try.f3 18) b 9)).put (some 64) (Rg.out (Rg.opsOf Try.f3 18) b 10)).put (some 65) (Rg.out (Rg.opsOf Try.f3 18) b 11)).put (some 66) (Rg.out (Rg.opsOf Try.f3 18) b 12)).put (some 67) (Rg.out (Rg.opsOf Try.f3 18) b 13)).put (some 68) (Rg.out (Rg.opsOf Try.f3 18) b 14)).put (some 69) (Rg.out (Rg.opsOf Try.f3 18) b 15)).put (some 70) (Rg.out (Rg.opsOf Try.f3 18) b 16)).put (some 71) (Rg.out (Rg.opsOf Try.f3 18) b 17)).put (some 72) (Rg.out (Rg.opsOf Try.f3 18) b 18)).put (some 73) (Rg.out (Rg.opsOf Try.f3 18) b 19)).put (some 74) (Rg.out (Rg.opsOf Try.f3 18) b 20)).put (some 75) (Rg.out (Rg.opsOf Try.f3 18) b 21)).put (some 76) (Rg.out (Rg.opsOf Try.f3 18) b 22)).put (some 77) (Rg.out (Rg.opsOf Try.f3 18) b 23)).put (some 78) (Rg.out (Rg.opsOf Try.f3 18) b 24)).put (some 79) (Rg.out (Rg.opsOf Try.f3 18) b 25)).put (some 80) (Rg.out (Rg.opsOf Try.f3 18) b 26)).put (some 81) (Rg.out (Rg.opsOf Try.f3 18) b 27)).put (some 82) (Rg.out (Rg.opsOf Try.f3 18) b 28)).put (some 83) (Rg.out (Rg.opsOf Try.f3 18) b 29)).put (some 84) (Rg.out (Rg.opsOf Try.f3 18) b 30)).put (some 85) (Rg.out (Rg.opsOf Try.f3 18) b 31)).put (some 86) (Rg.out (Rg.opsOf Try.f3 18) b 32)).put (some 87) (Rg.out (Rg.opsOf Try.f3 18) b 33)).put (some 88) (Rg.out (Rg.opsOf Try.f3 18) b 34)).put (some 89) (Rg.out (Rg.opsOf Try.f3 18) b 35)).put (some 90) (Rg.out (Rg.opsOf Try.f3 18) b 36)).put (some 91) (Rg.out (Rg.opsOf Try.f3 18) b 37)) := by
  have h := hf.chain
  rw [sizeMs18, show List.range 38 = [0, 1, 2, 3, 4, 5, 6, 7, 8, 9, 10, 11, 12, 13, 14, 15, 16, 17, 18, 19, 20, 21, 22, 23, 24, 25, 26, 27, 28, 29, 30, 31, 32, 33, 34, 35, 36, 37] from by decide] at h
  simp only [List.foldl_cons, List.foldl_nil, dMs18_0, dMs18_1, dMs18_2, dMs18_3, dMs18_4, dMs18_5, dMs18_6, dMs18_7, dMs18_8, dMs18_9, dMs18_10, dMs18_11, dMs18_12, dMs18_13, dMs18_14, dMs18_15, dMs18_16, dMs18_17, dMs18_18, dMs18_19, dMs18_20, dMs18_21, dMs18_22, dMs18_23, dMs18_24, dMs18_25, dMs18_26, dMs18_27, dMs18_28, dMs18_29, dMs18_30, dMs18_31, dMs18_32, dMs18_33, dMs18_34, dMs18_35, dMs18_36, dMs18_37] at h
  exact h

end Go.Proofs.Ytinnmebpipnccaa
