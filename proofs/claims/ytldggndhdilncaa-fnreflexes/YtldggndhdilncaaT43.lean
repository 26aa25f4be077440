/-
  One rule, asked: the region that draws its order.
-/
import Derived.Test.YtldggndhdilncaaT42
import Derived.Test.YtldggndhdilncaaRs
namespace Go.Proofs.Ytldggndhdilncaa
open Go.RowKit Va Lb
set_option linter.all false

def FRu1 (A R C te th : Nat) (cb : Nat → Bool) (ST : Nat → Bool) (i9 : Nat) (v : Value) (w : World) : Prop :=
  match i9 with
  | 0 => v = .pointer (some ⟨R, 3, none⟩)
  | 1 => v = .int .i64 (th : Nat)
  | 2 => v = .bool (cb 0)
  | 3 => v = .bool (cb 0)
  | 4 => v = cond (true && ((cb 0) == true)) (.pointer (some ⟨A, 0, none⟩)) undef
  | 5 => v = cond (true && ((cb 0) == true)) (.pointer (some ⟨R, 0, none⟩)) undef
  | 6 => v = cond (true && ((cb 0) == true)) (.int .i64 (te : Nat)) undef
  | 7 => v = cond (true && ((cb 0) == true)) (.pointer (some ⟨A, 0, none⟩)) undef
  | 8 => v = cond (true && ((cb 0) == true)) (.pointer (some ⟨A, te, none⟩)) undef
  | 9 => v = cond (true && ((cb 0) == true)) (.bool (ST te)) undef
  | 10 => v = .bool ((cb 0) && (ST te))
  | 11 => v = .bool ((cb 0) && (ST te))
  | 12 => v = cond (true && (((cb 0) && (ST te)) == true)) (.pointer (some ⟨A, 0, none⟩)) undef
  | 13 => v = cond (true && (((cb 0) && (ST te)) == true)) (.pointer (some ⟨R, 3, none⟩)) undef
  | 14 => v = cond (true && (((cb 0) && (ST te)) == true)) (.int .i64 (th : Nat)) undef
  | 15 => v = cond (true && (((cb 0) && (ST te)) == true)) (.pointer (some ⟨A, 0, none⟩)) undef
  | 16 => v = cond (true && (((cb 0) && (ST te)) == true)) (.pointer (some ⟨A, th, none⟩)) undef
  | 17 => v = cond (true && (((cb 0) && (ST te)) == true)) (.bool (ST th)) undef
  | 18 => v = cond (true && (((cb 0) && (ST te)) == true)) (.bool (!(ST th))) undef
  | 19 => v = .bool (((cb 0) && (ST te)) && (!(ST th)))
  | 20 => v = .int .i64 (th : Nat)
  | 21 => v = .bool (((cb 0) && (ST te)) && (!(ST th)))
  | _ => True
theorem sizeRu1 : (Rg.opsOf Try.f29 1).size = 22 := by kernel_rfl

set_option maxRecDepth 20000 in
set_option maxHeartbeats 8000000 in
theorem regRu1 {Q : Exit → Act → World → Prop} {a : Act} {w9 : World} {A R C te th : Nat} {cb : Nat → Bool} {ST : Nat → Bool} (ha : a.tmps.size = 26)
    (k0 : a.tmps[0]? = some (.pointer (some ⟨A, 0, none⟩))) (k1 : a.tmps[1]? = some (.pointer (some ⟨R, 0, none⟩))) (k2 : a.tmps[2]? = some (.pointer (some ⟨C, 0, none⟩))) (hRl : R < w9.heap.size) (hCl : C < w9.heap.size) (hAl : A < w9.heap.size) (r0 : w9.cell? ⟨R, 0, none⟩ = some (.int .i64 (te : Nat))) (r3 : w9.cell? ⟨R, 3, none⟩ = some (.int .i64 (th : Nat))) (c0 : w9.cell? ⟨C, 0, none⟩ = some (.bool (cb 0))) (s0 : ∀ j, j < 100 → w9.cell? ⟨A, j, none⟩ = some (.bool (ST j))) (hte : te < 100) (hth : th < 100)
    (hend : ∀ b' w', Rg.Fr (Rg.opsOf Try.f29 1) a b' → Below w9.heap.size w9 w' → Rg.out (Rg.opsOf Try.f29 1) b' 20 = .int .i64 (th : Nat) → Rg.out (Rg.opsOf Try.f29 1) b' 21 = .bool (((cb 0) && (ST te)) && (!(ST th))) → Q .normal b' w') :
    (Code.region 1 (Rg.opsOf Try.f29 1) true).wp Try.prog Q a w9 := by
  refine Rg.region_set3 (by kernel_rfl) (fun _ w' => Below w9.heap.size w9 w') (FRu1 A R C te th cb ST) (by rw [ha, sizeRu1]; kernel_rfl) (st_drew (Below.refl _ _)) ?_ ?_
  case refine_2 =>
    intro l b' w' hf hall hI hA
    rw [sizeRu1] at hA
    exact hend b' w' hf hI (hA 20 (by decide)) (hA 21 (by decide))
  case refine_1 =>
    clear hend
    have HS : ∀ {w w' : World}, Below w.heap.size w w' → ∀ k9 y9, FRu1 A R C te th cb ST k9 y9 w → FRu1 A R C te th cb ST k9 y9 w' := fun hb k9 y9 h => by
      unfold FRu1 at *
      split at h <;> exact h
    intro i' hi'
    rw [sizeRu1] at hi'
    rcases (show i' = 0 ∨ i' = 1 ∨ i' = 2 ∨ i' = 3 ∨ i' = 4 ∨ i' = 5 ∨ i' = 6 ∨ i' = 7 ∨ i' = 8 ∨ i' = 9 ∨ i' = 10 ∨ i' = 11 ∨ i' = 12 ∨ i' = 13 ∨ i' = 14 ∨ i' = 15 ∨ i' = 16 ∨ i' = 17 ∨ i' = 18 ∨ i' = 19 ∨ i' = 20 ∨ i' = 21 by omega) with rfl | rfl | rfl | rfl | rfl | rfl | rfl | rfl | rfl | rfl | rfl | rfl | rfl | rfl | rfl | rfl | rfl | rfl | rfl | rfl | rfl | rfl
    · intro ll bb w' hs hlf hN hO hf hI hA
      clear hi'
      have q1 := hf.kept (s := 1) (by rw [sizeRu1]; kernel_rfl) k1
      exact Rg.op_value (o := ⟨some 6, Op.fieldAddr 37 (Operand.tmp 1) 3, _, _, _, _⟩) (x := .pointer (some ⟨R, 3, none⟩)) rfl rfl (by clear hA HS hN hO s0; simp only [execOp]; go_simp) ⟨_, rfl, (fun h => by cases h), rfl, hI, fun _ _ _ _ h => h⟩
    · intro ll bb w' hs hlf hN hO hf hI hA
      clear hi'
      have q6 : bb.tmps[6]? = some _ := hf.tmp (k := 0) rfl (by rw [ha]; decide) (hA 0 (by kernel_rfl))
      have e0 := (hI.cell (p := ⟨R, 3, none⟩) hRl).trans r3
      exact Rg.op_value (o := ⟨some 7, Op.load 2 (Operand.tmp 6), _, _, _, _⟩) (x := .int .i64 (th : Nat)) rfl rfl (by clear hA HS hN hO s0; simp only [execOp]; go_simp) ⟨_, rfl, (fun h => by cases h), rfl, hI, fun _ _ _ _ h => h⟩
    · intro ll bb w' hs hlf hN hO hf hI hA
      clear hi'
      have q2 := hf.kept (s := 2) (by rw [sizeRu1]; kernel_rfl) k2
      have e0 := (hI.cell (p := ⟨C, 0, none⟩) hCl).trans c0
      exact Rg.op_value (o := ⟨some 8, Op.load 4 (Operand.tmp 2), _, _, _, _⟩) (x := .bool (cb 0)) rfl rfl (by clear hA HS hN hO s0; simp only [execOp]; go_simp) ⟨_, rfl, (fun h => by cases h), rfl, hI, fun _ _ _ _ h => h⟩
    · intro ll bb w' hs hlf hN hO hf hI hA
      clear hi'
      have q8 : bb.tmps[8]? = some _ := hf.tmp (k := 2) rfl (by rw [ha]; decide) (hA 2 (by kernel_rfl))
      exact Rg.op_value (o := ⟨some 9, Op.move (Operand.tmp 8), _, _, _, _⟩) (x := .bool (cb 0)) rfl rfl (by clear hA HS hN hO s0; simp only [execOp]; go_simp) ⟨_, rfl, (fun h => by cases h), rfl, hI, fun _ _ _ _ h => h⟩
    · intro ll bb w' hs hlf hN hO hf hI hA
      clear hi'
      have qg : bb.tmps[9]? = some (cond true (.bool (cb 0)) undef) := hf.tmp (k := 3) rfl (by rw [ha]; decide) (hA 3 (by kernel_rfl))
      cases hP : (true && ((cb 0) == true)) with
      | false => exact Rg.op_none (o := ⟨some 10, _, _, _, _, _⟩) rfl (Rg.unwanted_c (g := 3) rfl rfl qg hP) ⟨_, rfl, (fun h => by cases h), Rg.cond_f hP, hI, fun _ _ _ _ h => h⟩
      | true =>
        have hw := Rg.wanted_c (ops := (Rg.opsOf Try.f29 1)) (o := (Rg.opsOf Try.f29 1)[4]'(by rw [sizeRu1]; decide)) (g := 3) rfl rfl qg hP
        have g0 := Rg.pc_r hP
        have q0 := hf.kept (s := 0) (by rw [sizeRu1]; kernel_rfl) k0
        exact Rg.op_value (o := ⟨some 10, Op.move (Operand.tmp 0), _, _, _, _⟩) (x := .pointer (some ⟨A, 0, none⟩)) rfl hw (by clear hA HS hN hO s0; simp only [execOp]; go_simp) ⟨_, rfl, (fun h => by cases h), (Rg.cond_t hP).symm, hI, fun _ _ _ _ h => h⟩
    · intro ll bb w' hs hlf hN hO hf hI hA
      clear hi'
      have qg : bb.tmps[9]? = some (cond true (.bool (cb 0)) undef) := hf.tmp (k := 3) rfl (by rw [ha]; decide) (hA 3 (by kernel_rfl))
      cases hP : (true && ((cb 0) == true)) with
      | false => exact Rg.op_none (o := ⟨some 11, _, _, _, _, _⟩) rfl (Rg.unwanted_c (g := 3) rfl rfl qg hP) ⟨_, rfl, (fun h => by cases h), Rg.cond_f hP, hI, fun _ _ _ _ h => h⟩
      | true =>
        have hw := Rg.wanted_c (ops := (Rg.opsOf Try.f29 1)) (o := (Rg.opsOf Try.f29 1)[5]'(by rw [sizeRu1]; decide)) (g := 3) rfl rfl qg hP
        have g0 := Rg.pc_r hP
        have q1 := hf.kept (s := 1) (by rw [sizeRu1]; kernel_rfl) k1
        exact Rg.op_value (o := ⟨some 11, Op.fieldAddr 37 (Operand.tmp 1) 0, _, _, _, _⟩) (x := .pointer (some ⟨R, 0, none⟩)) rfl hw (by clear hA HS hN hO s0; simp only [execOp]; go_simp) ⟨_, rfl, (fun h => by cases h), (Rg.cond_t hP).symm, hI, fun _ _ _ _ h => h⟩
    · intro ll bb w' hs hlf hN hO hf hI hA
      clear hi'
      have qg : bb.tmps[9]? = some (cond true (.bool (cb 0)) undef) := hf.tmp (k := 3) rfl (by rw [ha]; decide) (hA 3 (by kernel_rfl))
      cases hP : (true && ((cb 0) == true)) with
      | false => exact Rg.op_none (o := ⟨some 12, _, _, _, _, _⟩) rfl (Rg.unwanted_c (g := 3) rfl rfl qg hP) ⟨_, rfl, (fun h => by cases h), Rg.cond_f hP, hI, fun _ _ _ _ h => h⟩
      | true =>
        have hw := Rg.wanted_c (ops := (Rg.opsOf Try.f29 1)) (o := (Rg.opsOf Try.f29 1)[6]'(by rw [sizeRu1]; decide)) (g := 3) rfl rfl qg hP
        have g0 := Rg.pc_r hP
        have q11 : bb.tmps[11]? = some (.pointer (some ⟨R, 0, none⟩)) := hf.tmp (k := 5) rfl (by rw [ha]; decide) (Eq.trans (hA 5 (by kernel_rfl)) (Rg.cond_t hP))
        have e0 := (hI.cell (p := ⟨R, 0, none⟩) hRl).trans r0
        exact Rg.op_value (o := ⟨some 12, Op.load 2 (Operand.tmp 11), _, _, _, _⟩) (x := .int .i64 (te : Nat)) rfl hw (by clear hA HS hN hO s0; simp only [execOp]; go_simp) ⟨_, rfl, (fun h => by cases h), (Rg.cond_t hP).symm, hI, fun _ _ _ _ h => h⟩
    · intro ll bb w' hs hlf hN hO hf hI hA
      clear hi'
      have qg : bb.tmps[9]? = some (cond true (.bool (cb 0)) undef) := hf.tmp (k := 3) rfl (by rw [ha]; decide) (hA 3 (by kernel_rfl))
      cases hP : (true && ((cb 0) == true)) with
      | false => exact Rg.op_none (o := ⟨some 13, _, _, _, _, _⟩) rfl (Rg.unwanted_c (g := 3) rfl rfl qg hP) ⟨_, rfl, (fun h => by cases h), Rg.cond_f hP, hI, fun _ _ _ _ h => h⟩
      | true =>
        have hw := Rg.wanted_c (ops := (Rg.opsOf Try.f29 1)) (o := (Rg.opsOf Try.f29 1)[7]'(by rw [sizeRu1]; decide)) (g := 3) rfl rfl qg hP
        have g0 := Rg.pc_r hP
        have q10 : bb.tmps[10]? = some (.pointer (some ⟨A, 0, none⟩)) := hf.tmp (k := 4) rfl (by rw [ha]; decide) (Eq.trans (hA 4 (by kernel_rfl)) (Rg.cond_t hP))
        exact Rg.op_value (o := ⟨some 13, Op.nilCheck (Operand.tmp 10), _, _, _, _⟩) (x := .pointer (some ⟨A, 0, none⟩)) rfl hw (by clear hA HS hN hO s0; simp only [execOp]; go_simp) ⟨_, rfl, (fun h => by cases h), (Rg.cond_t hP).symm, hI, fun _ _ _ _ h => h⟩
    · intro ll bb w' hs hlf hN hO hf hI hA
      clear hi'
      have qg : bb.tmps[9]? = some (cond true (.bool (cb 0)) undef) := hf.tmp (k := 3) rfl (by rw [ha]; decide) (hA 3 (by kernel_rfl))
      cases hP : (true && ((cb 0) == true)) with
      | false => exact Rg.op_none (o := ⟨some 14, _, _, _, _, _⟩) rfl (Rg.unwanted_c (g := 3) rfl rfl qg hP) ⟨_, rfl, (fun h => by cases h), Rg.cond_f hP, hI, fun _ _ _ _ h => h⟩
      | true =>
        have hw := Rg.wanted_c (ops := (Rg.opsOf Try.f29 1)) (o := (Rg.opsOf Try.f29 1)[8]'(by rw [sizeRu1]; decide)) (g := 3) rfl rfl qg hP
        have g0 := Rg.pc_r hP
        have q13 : bb.tmps[13]? = some (.pointer (some ⟨A, 0, none⟩)) := hf.tmp (k := 7) rfl (by rw [ha]; decide) (Eq.trans (hA 7 (by kernel_rfl)) (Rg.cond_t hP))
        have q12 : bb.tmps[12]? = some (.int .i64 (te : Nat)) := hf.tmp (k := 6) rfl (by rw [ha]; decide) (Eq.trans (hA 6 (by kernel_rfl)) (Rg.cond_t hP))
        have hin2 : (te : Int) < (100 : Int) := by omega
        exact Rg.op_value (o := ⟨some 14, Op.indexAddr 61 (Operand.tmp 13) (Operand.tmp 12), _, _, _, _⟩) (x := .pointer (some ⟨A, te, none⟩)) rfl hw (by clear hA HS hN hO s0; simp only [execOp]; go_simp) ⟨_, rfl, (fun h => by cases h), (Rg.cond_t hP).symm, hI, fun _ _ _ _ h => h⟩
    · intro ll bb w' hs hlf hN hO hf hI hA
      clear hi'
      have qg : bb.tmps[9]? = some (cond true (.bool (cb 0)) undef) := hf.tmp (k := 3) rfl (by rw [ha]; decide) (hA 3 (by kernel_rfl))
      cases hP : (true && ((cb 0) == true)) with
      | false => exact Rg.op_none (o := ⟨some 15, _, _, _, _, _⟩) rfl (Rg.unwanted_c (g := 3) rfl rfl qg hP) ⟨_, rfl, (fun h => by cases h), Rg.cond_f hP, hI, fun _ _ _ _ h => h⟩
      | true =>
        have hw := Rg.wanted_c (ops := (Rg.opsOf Try.f29 1)) (o := (Rg.opsOf Try.f29 1)[9]'(by rw [sizeRu1]; decide)) (g := 3) rfl rfl qg hP
        have g0 := Rg.pc_r hP
        have q14 : bb.tmps[14]? = some (.pointer (some ⟨A, te, none⟩)) := hf.tmp (k := 8) rfl (by rw [ha]; decide) (Eq.trans (hA 8 (by kernel_rfl)) (Rg.cond_t hP))
        have e0 := (hI.cell (p := ⟨A, te, none⟩) hAl).trans (s0 te hte)
        exact Rg.op_value (o := ⟨some 15, Op.load 4 (Operand.tmp 14), _, _, _, _⟩) (x := .bool (ST te)) rfl hw (by clear hA HS hN hO s0; simp only [execOp]; go_simp) ⟨_, rfl, (fun h => by cases h), (Rg.cond_t hP).symm, hI, fun _ _ _ _ h => h⟩
    · intro ll bb w' hs hlf hN hO hf hI hA
      clear hi'
      have q9 : bb.tmps[9]? = some _ := hf.tmp (k := 3) rfl (by rw [ha]; decide) (hA 3 (by kernel_rfl))
      cases hC : (cb 0) with
      | false =>
        have hval : ((.bool ((cb 0) && (ST te)) : Value)) = .bool false := by rw [hC]; rfl
        exact Rg.op_value (o := ⟨some 16, Op.pick (Operand.tmp 9) (Operand.tmp 15) (Operand.const (Value.bool false)), _, _, _, _⟩) (x := .bool false) rfl rfl (by rw [hC] at q9; clear hA HS hN hO s0 hval; simp only [execOp]; go_simp) ⟨_, rfl, (fun h => by cases h), (by show ((.bool false : Value)) = _; exact hval.symm), hI, fun _ _ _ _ h => h⟩
      | true =>
        have hB : (true && ((cb 0) == true)) = true := by rw [hC]; rfl
        have q15 : bb.tmps[15]? = some (.bool (ST te)) := hf.tmp (k := 9) rfl (by rw [ha]; decide) (Eq.trans (hA 9 (by kernel_rfl)) (Rg.cond_t hB))
        have hval : ((.bool ((cb 0) && (ST te)) : Value)) = .bool (ST te) := by rw [hC]; rfl
        exact Rg.op_value (o := ⟨some 16, Op.pick (Operand.tmp 9) (Operand.tmp 15) (Operand.const (Value.bool false)), _, _, _, _⟩) (x := .bool (ST te)) rfl rfl (by rw [hC] at q9; clear hA HS hN hO s0 hval; simp only [execOp]; go_simp) ⟨_, rfl, (fun h => by cases h), (by show ((.bool (ST te) : Value)) = _; exact hval.symm), hI, fun _ _ _ _ h => h⟩
    · intro ll bb w' hs hlf hN hO hf hI hA
      clear hi'
      have q16 : bb.tmps[16]? = some _ := hf.tmp (k := 10) rfl (by rw [ha]; decide) (hA 10 (by kernel_rfl))
      exact Rg.op_value (o := ⟨some 17, Op.move (Operand.tmp 16), _, _, _, _⟩) (x := .bool ((cb 0) && (ST te))) rfl rfl (by clear hA HS hN hO s0; simp only [execOp]; go_simp) ⟨_, rfl, (fun h => by cases h), rfl, hI, fun _ _ _ _ h => h⟩
    · intro ll bb w' hs hlf hN hO hf hI hA
      clear hi'
      have qg : bb.tmps[17]? = some (cond true (.bool ((cb 0) && (ST te))) undef) := hf.tmp (k := 11) rfl (by rw [ha]; decide) (hA 11 (by kernel_rfl))
      cases hP : (true && (((cb 0) && (ST te)) == true)) with
      | false => exact Rg.op_none (o := ⟨some 18, _, _, _, _, _⟩) rfl (Rg.unwanted_c (g := 11) rfl rfl qg hP) ⟨_, rfl, (fun h => by cases h), Rg.cond_f hP, hI, fun _ _ _ _ h => h⟩
      | true =>
        have hw := Rg.wanted_c (ops := (Rg.opsOf Try.f29 1)) (o := (Rg.opsOf Try.f29 1)[12]'(by rw [sizeRu1]; decide)) (g := 11) rfl rfl qg hP
        have g0 := Rg.pc_r hP
        have q0 := hf.kept (s := 0) (by rw [sizeRu1]; kernel_rfl) k0
        exact Rg.op_value (o := ⟨some 18, Op.move (Operand.tmp 0), _, _, _, _⟩) (x := .pointer (some ⟨A, 0, none⟩)) rfl hw (by clear hA HS hN hO s0; simp only [execOp]; go_simp) ⟨_, rfl, (fun h => by cases h), (Rg.cond_t hP).symm, hI, fun _ _ _ _ h => h⟩
    · intro ll bb w' hs hlf hN hO hf hI hA
      clear hi'
      have qg : bb.tmps[17]? = some (cond true (.bool ((cb 0) && (ST te))) undef) := hf.tmp (k := 11) rfl (by rw [ha]; decide) (hA 11 (by kernel_rfl))
      cases hP : (true && (((cb 0) && (ST te)) == true)) with
      | false => exact Rg.op_none (o := ⟨some 19, _, _, _, _, _⟩) rfl (Rg.unwanted_c (g := 11) rfl rfl qg hP) ⟨_, rfl, (fun h => by cases h), Rg.cond_f hP, hI, fun _ _ _ _ h => h⟩
      | true =>
        have hw := Rg.wanted_c (ops := (Rg.opsOf Try.f29 1)) (o := (Rg.opsOf Try.f29 1)[13]'(by rw [sizeRu1]; decide)) (g := 11) rfl rfl qg hP
        have g0 := Rg.pc_r hP
        have q1 := hf.kept (s := 1) (by rw [sizeRu1]; kernel_rfl) k1
        exact Rg.op_value (o := ⟨some 19, Op.fieldAddr 37 (Operand.tmp 1) 3, _, _, _, _⟩) (x := .pointer (some ⟨R, 3, none⟩)) rfl hw (by clear hA HS hN hO s0; simp only [execOp]; go_simp) ⟨_, rfl, (fun h => by cases h), (Rg.cond_t hP).symm, hI, fun _ _ _ _ h => h⟩
    · intro ll bb w' hs hlf hN hO hf hI hA
      clear hi'
      have qg : bb.tmps[17]? = some (cond true (.bool ((cb 0) && (ST te))) undef) := hf.tmp (k := 11) rfl (by rw [ha]; decide) (hA 11 (by kernel_rfl))
      cases hP : (true && (((cb 0) && (ST te)) == true)) with
      | false => exact Rg.op_none (o := ⟨some 20, _, _, _, _, _⟩) rfl (Rg.unwanted_c (g := 11) rfl rfl qg hP) ⟨_, rfl, (fun h => by cases h), Rg.cond_f hP, hI, fun _ _ _ _ h => h⟩
      | true =>
        have hw := Rg.wanted_c (ops := (Rg.opsOf Try.f29 1)) (o := (Rg.opsOf Try.f29 1)[14]'(by rw [sizeRu1]; decide)) (g := 11) rfl rfl qg hP
        have g0 := Rg.pc_r hP
        have q19 : bb.tmps[19]? = some (.pointer (some ⟨R, 3, none⟩)) := hf.tmp (k := 13) rfl (by rw [ha]; decide) (Eq.trans (hA 13 (by kernel_rfl)) (Rg.cond_t hP))
        have e0 := (hI.cell (p := ⟨R, 3, none⟩) hRl).trans r3
        exact Rg.op_value (o := ⟨some 20, Op.load 2 (Operand.tmp 19), _, _, _, _⟩) (x := .int .i64 (th : Nat)) rfl hw (by clear hA HS hN hO s0; simp only [execOp]; go_simp) ⟨_, rfl, (fun h => by cases h), (Rg.cond_t hP).symm, hI, fun _ _ _ _ h => h⟩
    · intro ll bb w' hs hlf hN hO hf hI hA
      clear hi'
      have qg : bb.tmps[17]? = some (cond true (.bool ((cb 0) && (ST te))) undef) := hf.tmp (k := 11) rfl (by rw [ha]; decide) (hA 11 (by kernel_rfl))
      cases hP : (true && (((cb 0) && (ST te)) == true)) with
      | false => exact Rg.op_none (o := ⟨some 21, _, _, _, _, _⟩) rfl (Rg.unwanted_c (g := 11) rfl rfl qg hP) ⟨_, rfl, (fun h => by cases h), Rg.cond_f hP, hI, fun _ _ _ _ h => h⟩
      | true =>
        have hw := Rg.wanted_c (ops := (Rg.opsOf Try.f29 1)) (o := (Rg.opsOf Try.f29 1)[15]'(by rw [sizeRu1]; decide)) (g := 11) rfl rfl qg hP
        have g0 := Rg.pc_r hP
        have q18 : bb.tmps[18]? = some (.pointer (some ⟨A, 0, none⟩)) := hf.tmp (k := 12) rfl (by rw [ha]; decide) (Eq.trans (hA 12 (by kernel_rfl)) (Rg.cond_t hP))
        exact Rg.op_value (o := ⟨some 21, Op.nilCheck (Operand.tmp 18), _, _, _, _⟩) (x := .pointer (some ⟨A, 0, none⟩)) rfl hw (by clear hA HS hN hO s0; simp only [execOp]; go_simp) ⟨_, rfl, (fun h => by cases h), (Rg.cond_t hP).symm, hI, fun _ _ _ _ h => h⟩
    · intro ll bb w' hs hlf hN hO hf hI hA
      clear hi'
      have qg : bb.tmps[17]? = some (cond true (.bool ((cb 0) && (ST te))) undef) := hf.tmp (k := 11) rfl (by rw [ha]; decide) (hA 11 (by kernel_rfl))
      cases hP : (true && (((cb 0) && (ST te)) == true)) with
      | false => exact Rg.op_none (o := ⟨some 22, _, _, _, _, _⟩) rfl (Rg.unwanted_c (g := 11) rfl rfl qg hP) ⟨_, rfl, (fun h => by cases h), Rg.cond_f hP, hI, fun _ _ _ _ h => h⟩
      | true =>
        have hw := Rg.wanted_c (ops := (Rg.opsOf Try.f29 1)) (o := (Rg.opsOf Try.f29 1)[16]'(by rw [sizeRu1]; decide)) (g := 11) rfl rfl qg hP
        have g0 := Rg.pc_r hP
        have q21 : bb.tmps[21]? = some (.pointer (some ⟨A, 0, none⟩)) := hf.tmp (k := 15) rfl (by rw [ha]; decide) (Eq.trans (hA 15 (by kernel_rfl)) (Rg.cond_t hP))
        have q20 : bb.tmps[20]? = some (.int .i64 (th : Nat)) := hf.tmp (k := 14) rfl (by rw [ha]; decide) (Eq.trans (hA 14 (by kernel_rfl)) (Rg.cond_t hP))
        have hin2 : (th : Int) < (100 : Int) := by omega
        exact Rg.op_value (o := ⟨some 22, Op.indexAddr 61 (Operand.tmp 21) (Operand.tmp 20), _, _, _, _⟩) (x := .pointer (some ⟨A, th, none⟩)) rfl hw (by clear hA HS hN hO s0; simp only [execOp]; go_simp) ⟨_, rfl, (fun h => by cases h), (Rg.cond_t hP).symm, hI, fun _ _ _ _ h => h⟩
    · intro ll bb w' hs hlf hN hO hf hI hA
      clear hi'
      have qg : bb.tmps[17]? = some (cond true (.bool ((cb 0) && (ST te))) undef) := hf.tmp (k := 11) rfl (by rw [ha]; decide) (hA 11 (by kernel_rfl))
      cases hP : (true && (((cb 0) && (ST te)) == true)) with
      | false => exact Rg.op_none (o := ⟨some 23, _, _, _, _, _⟩) rfl (Rg.unwanted_c (g := 11) rfl rfl qg hP) ⟨_, rfl, (fun h => by cases h), Rg.cond_f hP, hI, fun _ _ _ _ h => h⟩
      | true =>
        have hw := Rg.wanted_c (ops := (Rg.opsOf Try.f29 1)) (o := (Rg.opsOf Try.f29 1)[17]'(by rw [sizeRu1]; decide)) (g := 11) rfl rfl qg hP
        have g0 := Rg.pc_r hP
        have q22 : bb.tmps[22]? = some (.pointer (some ⟨A, th, none⟩)) := hf.tmp (k := 16) rfl (by rw [ha]; decide) (Eq.trans (hA 16 (by kernel_rfl)) (Rg.cond_t hP))
        have e0 := (hI.cell (p := ⟨A, th, none⟩) hAl).trans (s0 th hth)
        exact Rg.op_value (o := ⟨some 23, Op.load 4 (Operand.tmp 22), _, _, _, _⟩) (x := .bool (ST th)) rfl hw (by clear hA HS hN hO s0; simp only [execOp]; go_simp) ⟨_, rfl, (fun h => by cases h), (Rg.cond_t hP).symm, hI, fun _ _ _ _ h => h⟩
    · intro ll bb w' hs hlf hN hO hf hI hA
      clear hi'
      have qg : bb.tmps[17]? = some (cond true (.bool ((cb 0) && (ST te))) undef) := hf.tmp (k := 11) rfl (by rw [ha]; decide) (hA 11 (by kernel_rfl))
      cases hP : (true && (((cb 0) && (ST te)) == true)) with
      | false => exact Rg.op_none (o := ⟨some 24, _, _, _, _, _⟩) rfl (Rg.unwanted_c (g := 11) rfl rfl qg hP) ⟨_, rfl, (fun h => by cases h), Rg.cond_f hP, hI, fun _ _ _ _ h => h⟩
      | true =>
        have hw := Rg.wanted_c (ops := (Rg.opsOf Try.f29 1)) (o := (Rg.opsOf Try.f29 1)[18]'(by rw [sizeRu1]; decide)) (g := 11) rfl rfl qg hP
        have g0 := Rg.pc_r hP
        have q23 : bb.tmps[23]? = some (.bool (ST th)) := hf.tmp (k := 17) rfl (by rw [ha]; decide) (Eq.trans (hA 17 (by kernel_rfl)) (Rg.cond_t hP))
        exact Rg.op_value (o := ⟨some 24, Op.unOp UnOp.not 4 (Operand.tmp 23), _, _, _, _⟩) (x := .bool (!(ST th))) rfl hw (by clear hA HS hN hO s0; simp only [execOp]; go_simp) ⟨_, rfl, (fun h => by cases h), (Rg.cond_t hP).symm, hI, fun _ _ _ _ h => h⟩
    · intro ll bb w' hs hlf hN hO hf hI hA
      clear hi'
      have q17 : bb.tmps[17]? = some _ := hf.tmp (k := 11) rfl (by rw [ha]; decide) (hA 11 (by kernel_rfl))
      cases hC : ((cb 0) && (ST te)) with
      | false =>
        have hval : ((.bool (((cb 0) && (ST te)) && (!(ST th))) : Value)) = .bool false := by rw [hC]; rfl
        exact Rg.op_value (o := ⟨some 25, Op.pick (Operand.tmp 17) (Operand.tmp 24) (Operand.const (Value.bool false)), _, _, _, _⟩) (x := .bool false) rfl rfl (by rw [hC] at q17; clear hA HS hN hO s0 hval; simp only [execOp]; go_simp) ⟨_, rfl, (fun h => by cases h), (by show ((.bool false : Value)) = _; exact hval.symm), hI, fun _ _ _ _ h => h⟩
      | true =>
        have hB : (true && (((cb 0) && (ST te)) == true)) = true := by rw [hC]; rfl
        have q24 : bb.tmps[24]? = some (.bool (!(ST th))) := hf.tmp (k := 18) rfl (by rw [ha]; decide) (Eq.trans (hA 18 (by kernel_rfl)) (Rg.cond_t hB))
        have hval : ((.bool (((cb 0) && (ST te)) && (!(ST th))) : Value)) = .bool (!(ST th)) := by rw [hC]; rfl
        exact Rg.op_value (o := ⟨some 25, Op.pick (Operand.tmp 17) (Operand.tmp 24) (Operand.const (Value.bool false)), _, _, _, _⟩) (x := .bool (!(ST th))) rfl rfl (by rw [hC] at q17; clear hA HS hN hO s0 hval; simp only [execOp]; go_simp) ⟨_, rfl, (fun h => by cases h), (by show ((.bool (!(ST th)) : Value)) = _; exact hval.symm), hI, fun _ _ _ _ h => h⟩
    · intro ll bb w' hs hlf hN hO hf hI hA
      clear hi'
      have q7 : bb.tmps[7]? = some _ := hf.tmp (k := 1) rfl (by rw [ha]; decide) (hA 1 (by kernel_rfl))
      exact Rg.op_value (o := ⟨some 4, Op.assign (Operand.tmp 7), _, _, _, _⟩) (x := .int .i64 (th : Nat)) rfl rfl (by clear hA HS hN hO s0; simp only [execOp]; go_simp) ⟨_, rfl, (fun h => by cases h), rfl, hI, fun _ _ _ _ h => h⟩
    · intro ll bb w' hs hlf hN hO hf hI hA
      clear hi'
      have q25 : bb.tmps[25]? = some _ := hf.tmp (k := 19) rfl (by rw [ha]; decide) (hA 19 (by kernel_rfl))
      exact Rg.op_value (o := ⟨some 5, Op.assign (Operand.tmp 25), _, _, _, _⟩) (x := .bool (((cb 0) && (ST te)) && (!(ST th)))) rfl rfl (by clear hA HS hN hO s0; simp only [execOp]; go_simp) ⟨_, rfl, (fun h => by cases h), rfl, hI, fun _ _ _ _ h => h⟩

theorem dRu1_0 : Rg.dstAt (Rg.opsOf Try.f29 1) 0 = some 6 := by kernel_rfl
theorem dRu1_1 : Rg.dstAt (Rg.opsOf Try.f29 1) 1 = some 7 := by kernel_rfl
theorem dRu1_2 : Rg.dstAt (Rg.opsOf Try.f29 1) 2 = some 8 := by kernel_rfl
theorem dRu1_3 : Rg.dstAt (Rg.opsOf Try.f29 1) 3 = some 9 := by kernel_rfl
theorem dRu1_4 : Rg.dstAt (Rg.opsOf Try.f29 1) 4 = some 10 := by kernel_rfl
theorem dRu1_5 : Rg.dstAt (Rg.opsOf Try.f29 1) 5 = some 11 := by kernel_rfl
theorem dRu1_6 : Rg.dstAt (Rg.opsOf Try.f29 1) 6 = some 12 := by kernel_rfl
theorem dRu1_7 : Rg.dstAt (Rg.opsOf Try.f29 1) 7 = some 13 := by kernel_rfl
theorem dRu1_8 : Rg.dstAt (Rg.opsOf Try.f29 1) 8 = some 14 := by kernel_rfl
theorem dRu1_9 : Rg.dstAt (Rg.opsOf Try.f29 1) 9 = some 15 := by kernel_rfl
theorem dRu1_10 : Rg.dstAt (Rg.opsOf Try.f29 1) 10 = some 16 := by kernel_rfl
theorem dRu1_11 : Rg.dstAt (Rg.opsOf Try.f29 1) 11 = some 17 := by kernel_rfl
theorem dRu1_12 : Rg.dstAt (Rg.opsOf Try.f29 1) 12 = some 18 := by kernel_rfl
theorem dRu1_13 : Rg.dstAt (Rg.opsOf Try.f29 1) 13 = some 19 := by kernel_rfl
theorem dRu1_14 : Rg.dstAt (Rg.opsOf Try.f29 1) 14 = some 20 := by kernel_rfl
theorem dRu1_15 : Rg.dstAt (Rg.opsOf Try.f29 1) 15 = some 21 := by kernel_rfl
theorem dRu1_16 : Rg.dstAt (Rg.opsOf Try.f29 1) 16 = some 22 := by kernel_rfl
theorem dRu1_17 : Rg.dstAt (Rg.opsOf Try.f29 1) 17 = some 23 := by kernel_rfl
theorem dRu1_18 : Rg.dstAt (Rg.opsOf Try.f29 1) 18 = some 24 := by kernel_rfl
theorem dRu1_19 : Rg.dstAt (Rg.opsOf Try.f29 1) 19 = some 25 := by kernel_rfl
theorem dRu1_20 : Rg.dstAt (Rg.opsOf Try.f29 1) 20 = some 4 := by kernel_rfl
theorem dRu1_21 : Rg.dstAt (Rg.opsOf Try.f29 1) 21 = some 5 := by kernel_rfl
theorem layRu1 {a b : Act} (hf : Rg.Fr (Rg.opsOf Try.f29 1) a b) : b = ((((((((((((((((((((((a.put (some 6) (Rg.out (Rg.opsOf Try.f29 1) b 0)).put (some 7) (Rg.out (Rg.opsOf Try.f29 1) b 1)).put (some 8) (Rg.out (Rg.opsOf Try.f29 1) b 2)).put (some 9) (Rg.out (Rg.opsOf Try.f29 1) b 3)).put (some 10) (Rg.out (Rg.opsOf Try.f29 1) b 4)).put (some 11) (Rg.out (Rg.opsOf Try.f29 1) b 5)).put (some 12) (Rg.out (Rg.opsOf Try.f29 1) b 6)).put (some 13) (Rg.out (Rg.opsOf Try.f29 1) b 7)).put (some 14) (Rg.out (Rg.opsOf Try.f29 1) b 8)).put (some 15) (Rg.out (Rg.opsOf Try.f29 1) b 9)).put (some 16) (Rg.out (Rg.opsOf Try.f29 1) b 10)).put (some 17) (Rg.out (Rg.opsOf Try.f29 1) b 11)).put (some 18) (Rg.out (Rg.opsOf Try.f29 1) b 12)).put (some 19) (Rg.out (Rg.opsOf Try.f29 1) b 13)).put (some 20) (Rg.out (Rg.opsOf Try.f29 1) b 14)).put (some 21) (Rg.out (Rg.opsOf Try.f29 1) b 15)).put (some 22) (Rg.out (Rg.opsOf Try.f29 1) b 16)).put (some 23) (Rg.out (Rg.opsOf Try.f29 1) b 17)).put (some 24) (Rg.out (Rg.opsOf Try.f29 1) b 18)).put (some 25) (Rg.out (Rg.opsOf Try.f29 1) b 19)).put (some 4) (Rg.out (Rg.opsOf Try.f29 1) b 20)).put (some 5) (Rg.out (Rg.opsOf Try.f29 1) b 21)) := by
  have h := hf.chain
  rw [sizeRu1, show List.range 22 = [0, 1, 2, 3, 4, 5, 6, 7, 8, 9, 10, 11, 12, 13, 14, 15, 16, 17, 18, 19, 20, 21] from by decide] at h
  simp only [List.foldl_cons, List.foldl_nil, dRu1_0, dRu1_1, dRu1_2, dRu1_3, dRu1_4, dRu1_5, dRu1_6, dRu1_7, dRu1_8, dRu1_9, dRu1_10, dRu1_11, dRu1_12, dRu1_13, dRu1_14, dRu1_15, dRu1_16, dRu1_17, dRu1_18, dRu1_19, dRu1_20, dRu1_21] at h
  exact h

set_option maxRecDepth 20000 in
set_option maxHeartbeats 4000000 in
theorem irule_any (A R C te th : Nat) (cb : Bool) (ST : Nat → Bool) (w : World) (hRl : R < w.heap.size) (hCl : C < w.heap.size) (hAl : A < w.heap.size) (r0 : w.cell? ⟨R, 0, none⟩ = some (.int .i64 (te : Nat))) (r3 : w.cell? ⟨R, 3, none⟩ = some (.int .i64 (th : Nat))) (c0 : w.cell? ⟨C, 0, none⟩ = some (.bool cb)) (s0 : ∀ j, j < 100 → w.cell? ⟨A, j, none⟩ = some (.bool (ST j))) (hte : te < 100) (hth : th < 100) :
    Calls Try.prog 29 #[.pointer (some ⟨A, 0, none⟩), .pointer (some ⟨R, 0, none⟩), .pointer (some ⟨C, 0, none⟩)] w fun e w' => e = .returned (.tuple #[.int .i64 (th : Nat), .bool (cb && ST te && !ST th)]) ∧ Below w.heap.size w w' := by
  have HS := hidden s0
  clear s0
  go_enter Try.func29, Try.ntmps29
  go_upto_region 1 with fail
  refine regRu1 (cb := fun _ => cb) rfl rfl rfl rfl hRl hCl hAl r0 r3 c0 HS.out hte hth ?_
  intro b' w5 hf hb5 hv20 hv21
  rw [layRu1 hf, hv20, hv21]
  clear hv20 hv21 hf
  generalize Rg.out (Rg.opsOf Try.f29 1) b' 0 = y0; generalize Rg.out (Rg.opsOf Try.f29 1) b' 1 = y1; generalize Rg.out (Rg.opsOf Try.f29 1) b' 2 = y2; generalize Rg.out (Rg.opsOf Try.f29 1) b' 3 = y3; generalize Rg.out (Rg.opsOf Try.f29 1) b' 4 = y4; generalize Rg.out (Rg.opsOf Try.f29 1) b' 5 = y5; generalize Rg.out (Rg.opsOf Try.f29 1) b' 6 = y6; generalize Rg.out (Rg.opsOf Try.f29 1) b' 7 = y7; generalize Rg.out (Rg.opsOf Try.f29 1) b' 8 = y8; generalize Rg.out (Rg.opsOf Try.f29 1) b' 9 = y9; generalize Rg.out (Rg.opsOf Try.f29 1) b' 10 = y10; generalize Rg.out (Rg.opsOf Try.f29 1) b' 11 = y11; generalize Rg.out (Rg.opsOf Try.f29 1) b' 12 = y12; generalize Rg.out (Rg.opsOf Try.f29 1) b' 13 = y13; generalize Rg.out (Rg.opsOf Try.f29 1) b' 14 = y14; generalize Rg.out (Rg.opsOf Try.f29 1) b' 15 = y15; generalize Rg.out (Rg.opsOf Try.f29 1) b' 16 = y16; generalize Rg.out (Rg.opsOf Try.f29 1) b' 17 = y17; generalize Rg.out (Rg.opsOf Try.f29 1) b' 18 = y18; generalize Rg.out (Rg.opsOf Try.f29 1) b' 19 = y19
  go_frame
  go_wp2_with fail
  refine bodyPost_ret (v := .tuple #[.int .i64 (th : Nat), .bool (cb && ST te && !ST th)]) (by simp [results, Try.results29, go_sem]) rfl ?_
  exact ⟨rfl, hb5⟩
end Go.Proofs.Ytldggndhdilncaa
