/-
  Merged: Q11a.
-/
import Derived.Test.YtgcpiinmcbdkmaaMh2
import Derived.Test.YtgcpiinmcbdkmaaMh3
import Derived.Test.YtgcpiinmcbdkmaaMh4
namespace Go.Proofs.Ytgcpiinmcbdkmaa
open Go.RowKit Va Bl
set_option linter.all false
def FAn4 (g off n cap i : Nat) (x y : Int) (i9 : Nat) (v : Value) (w : World) : Prop :=
  match i9 with
  | 0 => v = .slice (some ⟨g, off, none⟩) n cap
  | 1 => v = .int .i64 (i : Nat)
  | 2 => v = .pointer (some ⟨g, off + i, none⟩)
  | 3 => v = .int .i64 x
  | 4 => v = .bool (rng x 0 19)
  | 5 => v = .bool (!(rng x 0 19))
  | 6 => v = .bool (!(rng x 0 19))
  | 7 => v = cond (true && ((!(rng x 0 19)) == false)) (.int .i64 (i : Nat)) undef
  | 8 => v = cond (true && ((!(rng x 0 19)) == false)) (.bool (decide ((0 : Int) < (i : Int)))) undef
  | 9 => v = cond (true && ((!(rng x 0 19)) == false)) (.bool (decide ((0 : Int) < (i : Int)))) undef
  | 10 => v = cond ((true && ((!(rng x 0 19)) == false)) && ((decide ((0 : Int) < (i : Int))) == true)) (.slice (some ⟨g, off, none⟩) n cap) undef
  | 11 => v = cond ((true && ((!(rng x 0 19)) == false)) && ((decide ((0 : Int) < (i : Int))) == true)) (.int .i64 (i : Nat)) undef
  | 12 => v = cond ((true && ((!(rng x 0 19)) == false)) && ((decide ((0 : Int) < (i : Int))) == true)) (.pointer (some ⟨g, off + i, none⟩)) undef
  | 13 => v = cond ((true && ((!(rng x 0 19)) == false)) && ((decide ((0 : Int) < (i : Int))) == true)) (.int .i64 x) undef
  | 14 => v = cond ((true && ((!(rng x 0 19)) == false)) && ((decide ((0 : Int) < (i : Int))) == true)) (.slice (some ⟨g, off, none⟩) n cap) undef
  | 15 => v = cond ((true && ((!(rng x 0 19)) == false)) && ((decide ((0 : Int) < (i : Int))) == true)) (.int .i64 (i : Nat)) undef
  | 16 => v = cond ((true && ((!(rng x 0 19)) == false)) && ((decide ((0 : Int) < (i : Int))) == true)) (.int .i64 ((i - 1 : Nat) : Int)) undef
  | 17 => v = cond ((true && ((!(rng x 0 19)) == false)) && ((decide ((0 : Int) < (i : Int))) == true)) (.pointer (some ⟨g, off + (i - 1), none⟩)) undef
  | 18 => v = cond ((true && ((!(rng x 0 19)) == false)) && ((decide ((0 : Int) < (i : Int))) == true)) (.int .i64 y) undef
  | 19 => v = cond ((true && ((!(rng x 0 19)) == false)) && ((decide ((0 : Int) < (i : Int))) == true)) (.bool (decide (x ≤ y))) undef
  | 20 => v = cond (true && ((!(rng x 0 19)) == false)) (.bool ((decide ((0 : Int) < (i : Int))) && (decide (x ≤ y)))) undef
  | 21 => v = .bool ((!(rng x 0 19)) || ((decide ((0 : Int) < (i : Int))) && (decide (x ≤ y))))
  | _ => True
theorem sizeAn4 : (Rg.opsOf Try.f94 4).size = 22 := by kernel_rfl
set_option maxRecDepth 20000 in
set_option maxHeartbeats 8000000 in
theorem regAn4 {Q : Exit → Act → World → Prop} {a : Act} {w9 : World} {g off n cap i : Nat} {x y : Int} (ha : a.tmps.size = 32)
    (k0 : a.tmps[0]? = some (.slice (some ⟨g, off, none⟩) n cap)) (k3 : a.tmps[3]? = some (.int .i64 (i : Nat))) (hin : i < n) (hil : i < 2000000) (hgl : g < w9.heap.size) (x0 : w9.cell? ⟨g, off + i, none⟩ = some (.int .i64 x)) (y0 : 0 < i → w9.cell? ⟨g, off + (i - 1), none⟩ = some (.int .i64 y)) (hK : ∀ W, Calls Try.prog 52 #[.int .i64 x, .int .i64 0, .int .i64 19] W fun e W' => e = .returned (.bool (rng x 0 19)) ∧ W' = W)
    (hend : ∀ b' w', Rg.Fr (Rg.opsOf Try.f94 4) a b' → Below w9.heap.size w9 w' → Rg.out (Rg.opsOf Try.f94 4) b' 21 = .bool ((!(rng x 0 19)) || ((decide ((0 : Int) < (i : Int))) && (decide (x ≤ y)))) → Q .normal b' w') :
    (Code.region 4 (Rg.opsOf Try.f94 4) true).wp Try.prog Q a w9 := by
  refine Rg.region_set3 (by kernel_rfl) (fun _ w' => Below w9.heap.size w9 w') (FAn4 g off n cap i x y) (by rw [ha, sizeAn4]; kernel_rfl) (st_drew (Below.refl _ _)) ?_ ?_
  case refine_2 =>
    intro l b' w' hf hall hI hA
    rw [sizeAn4] at hA
    exact hend b' w' hf hI (hA 21 (by decide))
  case refine_1 =>
    clear hend
    have HS : ∀ {w w' : World}, Below w.heap.size w w' → ∀ k9 y9, FAn4 g off n cap i x y k9 y9 w → FAn4 g off n cap i x y k9 y9 w' := fun hb k9 y9 h => by
      unfold FAn4 at *
      split at h <;> exact h
    intro i' hi'
    rw [sizeAn4] at hi'
    rcases (show i' = 0 ∨ i' = 1 ∨ i' = 2 ∨ i' = 3 ∨ i' = 4 ∨ i' = 5 ∨ i' = 6 ∨ i' = 7 ∨ i' = 8 ∨ i' = 9 ∨ i' = 10 ∨ i' = 11 ∨ i' = 12 ∨ i' = 13 ∨ i' = 14 ∨ i' = 15 ∨ i' = 16 ∨ i' = 17 ∨ i' = 18 ∨ i' = 19 ∨ i' = 20 ∨ i' = 21 by omega) with rfl | rfl | rfl | rfl | rfl | rfl | rfl | rfl | rfl | rfl | rfl | rfl | rfl | rfl | rfl | rfl | rfl | rfl | rfl | rfl | rfl | rfl
    · intro ll bb w' hs hlf hN hO hf hI hA
      clear hi'
      have q0 := hf.kept (s := 0) (by rw [sizeAn4]; kernel_rfl) k0
      exact Rg.op_value (o := ⟨some 10, Op.move (Operand.tmp 0), _, _, _, _⟩) (x := .slice (some ⟨g, off, none⟩) n cap) rfl rfl (by clear hA HS hN hO hK; simp only [execOp]; go_simp) ⟨_, rfl, (fun h => by cases h), rfl, hI, fun _ _ _ _ h => h⟩
    · intro ll bb w' hs hlf hN hO hf hI hA
      clear hi'
      have q0 := hf.kept (s := 3) (by rw [sizeAn4]; kernel_rfl) k3
      exact Rg.op_value (o := ⟨some 11, Op.move (Operand.tmp 3), _, _, _, _⟩) (x := .int .i64 (i : Nat)) rfl rfl (by clear hA HS hN hO hK; simp only [execOp]; go_simp) ⟨_, rfl, (fun h => by cases h), rfl, hI, fun _ _ _ _ h => h⟩
    · intro ll bb w' hs hlf hN hO hf hI hA
      clear hi'
      have q10 : bb.tmps[10]? = some _ := hf.tmp (k := 0) rfl (by rw [ha]; decide) (hA 0 (by kernel_rfl))
      have q11 : bb.tmps[11]? = some _ := hf.tmp (k := 1) rfl (by rw [ha]; decide) (hA 1 (by kernel_rfl))
      have hi5 : ((i : Nat) : Int) < (n : Int) := by omega
      exact Rg.op_value (o := ⟨some 12, Op.indexAddr 25 (Operand.tmp 10) (Operand.tmp 11), _, _, _, _⟩) (x := .pointer (some ⟨g, off + i, none⟩)) rfl rfl (by clear hA HS hN hO hK; simp only [execOp]; go_simp) ⟨_, rfl, (fun h => by cases h), rfl, hI, fun _ _ _ _ h => h⟩
    · intro ll bb w' hs hlf hN hO hf hI hA
      clear hi'
      have q12 : bb.tmps[12]? = some _ := hf.tmp (k := 2) rfl (by rw [ha]; decide) (hA 2 (by kernel_rfl))
      have e8 := (hI.cell (p := ⟨g, off + i, none⟩) hgl).trans x0
      exact Rg.op_value (o := ⟨some 13, Op.load 2 (Operand.tmp 12), _, _, _, _⟩) (x := .int .i64 x) rfl rfl (by clear hA HS hN hO hK; simp only [execOp]; go_simp) ⟨_, rfl, (fun h => by cases h), rfl, hI, fun _ _ _ _ h => h⟩
    · intro ll bb w' hs hlf hN hO hf hI hA
      clear hi'
      have q13 : bb.tmps[13]? = some _ := hf.tmp (k := 3) rfl (by rw [ha]; decide) (hA 3 (by kernel_rfl))
      refine Rg.op_call (o := ⟨some 14, Op.call { callee := Callee.value (Operand.func 52), args := #[(Operand.tmp 13), (Operand.const (Value.int .i64 0)), (Operand.const (Value.int .i64 19))], argTypes := _ }, _, _, _, _⟩) rfl rfl (by clear hA HS hN hO hK; simp only [execOp, resolve]; go_simp) (hK w') ?_
      rintro e w2 ⟨rfl, rfl⟩
      exact ⟨_, rfl, _, rfl, (fun h => by cases h), rfl, hI, fun _ _ _ _ h => h⟩
    · intro ll bb w' hs hlf hN hO hf hI hA
      clear hi'
      have q14 : bb.tmps[14]? = some _ := hf.tmp (k := 4) rfl (by rw [ha]; decide) (hA 4 (by kernel_rfl))
      exact Rg.op_value (o := ⟨some 15, Op.unOp UnOp.not 4 (Operand.tmp 14), _, _, _, _⟩) (x := .bool (!(rng x 0 19))) rfl rfl (by clear hA HS hN hO hK; simp only [execOp]; go_simp) ⟨_, rfl, (fun h => by cases h), rfl, hI, fun _ _ _ _ h => h⟩
    · intro ll bb w' hs hlf hN hO hf hI hA
      clear hi'
      have q15 : bb.tmps[15]? = some _ := hf.tmp (k := 5) rfl (by rw [ha]; decide) (hA 5 (by kernel_rfl))
      exact Rg.op_value (o := ⟨some 16, Op.move (Operand.tmp 15), _, _, _, _⟩) (x := .bool (!(rng x 0 19))) rfl rfl (by clear hA HS hN hO hK; simp only [execOp]; go_simp) ⟨_, rfl, (fun h => by cases h), rfl, hI, fun _ _ _ _ h => h⟩
    · intro ll bb w' hs hlf hN hO hf hI hA
      clear hi'
      have qg : bb.tmps[16]? = some (cond true (.bool (!(rng x 0 19))) undef) := hf.tmp (k := 6) rfl (by rw [ha]; decide) (hA 6 (by kernel_rfl))
      cases hP : (true && ((!(rng x 0 19)) == false)) with
      | false => exact Rg.op_none (o := ⟨some 17, _, _, _, _, _⟩) rfl (Rg.unwanted_c (g := 6) rfl rfl qg hP) ⟨_, rfl, (fun h => by cases h), Rg.cond_f hP, hI, fun _ _ _ _ h => h⟩
      | true =>
        have hw := Rg.wanted_c (ops := (Rg.opsOf Try.f94 4)) (o := (Rg.opsOf Try.f94 4)[7]'(by rw [sizeAn4]; decide)) (g := 6) rfl rfl qg hP
        have g0 := Rg.pc_r hP
        have q0 := hf.kept (s := 3) (by rw [sizeAn4]; kernel_rfl) k3
        exact Rg.op_value (o := ⟨some 17, Op.move (Operand.tmp 3), _, _, _, _⟩) (x := .int .i64 (i : Nat)) rfl hw (by clear hA HS hN hO hK; simp only [execOp]; go_simp) ⟨_, rfl, (fun h => by cases h), (Rg.cond_t hP).symm, hI, fun _ _ _ _ h => h⟩
    · intro ll bb w' hs hlf hN hO hf hI hA
      clear hi'
      have qg : bb.tmps[16]? = some (cond true (.bool (!(rng x 0 19))) undef) := hf.tmp (k := 6) rfl (by rw [ha]; decide) (hA 6 (by kernel_rfl))
      cases hP : (true && ((!(rng x 0 19)) == false)) with
      | false => exact Rg.op_none (o := ⟨some 18, _, _, _, _, _⟩) rfl (Rg.unwanted_c (g := 6) rfl rfl qg hP) ⟨_, rfl, (fun h => by cases h), Rg.cond_f hP, hI, fun _ _ _ _ h => h⟩
      | true =>
        have hw := Rg.wanted_c (ops := (Rg.opsOf Try.f94 4)) (o := (Rg.opsOf Try.f94 4)[8]'(by rw [sizeAn4]; decide)) (g := 6) rfl rfl qg hP
        have g0 := Rg.pc_r hP
        have q17 : bb.tmps[17]? = some (.int .i64 (i : Nat)) := hf.tmp (k := 7) rfl (by rw [ha]; decide) (Eq.trans (hA 7 (by kernel_rfl)) (Rg.cond_t hP))
        exact Rg.op_value (o := ⟨some 18, Op.binOp BinOp.gtr 3 (Operand.tmp 17) (Operand.const (Value.int .i64 0)) 3, _, _, _, _⟩) (x := .bool (decide ((0 : Int) < (i : Int)))) rfl hw (by clear hA HS hN hO hK; simp only [execOp]; go_simp) ⟨_, rfl, (fun h => by cases h), (Rg.cond_t hP).symm, hI, fun _ _ _ _ h => h⟩
    · intro ll bb w' hs hlf hN hO hf hI hA
      clear hi'
      have qg : bb.tmps[16]? = some (cond true (.bool (!(rng x 0 19))) undef) := hf.tmp (k := 6) rfl (by rw [ha]; decide) (hA 6 (by kernel_rfl))
      cases hP : (true && ((!(rng x 0 19)) == false)) with
      | false => exact Rg.op_none (o := ⟨some 19, _, _, _, _, _⟩) rfl (Rg.unwanted_c (g := 6) rfl rfl qg hP) ⟨_, rfl, (fun h => by cases h), Rg.cond_f hP, hI, fun _ _ _ _ h => h⟩
      | true =>
        have hw := Rg.wanted_c (ops := (Rg.opsOf Try.f94 4)) (o := (Rg.opsOf Try.f94 4)[9]'(by rw [sizeAn4]; decide)) (g := 6) rfl rfl qg hP
        have g0 := Rg.pc_r hP
        have q18 : bb.tmps[18]? = some (.bool (decide ((0 : Int) < (i : Int)))) := hf.tmp (k := 8) rfl (by rw [ha]; decide) (Eq.trans (hA 8 (by kernel_rfl)) (Rg.cond_t hP))
        exact Rg.op_value (o := ⟨some 19, Op.move (Operand.tmp 18), _, _, _, _⟩) (x := .bool (decide ((0 : Int) < (i : Int)))) rfl hw (by clear hA HS hN hO hK; simp only [execOp]; go_simp) ⟨_, rfl, (fun h => by cases h), (Rg.cond_t hP).symm, hI, fun _ _ _ _ h => h⟩
    · intro ll bb w' hs hlf hN hO hf hI hA
      clear hi'
      have qg : bb.tmps[19]? = some (cond (true && ((!(rng x 0 19)) == false)) (.bool (decide ((0 : Int) < (i : Int)))) undef) := hf.tmp (k := 9) rfl (by rw [ha]; decide) (hA 9 (by kernel_rfl))
      cases hP : ((true && ((!(rng x 0 19)) == false)) && ((decide ((0 : Int) < (i : Int))) == true)) with
      | false => exact Rg.op_none (o := ⟨some 20, _, _, _, _, _⟩) rfl (Rg.unwanted_c (g := 9) rfl rfl qg hP) ⟨_, rfl, (fun h => by cases h), Rg.cond_f hP, hI, fun _ _ _ _ h => h⟩
      | true =>
        have hw := Rg.wanted_c (ops := (Rg.opsOf Try.f94 4)) (o := (Rg.opsOf Try.f94 4)[10]'(by rw [sizeAn4]; decide)) (g := 9) rfl rfl qg hP
        have g1 := Rg.pc_r hP
        have p1 := Rg.pc_l hP
        have g0 := Rg.pc_r p1
        have q0 := hf.kept (s := 0) (by rw [sizeAn4]; kernel_rfl) k0
        exact Rg.op_value (o := ⟨some 20, Op.move (Operand.tmp 0), _, _, _, _⟩) (x := .slice (some ⟨g, off, none⟩) n cap) rfl hw (by clear hA HS hN hO hK; simp only [execOp]; go_simp) ⟨_, rfl, (fun h => by cases h), (Rg.cond_t hP).symm, hI, fun _ _ _ _ h => h⟩
    · intro ll bb w' hs hlf hN hO hf hI hA
      clear hi'
      have qg : bb.tmps[19]? = some (cond (true && ((!(rng x 0 19)) == false)) (.bool (decide ((0 : Int) < (i : Int)))) undef) := hf.tmp (k := 9) rfl (by rw [ha]; decide) (hA 9 (by kernel_rfl))
      cases hP : ((true && ((!(rng x 0 19)) == false)) && ((decide ((0 : Int) < (i : Int))) == true)) with
      | false => exact Rg.op_none (o := ⟨some 21, _, _, _, _, _⟩) rfl (Rg.unwanted_c (g := 9) rfl rfl qg hP) ⟨_, rfl, (fun h => by cases h), Rg.cond_f hP, hI, fun _ _ _ _ h => h⟩
      | true =>
        have hw := Rg.wanted_c (ops := (Rg.opsOf Try.f94 4)) (o := (Rg.opsOf Try.f94 4)[11]'(by rw [sizeAn4]; decide)) (g := 9) rfl rfl qg hP
        have g1 := Rg.pc_r hP
        have p1 := Rg.pc_l hP
        have g0 := Rg.pc_r p1
        have q0 := hf.kept (s := 3) (by rw [sizeAn4]; kernel_rfl) k3
        exact Rg.op_value (o := ⟨some 21, Op.move (Operand.tmp 3), _, _, _, _⟩) (x := .int .i64 (i : Nat)) rfl hw (by clear hA HS hN hO hK; simp only [execOp]; go_simp) ⟨_, rfl, (fun h => by cases h), (Rg.cond_t hP).symm, hI, fun _ _ _ _ h => h⟩
    · intro ll bb w' hs hlf hN hO hf hI hA
      clear hi'
      have qg : bb.tmps[19]? = some (cond (true && ((!(rng x 0 19)) == false)) (.bool (decide ((0 : Int) < (i : Int)))) undef) := hf.tmp (k := 9) rfl (by rw [ha]; decide) (hA 9 (by kernel_rfl))
      cases hP : ((true && ((!(rng x 0 19)) == false)) && ((decide ((0 : Int) < (i : Int))) == true)) with
      | false => exact Rg.op_none (o := ⟨some 22, _, _, _, _, _⟩) rfl (Rg.unwanted_c (g := 9) rfl rfl qg hP) ⟨_, rfl, (fun h => by cases h), Rg.cond_f hP, hI, fun _ _ _ _ h => h⟩
      | true =>
        have hw := Rg.wanted_c (ops := (Rg.opsOf Try.f94 4)) (o := (Rg.opsOf Try.f94 4)[12]'(by rw [sizeAn4]; decide)) (g := 9) rfl rfl qg hP
        have g1 := Rg.pc_r hP
        have p1 := Rg.pc_l hP
        have g0 := Rg.pc_r p1
        have q20 : bb.tmps[20]? = some (.slice (some ⟨g, off, none⟩) n cap) := hf.tmp (k := 10) rfl (by rw [ha]; decide) (Eq.trans (hA 10 (by kernel_rfl)) (Rg.cond_t hP))
        have q21 : bb.tmps[21]? = some (.int .i64 (i : Nat)) := hf.tmp (k := 11) rfl (by rw [ha]; decide) (Eq.trans (hA 11 (by kernel_rfl)) (Rg.cond_t hP))
        have hi5 : ((i : Nat) : Int) < (n : Int) := by omega
        exact Rg.op_value (o := ⟨some 22, Op.indexAddr 25 (Operand.tmp 20) (Operand.tmp 21), _, _, _, _⟩) (x := .pointer (some ⟨g, off + i, none⟩)) rfl hw (by clear hA HS hN hO hK; simp only [execOp]; go_simp) ⟨_, rfl, (fun h => by cases h), (Rg.cond_t hP).symm, hI, fun _ _ _ _ h => h⟩
    · intro ll bb w' hs hlf hN hO hf hI hA
      clear hi'
      have qg : bb.tmps[19]? = some (cond (true && ((!(rng x 0 19)) == false)) (.bool (decide ((0 : Int) < (i : Int)))) undef) := hf.tmp (k := 9) rfl (by rw [ha]; decide) (hA 9 (by kernel_rfl))
      cases hP : ((true && ((!(rng x 0 19)) == false)) && ((decide ((0 : Int) < (i : Int))) == true)) with
      | false => exact Rg.op_none (o := ⟨some 23, _, _, _, _, _⟩) rfl (Rg.unwanted_c (g := 9) rfl rfl qg hP) ⟨_, rfl, (fun h => by cases h), Rg.cond_f hP, hI, fun _ _ _ _ h => h⟩
      | true =>
        have hw := Rg.wanted_c (ops := (Rg.opsOf Try.f94 4)) (o := (Rg.opsOf Try.f94 4)[13]'(by rw [sizeAn4]; decide)) (g := 9) rfl rfl qg hP
        have g1 := Rg.pc_r hP
        have p1 := Rg.pc_l hP
        have g0 := Rg.pc_r p1
        have q22 : bb.tmps[22]? = some (.pointer (some ⟨g, off + i, none⟩)) := hf.tmp (k := 12) rfl (by rw [ha]; decide) (Eq.trans (hA 12 (by kernel_rfl)) (Rg.cond_t hP))
        have e8 := (hI.cell (p := ⟨g, off + i, none⟩) hgl).trans x0
        exact Rg.op_value (o := ⟨some 23, Op.load 2 (Operand.tmp 22), _, _, _, _⟩) (x := .int .i64 x) rfl hw (by clear hA HS hN hO hK; simp only [execOp]; go_simp) ⟨_, rfl, (fun h => by cases h), (Rg.cond_t hP).symm, hI, fun _ _ _ _ h => h⟩
    · intro ll bb w' hs hlf hN hO hf hI hA
      clear hi'
      have qg : bb.tmps[19]? = some (cond (true && ((!(rng x 0 19)) == false)) (.bool (decide ((0 : Int) < (i : Int)))) undef) := hf.tmp (k := 9) rfl (by rw [ha]; decide) (hA 9 (by kernel_rfl))
      cases hP : ((true && ((!(rng x 0 19)) == false)) && ((decide ((0 : Int) < (i : Int))) == true)) with
      | false => exact Rg.op_none (o := ⟨some 24, _, _, _, _, _⟩) rfl (Rg.unwanted_c (g := 9) rfl rfl qg hP) ⟨_, rfl, (fun h => by cases h), Rg.cond_f hP, hI, fun _ _ _ _ h => h⟩
      | true =>
        have hw := Rg.wanted_c (ops := (Rg.opsOf Try.f94 4)) (o := (Rg.opsOf Try.f94 4)[14]'(by rw [sizeAn4]; decide)) (g := 9) rfl rfl qg hP
        have g1 := Rg.pc_r hP
        have p1 := Rg.pc_l hP
        have g0 := Rg.pc_r p1
        have q0 := hf.kept (s := 0) (by rw [sizeAn4]; kernel_rfl) k0
        exact Rg.op_value (o := ⟨some 24, Op.move (Operand.tmp 0), _, _, _, _⟩) (x := .slice (some ⟨g, off, none⟩) n cap) rfl hw (by clear hA HS hN hO hK; simp only [execOp]; go_simp) ⟨_, rfl, (fun h => by cases h), (Rg.cond_t hP).symm, hI, fun _ _ _ _ h => h⟩
    · intro ll bb w' hs hlf hN hO hf hI hA
      clear hi'
      have qg : bb.tmps[19]? = some (cond (true && ((!(rng x 0 19)) == false)) (.bool (decide ((0 : Int) < (i : Int)))) undef) := hf.tmp (k := 9) rfl (by rw [ha]; decide) (hA 9 (by kernel_rfl))
      cases hP : ((true && ((!(rng x 0 19)) == false)) && ((decide ((0 : Int) < (i : Int))) == true)) with
      | false => exact Rg.op_none (o := ⟨some 25, _, _, _, _, _⟩) rfl (Rg.unwanted_c (g := 9) rfl rfl qg hP) ⟨_, rfl, (fun h => by cases h), Rg.cond_f hP, hI, fun _ _ _ _ h => h⟩
      | true =>
        have hw := Rg.wanted_c (ops := (Rg.opsOf Try.f94 4)) (o := (Rg.opsOf Try.f94 4)[15]'(by rw [sizeAn4]; decide)) (g := 9) rfl rfl qg hP
        have g1 := Rg.pc_r hP
        have p1 := Rg.pc_l hP
        have g0 := Rg.pc_r p1
        have q0 := hf.kept (s := 3) (by rw [sizeAn4]; kernel_rfl) k3
        exact Rg.op_value (o := ⟨some 25, Op.move (Operand.tmp 3), _, _, _, _⟩) (x := .int .i64 (i : Nat)) rfl hw (by clear hA HS hN hO hK; simp only [execOp]; go_simp) ⟨_, rfl, (fun h => by cases h), (Rg.cond_t hP).symm, hI, fun _ _ _ _ h => h⟩
    · intro ll bb w' hs hlf hN hO hf hI hA
      clear hi'
      have qg : bb.tmps[19]? = some (cond (true && ((!(rng x 0 19)) == false)) (.bool (decide ((0 : Int) < (i : Int)))) undef) := hf.tmp (k := 9) rfl (by rw [ha]; decide) (hA 9 (by kernel_rfl))
      cases hP : ((true && ((!(rng x 0 19)) == false)) && ((decide ((0 : Int) < (i : Int))) == true)) with
      | false => exact Rg.op_none (o := ⟨some 26, _, _, _, _, _⟩) rfl (Rg.unwanted_c (g := 9) rfl rfl qg hP) ⟨_, rfl, (fun h => by cases h), Rg.cond_f hP, hI, fun _ _ _ _ h => h⟩
      | true =>
        have hw := Rg.wanted_c (ops := (Rg.opsOf Try.f94 4)) (o := (Rg.opsOf Try.f94 4)[16]'(by rw [sizeAn4]; decide)) (g := 9) rfl rfl qg hP
        have g1 := Rg.pc_r hP
        have p1 := Rg.pc_l hP
        have g0 := Rg.pc_r p1
        have q25 : bb.tmps[25]? = some (.int .i64 (i : Nat)) := hf.tmp (k := 15) rfl (by rw [ha]; decide) (Eq.trans (hA 15 (by kernel_rfl)) (Rg.cond_t hP))
        have hi0 : 0 < i := by have := g1; simp at this; omega
        have hwr : IntKind.i64.wrap ((i : Int) - 1) = ((i - 1 : Nat) : Int) := by rw [IntKind.wrap_i64]; omega
        exact Rg.op_value (o := ⟨some 26, Op.binOp BinOp.sub 3 (Operand.tmp 25) (Operand.const (Value.int .i64 1)) 3, _, _, _, _⟩) (x := .int .i64 ((i - 1 : Nat) : Int)) rfl hw (by clear hA HS hN hO hK; simp only [execOp]; go_simp) ⟨_, rfl, (fun h => by cases h), (Rg.cond_t hP).symm, hI, fun _ _ _ _ h => h⟩
    · intro ll bb w' hs hlf hN hO hf hI hA
      clear hi'
      have qg : bb.tmps[19]? = some (cond (true && ((!(rng x 0 19)) == false)) (.bool (decide ((0 : Int) < (i : Int)))) undef) := hf.tmp (k := 9) rfl (by rw [ha]; decide) (hA 9 (by kernel_rfl))
      cases hP : ((true && ((!(rng x 0 19)) == false)) && ((decide ((0 : Int) < (i : Int))) == true)) with
      | false => exact Rg.op_none (o := ⟨some 27, _, _, _, _, _⟩) rfl (Rg.unwanted_c (g := 9) rfl rfl qg hP) ⟨_, rfl, (fun h => by cases h), Rg.cond_f hP, hI, fun _ _ _ _ h => h⟩
      | true =>
        have hw := Rg.wanted_c (ops := (Rg.opsOf Try.f94 4)) (o := (Rg.opsOf Try.f94 4)[17]'(by rw [sizeAn4]; decide)) (g := 9) rfl rfl qg hP
        have g1 := Rg.pc_r hP
        have p1 := Rg.pc_l hP
        have g0 := Rg.pc_r p1
        have q24 : bb.tmps[24]? = some (.slice (some ⟨g, off, none⟩) n cap) := hf.tmp (k := 14) rfl (by rw [ha]; decide) (Eq.trans (hA 14 (by kernel_rfl)) (Rg.cond_t hP))
        have q26 : bb.tmps[26]? = some (.int .i64 ((i - 1 : Nat) : Int)) := hf.tmp (k := 16) rfl (by rw [ha]; decide) (Eq.trans (hA 16 (by kernel_rfl)) (Rg.cond_t hP))
        have hi0 : 0 < i := by have := g1; simp at this; omega
        have hi3 : ((i - 1 : Nat) : Int) < (n : Int) := by omega
        have hi4 : i - 1 < n := by omega
        exact Rg.op_value (o := ⟨some 27, Op.indexAddr 25 (Operand.tmp 24) (Operand.tmp 26), _, _, _, _⟩) (x := .pointer (some ⟨g, off + (i - 1), none⟩)) rfl hw (by clear hA HS hN hO hK; simp only [execOp]; go_simp) ⟨_, rfl, (fun h => by cases h), (Rg.cond_t hP).symm, hI, fun _ _ _ _ h => h⟩
    · intro ll bb w' hs hlf hN hO hf hI hA
      clear hi'
      have qg : bb.tmps[19]? = some (cond (true && ((!(rng x 0 19)) == false)) (.bool (decide ((0 : Int) < (i : Int)))) undef) := hf.tmp (k := 9) rfl (by rw [ha]; decide) (hA 9 (by kernel_rfl))
      cases hP : ((true && ((!(rng x 0 19)) == false)) && ((decide ((0 : Int) < (i : Int))) == true)) with
      | false => exact Rg.op_none (o := ⟨some 28, _, _, _, _, _⟩) rfl (Rg.unwanted_c (g := 9) rfl rfl qg hP) ⟨_, rfl, (fun h => by cases h), Rg.cond_f hP, hI, fun _ _ _ _ h => h⟩
      | true =>
        have hw := Rg.wanted_c (ops := (Rg.opsOf Try.f94 4)) (o := (Rg.opsOf Try.f94 4)[18]'(by rw [sizeAn4]; decide)) (g := 9) rfl rfl qg hP
        have g1 := Rg.pc_r hP
        have p1 := Rg.pc_l hP
        have g0 := Rg.pc_r p1
        have q27 : bb.tmps[27]? = some (.pointer (some ⟨g, off + (i - 1), none⟩)) := hf.tmp (k := 17) rfl (by rw [ha]; decide) (Eq.trans (hA 17 (by kernel_rfl)) (Rg.cond_t hP))
        have hi0 : 0 < i := by have := g1; simp at this; omega
        have e9 := (hI.cell (p := ⟨g, off + (i - 1), none⟩) hgl).trans (y0 hi0)
        exact Rg.op_value (o := ⟨some 28, Op.load 2 (Operand.tmp 27), _, _, _, _⟩) (x := .int .i64 y) rfl hw (by clear hA HS hN hO hK; simp only [execOp]; go_simp) ⟨_, rfl, (fun h => by cases h), (Rg.cond_t hP).symm, hI, fun _ _ _ _ h => h⟩
    · intro ll bb w' hs hlf hN hO hf hI hA
      clear hi'
      have qg : bb.tmps[19]? = some (cond (true && ((!(rng x 0 19)) == false)) (.bool (decide ((0 : Int) < (i : Int)))) undef) := hf.tmp (k := 9) rfl (by rw [ha]; decide) (hA 9 (by kernel_rfl))
      cases hP : ((true && ((!(rng x 0 19)) == false)) && ((decide ((0 : Int) < (i : Int))) == true)) with
      | false => exact Rg.op_none (o := ⟨some 29, _, _, _, _, _⟩) rfl (Rg.unwanted_c (g := 9) rfl rfl qg hP) ⟨_, rfl, (fun h => by cases h), Rg.cond_f hP, hI, fun _ _ _ _ h => h⟩
      | true =>
        have hw := Rg.wanted_c (ops := (Rg.opsOf Try.f94 4)) (o := (Rg.opsOf Try.f94 4)[19]'(by rw [sizeAn4]; decide)) (g := 9) rfl rfl qg hP
        have g1 := Rg.pc_r hP
        have p1 := Rg.pc_l hP
        have g0 := Rg.pc_r p1
        have q23 : bb.tmps[23]? = some (.int .i64 x) := hf.tmp (k := 13) rfl (by rw [ha]; decide) (Eq.trans (hA 13 (by kernel_rfl)) (Rg.cond_t hP))
        have q28 : bb.tmps[28]? = some (.int .i64 y) := hf.tmp (k := 18) rfl (by rw [ha]; decide) (Eq.trans (hA 18 (by kernel_rfl)) (Rg.cond_t hP))
        exact Rg.op_value (o := ⟨some 29, Op.binOp BinOp.leq 2 (Operand.tmp 23) (Operand.tmp 28) 2, _, _, _, _⟩) (x := .bool (decide (x ≤ y))) rfl hw (by clear hA HS hN hO hK; simp only [execOp]; go_simp) ⟨_, rfl, (fun h => by cases h), (Rg.cond_t hP).symm, hI, fun _ _ _ _ h => h⟩
    · intro ll bb w' hs hlf hN hO hf hI hA
      clear hi'
      have qg : bb.tmps[16]? = some (cond true (.bool (!(rng x 0 19))) undef) := hf.tmp (k := 6) rfl (by rw [ha]; decide) (hA 6 (by kernel_rfl))
      cases hP : (true && ((!(rng x 0 19)) == false)) with
      | false => exact Rg.op_none (o := ⟨some 30, _, _, _, _, _⟩) rfl (Rg.unwanted_c (g := 6) rfl rfl qg hP) ⟨_, rfl, (fun h => by cases h), Rg.cond_f hP, hI, fun _ _ _ _ h => h⟩
      | true =>
        have hw := Rg.wanted_c (ops := (Rg.opsOf Try.f94 4)) (o := (Rg.opsOf Try.f94 4)[20]'(by rw [sizeAn4]; decide)) (g := 6) rfl rfl qg hP
        have g0 := Rg.pc_r hP
        have q19 : bb.tmps[19]? = some (.bool (decide ((0 : Int) < (i : Int)))) := hf.tmp (k := 9) rfl (by rw [ha]; decide) (Eq.trans (hA 9 (by kernel_rfl)) (Rg.cond_t hP))
        cases hC : (decide ((0 : Int) < (i : Int))) with
        | false =>
          have hval : ((.bool ((decide ((0 : Int) < (i : Int))) && (decide (x ≤ y))) : Value)) = .bool false := by rw [hC]; rfl
          exact Rg.op_value (o := ⟨some 30, Op.pick (Operand.tmp 19) (Operand.tmp 29) (Operand.const (Value.bool false)), _, _, _, _⟩) (x := .bool false) rfl hw (by rw [hC] at q19; clear hA HS hN hO hK hval; simp only [execOp]; go_simp) ⟨_, rfl, (fun h => by cases h), (by show ((.bool false : Value)) = _; exact hval.symm.trans (Rg.cond_t hP).symm), hI, fun _ _ _ _ h => h⟩
        | true =>
          have hB : ((true && ((!(rng x 0 19)) == false)) && ((decide ((0 : Int) < (i : Int))) == true)) = true := by
            rw [hC]; first | rfl | (rw [hP]; rfl) | simp_all
          have q29 : bb.tmps[29]? = some (.bool (decide (x ≤ y))) := hf.tmp (k := 19) rfl (by rw [ha]; decide) (Eq.trans (hA 19 (by kernel_rfl)) (Rg.cond_t hB))
          have hval : ((.bool ((decide ((0 : Int) < (i : Int))) && (decide (x ≤ y))) : Value)) = .bool (decide (x ≤ y)) := by rw [hC]; rfl
          exact Rg.op_value (o := ⟨some 30, Op.pick (Operand.tmp 19) (Operand.tmp 29) (Operand.const (Value.bool false)), _, _, _, _⟩) (x := .bool (decide (x ≤ y))) rfl hw (by rw [hC] at q19; clear hA HS hN hO hK hval; simp only [execOp]; go_simp) ⟨_, rfl, (fun h => by cases h), (by show ((.bool (decide (x ≤ y)) : Value)) = _; exact hval.symm.trans (Rg.cond_t hP).symm), hI, fun _ _ _ _ h => h⟩
    · intro ll bb w' hs hlf hN hO hf hI hA
      clear hi'
      have q16 : bb.tmps[16]? = some _ := hf.tmp (k := 6) rfl (by rw [ha]; decide) (hA 6 (by kernel_rfl))
      cases hC : (!(rng x 0 19)) with
      | false =>
        have hB : (true && ((!(rng x 0 19)) == false)) = true := by rw [hC]; rfl
        have q30 : bb.tmps[30]? = some (.bool ((decide ((0 : Int) < (i : Int))) && (decide (x ≤ y)))) := hf.tmp (k := 20) rfl (by rw [ha]; decide) (Eq.trans (hA 20 (by kernel_rfl)) (Rg.cond_t hB))
        have hval : ((.bool ((!(rng x 0 19)) || ((decide ((0 : Int) < (i : Int))) && (decide (x ≤ y)))) : Value)) = .bool ((decide ((0 : Int) < (i : Int))) && (decide (x ≤ y))) := by rw [hC]; rfl
        exact Rg.op_value (o := ⟨some 31, Op.pick (Operand.tmp 16) (Operand.const (Value.bool true)) (Operand.tmp 30), _, _, _, _⟩) (x := .bool ((decide ((0 : Int) < (i : Int))) && (decide (x ≤ y)))) rfl rfl (by rw [hC] at q16; clear hA HS hN hO hK hval; simp only [execOp]; go_simp) ⟨_, rfl, (fun h => by cases h), (by show ((.bool ((decide ((0 : Int) < (i : Int))) && (decide (x ≤ y))) : Value)) = _; exact hval.symm), hI, fun _ _ _ _ h => h⟩
      | true =>
        have hval : ((.bool ((!(rng x 0 19)) || ((decide ((0 : Int) < (i : Int))) && (decide (x ≤ y)))) : Value)) = .bool true := by rw [hC]; rfl
        exact Rg.op_value (o := ⟨some 31, Op.pick (Operand.tmp 16) (Operand.const (Value.bool true)) (Operand.tmp 30), _, _, _, _⟩) (x := .bool true) rfl rfl (by rw [hC] at q16; clear hA HS hN hO hK hval; simp only [execOp]; go_simp) ⟨_, rfl, (fun h => by cases h), (by show ((.bool true : Value)) = _; exact hval.symm), hI, fun _ _ _ _ h => h⟩
theorem dAn4_0 : Rg.dstAt (Rg.opsOf Try.f94 4) 0 = some 10 := by kernel_rfl
theorem dAn4_1 : Rg.dstAt (Rg.opsOf Try.f94 4) 1 = some 11 := by kernel_rfl
theorem dAn4_2 : Rg.dstAt (Rg.opsOf Try.f94 4) 2 = some 12 := by kernel_rfl
theorem dAn4_3 : Rg.dstAt (Rg.opsOf Try.f94 4) 3 = some 13 := by kernel_rfl
theorem dAn4_4 : Rg.dstAt (Rg.opsOf Try.f94 4) 4 = some 14 := by kernel_rfl
theorem dAn4_5 : Rg.dstAt (Rg.opsOf Try.f94 4) 5 = some 15 := by kernel_rfl
theorem dAn4_6 : Rg.dstAt (Rg.opsOf Try.f94 4) 6 = some 16 := by kernel_rfl
theorem dAn4_7 : Rg.dstAt (Rg.opsOf Try.f94 4) 7 = some 17 := by kernel_rfl
theorem dAn4_8 : Rg.dstAt (Rg.opsOf Try.f94 4) 8 = some 18 := by kernel_rfl
theorem dAn4_9 : Rg.dstAt (Rg.opsOf Try.f94 4) 9 = some 19 := by kernel_rfl
theorem dAn4_10 : Rg.dstAt (Rg.opsOf Try.f94 4) 10 = some 20 := by kernel_rfl
theorem dAn4_11 : Rg.dstAt (Rg.opsOf Try.f94 4) 11 = some 21 := by kernel_rfl
theorem dAn4_12 : Rg.dstAt (Rg.opsOf Try.f94 4) 12 = some 22 := by kernel_rfl
theorem dAn4_13 : Rg.dstAt (Rg.opsOf Try.f94 4) 13 = some 23 := by kernel_rfl
theorem dAn4_14 : Rg.dstAt (Rg.opsOf Try.f94 4) 14 = some 24 := by kernel_rfl
theorem dAn4_15 : Rg.dstAt (Rg.opsOf Try.f94 4) 15 = some 25 := by kernel_rfl
theorem dAn4_16 : Rg.dstAt (Rg.opsOf Try.f94 4) 16 = some 26 := by kernel_rfl
theorem dAn4_17 : Rg.dstAt (Rg.opsOf Try.f94 4) 17 = some 27 := by kernel_rfl
theorem dAn4_18 : Rg.dstAt (Rg.opsOf Try.f94 4) 18 = some 28 := by kernel_rfl
theorem dAn4_19 : Rg.dstAt (Rg.opsOf Try.f94 4) 19 = some 29 := by kernel_rfl
theorem dAn4_20 : Rg.dstAt (Rg.opsOf Try.f94 4) 20 = some 30 := by kernel_rfl
theorem dAn4_21 : Rg.dstAt (Rg.opsOf Try.f94 4) 21 = some 31 := by kernel_rfl
theorem layAn4 {a b : Act} (hf : Rg.Fr (Rg.opsOf Try.f94 4) a b) : b = ((((((((((((((((((((((a.put (some 10) (Rg.out (Rg.opsOf Try.f94 4) b 0)).put (some 11) (Rg.out (Rg.opsOf Try.f94 4) b 1)).put (some 12) (Rg.out (Rg.opsOf Try.f94 4) b 2)).put (some 13) (Rg.out (Rg.opsOf Try.f94 4) b 3)).put (some 14) (Rg.out (Rg.opsOf Try.f94 4) b 4)).put (some 15) (Rg.out (Rg.opsOf Try.f94 4) b 5)).put (some 16) (Rg.out (Rg.opsOf Try.f94 4) b 6)).put (some 17) (Rg.out (Rg.opsOf Try.f94 4) b 7)).put (some 18) (Rg.out (Rg.opsOf Try.f94 4) b 8)).put (some 19) (Rg.out (Rg.opsOf Try.f94 4) b 9)).put (some 20) (Rg.out (Rg.opsOf Try.f94 4) b 10)).put (some 21) (Rg.out (Rg.opsOf Try.f94 4) b 11)).put (some 22) (Rg.out (Rg.opsOf Try.f94 4) b 12)).put (some 23) (Rg.out (Rg.opsOf Try.f94 4) b 13)).put (some 24) (Rg.out (Rg.opsOf Try.f94 4) b 14)).put (some 25) (Rg.out (Rg.opsOf Try.f94 4) b 15)).put (some 26) (Rg.out (Rg.opsOf Try.f94 4) b 16)).put (some 27) (Rg.out (Rg.opsOf Try.f94 4) b 17)).put (some 28) (Rg.out (Rg.opsOf Try.f94 4) b 18)).put (some 29) (Rg.out (Rg.opsOf Try.f94 4) b 19)).put (some 30) (Rg.out (Rg.opsOf Try.f94 4) b 20)).put (some 31) (Rg.out (Rg.opsOf Try.f94 4) b 21)) := by
  have h := hf.chain
  rw [sizeAn4, show List.range 22 = [0, 1, 2, 3, 4, 5, 6, 7, 8, 9, 10, 11, 12, 13, 14, 15, 16, 17, 18, 19, 20, 21] from by decide] at h
  simp only [List.foldl_cons, List.foldl_nil, dAn4_0, dAn4_1, dAn4_2, dAn4_3, dAn4_4, dAn4_5, dAn4_6, dAn4_7, dAn4_8, dAn4_9, dAn4_10, dAn4_11, dAn4_12, dAn4_13, dAn4_14, dAn4_15, dAn4_16, dAn4_17, dAn4_18, dAn4_19, dAn4_20, dAn4_21] at h
  exact h
def FBk6 (g off n cap i : Nat) (x : Ut) (tv : Value) (y : Int) (i9 : Nat) (v : Value) (w : World) : Prop :=
  match i9 with
  | 0 => v = .slice (some ⟨g, off, none⟩) n cap
  | 1 => v = .int .i64 (i : Nat)
  | 2 => v = .pointer (some ⟨g, off + i * 6, none⟩)
  | 3 => v = .agg #[.int .i64 x.id, .int .i64 x.grp, tv, .int .i64 x.til, .int .i64 x.st, .int .i64 x.fr]
  | 4 => v = .bool (unitB x)
  | 5 => v = .bool (!(unitB x))
  | 6 => v = .bool (!(unitB x))
  | 7 => v = cond (true && ((!(unitB x)) == false)) (.int .i64 (i : Nat)) undef
  | 8 => v = cond (true && ((!(unitB x)) == false)) (.bool (decide ((0 : Int) < (i : Int)))) undef
  | 9 => v = cond (true && ((!(unitB x)) == false)) (.bool (decide ((0 : Int) < (i : Int)))) undef
  | 10 => v = cond ((true && ((!(unitB x)) == false)) && ((decide ((0 : Int) < (i : Int))) == true)) (.slice (some ⟨g, off, none⟩) n cap) undef
  | 11 => v = cond ((true && ((!(unitB x)) == false)) && ((decide ((0 : Int) < (i : Int))) == true)) (.int .i64 (i : Nat)) undef
  | 12 => v = cond ((true && ((!(unitB x)) == false)) && ((decide ((0 : Int) < (i : Int))) == true)) (.pointer (some ⟨g, off + i * 6, none⟩)) undef
  | 13 => v = cond ((true && ((!(unitB x)) == false)) && ((decide ((0 : Int) < (i : Int))) == true)) (.pointer (some ⟨g, off + i * 6, none⟩)) undef
  | 14 => v = cond ((true && ((!(unitB x)) == false)) && ((decide ((0 : Int) < (i : Int))) == true)) (.int .i64 x.id) undef
  | 15 => v = cond ((true && ((!(unitB x)) == false)) && ((decide ((0 : Int) < (i : Int))) == true)) (.slice (some ⟨g, off, none⟩) n cap) undef
  | 16 => v = cond ((true && ((!(unitB x)) == false)) && ((decide ((0 : Int) < (i : Int))) == true)) (.int .i64 (i : Nat)) undef
  | 17 => v = cond ((true && ((!(unitB x)) == false)) && ((decide ((0 : Int) < (i : Int))) == true)) (.int .i64 ((i - 1 : Nat) : Int)) undef
  | 18 => v = cond ((true && ((!(unitB x)) == false)) && ((decide ((0 : Int) < (i : Int))) == true)) (.pointer (some ⟨g, off + (i - 1) * 6, none⟩)) undef
  | 19 => v = cond ((true && ((!(unitB x)) == false)) && ((decide ((0 : Int) < (i : Int))) == true)) (.pointer (some ⟨g, off + (i - 1) * 6, none⟩)) undef
  | 20 => v = cond ((true && ((!(unitB x)) == false)) && ((decide ((0 : Int) < (i : Int))) == true)) (.int .i64 y) undef
  | 21 => v = cond ((true && ((!(unitB x)) == false)) && ((decide ((0 : Int) < (i : Int))) == true)) (.bool (decide (x.id ≤ y))) undef
  | 22 => v = cond (true && ((!(unitB x)) == false)) (.bool ((decide ((0 : Int) < (i : Int))) && (decide (x.id ≤ y)))) undef
  | 23 => v = .bool ((!(unitB x)) || ((decide ((0 : Int) < (i : Int))) && (decide (x.id ≤ y))))
  | _ => True
theorem sizeBk6 : (Rg.opsOf Try.f49 6).size = 24 := by kernel_rfl
set_option maxRecDepth 20000 in
set_option maxHeartbeats 8000000 in
theorem regBk6 {Q : Exit → Act → World → Prop} {a : Act} {w9 : World} {g off n cap i : Nat} {x : Ut} {tv : Value} {y : Int} (ha : a.tmps.size = 37)
    (k0 : a.tmps[0]? = some (.slice (some ⟨g, off, none⟩) n cap)) (k3 : a.tmps[3]? = some (.int .i64 (i : Nat))) (hin : i < n) (hil : i < 2000000) (hgl : g < w9.heap.size) (y0 : 0 < i → w9.cell? ⟨g, off + (i - 1) * 6, none⟩ = some (.int .i64 y)) (u0 : w9.cell? ⟨g, off + i * 6, none⟩ = some (.int .i64 x.id)) (u1 : w9.cell? ⟨g, off + i * 6 + 1, none⟩ = some (.int .i64 x.grp)) (u2 : w9.cell? ⟨g, off + i * 6 + 2, none⟩ = some (tv)) (u3 : w9.cell? ⟨g, off + i * 6 + 3, none⟩ = some (.int .i64 x.til)) (u4 : w9.cell? ⟨g, off + i * 6 + 4, none⟩ = some (.int .i64 x.st)) (u5 : w9.cell? ⟨g, off + i * 6 + 5, none⟩ = some (.int .i64 x.fr))(hK : ∀ W, Below w9.heap.size w9 W → Calls Try.prog 91 #[.agg #[.int .i64 x.id, .int .i64 x.grp, tv, .int .i64 x.til, .int .i64 x.st, .int .i64 x.fr]] W fun e W' => e = .returned (.bool (unitB x)) ∧ Below W.heap.size W W')
    (hend : ∀ b' w', Rg.Fr (Rg.opsOf Try.f49 6) a b' → Below w9.heap.size w9 w' → Rg.out (Rg.opsOf Try.f49 6) b' 23 = .bool ((!(unitB x)) || ((decide ((0 : Int) < (i : Int))) && (decide (x.id ≤ y)))) → Q .normal b' w') :
    (Code.region 6 (Rg.opsOf Try.f49 6) true).wp Try.prog Q a w9 := by
  refine Rg.region_set3 (by kernel_rfl) (fun _ w' => Below w9.heap.size w9 w') (FBk6 g off n cap i x tv y) (by rw [ha, sizeBk6]; kernel_rfl) (st_drew (Below.refl _ _)) ?_ ?_
  case refine_2 =>
    intro l b' w' hf hall hI hA
    rw [sizeBk6] at hA
    exact hend b' w' hf hI (hA 23 (by decide))
  case refine_1 =>
    clear hend
    have HS : ∀ {w w' : World}, Below w.heap.size w w' → ∀ k9 y9, FBk6 g off n cap i x tv y k9 y9 w → FBk6 g off n cap i x tv y k9 y9 w' := fun hb k9 y9 h => by
      unfold FBk6 at *
      split at h <;> exact h
    intro i' hi'
    rw [sizeBk6] at hi'
    rcases (show i' = 0 ∨ i' = 1 ∨ i' = 2 ∨ i' = 3 ∨ i' = 4 ∨ i' = 5 ∨ i' = 6 ∨ i' = 7 ∨ i' = 8 ∨ i' = 9 ∨ i' = 10 ∨ i' = 11 ∨ i' = 12 ∨ i' = 13 ∨ i' = 14 ∨ i' = 15 ∨ i' = 16 ∨ i' = 17 ∨ i' = 18 ∨ i' = 19 ∨ i' = 20 ∨ i' = 21 ∨ i' = 22 ∨ i' = 23 by omega) with rfl | rfl | rfl | rfl | rfl | rfl | rfl | rfl | rfl | rfl | rfl | rfl | rfl | rfl | rfl | rfl | rfl | rfl | rfl | rfl | rfl | rfl | rfl | rfl
    · intro ll bb w' hs hlf hN hO hf hI hA
      clear hi'
      have q0 := hf.kept (s := 0) (by rw [sizeBk6]; kernel_rfl) k0
      exact Rg.op_value (o := ⟨some 13, Op.move (Operand.tmp 0), _, _, _, _⟩) (x := .slice (some ⟨g, off, none⟩) n cap) rfl rfl (by clear hA HS hN hO hK; simp only [execOp]; go_simp) ⟨_, rfl, (fun h => by cases h), rfl, hI, fun _ _ _ _ h => h⟩
    · intro ll bb w' hs hlf hN hO hf hI hA
      clear hi'
      have q0 := hf.kept (s := 3) (by rw [sizeBk6]; kernel_rfl) k3
      exact Rg.op_value (o := ⟨some 14, Op.move (Operand.tmp 3), _, _, _, _⟩) (x := .int .i64 (i : Nat)) rfl rfl (by clear hA HS hN hO hK; simp only [execOp]; go_simp) ⟨_, rfl, (fun h => by cases h), rfl, hI, fun _ _ _ _ h => h⟩
    · intro ll bb w' hs hlf hN hO hf hI hA
      clear hi'
      have q13 : bb.tmps[13]? = some _ := hf.tmp (k := 0) rfl (by rw [ha]; decide) (hA 0 (by kernel_rfl))
      have q14 : bb.tmps[14]? = some _ := hf.tmp (k := 1) rfl (by rw [ha]; decide) (hA 1 (by kernel_rfl))
      have hi5 : ((i : Nat) : Int) < (n : Int) := by omega
      exact Rg.op_value (o := ⟨some 15, Op.indexAddr 24 (Operand.tmp 13) (Operand.tmp 14), _, _, _, _⟩) (x := .pointer (some ⟨g, off + i * 6, none⟩)) rfl rfl (by clear hA HS hN hO hK; simp only [execOp]; go_simp) ⟨_, rfl, (fun h => by cases h), rfl, hI, fun _ _ _ _ h => h⟩
    · intro ll bb w' hs hlf hN hO hf hI hA
      clear hi'
      have q15 : bb.tmps[15]? = some _ := hf.tmp (k := 2) rfl (by rw [ha]; decide) (hA 2 (by kernel_rfl))
      have f0 := (hI.cell (p := ⟨g, off + i * 6, none⟩) hgl).trans u0
      have f1 := (hI.cell (p := ⟨g, off + i * 6 + 1, none⟩) hgl).trans u1
      have f2 := (hI.cell (p := ⟨g, off + i * 6 + 2, none⟩) hgl).trans u2
      have f3 := (hI.cell (p := ⟨g, off + i * 6 + 3, none⟩) hgl).trans u3
      have f4 := (hI.cell (p := ⟨g, off + i * 6 + 4, none⟩) hgl).trans u4
      have f5 := (hI.cell (p := ⟨g, off + i * 6 + 5, none⟩) hgl).trans u5
      exact Rg.op_value (o := ⟨some 16, Op.load 81 (Operand.tmp 15), _, _, _, _⟩) (x := .agg #[.int .i64 x.id, .int .i64 x.grp, tv, .int .i64 x.til, .int .i64 x.st, .int .i64 x.fr]) rfl rfl (by clear hA HS hN hO hK; simp only [execOp]; go_simp) ⟨_, rfl, (fun h => by cases h), rfl, hI, fun _ _ _ _ h => h⟩
    · intro ll bb w' hs hlf hN hO hf hI hA
      clear hi'
      have q16 : bb.tmps[16]? = some _ := hf.tmp (k := 3) rfl (by rw [ha]; decide) (hA 3 (by kernel_rfl))
      refine Rg.op_call (o := ⟨some 17, Op.call { callee := Callee.value (Operand.func 91), args := #[(Operand.tmp 16)], argTypes := _ }, _, _, _, _⟩) rfl rfl (by clear hA HS hN hO hK; simp only [execOp, resolve]; go_simp) (hK w' hI) ?_
      rintro e w2 ⟨rfl, hb2⟩
      exact ⟨_, rfl, _, rfl, (fun h => by cases h), rfl, onto hI hb2, fun k9 y9 _ _ h => HS hb2 k9 y9 h⟩
    · intro ll bb w' hs hlf hN hO hf hI hA
      clear hi'
      have q17 : bb.tmps[17]? = some _ := hf.tmp (k := 4) rfl (by rw [ha]; decide) (hA 4 (by kernel_rfl))
      exact Rg.op_value (o := ⟨some 18, Op.unOp UnOp.not 4 (Operand.tmp 17), _, _, _, _⟩) (x := .bool (!(unitB x))) rfl rfl (by clear hA HS hN hO hK; simp only [execOp]; go_simp) ⟨_, rfl, (fun h => by cases h), rfl, hI, fun _ _ _ _ h => h⟩
    · intro ll bb w' hs hlf hN hO hf hI hA
      clear hi'
      have q18 : bb.tmps[18]? = some _ := hf.tmp (k := 5) rfl (by rw [ha]; decide) (hA 5 (by kernel_rfl))
      exact Rg.op_value (o := ⟨some 19, Op.move (Operand.tmp 18), _, _, _, _⟩) (x := .bool (!(unitB x))) rfl rfl (by clear hA HS hN hO hK; simp only [execOp]; go_simp) ⟨_, rfl, (fun h => by cases h), rfl, hI, fun _ _ _ _ h => h⟩
    · intro ll bb w' hs hlf hN hO hf hI hA
      clear hi'
      have qg : bb.tmps[19]? = some (cond true (.bool (!(unitB x))) undef) := hf.tmp (k := 6) rfl (by rw [ha]; decide) (hA 6 (by kernel_rfl))
      cases hP : (true && ((!(unitB x)) == false)) with
      | false => exact Rg.op_none (o := ⟨some 20, _, _, _, _, _⟩) rfl (Rg.unwanted_c (g := 6) rfl rfl qg hP) ⟨_, rfl, (fun h => by cases h), Rg.cond_f hP, hI, fun _ _ _ _ h => h⟩
      | true =>
        have hw := Rg.wanted_c (ops := (Rg.opsOf Try.f49 6)) (o := (Rg.opsOf Try.f49 6)[7]'(by rw [sizeBk6]; decide)) (g := 6) rfl rfl qg hP
        have g0 := Rg.pc_r hP
        have q0 := hf.kept (s := 3) (by rw [sizeBk6]; kernel_rfl) k3
        exact Rg.op_value (o := ⟨some 20, Op.move (Operand.tmp 3), _, _, _, _⟩) (x := .int .i64 (i : Nat)) rfl hw (by clear hA HS hN hO hK; simp only [execOp]; go_simp) ⟨_, rfl, (fun h => by cases h), (Rg.cond_t hP).symm, hI, fun _ _ _ _ h => h⟩
    · intro ll bb w' hs hlf hN hO hf hI hA
      clear hi'
      have qg : bb.tmps[19]? = some (cond true (.bool (!(unitB x))) undef) := hf.tmp (k := 6) rfl (by rw [ha]; decide) (hA 6 (by kernel_rfl))
      cases hP : (true && ((!(unitB x)) == false)) with
      | false => exact Rg.op_none (o := ⟨some 21, _, _, _, _, _⟩) rfl (Rg.unwanted_c (g := 6) rfl rfl qg hP) ⟨_, rfl, (fun h => by cases h), Rg.cond_f hP, hI, fun _ _ _ _ h => h⟩
      | true =>
        have hw := Rg.wanted_c (ops := (Rg.opsOf Try.f49 6)) (o := (Rg.opsOf Try.f49 6)[8]'(by rw [sizeBk6]; decide)) (g := 6) rfl rfl qg hP
        have g0 := Rg.pc_r hP
        have q20 : bb.tmps[20]? = some (.int .i64 (i : Nat)) := hf.tmp (k := 7) rfl (by rw [ha]; decide) (Eq.trans (hA 7 (by kernel_rfl)) (Rg.cond_t hP))
        exact Rg.op_value (o := ⟨some 21, Op.binOp BinOp.gtr 3 (Operand.tmp 20) (Operand.const (Value.int .i64 0)) 3, _, _, _, _⟩) (x := .bool (decide ((0 : Int) < (i : Int)))) rfl hw (by clear hA HS hN hO hK; simp only [execOp]; go_simp) ⟨_, rfl, (fun h => by cases h), (Rg.cond_t hP).symm, hI, fun _ _ _ _ h => h⟩
    · intro ll bb w' hs hlf hN hO hf hI hA
      clear hi'
      have qg : bb.tmps[19]? = some (cond true (.bool (!(unitB x))) undef) := hf.tmp (k := 6) rfl (by rw [ha]; decide) (hA 6 (by kernel_rfl))
      cases hP : (true && ((!(unitB x)) == false)) with
      | false => exact Rg.op_none (o := ⟨some 22, _, _, _, _, _⟩) rfl (Rg.unwanted_c (g := 6) rfl rfl qg hP) ⟨_, rfl, (fun h => by cases h), Rg.cond_f hP, hI, fun _ _ _ _ h => h⟩
      | true =>
        have hw := Rg.wanted_c (ops := (Rg.opsOf Try.f49 6)) (o := (Rg.opsOf Try.f49 6)[9]'(by rw [sizeBk6]; decide)) (g := 6) rfl rfl qg hP
        have g0 := Rg.pc_r hP
        have q21 : bb.tmps[21]? = some (.bool (decide ((0 : Int) < (i : Int)))) := hf.tmp (k := 8) rfl (by rw [ha]; decide) (Eq.trans (hA 8 (by kernel_rfl)) (Rg.cond_t hP))
        exact Rg.op_value (o := ⟨some 22, Op.move (Operand.tmp 21), _, _, _, _⟩) (x := .bool (decide ((0 : Int) < (i : Int)))) rfl hw (by clear hA HS hN hO hK; simp only [execOp]; go_simp) ⟨_, rfl, (fun h => by cases h), (Rg.cond_t hP).symm, hI, fun _ _ _ _ h => h⟩
    · intro ll bb w' hs hlf hN hO hf hI hA
      clear hi'
      have qg : bb.tmps[22]? = some (cond (true && ((!(unitB x)) == false)) (.bool (decide ((0 : Int) < (i : Int)))) undef) := hf.tmp (k := 9) rfl (by rw [ha]; decide) (hA 9 (by kernel_rfl))
      cases hP : ((true && ((!(unitB x)) == false)) && ((decide ((0 : Int) < (i : Int))) == true)) with
      | false => exact Rg.op_none (o := ⟨some 23, _, _, _, _, _⟩) rfl (Rg.unwanted_c (g := 9) rfl rfl qg hP) ⟨_, rfl, (fun h => by cases h), Rg.cond_f hP, hI, fun _ _ _ _ h => h⟩
      | true =>
        have hw := Rg.wanted_c (ops := (Rg.opsOf Try.f49 6)) (o := (Rg.opsOf Try.f49 6)[10]'(by rw [sizeBk6]; decide)) (g := 9) rfl rfl qg hP
        have g1 := Rg.pc_r hP
        have p1 := Rg.pc_l hP
        have g0 := Rg.pc_r p1
        have q0 := hf.kept (s := 0) (by rw [sizeBk6]; kernel_rfl) k0
        exact Rg.op_value (o := ⟨some 23, Op.move (Operand.tmp 0), _, _, _, _⟩) (x := .slice (some ⟨g, off, none⟩) n cap) rfl hw (by clear hA HS hN hO hK; simp only [execOp]; go_simp) ⟨_, rfl, (fun h => by cases h), (Rg.cond_t hP).symm, hI, fun _ _ _ _ h => h⟩
    · intro ll bb w' hs hlf hN hO hf hI hA
      clear hi'
      have qg : bb.tmps[22]? = some (cond (true && ((!(unitB x)) == false)) (.bool (decide ((0 : Int) < (i : Int)))) undef) := hf.tmp (k := 9) rfl (by rw [ha]; decide) (hA 9 (by kernel_rfl))
      cases hP : ((true && ((!(unitB x)) == false)) && ((decide ((0 : Int) < (i : Int))) == true)) with
      | false => exact Rg.op_none (o := ⟨some 24, _, _, _, _, _⟩) rfl (Rg.unwanted_c (g := 9) rfl rfl qg hP) ⟨_, rfl, (fun h => by cases h), Rg.cond_f hP, hI, fun _ _ _ _ h => h⟩
      | true =>
        have hw := Rg.wanted_c (ops := (Rg.opsOf Try.f49 6)) (o := (Rg.opsOf Try.f49 6)[11]'(by rw [sizeBk6]; decide)) (g := 9) rfl rfl qg hP
        have g1 := Rg.pc_r hP
        have p1 := Rg.pc_l hP
        have g0 := Rg.pc_r p1
        have q0 := hf.kept (s := 3) (by rw [sizeBk6]; kernel_rfl) k3
        exact Rg.op_value (o := ⟨some 24, Op.move (Operand.tmp 3), _, _, _, _⟩) (x := .int .i64 (i : Nat)) rfl hw (by clear hA HS hN hO hK; simp only [execOp]; go_simp) ⟨_, rfl, (fun h => by cases h), (Rg.cond_t hP).symm, hI, fun _ _ _ _ h => h⟩
    · intro ll bb w' hs hlf hN hO hf hI hA
      clear hi'
      have qg : bb.tmps[22]? = some (cond (true && ((!(unitB x)) == false)) (.bool (decide ((0 : Int) < (i : Int)))) undef) := hf.tmp (k := 9) rfl (by rw [ha]; decide) (hA 9 (by kernel_rfl))
      cases hP : ((true && ((!(unitB x)) == false)) && ((decide ((0 : Int) < (i : Int))) == true)) with
      | false => exact Rg.op_none (o := ⟨some 25, _, _, _, _, _⟩) rfl (Rg.unwanted_c (g := 9) rfl rfl qg hP) ⟨_, rfl, (fun h => by cases h), Rg.cond_f hP, hI, fun _ _ _ _ h => h⟩
      | true =>
        have hw := Rg.wanted_c (ops := (Rg.opsOf Try.f49 6)) (o := (Rg.opsOf Try.f49 6)[12]'(by rw [sizeBk6]; decide)) (g := 9) rfl rfl qg hP
        have g1 := Rg.pc_r hP
        have p1 := Rg.pc_l hP
        have g0 := Rg.pc_r p1
        have q23 : bb.tmps[23]? = some (.slice (some ⟨g, off, none⟩) n cap) := hf.tmp (k := 10) rfl (by rw [ha]; decide) (Eq.trans (hA 10 (by kernel_rfl)) (Rg.cond_t hP))
        have q24 : bb.tmps[24]? = some (.int .i64 (i : Nat)) := hf.tmp (k := 11) rfl (by rw [ha]; decide) (Eq.trans (hA 11 (by kernel_rfl)) (Rg.cond_t hP))
        have hi5 : ((i : Nat) : Int) < (n : Int) := by omega
        exact Rg.op_value (o := ⟨some 25, Op.indexAddr 24 (Operand.tmp 23) (Operand.tmp 24), _, _, _, _⟩) (x := .pointer (some ⟨g, off + i * 6, none⟩)) rfl hw (by clear hA HS hN hO hK; simp only [execOp]; go_simp) ⟨_, rfl, (fun h => by cases h), (Rg.cond_t hP).symm, hI, fun _ _ _ _ h => h⟩
    · intro ll bb w' hs hlf hN hO hf hI hA
      clear hi'
      have qg : bb.tmps[22]? = some (cond (true && ((!(unitB x)) == false)) (.bool (decide ((0 : Int) < (i : Int)))) undef) := hf.tmp (k := 9) rfl (by rw [ha]; decide) (hA 9 (by kernel_rfl))
      cases hP : ((true && ((!(unitB x)) == false)) && ((decide ((0 : Int) < (i : Int))) == true)) with
      | false => exact Rg.op_none (o := ⟨some 26, _, _, _, _, _⟩) rfl (Rg.unwanted_c (g := 9) rfl rfl qg hP) ⟨_, rfl, (fun h => by cases h), Rg.cond_f hP, hI, fun _ _ _ _ h => h⟩
      | true =>
        have hw := Rg.wanted_c (ops := (Rg.opsOf Try.f49 6)) (o := (Rg.opsOf Try.f49 6)[13]'(by rw [sizeBk6]; decide)) (g := 9) rfl rfl qg hP
        have g1 := Rg.pc_r hP
        have p1 := Rg.pc_l hP
        have g0 := Rg.pc_r p1
        have q25 : bb.tmps[25]? = some (.pointer (some ⟨g, off + i * 6, none⟩)) := hf.tmp (k := 12) rfl (by rw [ha]; decide) (Eq.trans (hA 12 (by kernel_rfl)) (Rg.cond_t hP))
        exact Rg.op_value (o := ⟨some 26, Op.fieldAddr 81 (Operand.tmp 25) 0, _, _, _, _⟩) (x := .pointer (some ⟨g, off + i * 6, none⟩)) rfl hw (by clear hA HS hN hO hK; simp only [execOp]; go_simp) ⟨_, rfl, (fun h => by cases h), (Rg.cond_t hP).symm, hI, fun _ _ _ _ h => h⟩
    · intro ll bb w' hs hlf hN hO hf hI hA
      clear hi'
      have qg : bb.tmps[22]? = some (cond (true && ((!(unitB x)) == false)) (.bool (decide ((0 : Int) < (i : Int)))) undef) := hf.tmp (k := 9) rfl (by rw [ha]; decide) (hA 9 (by kernel_rfl))
      cases hP : ((true && ((!(unitB x)) == false)) && ((decide ((0 : Int) < (i : Int))) == true)) with
      | false => exact Rg.op_none (o := ⟨some 27, _, _, _, _, _⟩) rfl (Rg.unwanted_c (g := 9) rfl rfl qg hP) ⟨_, rfl, (fun h => by cases h), Rg.cond_f hP, hI, fun _ _ _ _ h => h⟩
      | true =>
        have hw := Rg.wanted_c (ops := (Rg.opsOf Try.f49 6)) (o := (Rg.opsOf Try.f49 6)[14]'(by rw [sizeBk6]; decide)) (g := 9) rfl rfl qg hP
        have g1 := Rg.pc_r hP
        have p1 := Rg.pc_l hP
        have g0 := Rg.pc_r p1
        have q26 : bb.tmps[26]? = some (.pointer (some ⟨g, off + i * 6, none⟩)) := hf.tmp (k := 13) rfl (by rw [ha]; decide) (Eq.trans (hA 13 (by kernel_rfl)) (Rg.cond_t hP))
        have f0 := (hI.cell (p := ⟨g, off + i * 6, none⟩) hgl).trans u0
        exact Rg.op_value (o := ⟨some 27, Op.load 2 (Operand.tmp 26), _, _, _, _⟩) (x := .int .i64 x.id) rfl hw (by clear hA HS hN hO hK; simp only [execOp]; go_simp) ⟨_, rfl, (fun h => by cases h), (Rg.cond_t hP).symm, hI, fun _ _ _ _ h => h⟩
    · intro ll bb w' hs hlf hN hO hf hI hA
      clear hi'
      have qg : bb.tmps[22]? = some (cond (true && ((!(unitB x)) == false)) (.bool (decide ((0 : Int) < (i : Int)))) undef) := hf.tmp (k := 9) rfl (by rw [ha]; decide) (hA 9 (by kernel_rfl))
      cases hP : ((true && ((!(unitB x)) == false)) && ((decide ((0 : Int) < (i : Int))) == true)) with
      | false => exact Rg.op_none (o := ⟨some 28, _, _, _, _, _⟩) rfl (Rg.unwanted_c (g := 9) rfl rfl qg hP) ⟨_, rfl, (fun h => by cases h), Rg.cond_f hP, hI, fun _ _ _ _ h => h⟩
      | true =>
        have hw := Rg.wanted_c (ops := (Rg.opsOf Try.f49 6)) (o := (Rg.opsOf Try.f49 6)[15]'(by rw [sizeBk6]; decide)) (g := 9) rfl rfl qg hP
        have g1 := Rg.pc_r hP
        have p1 := Rg.pc_l hP
        have g0 := Rg.pc_r p1
        have q0 := hf.kept (s := 0) (by rw [sizeBk6]; kernel_rfl) k0
        exact Rg.op_value (o := ⟨some 28, Op.move (Operand.tmp 0), _, _, _, _⟩) (x := .slice (some ⟨g, off, none⟩) n cap) rfl hw (by clear hA HS hN hO hK; simp only [execOp]; go_simp) ⟨_, rfl, (fun h => by cases h), (Rg.cond_t hP).symm, hI, fun _ _ _ _ h => h⟩
    · intro ll bb w' hs hlf hN hO hf hI hA
      clear hi'
      have qg : bb.tmps[22]? = some (cond (true && ((!(unitB x)) == false)) (.bool (decide ((0 : Int) < (i : Int)))) undef) := hf.tmp (k := 9) rfl (by rw [ha]; decide) (hA 9 (by kernel_rfl))
      cases hP : ((true && ((!(unitB x)) == false)) && ((decide ((0 : Int) < (i : Int))) == true)) with
      | false => exact Rg.op_none (o := ⟨some 29, _, _, _, _, _⟩) rfl (Rg.unwanted_c (g := 9) rfl rfl qg hP) ⟨_, rfl, (fun h => by cases h), Rg.cond_f hP, hI, fun _ _ _ _ h => h⟩
      | true =>
        have hw := Rg.wanted_c (ops := (Rg.opsOf Try.f49 6)) (o := (Rg.opsOf Try.f49 6)[16]'(by rw [sizeBk6]; decide)) (g := 9) rfl rfl qg hP
        have g1 := Rg.pc_r hP
        have p1 := Rg.pc_l hP
        have g0 := Rg.pc_r p1
        have q0 := hf.kept (s := 3) (by rw [sizeBk6]; kernel_rfl) k3
        exact Rg.op_value (o := ⟨some 29, Op.move (Operand.tmp 3), _, _, _, _⟩) (x := .int .i64 (i : Nat)) rfl hw (by clear hA HS hN hO hK; simp only [execOp]; go_simp) ⟨_, rfl, (fun h => by cases h), (Rg.cond_t hP).symm, hI, fun _ _ _ _ h => h⟩
    · intro ll bb w' hs hlf hN hO hf hI hA
      clear hi'
      have qg : bb.tmps[22]? = some (cond (true && ((!(unitB x)) == false)) (.bool (decide ((0 : Int) < (i : Int)))) undef) := hf.tmp (k := 9) rfl (by rw [ha]; decide) (hA 9 (by kernel_rfl))
      cases hP : ((true && ((!(unitB x)) == false)) && ((decide ((0 : Int) < (i : Int))) == true)) with
      | false => exact Rg.op_none (o := ⟨some 30, _, _, _, _, _⟩) rfl (Rg.unwanted_c (g := 9) rfl rfl qg hP) ⟨_, rfl, (fun h => by cases h), Rg.cond_f hP, hI, fun _ _ _ _ h => h⟩
      | true =>
        have hw := Rg.wanted_c (ops := (Rg.opsOf Try.f49 6)) (o := (Rg.opsOf Try.f49 6)[17]'(by rw [sizeBk6]; decide)) (g := 9) rfl rfl qg hP
        have g1 := Rg.pc_r hP
        have p1 := Rg.pc_l hP
        have g0 := Rg.pc_r p1
        have q29 : bb.tmps[29]? = some (.int .i64 (i : Nat)) := hf.tmp (k := 16) rfl (by rw [ha]; decide) (Eq.trans (hA 16 (by kernel_rfl)) (Rg.cond_t hP))
        have hi0 : 0 < i := by have := g1; simp at this; omega
        have hwr : IntKind.i64.wrap ((i : Int) - 1) = ((i - 1 : Nat) : Int) := by rw [IntKind.wrap_i64]; omega
        exact Rg.op_value (o := ⟨some 30, Op.binOp BinOp.sub 3 (Operand.tmp 29) (Operand.const (Value.int .i64 1)) 3, _, _, _, _⟩) (x := .int .i64 ((i - 1 : Nat) : Int)) rfl hw (by clear hA HS hN hO hK; simp only [execOp]; go_simp) ⟨_, rfl, (fun h => by cases h), (Rg.cond_t hP).symm, hI, fun _ _ _ _ h => h⟩
    · intro ll bb w' hs hlf hN hO hf hI hA
      clear hi'
      have qg : bb.tmps[22]? = some (cond (true && ((!(unitB x)) == false)) (.bool (decide ((0 : Int) < (i : Int)))) undef) := hf.tmp (k := 9) rfl (by rw [ha]; decide) (hA 9 (by kernel_rfl))
      cases hP : ((true && ((!(unitB x)) == false)) && ((decide ((0 : Int) < (i : Int))) == true)) with
      | false => exact Rg.op_none (o := ⟨some 31, _, _, _, _, _⟩) rfl (Rg.unwanted_c (g := 9) rfl rfl qg hP) ⟨_, rfl, (fun h => by cases h), Rg.cond_f hP, hI, fun _ _ _ _ h => h⟩
      | true =>
        have hw := Rg.wanted_c (ops := (Rg.opsOf Try.f49 6)) (o := (Rg.opsOf Try.f49 6)[18]'(by rw [sizeBk6]; decide)) (g := 9) rfl rfl qg hP
        have g1 := Rg.pc_r hP
        have p1 := Rg.pc_l hP
        have g0 := Rg.pc_r p1
        have q28 : bb.tmps[28]? = some (.slice (some ⟨g, off, none⟩) n cap) := hf.tmp (k := 15) rfl (by rw [ha]; decide) (Eq.trans (hA 15 (by kernel_rfl)) (Rg.cond_t hP))
        have q30 : bb.tmps[30]? = some (.int .i64 ((i - 1 : Nat) : Int)) := hf.tmp (k := 17) rfl (by rw [ha]; decide) (Eq.trans (hA 17 (by kernel_rfl)) (Rg.cond_t hP))
        have hi0 : 0 < i := by have := g1; simp at this; omega
        have hi3 : ((i - 1 : Nat) : Int) < (n : Int) := by omega
        have hi4 : i - 1 < n := by omega
        exact Rg.op_value (o := ⟨some 31, Op.indexAddr 24 (Operand.tmp 28) (Operand.tmp 30), _, _, _, _⟩) (x := .pointer (some ⟨g, off + (i - 1) * 6, none⟩)) rfl hw (by clear hA HS hN hO hK; simp only [execOp]; go_simp) ⟨_, rfl, (fun h => by cases h), (Rg.cond_t hP).symm, hI, fun _ _ _ _ h => h⟩
    · intro ll bb w' hs hlf hN hO hf hI hA
      clear hi'
      have qg : bb.tmps[22]? = some (cond (true && ((!(unitB x)) == false)) (.bool (decide ((0 : Int) < (i : Int)))) undef) := hf.tmp (k := 9) rfl (by rw [ha]; decide) (hA 9 (by kernel_rfl))
      cases hP : ((true && ((!(unitB x)) == false)) && ((decide ((0 : Int) < (i : Int))) == true)) with
      | false => exact Rg.op_none (o := ⟨some 32, _, _, _, _, _⟩) rfl (Rg.unwanted_c (g := 9) rfl rfl qg hP) ⟨_, rfl, (fun h => by cases h), Rg.cond_f hP, hI, fun _ _ _ _ h => h⟩
      | true =>
        have hw := Rg.wanted_c (ops := (Rg.opsOf Try.f49 6)) (o := (Rg.opsOf Try.f49 6)[19]'(by rw [sizeBk6]; decide)) (g := 9) rfl rfl qg hP
        have g1 := Rg.pc_r hP
        have p1 := Rg.pc_l hP
        have g0 := Rg.pc_r p1
        have q31 : bb.tmps[31]? = some (.pointer (some ⟨g, off + (i - 1) * 6, none⟩)) := hf.tmp (k := 18) rfl (by rw [ha]; decide) (Eq.trans (hA 18 (by kernel_rfl)) (Rg.cond_t hP))
        exact Rg.op_value (o := ⟨some 32, Op.fieldAddr 81 (Operand.tmp 31) 0, _, _, _, _⟩) (x := .pointer (some ⟨g, off + (i - 1) * 6, none⟩)) rfl hw (by clear hA HS hN hO hK; simp only [execOp]; go_simp) ⟨_, rfl, (fun h => by cases h), (Rg.cond_t hP).symm, hI, fun _ _ _ _ h => h⟩
    · intro ll bb w' hs hlf hN hO hf hI hA
      clear hi'
      have qg : bb.tmps[22]? = some (cond (true && ((!(unitB x)) == false)) (.bool (decide ((0 : Int) < (i : Int)))) undef) := hf.tmp (k := 9) rfl (by rw [ha]; decide) (hA 9 (by kernel_rfl))
      cases hP : ((true && ((!(unitB x)) == false)) && ((decide ((0 : Int) < (i : Int))) == true)) with
      | false => exact Rg.op_none (o := ⟨some 33, _, _, _, _, _⟩) rfl (Rg.unwanted_c (g := 9) rfl rfl qg hP) ⟨_, rfl, (fun h => by cases h), Rg.cond_f hP, hI, fun _ _ _ _ h => h⟩
      | true =>
        have hw := Rg.wanted_c (ops := (Rg.opsOf Try.f49 6)) (o := (Rg.opsOf Try.f49 6)[20]'(by rw [sizeBk6]; decide)) (g := 9) rfl rfl qg hP
        have g1 := Rg.pc_r hP
        have p1 := Rg.pc_l hP
        have g0 := Rg.pc_r p1
        have q32 : bb.tmps[32]? = some (.pointer (some ⟨g, off + (i - 1) * 6, none⟩)) := hf.tmp (k := 19) rfl (by rw [ha]; decide) (Eq.trans (hA 19 (by kernel_rfl)) (Rg.cond_t hP))
        have hi0 : 0 < i := by have := g1; simp at this; omega
        have e9 := (hI.cell (p := ⟨g, off + (i - 1) * 6, none⟩) hgl).trans (y0 hi0)
        exact Rg.op_value (o := ⟨some 33, Op.load 2 (Operand.tmp 32), _, _, _, _⟩) (x := .int .i64 y) rfl hw (by clear hA HS hN hO hK; simp only [execOp]; go_simp) ⟨_, rfl, (fun h => by cases h), (Rg.cond_t hP).symm, hI, fun _ _ _ _ h => h⟩
    · intro ll bb w' hs hlf hN hO hf hI hA
      clear hi'
      have qg : bb.tmps[22]? = some (cond (true && ((!(unitB x)) == false)) (.bool (decide ((0 : Int) < (i : Int)))) undef) := hf.tmp (k := 9) rfl (by rw [ha]; decide) (hA 9 (by kernel_rfl))
      cases hP : ((true && ((!(unitB x)) == false)) && ((decide ((0 : Int) < (i : Int))) == true)) with
      | false => exact Rg.op_none (o := ⟨some 34, _, _, _, _, _⟩) rfl (Rg.unwanted_c (g := 9) rfl rfl qg hP) ⟨_, rfl, (fun h => by cases h), Rg.cond_f hP, hI, fun _ _ _ _ h => h⟩
      | true =>
        have hw := Rg.wanted_c (ops := (Rg.opsOf Try.f49 6)) (o := (Rg.opsOf Try.f49 6)[21]'(by rw [sizeBk6]; decide)) (g := 9) rfl rfl qg hP
        have g1 := Rg.pc_r hP
        have p1 := Rg.pc_l hP
        have g0 := Rg.pc_r p1
        have q27 : bb.tmps[27]? = some (.int .i64 x.id) := hf.tmp (k := 14) rfl (by rw [ha]; decide) (Eq.trans (hA 14 (by kernel_rfl)) (Rg.cond_t hP))
        have q33 : bb.tmps[33]? = some (.int .i64 y) := hf.tmp (k := 20) rfl (by rw [ha]; decide) (Eq.trans (hA 20 (by kernel_rfl)) (Rg.cond_t hP))
        exact Rg.op_value (o := ⟨some 34, Op.binOp BinOp.leq 2 (Operand.tmp 27) (Operand.tmp 33) 2, _, _, _, _⟩) (x := .bool (decide (x.id ≤ y))) rfl hw (by clear hA HS hN hO hK; simp only [execOp]; go_simp) ⟨_, rfl, (fun h => by cases h), (Rg.cond_t hP).symm, hI, fun _ _ _ _ h => h⟩
    · intro ll bb w' hs hlf hN hO hf hI hA
      clear hi'
      have qg : bb.tmps[19]? = some (cond true (.bool (!(unitB x))) undef) := hf.tmp (k := 6) rfl (by rw [ha]; decide) (hA 6 (by kernel_rfl))
      cases hP : (true && ((!(unitB x)) == false)) with
      | false => exact Rg.op_none (o := ⟨some 35, _, _, _, _, _⟩) rfl (Rg.unwanted_c (g := 6) rfl rfl qg hP) ⟨_, rfl, (fun h => by cases h), Rg.cond_f hP, hI, fun _ _ _ _ h => h⟩
      | true =>
        have hw := Rg.wanted_c (ops := (Rg.opsOf Try.f49 6)) (o := (Rg.opsOf Try.f49 6)[22]'(by rw [sizeBk6]; decide)) (g := 6) rfl rfl qg hP
        have g0 := Rg.pc_r hP
        have q22 : bb.tmps[22]? = some (.bool (decide ((0 : Int) < (i : Int)))) := hf.tmp (k := 9) rfl (by rw [ha]; decide) (Eq.trans (hA 9 (by kernel_rfl)) (Rg.cond_t hP))
        cases hC : (decide ((0 : Int) < (i : Int))) with
        | false =>
          have hval : ((.bool ((decide ((0 : Int) < (i : Int))) && (decide (x.id ≤ y))) : Value)) = .bool false := by rw [hC]; rfl
          exact Rg.op_value (o := ⟨some 35, Op.pick (Operand.tmp 22) (Operand.tmp 34) (Operand.const (Value.bool false)), _, _, _, _⟩) (x := .bool false) rfl hw (by rw [hC] at q22; clear hA HS hN hO hK hval; simp only [execOp]; go_simp) ⟨_, rfl, (fun h => by cases h), (by show ((.bool false : Value)) = _; exact hval.symm.trans (Rg.cond_t hP).symm), hI, fun _ _ _ _ h => h⟩
        | true =>
          have hB : ((true && ((!(unitB x)) == false)) && ((decide ((0 : Int) < (i : Int))) == true)) = true := by
            rw [hC]; first | rfl | (rw [hP]; rfl) | simp_all
          have q34 : bb.tmps[34]? = some (.bool (decide (x.id ≤ y))) := hf.tmp (k := 21) rfl (by rw [ha]; decide) (Eq.trans (hA 21 (by kernel_rfl)) (Rg.cond_t hB))
          have hval : ((.bool ((decide ((0 : Int) < (i : Int))) && (decide (x.id ≤ y))) : Value)) = .bool (decide (x.id ≤ y)) := by rw [hC]; rfl
          exact Rg.op_value (o := ⟨some 35, Op.pick (Operand.tmp 22) (Operand.tmp 34) (Operand.const (Value.bool false)), _, _, _, _⟩) (x := .bool (decide (x.id ≤ y))) rfl hw (by rw [hC] at q22; clear hA HS hN hO hK hval; simp only [execOp]; go_simp) ⟨_, rfl, (fun h => by cases h), (by show ((.bool (decide (x.id ≤ y)) : Value)) = _; exact hval.symm.trans (Rg.cond_t hP).symm), hI, fun _ _ _ _ h => h⟩
    · intro ll bb w' hs hlf hN hO hf hI hA
      clear hi'
      have q19 : bb.tmps[19]? = some _ := hf.tmp (k := 6) rfl (by rw [ha]; decide) (hA 6 (by kernel_rfl))
      cases hC : (!(unitB x)) with
      | false =>
        have hB : (true && ((!(unitB x)) == false)) = true := by rw [hC]; rfl
        have q35 : bb.tmps[35]? = some (.bool ((decide ((0 : Int) < (i : Int))) && (decide (x.id ≤ y)))) := hf.tmp (k := 22) rfl (by rw [ha]; decide) (Eq.trans (hA 22 (by kernel_rfl)) (Rg.cond_t hB))
        have hval : ((.bool ((!(unitB x)) || ((decide ((0 : Int) < (i : Int))) && (decide (x.id ≤ y)))) : Value)) = .bool ((decide ((0 : Int) < (i : Int))) && (decide (x.id ≤ y))) := by rw [hC]; rfl
        exact Rg.op_value (o := ⟨some 36, Op.pick (Operand.tmp 19) (Operand.const (Value.bool true)) (Operand.tmp 35), _, _, _, _⟩) (x := .bool ((decide ((0 : Int) < (i : Int))) && (decide (x.id ≤ y)))) rfl rfl (by rw [hC] at q19; clear hA HS hN hO hK hval; simp only [execOp]; go_simp) ⟨_, rfl, (fun h => by cases h), (by show ((.bool ((decide ((0 : Int) < (i : Int))) && (decide (x.id ≤ y))) : Value)) = _; exact hval.symm), hI, fun _ _ _ _ h => h⟩
      | true =>
        have hval : ((.bool ((!(unitB x)) || ((decide ((0 : Int) < (i : Int))) && (decide (x.id ≤ y)))) : Value)) = .bool true := by rw [hC]; rfl
        exact Rg.op_value (o := ⟨some 36, Op.pick (Operand.tmp 19) (Operand.const (Value.bool true)) (Operand.tmp 35), _, _, _, _⟩) (x := .bool true) rfl rfl (by rw [hC] at q19; clear hA HS hN hO hK hval; simp only [execOp]; go_simp) ⟨_, rfl, (fun h => by cases h), (by show ((.bool true : Value)) = _; exact hval.symm), hI, fun _ _ _ _ h => h⟩
theorem dBk6_0 : Rg.dstAt (Rg.opsOf Try.f49 6) 0 = some 13 := by kernel_rfl
theorem dBk6_1 : Rg.dstAt (Rg.opsOf Try.f49 6) 1 = some 14 := by kernel_rfl
theorem dBk6_2 : Rg.dstAt (Rg.opsOf Try.f49 6) 2 = some 15 := by kernel_rfl
theorem dBk6_3 : Rg.dstAt (Rg.opsOf Try.f49 6) 3 = some 16 := by kernel_rfl
theorem dBk6_4 : Rg.dstAt (Rg.opsOf Try.f49 6) 4 = some 17 := by kernel_rfl
theorem dBk6_5 : Rg.dstAt (Rg.opsOf Try.f49 6) 5 = some 18 := by kernel_rfl
theorem dBk6_6 : Rg.dstAt (Rg.opsOf Try.f49 6) 6 = some 19 := by kernel_rfl
theorem dBk6_7 : Rg.dstAt (Rg.opsOf Try.f49 6) 7 = some 20 := by kernel_rfl
theorem dBk6_8 : Rg.dstAt (Rg.opsOf Try.f49 6) 8 = some 21 := by kernel_rfl
theorem dBk6_9 : Rg.dstAt (Rg.opsOf Try.f49 6) 9 = some 22 := by kernel_rfl
theorem dBk6_10 : Rg.dstAt (Rg.opsOf Try.f49 6) 10 = some 23 := by kernel_rfl
theorem dBk6_11 : Rg.dstAt (Rg.opsOf Try.f49 6) 11 = some 24 := by kernel_rfl
theorem dBk6_12 : Rg.dstAt (Rg.opsOf Try.f49 6) 12 = some 25 := by kernel_rfl
theorem dBk6_13 : Rg.dstAt (Rg.opsOf Try.f49 6) 13 = some 26 := by kernel_rfl
theorem dBk6_14 : Rg.dstAt (Rg.opsOf Try.f49 6) 14 = some 27 := by kernel_rfl
theorem dBk6_15 : Rg.dstAt (Rg.opsOf Try.f49 6) 15 = some 28 := by kernel_rfl
theorem dBk6_16 : Rg.dstAt (Rg.opsOf Try.f49 6) 16 = some 29 := by kernel_rfl
theorem dBk6_17 : Rg.dstAt (Rg.opsOf Try.f49 6) 17 = some 30 := by kernel_rfl
theorem dBk6_18 : Rg.dstAt (Rg.opsOf Try.f49 6) 18 = some 31 := by kernel_rfl
theorem dBk6_19 : Rg.dstAt (Rg.opsOf Try.f49 6) 19 = some 32 := by kernel_rfl
theorem dBk6_20 : Rg.dstAt (Rg.opsOf Try.f49 6) 20 = some 33 := by kernel_rfl
theorem dBk6_21 : Rg.dstAt (Rg.opsOf Try.f49 6) 21 = some 34 := by kernel_rfl
theorem dBk6_22 : Rg.dstAt (Rg.opsOf Try.f49 6) 22 = some 35 := by kernel_rfl
theorem dBk6_23 : Rg.dstAt (Rg.opsOf Try.f49 6) 23 = some 36 := by kernel_rfl
theorem layBk6 {a b : Act} (hf : Rg.Fr (Rg.opsOf Try.f49 6) a b) : b = ((((((((((((((((((((((((a.put (some 13) (Rg.out (Rg.opsOf Try.f49 6) b 0)).put (some 14) (Rg.out (Rg.opsOf Try.f49 6) b 1)).put (some 15) (Rg.out (Rg.opsOf Try.f49 6) b 2)).put (some 16) (Rg.out (Rg.opsOf Try.f49 6) b 3)).put (some 17) (Rg.out (Rg.opsOf Try.f49 6) b 4)).put (some 18) (Rg.out (Rg.opsOf Try.f49 6) b 5)).put (some 19) (Rg.out (Rg.opsOf Try.f49 6) b 6)).put (some 20) (Rg.out (Rg.opsOf Try.f49 6) b 7)).put (some 21) (Rg.out (Rg.opsOf Try.f49 6) b 8)).put (some 22) (Rg.out (Rg.opsOf Try.f49 6) b 9)).put (some 23) (Rg.out (Rg.opsOf Try.f49 6) b 10)).put (some 24) (Rg.out (Rg.opsOf Try.f49 6) b 11)).put (some 25) (Rg.out (Rg.opsOf Try.f49 6) b 12)).put (some 26) (Rg.out (Rg.opsOf Try.f49 6) b 13)).put (some 27) (Rg.out (Rg.opsOf Try.f49 6) b 14)).put (some 28) (Rg.out (Rg.opsOf Try.f49 6) b 15)).put (some 29) (Rg.out (Rg.opsOf Try.f49 6) b 16)).put (some 30) (Rg.out (Rg.opsOf Try.f49 6) b 17)).put (some 31) (Rg.out (Rg.opsOf Try.f49 6) b 18)).put (some 32) (Rg.out (Rg.opsOf Try.f49 6) b 19)).put (some 33) (Rg.out (Rg.opsOf Try.f49 6) b 20)).put (some 34) (Rg.out (Rg.opsOf Try.f49 6) b 21)).put (some 35) (Rg.out (Rg.opsOf Try.f49 6) b 22)).put (some 36) (Rg.out (Rg.opsOf Try.f49 6) b 23)) := by
  have h := hf.chain
  rw [sizeBk6, show List.range 24 = [0, 1, 2, 3, 4, 5, 6, 7, 8, 9, 10, 11, 12, 13, 14, 15, 16, 17, 18, 19, 20, 21, 22, 23] from by decide] at h
  simp only [List.foldl_cons, List.foldl_nil, dBk6_0, dBk6_1, dBk6_2, dBk6_3, dBk6_4, dBk6_5, dBk6_6, dBk6_7, dBk6_8, dBk6_9, dBk6_10, dBk6_11, dBk6_12, dBk6_13, dBk6_14, dBk6_15, dBk6_16, dBk6_17, dBk6_18, dBk6_19, dBk6_20, dBk6_21, dBk6_22, dBk6_23] at h
  exact h
def FBi6 (B g off n cap i : Nat) (x : Ut) (tv : Value) (y : Int) (i9 : Nat) (v : Value) (w : World) : Prop :=
  match i9 with
  | 0 => v = .agg #[.int .i64 x.id, .int .i64 x.grp, tv, .int .i64 x.til, .int .i64 x.st, .int .i64 x.fr]
  | 1 => v = .bool (unitB x)
  | 2 => v = .bool (!(unitB x))
  | 3 => v = .bool (!(unitB x))
  | 4 => v = cond (true && ((!(unitB x)) == false)) (.int .i64 (i : Nat)) undef
  | 5 => v = cond (true && ((!(unitB x)) == false)) (.bool (decide ((0 : Int) < (i : Int)))) undef
  | 6 => v = cond (true && ((!(unitB x)) == false)) (.bool (decide ((0 : Int) < (i : Int)))) undef
  | 7 => v = cond ((true && ((!(unitB x)) == false)) && ((decide ((0 : Int) < (i : Int))) == true)) (.pointer (some ⟨B, 0, none⟩)) undef
  | 8 => v = cond ((true && ((!(unitB x)) == false)) && ((decide ((0 : Int) < (i : Int))) == true)) (.int .i64 x.id) undef
  | 9 => v = cond ((true && ((!(unitB x)) == false)) && ((decide ((0 : Int) < (i : Int))) == true)) (.slice (some ⟨g, off, none⟩) n cap) undef
  | 10 => v = cond ((true && ((!(unitB x)) == false)) && ((decide ((0 : Int) < (i : Int))) == true)) (.int .i64 (i : Nat)) undef
  | 11 => v = cond ((true && ((!(unitB x)) == false)) && ((decide ((0 : Int) < (i : Int))) == true)) (.int .i64 ((i - 1 : Nat) : Int)) undef
  | 12 => v = cond ((true && ((!(unitB x)) == false)) && ((decide ((0 : Int) < (i : Int))) == true)) (.pointer (some ⟨g, off + (i - 1) * 6, none⟩)) undef
  | 13 => v = cond ((true && ((!(unitB x)) == false)) && ((decide ((0 : Int) < (i : Int))) == true)) (.pointer (some ⟨g, off + (i - 1) * 6, none⟩)) undef
  | 14 => v = cond ((true && ((!(unitB x)) == false)) && ((decide ((0 : Int) < (i : Int))) == true)) (.int .i64 y) undef
  | 15 => v = cond ((true && ((!(unitB x)) == false)) && ((decide ((0 : Int) < (i : Int))) == true)) (.bool (decide (x.id ≤ y))) undef
  | 16 => v = cond (true && ((!(unitB x)) == false)) (.bool ((decide ((0 : Int) < (i : Int))) && (decide (x.id ≤ y)))) undef
  | 17 => v = .bool ((!(unitB x)) || ((decide ((0 : Int) < (i : Int))) && (decide (x.id ≤ y))))
  | _ => True
theorem sizeBi6 : (Rg.opsOf Try.f41 6).size = 18 := by kernel_rfl
set_option maxRecDepth 20000 in
set_option maxHeartbeats 8000000 in
theorem regBi6 {Q : Exit → Act → World → Prop} {a : Act} {w9 : World} {B g off n cap i : Nat} {x : Ut} {tv : Value} {y : Int} (ha : a.tmps.size = 34)
    (k0 : a.tmps[0]? = some (.slice (some ⟨g, off, none⟩) n cap)) (k3 : a.tmps[3]? = some (.int .i64 (i : Nat))) (k4 : a.tmps[4]? = some (.pointer (some ⟨B, 0, none⟩))) (hX : PB w9 B #[.int .i64 x.id, .int .i64 x.grp, tv, .int .i64 x.til, .int .i64 x.st, .int .i64 x.fr] 81) (hin : i < n) (hil : i < 2000000) (hgl : g < w9.heap.size) (y0 : 0 < i → w9.cell? ⟨g, off + (i - 1) * 6, none⟩ = some (.int .i64 y)) (hK : ∀ W, Below w9.heap.size w9 W → Calls Try.prog 78 #[.agg #[.int .i64 x.id, .int .i64 x.grp, tv, .int .i64 x.til, .int .i64 x.st, .int .i64 x.fr]] W fun e W' => e = .returned (.bool (unitB x)) ∧ Below W.heap.size W W')
    (hend : ∀ b' w', Rg.Fr (Rg.opsOf Try.f41 6) a b' → Below w9.heap.size w9 w' → Rg.out (Rg.opsOf Try.f41 6) b' 17 = .bool ((!(unitB x)) || ((decide ((0 : Int) < (i : Int))) && (decide (x.id ≤ y)))) → Q .normal b' w') :
    (Code.region 6 (Rg.opsOf Try.f41 6) true).wp Try.prog Q a w9 := by
  refine Rg.region_set3 (by kernel_rfl) (fun _ w' => Below w9.heap.size w9 w') (FBi6 B g off n cap i x tv y) (by rw [ha, sizeBi6]; kernel_rfl) (st_drew (Below.refl _ _)) ?_ ?_
  case refine_2 =>
    intro l b' w' hf hall hI hA
    rw [sizeBi6] at hA
    exact hend b' w' hf hI (hA 17 (by decide))
  case refine_1 =>
    clear hend
    have HS : ∀ {w w' : World}, Below w.heap.size w w' → ∀ k9 y9, FBi6 B g off n cap i x tv y k9 y9 w → FBi6 B g off n cap i x tv y k9 y9 w' := fun hb k9 y9 h => by
      unfold FBi6 at *
      split at h <;> exact h
    intro i' hi'
    rw [sizeBi6] at hi'
    rcases (show i' = 0 ∨ i' = 1 ∨ i' = 2 ∨ i' = 3 ∨ i' = 4 ∨ i' = 5 ∨ i' = 6 ∨ i' = 7 ∨ i' = 8 ∨ i' = 9 ∨ i' = 10 ∨ i' = 11 ∨ i' = 12 ∨ i' = 13 ∨ i' = 14 ∨ i' = 15 ∨ i' = 16 ∨ i' = 17 by omega) with rfl | rfl | rfl | rfl | rfl | rfl | rfl | rfl | rfl | rfl | rfl | rfl | rfl | rfl | rfl | rfl | rfl | rfl
    · intro ll bb w' hs hlf hN hO hf hI hA
      clear hi'
      have q4 := hf.kept (s := 4) (by rw [sizeBi6]; kernel_rfl) k4
      obtain ⟨b0, b1, b2, b3, b4, b5⟩ := (hX.below hI).six
      exact Rg.op_value (o := ⟨some 15, Op.load 81 (Operand.tmp 4), _, _, _, _⟩) (x := .agg #[.int .i64 x.id, .int .i64 x.grp, tv, .int .i64 x.til, .int .i64 x.st, .int .i64 x.fr]) rfl rfl (by clear hA HS hN hO hX hK; simp only [execOp]; go_simp) ⟨_, rfl, (fun h => by cases h), rfl, hI, fun _ _ _ _ h => h⟩
    · intro ll bb w' hs hlf hN hO hf hI hA
      clear hi'
      have q15 : bb.tmps[15]? = some _ := hf.tmp (k := 0) rfl (by rw [ha]; decide) (hA 0 (by kernel_rfl))
      refine Rg.op_call (o := ⟨some 16, Op.call { callee := Callee.value (Operand.func 78), args := #[(Operand.tmp 15)], argTypes := _ }, _, _, _, _⟩) rfl rfl (by clear hA HS hN hO hX hK; simp only [execOp, resolve]; go_simp) (hK w' hI) ?_
      rintro e w2 ⟨rfl, hb2⟩
      exact ⟨_, rfl, _, rfl, (fun h => by cases h), rfl, onto hI hb2, fun k9 y9 _ _ h => HS hb2 k9 y9 h⟩
    · intro ll bb w' hs hlf hN hO hf hI hA
      clear hi'
      have q16 : bb.tmps[16]? = some _ := hf.tmp (k := 1) rfl (by rw [ha]; decide) (hA 1 (by kernel_rfl))
      exact Rg.op_value (o := ⟨some 17, Op.unOp UnOp.not 4 (Operand.tmp 16), _, _, _, _⟩) (x := .bool (!(unitB x))) rfl rfl (by clear hA HS hN hO hX hK; simp only [execOp]; go_simp) ⟨_, rfl, (fun h => by cases h), rfl, hI, fun _ _ _ _ h => h⟩
    · intro ll bb w' hs hlf hN hO hf hI hA
      clear hi'
      have q17 : bb.tmps[17]? = some _ := hf.tmp (k := 2) rfl (by rw [ha]; decide) (hA 2 (by kernel_rfl))
      exact Rg.op_value (o := ⟨some 18, Op.move (Operand.tmp 17), _, _, _, _⟩) (x := .bool (!(unitB x))) rfl rfl (by clear hA HS hN hO hX hK; simp only [execOp]; go_simp) ⟨_, rfl, (fun h => by cases h), rfl, hI, fun _ _ _ _ h => h⟩
    · intro ll bb w' hs hlf hN hO hf hI hA
      clear hi'
      have qg : bb.tmps[18]? = some (cond true (.bool (!(unitB x))) undef) := hf.tmp (k := 3) rfl (by rw [ha]; decide) (hA 3 (by kernel_rfl))
      cases hP : (true && ((!(unitB x)) == false)) with
      | false => exact Rg.op_none (o := ⟨some 19, _, _, _, _, _⟩) rfl (Rg.unwanted_c (g := 3) rfl rfl qg hP) ⟨_, rfl, (fun h => by cases h), Rg.cond_f hP, hI, fun _ _ _ _ h => h⟩
      | true =>
        have hw := Rg.wanted_c (ops := (Rg.opsOf Try.f41 6)) (o := (Rg.opsOf Try.f41 6)[4]'(by rw [sizeBi6]; decide)) (g := 3) rfl rfl qg hP
        have g0 := Rg.pc_r hP
        have q0 := hf.kept (s := 3) (by rw [sizeBi6]; kernel_rfl) k3
        exact Rg.op_value (o := ⟨some 19, Op.move (Operand.tmp 3), _, _, _, _⟩) (x := .int .i64 (i : Nat)) rfl hw (by clear hA HS hN hO hX hK; simp only [execOp]; go_simp) ⟨_, rfl, (fun h => by cases h), (Rg.cond_t hP).symm, hI, fun _ _ _ _ h => h⟩
    · intro ll bb w' hs hlf hN hO hf hI hA
      clear hi'
      have qg : bb.tmps[18]? = some (cond true (.bool (!(unitB x))) undef) := hf.tmp (k := 3) rfl (by rw [ha]; decide) (hA 3 (by kernel_rfl))
      cases hP : (true && ((!(unitB x)) == false)) with
      | false => exact Rg.op_none (o := ⟨some 20, _, _, _, _, _⟩) rfl (Rg.unwanted_c (g := 3) rfl rfl qg hP) ⟨_, rfl, (fun h => by cases h), Rg.cond_f hP, hI, fun _ _ _ _ h => h⟩
      | true =>
        have hw := Rg.wanted_c (ops := (Rg.opsOf Try.f41 6)) (o := (Rg.opsOf Try.f41 6)[5]'(by rw [sizeBi6]; decide)) (g := 3) rfl rfl qg hP
        have g0 := Rg.pc_r hP
        have q19 : bb.tmps[19]? = some (.int .i64 (i : Nat)) := hf.tmp (k := 4) rfl (by rw [ha]; decide) (Eq.trans (hA 4 (by kernel_rfl)) (Rg.cond_t hP))
        exact Rg.op_value (o := ⟨some 20, Op.binOp BinOp.gtr 3 (Operand.tmp 19) (Operand.const (Value.int .i64 0)) 3, _, _, _, _⟩) (x := .bool (decide ((0 : Int) < (i : Int)))) rfl hw (by clear hA HS hN hO hX hK; simp only [execOp]; go_simp) ⟨_, rfl, (fun h => by cases h), (Rg.cond_t hP).symm, hI, fun _ _ _ _ h => h⟩
    · intro ll bb w' hs hlf hN hO hf hI hA
      clear hi'
      have qg : bb.tmps[18]? = some (cond true (.bool (!(unitB x))) undef) := hf.tmp (k := 3) rfl (by rw [ha]; decide) (hA 3 (by kernel_rfl))
      cases hP : (true && ((!(unitB x)) == false)) with
      | false => exact Rg.op_none (o := ⟨some 21, _, _, _, _, _⟩) rfl (Rg.unwanted_c (g := 3) rfl rfl qg hP) ⟨_, rfl, (fun h => by cases h), Rg.cond_f hP, hI, fun _ _ _ _ h => h⟩
      | true =>
        have hw := Rg.wanted_c (ops := (Rg.opsOf Try.f41 6)) (o := (Rg.opsOf Try.f41 6)[6]'(by rw [sizeBi6]; decide)) (g := 3) rfl rfl qg hP
        have g0 := Rg.pc_r hP
        have q20 : bb.tmps[20]? = some (.bool (decide ((0 : Int) < (i : Int)))) := hf.tmp (k := 5) rfl (by rw [ha]; decide) (Eq.trans (hA 5 (by kernel_rfl)) (Rg.cond_t hP))
        exact Rg.op_value (o := ⟨some 21, Op.move (Operand.tmp 20), _, _, _, _⟩) (x := .bool (decide ((0 : Int) < (i : Int)))) rfl hw (by clear hA HS hN hO hX hK; simp only [execOp]; go_simp) ⟨_, rfl, (fun h => by cases h), (Rg.cond_t hP).symm, hI, fun _ _ _ _ h => h⟩
    · intro ll bb w' hs hlf hN hO hf hI hA
      clear hi'
      have qg : bb.tmps[21]? = some (cond (true && ((!(unitB x)) == false)) (.bool (decide ((0 : Int) < (i : Int)))) undef) := hf.tmp (k := 6) rfl (by rw [ha]; decide) (hA 6 (by kernel_rfl))
      cases hP : ((true && ((!(unitB x)) == false)) && ((decide ((0 : Int) < (i : Int))) == true)) with
      | false => exact Rg.op_none (o := ⟨some 22, _, _, _, _, _⟩) rfl (Rg.unwanted_c (g := 6) rfl rfl qg hP) ⟨_, rfl, (fun h => by cases h), Rg.cond_f hP, hI, fun _ _ _ _ h => h⟩
      | true =>
        have hw := Rg.wanted_c (ops := (Rg.opsOf Try.f41 6)) (o := (Rg.opsOf Try.f41 6)[7]'(by rw [sizeBi6]; decide)) (g := 6) rfl rfl qg hP
        have g1 := Rg.pc_r hP
        have p1 := Rg.pc_l hP
        have g0 := Rg.pc_r p1
        have q4 := hf.kept (s := 4) (by rw [sizeBi6]; kernel_rfl) k4
        exact Rg.op_value (o := ⟨some 22, Op.fieldAddr 81 (Operand.tmp 4) 0, _, _, _, _⟩) (x := .pointer (some ⟨B, 0, none⟩)) rfl hw (by clear hA HS hN hO hX hK; simp only [execOp]; go_simp) ⟨_, rfl, (fun h => by cases h), (Rg.cond_t hP).symm, hI, fun _ _ _ _ h => h⟩
    · intro ll bb w' hs hlf hN hO hf hI hA
      clear hi'
      have qg : bb.tmps[21]? = some (cond (true && ((!(unitB x)) == false)) (.bool (decide ((0 : Int) < (i : Int)))) undef) := hf.tmp (k := 6) rfl (by rw [ha]; decide) (hA 6 (by kernel_rfl))
      cases hP : ((true && ((!(unitB x)) == false)) && ((decide ((0 : Int) < (i : Int))) == true)) with
      | false => exact Rg.op_none (o := ⟨some 23, _, _, _, _, _⟩) rfl (Rg.unwanted_c (g := 6) rfl rfl qg hP) ⟨_, rfl, (fun h => by cases h), Rg.cond_f hP, hI, fun _ _ _ _ h => h⟩
      | true =>
        have hw := Rg.wanted_c (ops := (Rg.opsOf Try.f41 6)) (o := (Rg.opsOf Try.f41 6)[8]'(by rw [sizeBi6]; decide)) (g := 6) rfl rfl qg hP
        have g1 := Rg.pc_r hP
        have p1 := Rg.pc_l hP
        have g0 := Rg.pc_r p1
        have q22 : bb.tmps[22]? = some (.pointer (some ⟨B, 0, none⟩)) := hf.tmp (k := 7) rfl (by rw [ha]; decide) (Eq.trans (hA 7 (by kernel_rfl)) (Rg.cond_t hP))
        obtain ⟨b0, b1, b2, b3, b4, b5⟩ := (hX.below hI).six
        exact Rg.op_value (o := ⟨some 23, Op.load 2 (Operand.tmp 22), _, _, _, _⟩) (x := .int .i64 x.id) rfl hw (by clear hA HS hN hO hX hK; simp only [execOp]; go_simp) ⟨_, rfl, (fun h => by cases h), (Rg.cond_t hP).symm, hI, fun _ _ _ _ h => h⟩
    · intro ll bb w' hs hlf hN hO hf hI hA
      clear hi'
      have qg : bb.tmps[21]? = some (cond (true && ((!(unitB x)) == false)) (.bool (decide ((0 : Int) < (i : Int)))) undef) := hf.tmp (k := 6) rfl (by rw [ha]; decide) (hA 6 (by kernel_rfl))
      cases hP : ((true && ((!(unitB x)) == false)) && ((decide ((0 : Int) < (i : Int))) == true)) with
      | false => exact Rg.op_none (o := ⟨some 24, _, _, _, _, _⟩) rfl (Rg.unwanted_c (g := 6) rfl rfl qg hP) ⟨_, rfl, (fun h => by cases h), Rg.cond_f hP, hI, fun _ _ _ _ h => h⟩
      | true =>
        have hw := Rg.wanted_c (ops := (Rg.opsOf Try.f41 6)) (o := (Rg.opsOf Try.f41 6)[9]'(by rw [sizeBi6]; decide)) (g := 6) rfl rfl qg hP
        have g1 := Rg.pc_r hP
        have p1 := Rg.pc_l hP
        have g0 := Rg.pc_r p1
        have q0 := hf.kept (s := 0) (by rw [sizeBi6]; kernel_rfl) k0
        exact Rg.op_value (o := ⟨some 24, Op.move (Operand.tmp 0), _, _, _, _⟩) (x := .slice (some ⟨g, off, none⟩) n cap) rfl hw (by clear hA HS hN hO hX hK; simp only [execOp]; go_simp) ⟨_, rfl, (fun h => by cases h), (Rg.cond_t hP).symm, hI, fun _ _ _ _ h => h⟩
    · intro ll bb w' hs hlf hN hO hf hI hA
      clear hi'
      have qg : bb.tmps[21]? = some (cond (true && ((!(unitB x)) == false)) (.bool (decide ((0 : Int) < (i : Int)))) undef) := hf.tmp (k := 6) rfl (by rw [ha]; decide) (hA 6 (by kernel_rfl))
      cases hP : ((true && ((!(unitB x)) == false)) && ((decide ((0 : Int) < (i : Int))) == true)) with
      | false => exact Rg.op_none (o := ⟨some 25, _, _, _, _, _⟩) rfl (Rg.unwanted_c (g := 6) rfl rfl qg hP) ⟨_, rfl, (fun h => by cases h), Rg.cond_f hP, hI, fun _ _ _ _ h => h⟩
      | true =>
        have hw := Rg.wanted_c (ops := (Rg.opsOf Try.f41 6)) (o := (Rg.opsOf Try.f41 6)[10]'(by rw [sizeBi6]; decide)) (g := 6) rfl rfl qg hP
        have g1 := Rg.pc_r hP
        have p1 := Rg.pc_l hP
        have g0 := Rg.pc_r p1
        have q0 := hf.kept (s := 3) (by rw [sizeBi6]; kernel_rfl) k3
        exact Rg.op_value (o := ⟨some 25, Op.move (Operand.tmp 3), _, _, _, _⟩) (x := .int .i64 (i : Nat)) rfl hw (by clear hA HS hN hO hX hK; simp only [execOp]; go_simp) ⟨_, rfl, (fun h => by cases h), (Rg.cond_t hP).symm, hI, fun _ _ _ _ h => h⟩
    · intro ll bb w' hs hlf hN hO hf hI hA
      clear hi'
      have qg : bb.tmps[21]? = some (cond (true && ((!(unitB x)) == false)) (.bool (decide ((0 : Int) < (i : Int)))) undef) := hf.tmp (k := 6) rfl (by rw [ha]; decide) (hA 6 (by kernel_rfl))
      cases hP : ((true && ((!(unitB x)) == false)) && ((decide ((0 : Int) < (i : Int))) == true)) with
      | false => exact Rg.op_none (o := ⟨some 26, _, _, _, _, _⟩) rfl (Rg.unwanted_c (g := 6) rfl rfl qg hP) ⟨_, rfl, (fun h => by cases h), Rg.cond_f hP, hI, fun _ _ _ _ h => h⟩
      | true =>
        have hw := Rg.wanted_c (ops := (Rg.opsOf Try.f41 6)) (o := (Rg.opsOf Try.f41 6)[11]'(by rw [sizeBi6]; decide)) (g := 6) rfl rfl qg hP
        have g1 := Rg.pc_r hP
        have p1 := Rg.pc_l hP
        have g0 := Rg.pc_r p1
        have q25 : bb.tmps[25]? = some (.int .i64 (i : Nat)) := hf.tmp (k := 10) rfl (by rw [ha]; decide) (Eq.trans (hA 10 (by kernel_rfl)) (Rg.cond_t hP))
        have hi0 : 0 < i := by have := g1; simp at this; omega
        have hwr : IntKind.i64.wrap ((i : Int) - 1) = ((i - 1 : Nat) : Int) := by rw [IntKind.wrap_i64]; omega
        exact Rg.op_value (o := ⟨some 26, Op.binOp BinOp.sub 3 (Operand.tmp 25) (Operand.const (Value.int .i64 1)) 3, _, _, _, _⟩) (x := .int .i64 ((i - 1 : Nat) : Int)) rfl hw (by clear hA HS hN hO hX hK; simp only [execOp]; go_simp) ⟨_, rfl, (fun h => by cases h), (Rg.cond_t hP).symm, hI, fun _ _ _ _ h => h⟩
    · intro ll bb w' hs hlf hN hO hf hI hA
      clear hi'
      have qg : bb.tmps[21]? = some (cond (true && ((!(unitB x)) == false)) (.bool (decide ((0 : Int) < (i : Int)))) undef) := hf.tmp (k := 6) rfl (by rw [ha]; decide) (hA 6 (by kernel_rfl))
      cases hP : ((true && ((!(unitB x)) == false)) && ((decide ((0 : Int) < (i : Int))) == true)) with
      | false => exact Rg.op_none (o := ⟨some 27, _, _, _, _, _⟩) rfl (Rg.unwanted_c (g := 6) rfl rfl qg hP) ⟨_, rfl, (fun h => by cases h), Rg.cond_f hP, hI, fun _ _ _ _ h => h⟩
      | true =>
        have hw := Rg.wanted_c (ops := (Rg.opsOf Try.f41 6)) (o := (Rg.opsOf Try.f41 6)[12]'(by rw [sizeBi6]; decide)) (g := 6) rfl rfl qg hP
        have g1 := Rg.pc_r hP
        have p1 := Rg.pc_l hP
        have g0 := Rg.pc_r p1
        have q24 : bb.tmps[24]? = some (.slice (some ⟨g, off, none⟩) n cap) := hf.tmp (k := 9) rfl (by rw [ha]; decide) (Eq.trans (hA 9 (by kernel_rfl)) (Rg.cond_t hP))
        have q26 : bb.tmps[26]? = some (.int .i64 ((i - 1 : Nat) : Int)) := hf.tmp (k := 11) rfl (by rw [ha]; decide) (Eq.trans (hA 11 (by kernel_rfl)) (Rg.cond_t hP))
        have hi0 : 0 < i := by have := g1; simp at this; omega
        have hi3 : ((i - 1 : Nat) : Int) < (n : Int) := by omega
        have hi4 : i - 1 < n := by omega
        exact Rg.op_value (o := ⟨some 27, Op.indexAddr 24 (Operand.tmp 24) (Operand.tmp 26), _, _, _, _⟩) (x := .pointer (some ⟨g, off + (i - 1) * 6, none⟩)) rfl hw (by clear hA HS hN hO hX hK; simp only [execOp]; go_simp) ⟨_, rfl, (fun h => by cases h), (Rg.cond_t hP).symm, hI, fun _ _ _ _ h => h⟩
    · intro ll bb w' hs hlf hN hO hf hI hA
      clear hi'
      have qg : bb.tmps[21]? = some (cond (true && ((!(unitB x)) == false)) (.bool (decide ((0 : Int) < (i : Int)))) undef) := hf.tmp (k := 6) rfl (by rw [ha]; decide) (hA 6 (by kernel_rfl))
      cases hP : ((true && ((!(unitB x)) == false)) && ((decide ((0 : Int) < (i : Int))) == true)) with
      | false => exact Rg.op_none (o := ⟨some 28, _, _, _, _, _⟩) rfl (Rg.unwanted_c (g := 6) rfl rfl qg hP) ⟨_, rfl, (fun h => by cases h), Rg.cond_f hP, hI, fun _ _ _ _ h => h⟩
      | true =>
        have hw := Rg.wanted_c (ops := (Rg.opsOf Try.f41 6)) (o := (Rg.opsOf Try.f41 6)[13]'(by rw [sizeBi6]; decide)) (g := 6) rfl rfl qg hP
        have g1 := Rg.pc_r hP
        have p1 := Rg.pc_l hP
        have g0 := Rg.pc_r p1
        have q27 : bb.tmps[27]? = some (.pointer (some ⟨g, off + (i - 1) * 6, none⟩)) := hf.tmp (k := 12) rfl (by rw [ha]; decide) (Eq.trans (hA 12 (by kernel_rfl)) (Rg.cond_t hP))
        exact Rg.op_value (o := ⟨some 28, Op.fieldAddr 81 (Operand.tmp 27) 0, _, _, _, _⟩) (x := .pointer (some ⟨g, off + (i - 1) * 6, none⟩)) rfl hw (by clear hA HS hN hO hX hK; simp only [execOp]; go_simp) ⟨_, rfl, (fun h => by cases h), (Rg.cond_t hP).symm, hI, fun _ _ _ _ h => h⟩
    · intro ll bb w' hs hlf hN hO hf hI hA
      clear hi'
      have qg : bb.tmps[21]? = some (cond (true && ((!(unitB x)) == false)) (.bool (decide ((0 : Int) < (i : Int)))) undef) := hf.tmp (k := 6) rfl (by rw [ha]; decide) (hA 6 (by kernel_rfl))
      cases hP : ((true && ((!(unitB x)) == false)) && ((decide ((0 : Int) < (i : Int))) == true)) with
      | false => exact Rg.op_none (o := ⟨some 29, _, _, _, _, _⟩) rfl (Rg.unwanted_c (g := 6) rfl rfl qg hP) ⟨_, rfl, (fun h => by cases h), Rg.cond_f hP, hI, fun _ _ _ _ h => h⟩
      | true =>
        have hw := Rg.wanted_c (ops := (Rg.opsOf Try.f41 6)) (o := (Rg.opsOf Try.f41 6)[14]'(by rw [sizeBi6]; decide)) (g := 6) rfl rfl qg hP
        have g1 := Rg.pc_r hP
        have p1 := Rg.pc_l hP
        have g0 := Rg.pc_r p1
        have q28 : bb.tmps[28]? = some (.pointer (some ⟨g, off + (i - 1) * 6, none⟩)) := hf.tmp (k := 13) rfl (by rw [ha]; decide) (Eq.trans (hA 13 (by kernel_rfl)) (Rg.cond_t hP))
        have hi0 : 0 < i := by have := g1; simp at this; omega
        have e9 := (hI.cell (p := ⟨g, off + (i - 1) * 6, none⟩) hgl).trans (y0 hi0)
        exact Rg.op_value (o := ⟨some 29, Op.load 2 (Operand.tmp 28), _, _, _, _⟩) (x := .int .i64 y) rfl hw (by clear hA HS hN hO hX hK; simp only [execOp]; go_simp) ⟨_, rfl, (fun h => by cases h), (Rg.cond_t hP).symm, hI, fun _ _ _ _ h => h⟩
    · intro ll bb w' hs hlf hN hO hf hI hA
      clear hi'
      have qg : bb.tmps[21]? = some (cond (true && ((!(unitB x)) == false)) (.bool (decide ((0 : Int) < (i : Int)))) undef) := hf.tmp (k := 6) rfl (by rw [ha]; decide) (hA 6 (by kernel_rfl))
      cases hP : ((true && ((!(unitB x)) == false)) && ((decide ((0 : Int) < (i : Int))) == true)) with
      | false => exact Rg.op_none (o := ⟨some 30, _, _, _, _, _⟩) rfl (Rg.unwanted_c (g := 6) rfl rfl qg hP) ⟨_, rfl, (fun h => by cases h), Rg.cond_f hP, hI, fun _ _ _ _ h => h⟩
      | true =>
        have hw := Rg.wanted_c (ops := (Rg.opsOf Try.f41 6)) (o := (Rg.opsOf Try.f41 6)[15]'(by rw [sizeBi6]; decide)) (g := 6) rfl rfl qg hP
        have g1 := Rg.pc_r hP
        have p1 := Rg.pc_l hP
        have g0 := Rg.pc_r p1
        have q23 : bb.tmps[23]? = some (.int .i64 x.id) := hf.tmp (k := 8) rfl (by rw [ha]; decide) (Eq.trans (hA 8 (by kernel_rfl)) (Rg.cond_t hP))
        have q29 : bb.tmps[29]? = some (.int .i64 y) := hf.tmp (k := 14) rfl (by rw [ha]; decide) (Eq.trans (hA 14 (by kernel_rfl)) (Rg.cond_t hP))
        exact Rg.op_value (o := ⟨some 30, Op.binOp BinOp.leq 2 (Operand.tmp 23) (Operand.tmp 29) 2, _, _, _, _⟩) (x := .bool (decide (x.id ≤ y))) rfl hw (by clear hA HS hN hO hX hK; simp only [execOp]; go_simp) ⟨_, rfl, (fun h => by cases h), (Rg.cond_t hP).symm, hI, fun _ _ _ _ h => h⟩
    · intro ll bb w' hs hlf hN hO hf hI hA
      clear hi'
      have qg : bb.tmps[18]? = some (cond true (.bool (!(unitB x))) undef) := hf.tmp (k := 3) rfl (by rw [ha]; decide) (hA 3 (by kernel_rfl))
      cases hP : (true && ((!(unitB x)) == false)) with
      | false => exact Rg.op_none (o := ⟨some 31, _, _, _, _, _⟩) rfl (Rg.unwanted_c (g := 3) rfl rfl qg hP) ⟨_, rfl, (fun h => by cases h), Rg.cond_f hP, hI, fun _ _ _ _ h => h⟩
      | true =>
        have hw := Rg.wanted_c (ops := (Rg.opsOf Try.f41 6)) (o := (Rg.opsOf Try.f41 6)[16]'(by rw [sizeBi6]; decide)) (g := 3) rfl rfl qg hP
        have g0 := Rg.pc_r hP
        have q21 : bb.tmps[21]? = some (.bool (decide ((0 : Int) < (i : Int)))) := hf.tmp (k := 6) rfl (by rw [ha]; decide) (Eq.trans (hA 6 (by kernel_rfl)) (Rg.cond_t hP))
        cases hC : (decide ((0 : Int) < (i : Int))) with
        | false =>
          have hval : ((.bool ((decide ((0 : Int) < (i : Int))) && (decide (x.id ≤ y))) : Value)) = .bool false := by rw [hC]; rfl
          exact Rg.op_value (o := ⟨some 31, Op.pick (Operand.tmp 21) (Operand.tmp 30) (Operand.const (Value.bool false)), _, _, _, _⟩) (x := .bool false) rfl hw (by rw [hC] at q21; clear hA HS hN hO hX hK hval; simp only [execOp]; go_simp) ⟨_, rfl, (fun h => by cases h), (by show ((.bool false : Value)) = _; exact hval.symm.trans (Rg.cond_t hP).symm), hI, fun _ _ _ _ h => h⟩
        | true =>
          have hB : ((true && ((!(unitB x)) == false)) && ((decide ((0 : Int) < (i : Int))) == true)) = true := by
            rw [hC]; first | rfl | (rw [hP]; rfl) | simp_all
          have q30 : bb.tmps[30]? = some (.bool (decide (x.id ≤ y))) := hf.tmp (k := 15) rfl (by rw [ha]; decide) (Eq.trans (hA 15 (by kernel_rfl)) (Rg.cond_t hB))
          have hval : ((.bool ((decide ((0 : Int) < (i : Int))) && (decide (x.id ≤ y))) : Value)) = .bool (decide (x.id ≤ y)) := by rw [hC]; rfl
          exact Rg.op_value (o := ⟨some 31, Op.pick (Operand.tmp 21) (Operand.tmp 30) (Operand.const (Value.bool false)), _, _, _, _⟩) (x := .bool (decide (x.id ≤ y))) rfl hw (by rw [hC] at q21; clear hA HS hN hO hX hK hval; simp only [execOp]; go_simp) ⟨_, rfl, (fun h => by cases h), (by show ((.bool (decide (x.id ≤ y)) : Value)) = _; exact hval.symm.trans (Rg.cond_t hP).symm), hI, fun _ _ _ _ h => h⟩
    · intro ll bb w' hs hlf hN hO hf hI hA
      clear hi'
      have q18 : bb.tmps[18]? = some _ := hf.tmp (k := 3) rfl (by rw [ha]; decide) (hA 3 (by kernel_rfl))
      cases hC : (!(unitB x)) with
      | false =>
        have hB : (true && ((!(unitB x)) == false)) = true := by rw [hC]; rfl
        have q31 : bb.tmps[31]? = some (.bool ((decide ((0 : Int) < (i : Int))) && (decide (x.id ≤ y)))) := hf.tmp (k := 16) rfl (by rw [ha]; decide) (Eq.trans (hA 16 (by kernel_rfl)) (Rg.cond_t hB))
        have hval : ((.bool ((!(unitB x)) || ((decide ((0 : Int) < (i : Int))) && (decide (x.id ≤ y)))) : Value)) = .bool ((decide ((0 : Int) < (i : Int))) && (decide (x.id ≤ y))) := by rw [hC]; rfl
        exact Rg.op_value (o := ⟨some 32, Op.pick (Operand.tmp 18) (Operand.const (Value.bool true)) (Operand.tmp 31), _, _, _, _⟩) (x := .bool ((decide ((0 : Int) < (i : Int))) && (decide (x.id ≤ y)))) rfl rfl (by rw [hC] at q18; clear hA HS hN hO hX hK hval; simp only [execOp]; go_simp) ⟨_, rfl, (fun h => by cases h), (by show ((.bool ((decide ((0 : Int) < (i : Int))) && (decide (x.id ≤ y))) : Value)) = _; exact hval.symm), hI, fun _ _ _ _ h => h⟩
      | true =>
        have hval : ((.bool ((!(unitB x)) || ((decide ((0 : Int) < (i : Int))) && (decide (x.id ≤ y)))) : Value)) = .bool true := by rw [hC]; rfl
        exact Rg.op_value (o := ⟨some 32, Op.pick (Operand.tmp 18) (Operand.const (Value.bool true)) (Operand.tmp 31), _, _, _, _⟩) (x := .bool true) rfl rfl (by rw [hC] at q18; clear hA HS hN hO hX hK hval; simp only [execOp]; go_simp) ⟨_, rfl, (fun h => by cases h), (by show ((.bool true : Value)) = _; exact hval.symm), hI, fun _ _ _ _ h => h⟩
theorem dBi6_0 : Rg.dstAt (Rg.opsOf Try.f41 6) 0 = some 15 := by kernel_rfl
theorem dBi6_1 : Rg.dstAt (Rg.opsOf Try.f41 6) 1 = some 16 := by kernel_rfl
theorem dBi6_2 : Rg.dstAt (Rg.opsOf Try.f41 6) 2 = some 17 := by kernel_rfl
theorem dBi6_3 : Rg.dstAt (Rg.opsOf Try.f41 6) 3 = some 18 := by kernel_rfl
theorem dBi6_4 : Rg.dstAt (Rg.opsOf Try.f41 6) 4 = some 19 := by kernel_rfl
theorem dBi6_5 : Rg.dstAt (Rg.opsOf Try.f41 6) 5 = some 20 := by kernel_rfl
theorem dBi6_6 : Rg.dstAt (Rg.opsOf Try.f41 6) 6 = some 21 := by kernel_rfl
theorem dBi6_7 : Rg.dstAt (Rg.opsOf Try.f41 6) 7 = some 22 := by kernel_rfl
theorem dBi6_8 : Rg.dstAt (Rg.opsOf Try.f41 6) 8 = some 23 := by kernel_rfl
theorem dBi6_9 : Rg.dstAt (Rg.opsOf Try.f41 6) 9 = some 24 := by kernel_rfl
theorem dBi6_10 : Rg.dstAt (Rg.opsOf Try.f41 6) 10 = some 25 := by kernel_rfl
theorem dBi6_11 : Rg.dstAt (Rg.opsOf Try.f41 6) 11 = some 26 := by kernel_rfl
theorem dBi6_12 : Rg.dstAt (Rg.opsOf Try.f41 6) 12 = some 27 := by kernel_rfl
theorem dBi6_13 : Rg.dstAt (Rg.opsOf Try.f41 6) 13 = some 28 := by kernel_rfl
theorem dBi6_14 : Rg.dstAt (Rg.opsOf Try.f41 6) 14 = some 29 := by kernel_rfl
theorem dBi6_15 : Rg.dstAt (Rg.opsOf Try.f41 6) 15 = some 30 := by kernel_rfl
theorem dBi6_16 : Rg.dstAt (Rg.opsOf Try.f41 6) 16 = some 31 := by kernel_rfl
theorem dBi6_17 : Rg.dstAt (Rg.opsOf Try.f41 6) 17 = some 32 := by kernel_rfl
theorem layBi6 {a b : Act} (hf : Rg.Fr (Rg.opsOf Try.f41 6) a b) : b = ((((((((((((((((((a.put (some 15) (Rg.out (Rg.opsOf Try.f41 6) b 0)).put (some 16) (Rg.out (Rg.opsOf Try.f41 6) b 1)).put (some 17) (Rg.out (Rg.opsOf Try.f41 6) b 2)).put (some 18) (Rg.out (Rg.opsOf Try.f41 6) b 3)).put (some 19) (Rg.out (Rg.opsOf Try.f41 6) b 4)).put (some 20) (Rg.out (Rg.opsOf Try.f41 6) b 5)).put (some 21) (Rg.out (Rg.opsOf Try.f41 6) b 6)).put (some 22) (Rg.out (Rg.opsOf Try.f41 6) b 7)).put (some 23) (Rg.out (Rg.opsOf Try.f41 6) b 8)).put (some 24) (Rg.out (Rg.opsOf Try.f41 6) b 9)).put (some 25) (Rg.out (Rg.opsOf Try.f41 6) b 10)).put (some 26) (Rg.out (Rg.opsOf Try.f41 6) b 11)).put (some 27) (Rg.out (Rg.opsOf Try.f41 6) b 12)).put (some 28) (Rg.out (Rg.opsOf Try.f41 6) b 13)).put (some 29) (Rg.out (Rg.opsOf Try.f41 6) b 14)).put (some 30) (Rg.out (Rg.opsOf Try.f41 6) b 15)).put (some 31) (Rg.out (Rg.opsOf Try.f41 6) b 16)).put (some 32) (Rg.out (Rg.opsOf Try.f41 6) b 17)) := by
  have h := hf.chain
  rw [sizeBi6, show List.range 18 = [0, 1, 2, 3, 4, 5, 6, 7, 8, 9, 10, 11, 12, 13, 14, 15, 16, 17] from by decide] at h
  simp only [List.foldl_cons, List.foldl_nil, dBi6_0, dBi6_1, dBi6_2, dBi6_3, dBi6_4, dBi6_5, dBi6_6, dBi6_7, dBi6_8, dBi6_9, dBi6_10, dBi6_11, dBi6_12, dBi6_13, dBi6_14, dBi6_15, dBi6_16, dBi6_17] at h
  exact h
end Go.Proofs.Ytgcpiinmcbdkmaa
