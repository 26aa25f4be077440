/-
  Does a rule add? The region that draws its order (the specification).
-/
import Derived.Test.YtldggndhdilncaaT42
import Derived.Test.YtldggndhdilncaaRs
namespace Go.Proofs.Ytldggndhdilncaa
open Go.RowKit Va Lb
set_option linter.all false

def FRf28 (R G V voff nv vcap on oc te p : Nat) (oa av : Option Addr) (lo hi th aa vv : Int) (hb : Nat → Bool) (i9 : Nat) (v : Value) (w : World) : Prop :=
  match i9 with
  | 0 => v = .slice oa on oc
  | 1 => v = .pointer (some ⟨R, 0, none⟩)
  | 2 => v = .int .i64 (te : Nat)
  | 3 => v = .bool (hb 0)
  | 4 => v = .bool (hb 0)
  | 5 => v = cond (true && ((hb 0) == true)) (.slice oa on oc) undef
  | 6 => v = cond (true && ((hb 0) == true)) (.pointer (some ⟨R, 3, none⟩)) undef
  | 7 => v = cond (true && ((hb 0) == true)) (.int .i64 th) undef
  | 8 => v = cond (true && ((hb 0) == true)) (.bool (hb 1)) undef
  | 9 => v = cond (true && ((hb 0) == true)) (.bool (!(hb 1))) undef
  | 10 => v = .bool ((hb 0) && (!(hb 1)))
  | 11 => v = .bool ((hb 0) && (!(hb 1)))
  | 12 => v = cond (true && (((hb 0) && (!(hb 1))) == true)) (.slice (some ⟨G, 0, none⟩) 100 100) undef
  | 13 => v = cond (true && (((hb 0) && (!(hb 1))) == true)) (.pointer (some ⟨R, 0, none⟩)) undef
  | 14 => v = cond (true && (((hb 0) && (!(hb 1))) == true)) (.int .i64 (te : Nat)) undef
  | 15 => v = cond (true && (((hb 0) && (!(hb 1))) == true)) (.pointer (some ⟨G, te, none⟩)) undef
  | 16 => v = cond (true && (((hb 0) && (!(hb 1))) == true)) (.int .i64 aa) undef
  | 17 => v = cond (true && (((hb 0) && (!(hb 1))) == true)) (.bool (decide (0 < aa))) undef
  | 18 => v = .bool (((hb 0) && (!(hb 1))) && (decide (0 < aa)))
  | 19 => v = .bool (((hb 0) && (!(hb 1))) && (decide (0 < aa)))
  | 20 => v = cond (true && ((((hb 0) && (!(hb 1))) && (decide (0 < aa))) == true)) (.slice av nv vcap) undef
  | 21 => v = cond (true && ((((hb 0) && (!(hb 1))) && (decide (0 < aa))) == true)) (.slice (some ⟨G, 0, none⟩) 100 100) undef
  | 22 => v = cond (true && ((((hb 0) && (!(hb 1))) && (decide (0 < aa))) == true)) (.pointer (some ⟨R, 0, none⟩)) undef
  | 23 => v = cond (true && ((((hb 0) && (!(hb 1))) && (decide (0 < aa))) == true)) (.int .i64 (te : Nat)) undef
  | 24 => v = cond (true && ((((hb 0) && (!(hb 1))) && (decide (0 < aa))) == true)) (.pointer (some ⟨G, te, none⟩)) undef
  | 25 => v = cond (true && ((((hb 0) && (!(hb 1))) && (decide (0 < aa))) == true)) (.int .i64 aa) undef
  | 26 => v = cond (true && ((((hb 0) && (!(hb 1))) && (decide (0 < aa))) == true)) (.int .i64 (aa - 1)) undef
  | 27 => v = cond (true && ((((hb 0) && (!(hb 1))) && (decide (0 < aa))) == true)) (.pointer (some ⟨V, voff + p * 2, none⟩)) undef
  | 28 => v = cond (true && ((((hb 0) && (!(hb 1))) && (decide (0 < aa))) == true)) (.pointer (some ⟨V, voff + p * 2 + 1, none⟩)) undef
  | 29 => v = cond (true && ((((hb 0) && (!(hb 1))) && (decide (0 < aa))) == true)) (.int .i64 vv) undef
  | 30 => v = cond (true && ((((hb 0) && (!(hb 1))) && (decide (0 < aa))) == true)) (.pointer (some ⟨R, 1, none⟩)) undef
  | 31 => v = cond (true && ((((hb 0) && (!(hb 1))) && (decide (0 < aa))) == true)) (.int .i64 lo) undef
  | 32 => v = cond (true && ((((hb 0) && (!(hb 1))) && (decide (0 < aa))) == true)) (.pointer (some ⟨R, 2, none⟩)) undef
  | 33 => v = cond (true && ((((hb 0) && (!(hb 1))) && (decide (0 < aa))) == true)) (.int .i64 hi) undef
  | 34 => v = cond (true && ((((hb 0) && (!(hb 1))) && (decide (0 < aa))) == true)) (.bool (hb 2)) undef
  | 35 => v = .bool ((((hb 0) && (!(hb 1))) && (decide (0 < aa))) && (hb 2))
  | _ => True
theorem sizeRf28 : (Rg.opsOf Try.f7 28).size = 36 := by kernel_rfl

set_option maxRecDepth 20000 in
set_option maxHeartbeats 8000000 in
theorem regRf28 {Q : Exit → Act → World → Prop} {a : Act} {w9 : World} {R G V voff nv vcap on oc te p : Nat} {oa av : Option Addr} {lo hi th aa vv : Int} {hb : Nat → Bool} (ha : a.tmps.size = 186)
    (k1 : a.tmps[1]? = some (.slice av nv vcap)) (k9 : a.tmps[9]? = some (.slice (some ⟨G, 0, none⟩) 100 100)) (k11 : a.tmps[11]? = some (.slice oa on oc)) (k14 : a.tmps[14]? = some (.pointer (some ⟨R, 0, none⟩))) (hRl : R < w9.heap.size) (hGl : G < w9.heap.size) (hte : te < 100) (hva : 0 < aa → av = some ⟨V, voff, none⟩) (hp : 0 < aa → aa = (p : Int) + 1 ∧ p < nv) (haa : aa ≤ 1000000) (hnv : nv < 1000000) (hVl : 0 < aa → V < w9.heap.size) (r0 : w9.cell? ⟨R, 0, none⟩ = some (.int .i64 (te : Nat))) (r1 : w9.cell? ⟨R, 1, none⟩ = some (.int .i64 lo)) (r2 : w9.cell? ⟨R, 2, none⟩ = some (.int .i64 hi)) (r3 : w9.cell? ⟨R, 3, none⟩ = some (.int .i64 th)) (g0c : w9.cell? ⟨G, te, none⟩ = some (.int .i64 aa)) (v1 : 0 < aa → w9.cell? ⟨V, voff + p * 2 + 1, none⟩ = some (.int .i64 vv)) (hK0 : ∀ W, Below w9.heap.size w9 W → Calls Try.prog 21 #[.slice oa on oc, .int .i64 (te : Nat)] W fun e W' => e = .returned (.bool (hb 0)) ∧ W' = W) (hK1 : ∀ W, Below w9.heap.size w9 W → Calls Try.prog 21 #[.slice oa on oc, .int .i64 th] W fun e W' => e = .returned (.bool (hb 1)) ∧ W' = W) (hK2 : ∀ W, Calls Try.prog 19 #[.int .i64 vv, .int .i64 lo, .int .i64 hi] W fun e W' => e = .returned (.bool (hb 2)) ∧ W' = W)
    (hend : ∀ b' w', Rg.Fr (Rg.opsOf Try.f7 28) a b' → Below w9.heap.size w9 w' → Rg.out (Rg.opsOf Try.f7 28) b' 35 = .bool ((((hb 0) && (!(hb 1))) && (decide (0 < aa))) && (hb 2)) → Q .normal b' w') :
    (Code.region 28 (Rg.opsOf Try.f7 28) true).wp Try.prog Q a w9 := by
  refine Rg.region_set3 (by kernel_rfl) (fun _ w' => Below w9.heap.size w9 w') (FRf28 R G V voff nv vcap on oc te p oa av lo hi th aa vv hb) (by rw [ha, sizeRf28]; kernel_rfl) (st_drew (Below.refl _ _)) ?_ ?_
  case refine_2 =>
    intro l b' w' hf hall hI hA
    rw [sizeRf28] at hA
    exact hend b' w' hf hI (hA 35 (by decide))
  case refine_1 =>
    clear hend
    have HS : ∀ {w w' : World}, Below w.heap.size w w' → ∀ k9 y9, FRf28 R G V voff nv vcap on oc te p oa av lo hi th aa vv hb k9 y9 w → FRf28 R G V voff nv vcap on oc te p oa av lo hi th aa vv hb k9 y9 w' := fun hb k9 y9 h => by
      unfold FRf28 at *
      split at h <;> exact h
    intro i' hi'
    rw [sizeRf28] at hi'
    rcases (show i' = 0 ∨ i' = 1 ∨ i' = 2 ∨ i' = 3 ∨ i' = 4 ∨ i' = 5 ∨ i' = 6 ∨ i' = 7 ∨ i' = 8 ∨ i' = 9 ∨ i' = 10 ∨ i' = 11 ∨ i' = 12 ∨ i' = 13 ∨ i' = 14 ∨ i' = 15 ∨ i' = 16 ∨ i' = 17 ∨ i' = 18 ∨ i' = 19 ∨ i' = 20 ∨ i' = 21 ∨ i' = 22 ∨ i' = 23 ∨ i' = 24 ∨ i' = 25 ∨ i' = 26 ∨ i' = 27 ∨ i' = 28 ∨ i' = 29 ∨ i' = 30 ∨ i' = 31 ∨ i' = 32 ∨ i' = 33 ∨ i' = 34 ∨ i' = 35 by omega) with rfl | rfl | rfl | rfl | rfl | rfl | rfl | rfl | rfl | rfl | rfl | rfl | rfl | rfl | rfl | rfl | rfl | rfl | rfl | rfl | rfl | rfl | rfl | rfl | rfl | rfl | rfl | rfl | rfl | rfl | rfl | rfl | rfl | rfl | rfl | rfl
    · intro ll bb w' hs hlf hN hO hf hI hA
      clear hi'
      have q0 := hf.kept (s := 11) (by rw [sizeRf28]; kernel_rfl) k11
      exact Rg.op_value (o := ⟨some 144, Op.move (Operand.tmp 11), _, _, _, _⟩) (x := .slice oa on oc) rfl rfl (by clear hA HS hN hO hK0 hK1 hK2 hp hVl v1 hva; simp only [execOp]; go_simp) ⟨_, rfl, (fun h => by cases h), rfl, hI, fun _ _ _ _ h => h⟩
    · intro ll bb w' hs hlf hN hO hf hI hA
      clear hi'
      have q14 := hf.kept (s := 14) (by rw [sizeRf28]; kernel_rfl) k14
      exact Rg.op_value (o := ⟨some 145, Op.fieldAddr 37 (Operand.tmp 14) 0, _, _, _, _⟩) (x := .pointer (some ⟨R, 0, none⟩)) rfl rfl (by clear hA HS hN hO hK0 hK1 hK2 hp hVl v1 hva; simp only [execOp]; go_simp) ⟨_, rfl, (fun h => by cases h), rfl, hI, fun _ _ _ _ h => h⟩
    · intro ll bb w' hs hlf hN hO hf hI hA
      clear hi'
      have q145 : bb.tmps[145]? = some _ := hf.tmp (k := 1) rfl (by rw [ha]; decide) (hA 1 (by kernel_rfl))
      have e0 := (hI.cell (p := ⟨R, 0, none⟩) hRl).trans r0
      exact Rg.op_value (o := ⟨some 146, Op.load 2 (Operand.tmp 145), _, _, _, _⟩) (x := .int .i64 (te : Nat)) rfl rfl (by clear hA HS hN hO hK0 hK1 hK2 hp hVl v1 hva; simp only [execOp]; go_simp) ⟨_, rfl, (fun h => by cases h), rfl, hI, fun _ _ _ _ h => h⟩
    · intro ll bb w' hs hlf hN hO hf hI hA
      clear hi'
      have q144 : bb.tmps[144]? = some _ := hf.tmp (k := 0) rfl (by rw [ha]; decide) (hA 0 (by kernel_rfl))
      have q146 : bb.tmps[146]? = some _ := hf.tmp (k := 2) rfl (by rw [ha]; decide) (hA 2 (by kernel_rfl))
      refine Rg.op_call (o := ⟨some 147, Op.call { callee := Callee.value (Operand.func 21), args := #[(Operand.tmp 144), (Operand.tmp 146)], argTypes := _ }, _, _, _, _⟩) rfl rfl (by clear hA HS hN hO hK0 hK1 hK2 hp hVl v1 hva; simp only [execOp, resolve]; go_simp) (hK0 w' hI) ?_
      rintro e w2 ⟨rfl, rfl⟩
      exact ⟨_, rfl, _, rfl, (fun h => by cases h), rfl, hI, fun _ _ _ _ h => h⟩
    · intro ll bb w' hs hlf hN hO hf hI hA
      clear hi'
      have q147 : bb.tmps[147]? = some _ := hf.tmp (k := 3) rfl (by rw [ha]; decide) (hA 3 (by kernel_rfl))
      exact Rg.op_value (o := ⟨some 148, Op.move (Operand.tmp 147), _, _, _, _⟩) (x := .bool (hb 0)) rfl rfl (by clear hA HS hN hO hK0 hK1 hK2 hp hVl v1 hva; simp only [execOp]; go_simp) ⟨_, rfl, (fun h => by cases h), rfl, hI, fun _ _ _ _ h => h⟩
    · intro ll bb w' hs hlf hN hO hf hI hA
      clear hi'
      have qg : bb.tmps[148]? = some (cond true (.bool (hb 0)) undef) := hf.tmp (k := 4) rfl (by rw [ha]; decide) (hA 4 (by kernel_rfl))
      cases hP : (true && ((hb 0) == true)) with
      | false => exact Rg.op_none (o := ⟨some 149, _, _, _, _, _⟩) rfl (Rg.unwanted_c (g := 4) rfl rfl qg hP) ⟨_, rfl, (fun h => by cases h), Rg.cond_f hP, hI, fun _ _ _ _ h => h⟩
      | true =>
        have hw := Rg.wanted_c (ops := (Rg.opsOf Try.f7 28)) (o := (Rg.opsOf Try.f7 28)[5]'(by rw [sizeRf28]; decide)) (g := 4) rfl rfl qg hP
        have g0 := Rg.pc_r hP
        have q0 := hf.kept (s := 11) (by rw [sizeRf28]; kernel_rfl) k11
        exact Rg.op_value (o := ⟨some 149, Op.move (Operand.tmp 11), _, _, _, _⟩) (x := .slice oa on oc) rfl hw (by clear hA HS hN hO hK0 hK1 hK2 hp hVl v1 hva; simp only [execOp]; go_simp) ⟨_, rfl, (fun h => by cases h), (Rg.cond_t hP).symm, hI, fun _ _ _ _ h => h⟩
    · intro ll bb w' hs hlf hN hO hf hI hA
      clear hi'
      have qg : bb.tmps[148]? = some (cond true (.bool (hb 0)) undef) := hf.tmp (k := 4) rfl (by rw [ha]; decide) (hA 4 (by kernel_rfl))
      cases hP : (true && ((hb 0) == true)) with
      | false => exact Rg.op_none (o := ⟨some 150, _, _, _, _, _⟩) rfl (Rg.unwanted_c (g := 4) rfl rfl qg hP) ⟨_, rfl, (fun h => by cases h), Rg.cond_f hP, hI, fun _ _ _ _ h => h⟩
      | true =>
        have hw := Rg.wanted_c (ops := (Rg.opsOf Try.f7 28)) (o := (Rg.opsOf Try.f7 28)[6]'(by rw [sizeRf28]; decide)) (g := 4) rfl rfl qg hP
        have g0 := Rg.pc_r hP
        have q14 := hf.kept (s := 14) (by rw [sizeRf28]; kernel_rfl) k14
        exact Rg.op_value (o := ⟨some 150, Op.fieldAddr 37 (Operand.tmp 14) 3, _, _, _, _⟩) (x := .pointer (some ⟨R, 3, none⟩)) rfl hw (by clear hA HS hN hO hK0 hK1 hK2 hp hVl v1 hva; simp only [execOp]; go_simp) ⟨_, rfl, (fun h => by cases h), (Rg.cond_t hP).symm, hI, fun _ _ _ _ h => h⟩
    · intro ll bb w' hs hlf hN hO hf hI hA
      clear hi'
      have qg : bb.tmps[148]? = some (cond true (.bool (hb 0)) undef) := hf.tmp (k := 4) rfl (by rw [ha]; decide) (hA 4 (by kernel_rfl))
      cases hP : (true && ((hb 0) == true)) with
      | false => exact Rg.op_none (o := ⟨some 151, _, _, _, _, _⟩) rfl (Rg.unwanted_c (g := 4) rfl rfl qg hP) ⟨_, rfl, (fun h => by cases h), Rg.cond_f hP, hI, fun _ _ _ _ h => h⟩
      | true =>
        have hw := Rg.wanted_c (ops := (Rg.opsOf Try.f7 28)) (o := (Rg.opsOf Try.f7 28)[7]'(by rw [sizeRf28]; decide)) (g := 4) rfl rfl qg hP
        have g0 := Rg.pc_r hP
        have q150 : bb.tmps[150]? = some (.pointer (some ⟨R, 3, none⟩)) := hf.tmp (k := 6) rfl (by rw [ha]; decide) (Eq.trans (hA 6 (by kernel_rfl)) (Rg.cond_t hP))
        have e0 := (hI.cell (p := ⟨R, 3, none⟩) hRl).trans r3
        exact Rg.op_value (o := ⟨some 151, Op.load 2 (Operand.tmp 150), _, _, _, _⟩) (x := .int .i64 th) rfl hw (by clear hA HS hN hO hK0 hK1 hK2 hp hVl v1 hva; simp only [execOp]; go_simp) ⟨_, rfl, (fun h => by cases h), (Rg.cond_t hP).symm, hI, fun _ _ _ _ h => h⟩
    · intro ll bb w' hs hlf hN hO hf hI hA
      clear hi'
      have qg : bb.tmps[148]? = some (cond true (.bool (hb 0)) undef) := hf.tmp (k := 4) rfl (by rw [ha]; decide) (hA 4 (by kernel_rfl))
      cases hP : (true && ((hb 0) == true)) with
      | false => exact Rg.op_none (o := ⟨some 152, _, _, _, _, _⟩) rfl (Rg.unwanted_c (g := 4) rfl rfl qg hP) ⟨_, rfl, (fun h => by cases h), Rg.cond_f hP, hI, fun _ _ _ _ h => h⟩
      | true =>
        have hw := Rg.wanted_c (ops := (Rg.opsOf Try.f7 28)) (o := (Rg.opsOf Try.f7 28)[8]'(by rw [sizeRf28]; decide)) (g := 4) rfl rfl qg hP
        have g0 := Rg.pc_r hP
        have q149 : bb.tmps[149]? = some (.slice oa on oc) := hf.tmp (k := 5) rfl (by rw [ha]; decide) (Eq.trans (hA 5 (by kernel_rfl)) (Rg.cond_t hP))
        have q151 : bb.tmps[151]? = some (.int .i64 th) := hf.tmp (k := 7) rfl (by rw [ha]; decide) (Eq.trans (hA 7 (by kernel_rfl)) (Rg.cond_t hP))
        refine Rg.op_call (o := ⟨some 152, Op.call { callee := Callee.value (Operand.func 21), args := #[(Operand.tmp 149), (Operand.tmp 151)], argTypes := _ }, _, _, _, _⟩) rfl hw (by clear hA HS hN hO hK0 hK1 hK2 hp hVl v1 hva; simp only [execOp, resolve]; go_simp) (hK1 w' hI) ?_
        rintro e w2 ⟨rfl, rfl⟩
        exact ⟨_, rfl, _, rfl, (fun h => by cases h), (Rg.cond_t hP).symm, hI, fun _ _ _ _ h => h⟩
    · intro ll bb w' hs hlf hN hO hf hI hA
      clear hi'
      have qg : bb.tmps[148]? = some (cond true (.bool (hb 0)) undef) := hf.tmp (k := 4) rfl (by rw [ha]; decide) (hA 4 (by kernel_rfl))
      cases hP : (true && ((hb 0) == true)) with
      | false => exact Rg.op_none (o := ⟨some 153, _, _, _, _, _⟩) rfl (Rg.unwanted_c (g := 4) rfl rfl qg hP) ⟨_, rfl, (fun h => by cases h), Rg.cond_f hP, hI, fun _ _ _ _ h => h⟩
      | true =>
        have hw := Rg.wanted_c (ops := (Rg.opsOf Try.f7 28)) (o := (Rg.opsOf Try.f7 28)[9]'(by rw [sizeRf28]; decide)) (g := 4) rfl rfl qg hP
        have g0 := Rg.pc_r hP
        have q152 : bb.tmps[152]? = some (.bool (hb 1)) := hf.tmp (k := 8) rfl (by rw [ha]; decide) (Eq.trans (hA 8 (by kernel_rfl)) (Rg.cond_t hP))
        exact Rg.op_value (o := ⟨some 153, Op.unOp UnOp.not 4 (Operand.tmp 152), _, _, _, _⟩) (x := .bool (!(hb 1))) rfl hw (by clear hA HS hN hO hK0 hK1 hK2 hp hVl v1 hva; simp only [execOp]; go_simp) ⟨_, rfl, (fun h => by cases h), (Rg.cond_t hP).symm, hI, fun _ _ _ _ h => h⟩
    · intro ll bb w' hs hlf hN hO hf hI hA
      clear hi'
      have q148 : bb.tmps[148]? = some _ := hf.tmp (k := 4) rfl (by rw [ha]; decide) (hA 4 (by kernel_rfl))
      cases hC : (hb 0) with
      | false =>
        have hval : ((.bool ((hb 0) && (!(hb 1))) : Value)) = .bool false := by rw [hC]; rfl
        exact Rg.op_value (o := ⟨some 154, Op.pick (Operand.tmp 148) (Operand.tmp 153) (Operand.const (Value.bool false)), _, _, _, _⟩) (x := .bool false) rfl rfl (by rw [hC] at q148; clear hA HS hN hO hK0 hK1 hK2 hp hVl v1 hva hval; simp only [execOp]; go_simp) ⟨_, rfl, (fun h => by cases h), (by show ((.bool false : Value)) = _; exact hval.symm), hI, fun _ _ _ _ h => h⟩
      | true =>
        have hB : (true && ((hb 0) == true)) = true := by rw [hC]; rfl
        have q153 : bb.tmps[153]? = some (.bool (!(hb 1))) := hf.tmp (k := 9) rfl (by rw [ha]; decide) (Eq.trans (hA 9 (by kernel_rfl)) (Rg.cond_t hB))
        have hval : ((.bool ((hb 0) && (!(hb 1))) : Value)) = .bool (!(hb 1)) := by rw [hC]; rfl
        exact Rg.op_value (o := ⟨some 154, Op.pick (Operand.tmp 148) (Operand.tmp 153) (Operand.const (Value.bool false)), _, _, _, _⟩) (x := .bool (!(hb 1))) rfl rfl (by rw [hC] at q148; clear hA HS hN hO hK0 hK1 hK2 hp hVl v1 hva hval; simp only [execOp]; go_simp) ⟨_, rfl, (fun h => by cases h), (by show ((.bool (!(hb 1)) : Value)) = _; exact hval.symm), hI, fun _ _ _ _ h => h⟩
    · intro ll bb w' hs hlf hN hO hf hI hA
      clear hi'
      have q154 : bb.tmps[154]? = some _ := hf.tmp (k := 10) rfl (by rw [ha]; decide) (hA 10 (by kernel_rfl))
      exact Rg.op_value (o := ⟨some 155, Op.move (Operand.tmp 154), _, _, _, _⟩) (x := .bool ((hb 0) && (!(hb 1)))) rfl rfl (by clear hA HS hN hO hK0 hK1 hK2 hp hVl v1 hva; simp only [execOp]; go_simp) ⟨_, rfl, (fun h => by cases h), rfl, hI, fun _ _ _ _ h => h⟩
    · intro ll bb w' hs hlf hN hO hf hI hA
      clear hi'
      have qg : bb.tmps[155]? = some (cond true (.bool ((hb 0) && (!(hb 1)))) undef) := hf.tmp (k := 11) rfl (by rw [ha]; decide) (hA 11 (by kernel_rfl))
      cases hP : (true && (((hb 0) && (!(hb 1))) == true)) with
      | false => exact Rg.op_none (o := ⟨some 156, _, _, _, _, _⟩) rfl (Rg.unwanted_c (g := 11) rfl rfl qg hP) ⟨_, rfl, (fun h => by cases h), Rg.cond_f hP, hI, fun _ _ _ _ h => h⟩
      | true =>
        have hw := Rg.wanted_c (ops := (Rg.opsOf Try.f7 28)) (o := (Rg.opsOf Try.f7 28)[12]'(by rw [sizeRf28]; decide)) (g := 11) rfl rfl qg hP
        have g0 := Rg.pc_r hP
        have q0 := hf.kept (s := 9) (by rw [sizeRf28]; kernel_rfl) k9
        exact Rg.op_value (o := ⟨some 156, Op.move (Operand.tmp 9), _, _, _, _⟩) (x := .slice (some ⟨G, 0, none⟩) 100 100) rfl hw (by clear hA HS hN hO hK0 hK1 hK2 hp hVl v1 hva; simp only [execOp]; go_simp) ⟨_, rfl, (fun h => by cases h), (Rg.cond_t hP).symm, hI, fun _ _ _ _ h => h⟩
    · intro ll bb w' hs hlf hN hO hf hI hA
      clear hi'
      have qg : bb.tmps[155]? = some (cond true (.bool ((hb 0) && (!(hb 1)))) undef) := hf.tmp (k := 11) rfl (by rw [ha]; decide) (hA 11 (by kernel_rfl))
      cases hP : (true && (((hb 0) && (!(hb 1))) == true)) with
      | false => exact Rg.op_none (o := ⟨some 157, _, _, _, _, _⟩) rfl (Rg.unwanted_c (g := 11) rfl rfl qg hP) ⟨_, rfl, (fun h => by cases h), Rg.cond_f hP, hI, fun _ _ _ _ h => h⟩
      | true =>
        have hw := Rg.wanted_c (ops := (Rg.opsOf Try.f7 28)) (o := (Rg.opsOf Try.f7 28)[13]'(by rw [sizeRf28]; decide)) (g := 11) rfl rfl qg hP
        have g0 := Rg.pc_r hP
        have q14 := hf.kept (s := 14) (by rw [sizeRf28]; kernel_rfl) k14
        exact Rg.op_value (o := ⟨some 157, Op.fieldAddr 37 (Operand.tmp 14) 0, _, _, _, _⟩) (x := .pointer (some ⟨R, 0, none⟩)) rfl hw (by clear hA HS hN hO hK0 hK1 hK2 hp hVl v1 hva; simp only [execOp]; go_simp) ⟨_, rfl, (fun h => by cases h), (Rg.cond_t hP).symm, hI, fun _ _ _ _ h => h⟩
    · intro ll bb w' hs hlf hN hO hf hI hA
      clear hi'
      have qg : bb.tmps[155]? = some (cond true (.bool ((hb 0) && (!(hb 1)))) undef) := hf.tmp (k := 11) rfl (by rw [ha]; decide) (hA 11 (by kernel_rfl))
      cases hP : (true && (((hb 0) && (!(hb 1))) == true)) with
      | false => exact Rg.op_none (o := ⟨some 158, _, _, _, _, _⟩) rfl (Rg.unwanted_c (g := 11) rfl rfl qg hP) ⟨_, rfl, (fun h => by cases h), Rg.cond_f hP, hI, fun _ _ _ _ h => h⟩
      | true =>
        have hw := Rg.wanted_c (ops := (Rg.opsOf Try.f7 28)) (o := (Rg.opsOf Try.f7 28)[14]'(by rw [sizeRf28]; decide)) (g := 11) rfl rfl qg hP
        have g0 := Rg.pc_r hP
        have q157 : bb.tmps[157]? = some (.pointer (some ⟨R, 0, none⟩)) := hf.tmp (k := 13) rfl (by rw [ha]; decide) (Eq.trans (hA 13 (by kernel_rfl)) (Rg.cond_t hP))
        have e0 := (hI.cell (p := ⟨R, 0, none⟩) hRl).trans r0
        exact Rg.op_value (o := ⟨some 158, Op.load 2 (Operand.tmp 157), _, _, _, _⟩) (x := .int .i64 (te : Nat)) rfl hw (by clear hA HS hN hO hK0 hK1 hK2 hp hVl v1 hva; simp only [execOp]; go_simp) ⟨_, rfl, (fun h => by cases h), (Rg.cond_t hP).symm, hI, fun _ _ _ _ h => h⟩
    · intro ll bb w' hs hlf hN hO hf hI hA
      clear hi'
      have qg : bb.tmps[155]? = some (cond true (.bool ((hb 0) && (!(hb 1)))) undef) := hf.tmp (k := 11) rfl (by rw [ha]; decide) (hA 11 (by kernel_rfl))
      cases hP : (true && (((hb 0) && (!(hb 1))) == true)) with
      | false => exact Rg.op_none (o := ⟨some 159, _, _, _, _, _⟩) rfl (Rg.unwanted_c (g := 11) rfl rfl qg hP) ⟨_, rfl, (fun h => by cases h), Rg.cond_f hP, hI, fun _ _ _ _ h => h⟩
      | true =>
        have hw := Rg.wanted_c (ops := (Rg.opsOf Try.f7 28)) (o := (Rg.opsOf Try.f7 28)[15]'(by rw [sizeRf28]; decide)) (g := 11) rfl rfl qg hP
        have g0 := Rg.pc_r hP
        have q156 : bb.tmps[156]? = some (.slice (some ⟨G, 0, none⟩) 100 100) := hf.tmp (k := 12) rfl (by rw [ha]; decide) (Eq.trans (hA 12 (by kernel_rfl)) (Rg.cond_t hP))
        have q158 : bb.tmps[158]? = some (.int .i64 (te : Nat)) := hf.tmp (k := 14) rfl (by rw [ha]; decide) (Eq.trans (hA 14 (by kernel_rfl)) (Rg.cond_t hP))
        have hin2 : (te : Int) < (100 : Int) := by omega
        exact Rg.op_value (o := ⟨some 159, Op.indexAddr 53 (Operand.tmp 156) (Operand.tmp 158), _, _, _, _⟩) (x := .pointer (some ⟨G, te, none⟩)) rfl hw (by clear hA HS hN hO hK0 hK1 hK2 hp hVl v1 hva; simp only [execOp]; go_simp) ⟨_, rfl, (fun h => by cases h), (Rg.cond_t hP).symm, hI, fun _ _ _ _ h => h⟩
    · intro ll bb w' hs hlf hN hO hf hI hA
      clear hi'
      have qg : bb.tmps[155]? = some (cond true (.bool ((hb 0) && (!(hb 1)))) undef) := hf.tmp (k := 11) rfl (by rw [ha]; decide) (hA 11 (by kernel_rfl))
      cases hP : (true && (((hb 0) && (!(hb 1))) == true)) with
      | false => exact Rg.op_none (o := ⟨some 160, _, _, _, _, _⟩) rfl (Rg.unwanted_c (g := 11) rfl rfl qg hP) ⟨_, rfl, (fun h => by cases h), Rg.cond_f hP, hI, fun _ _ _ _ h => h⟩
      | true =>
        have hw := Rg.wanted_c (ops := (Rg.opsOf Try.f7 28)) (o := (Rg.opsOf Try.f7 28)[16]'(by rw [sizeRf28]; decide)) (g := 11) rfl rfl qg hP
        have g0 := Rg.pc_r hP
        have q159 : bb.tmps[159]? = some (.pointer (some ⟨G, te, none⟩)) := hf.tmp (k := 15) rfl (by rw [ha]; decide) (Eq.trans (hA 15 (by kernel_rfl)) (Rg.cond_t hP))
        have e0 := (hI.cell (p := ⟨G, te, none⟩) hGl).trans g0c
        exact Rg.op_value (o := ⟨some 160, Op.load 3 (Operand.tmp 159), _, _, _, _⟩) (x := .int .i64 aa) rfl hw (by clear hA HS hN hO hK0 hK1 hK2 hp hVl v1 hva; simp only [execOp]; go_simp) ⟨_, rfl, (fun h => by cases h), (Rg.cond_t hP).symm, hI, fun _ _ _ _ h => h⟩
    · intro ll bb w' hs hlf hN hO hf hI hA
      clear hi'
      have qg : bb.tmps[155]? = some (cond true (.bool ((hb 0) && (!(hb 1)))) undef) := hf.tmp (k := 11) rfl (by rw [ha]; decide) (hA 11 (by kernel_rfl))
      cases hP : (true && (((hb 0) && (!(hb 1))) == true)) with
      | false => exact Rg.op_none (o := ⟨some 161, _, _, _, _, _⟩) rfl (Rg.unwanted_c (g := 11) rfl rfl qg hP) ⟨_, rfl, (fun h => by cases h), Rg.cond_f hP, hI, fun _ _ _ _ h => h⟩
      | true =>
        have hw := Rg.wanted_c (ops := (Rg.opsOf Try.f7 28)) (o := (Rg.opsOf Try.f7 28)[17]'(by rw [sizeRf28]; decide)) (g := 11) rfl rfl qg hP
        have g0 := Rg.pc_r hP
        have q160 : bb.tmps[160]? = some (.int .i64 aa) := hf.tmp (k := 16) rfl (by rw [ha]; decide) (Eq.trans (hA 16 (by kernel_rfl)) (Rg.cond_t hP))
        exact Rg.op_value (o := ⟨some 161, Op.binOp BinOp.gtr 3 (Operand.tmp 160) (Operand.const (Value.int .i64 0)) 3, _, _, _, _⟩) (x := .bool (decide (0 < aa))) rfl hw (by clear hA HS hN hO hK0 hK1 hK2 hp hVl v1 hva; simp only [execOp]; go_simp) ⟨_, rfl, (fun h => by cases h), (Rg.cond_t hP).symm, hI, fun _ _ _ _ h => h⟩
    · intro ll bb w' hs hlf hN hO hf hI hA
      clear hi'
      have q155 : bb.tmps[155]? = some _ := hf.tmp (k := 11) rfl (by rw [ha]; decide) (hA 11 (by kernel_rfl))
      cases hC : ((hb 0) && (!(hb 1))) with
      | false =>
        have hval : ((.bool (((hb 0) && (!(hb 1))) && (decide (0 < aa))) : Value)) = .bool false := by rw [hC]; rfl
        exact Rg.op_value (o := ⟨some 162, Op.pick (Operand.tmp 155) (Operand.tmp 161) (Operand.const (Value.bool false)), _, _, _, _⟩) (x := .bool false) rfl rfl (by rw [hC] at q155; clear hA HS hN hO hK0 hK1 hK2 hp hVl v1 hva hval; simp only [execOp]; go_simp) ⟨_, rfl, (fun h => by cases h), (by show ((.bool false : Value)) = _; exact hval.symm), hI, fun _ _ _ _ h => h⟩
      | true =>
        have hB : (true && (((hb 0) && (!(hb 1))) == true)) = true := by rw [hC]; rfl
        have q161 : bb.tmps[161]? = some (.bool (decide (0 < aa))) := hf.tmp (k := 17) rfl (by rw [ha]; decide) (Eq.trans (hA 17 (by kernel_rfl)) (Rg.cond_t hB))
        have hval : ((.bool (((hb 0) && (!(hb 1))) && (decide (0 < aa))) : Value)) = .bool (decide (0 < aa)) := by rw [hC]; rfl
        exact Rg.op_value (o := ⟨some 162, Op.pick (Operand.tmp 155) (Operand.tmp 161) (Operand.const (Value.bool false)), _, _, _, _⟩) (x := .bool (decide (0 < aa))) rfl rfl (by rw [hC] at q155; clear hA HS hN hO hK0 hK1 hK2 hp hVl v1 hva hval; simp only [execOp]; go_simp) ⟨_, rfl, (fun h => by cases h), (by show ((.bool (decide (0 < aa)) : Value)) = _; exact hval.symm), hI, fun _ _ _ _ h => h⟩
    · intro ll bb w' hs hlf hN hO hf hI hA
      clear hi'
      have q162 : bb.tmps[162]? = some _ := hf.tmp (k := 18) rfl (by rw [ha]; decide) (hA 18 (by kernel_rfl))
      exact Rg.op_value (o := ⟨some 163, Op.move (Operand.tmp 162), _, _, _, _⟩) (x := .bool (((hb 0) && (!(hb 1))) && (decide (0 < aa)))) rfl rfl (by clear hA HS hN hO hK0 hK1 hK2 hp hVl v1 hva; simp only [execOp]; go_simp) ⟨_, rfl, (fun h => by cases h), rfl, hI, fun _ _ _ _ h => h⟩
    · intro ll bb w' hs hlf hN hO hf hI hA
      clear hi'
      have qg : bb.tmps[163]? = some (cond true (.bool (((hb 0) && (!(hb 1))) && (decide (0 < aa)))) undef) := hf.tmp (k := 19) rfl (by rw [ha]; decide) (hA 19 (by kernel_rfl))
      cases hP : (true && ((((hb 0) && (!(hb 1))) && (decide (0 < aa))) == true)) with
      | false => exact Rg.op_none (o := ⟨some 164, _, _, _, _, _⟩) rfl (Rg.unwanted_c (g := 19) rfl rfl qg hP) ⟨_, rfl, (fun h => by cases h), Rg.cond_f hP, hI, fun _ _ _ _ h => h⟩
      | true =>
        have hw := Rg.wanted_c (ops := (Rg.opsOf Try.f7 28)) (o := (Rg.opsOf Try.f7 28)[20]'(by rw [sizeRf28]; decide)) (g := 19) rfl rfl qg hP
        have g0 := Rg.pc_r hP
        have q0 := hf.kept (s := 1) (by rw [sizeRf28]; kernel_rfl) k1
        exact Rg.op_value (o := ⟨some 164, Op.move (Operand.tmp 1), _, _, _, _⟩) (x := .slice av nv vcap) rfl hw (by clear hA HS hN hO hK0 hK1 hK2 hp hVl v1 hva; simp only [execOp]; go_simp) ⟨_, rfl, (fun h => by cases h), (Rg.cond_t hP).symm, hI, fun _ _ _ _ h => h⟩
    · intro ll bb w' hs hlf hN hO hf hI hA
      clear hi'
      have qg : bb.tmps[163]? = some (cond true (.bool (((hb 0) && (!(hb 1))) && (decide (0 < aa)))) undef) := hf.tmp (k := 19) rfl (by rw [ha]; decide) (hA 19 (by kernel_rfl))
      cases hP : (true && ((((hb 0) && (!(hb 1))) && (decide (0 < aa))) == true)) with
      | false => exact Rg.op_none (o := ⟨some 165, _, _, _, _, _⟩) rfl (Rg.unwanted_c (g := 19) rfl rfl qg hP) ⟨_, rfl, (fun h => by cases h), Rg.cond_f hP, hI, fun _ _ _ _ h => h⟩
      | true =>
        have hw := Rg.wanted_c (ops := (Rg.opsOf Try.f7 28)) (o := (Rg.opsOf Try.f7 28)[21]'(by rw [sizeRf28]; decide)) (g := 19) rfl rfl qg hP
        have g0 := Rg.pc_r hP
        have q0 := hf.kept (s := 9) (by rw [sizeRf28]; kernel_rfl) k9
        exact Rg.op_value (o := ⟨some 165, Op.move (Operand.tmp 9), _, _, _, _⟩) (x := .slice (some ⟨G, 0, none⟩) 100 100) rfl hw (by clear hA HS hN hO hK0 hK1 hK2 hp hVl v1 hva; simp only [execOp]; go_simp) ⟨_, rfl, (fun h => by cases h), (Rg.cond_t hP).symm, hI, fun _ _ _ _ h => h⟩
    · intro ll bb w' hs hlf hN hO hf hI hA
      clear hi'
      have qg : bb.tmps[163]? = some (cond true (.bool (((hb 0) && (!(hb 1))) && (decide (0 < aa)))) undef) := hf.tmp (k := 19) rfl (by rw [ha]; decide) (hA 19 (by kernel_rfl))
      cases hP : (true && ((((hb 0) && (!(hb 1))) && (decide (0 < aa))) == true)) with
      | false => exact Rg.op_none (o := ⟨some 166, _, _, _, _, _⟩) rfl (Rg.unwanted_c (g := 19) rfl rfl qg hP) ⟨_, rfl, (fun h => by cases h), Rg.cond_f hP, hI, fun _ _ _ _ h => h⟩
      | true =>
        have hw := Rg.wanted_c (ops := (Rg.opsOf Try.f7 28)) (o := (Rg.opsOf Try.f7 28)[22]'(by rw [sizeRf28]; decide)) (g := 19) rfl rfl qg hP
        have g0 := Rg.pc_r hP
        have q14 := hf.kept (s := 14) (by rw [sizeRf28]; kernel_rfl) k14
        exact Rg.op_value (o := ⟨some 166, Op.fieldAddr 37 (Operand.tmp 14) 0, _, _, _, _⟩) (x := .pointer (some ⟨R, 0, none⟩)) rfl hw (by clear hA HS hN hO hK0 hK1 hK2 hp hVl v1 hva; simp only [execOp]; go_simp) ⟨_, rfl, (fun h => by cases h), (Rg.cond_t hP).symm, hI, fun _ _ _ _ h => h⟩
    · intro ll bb w' hs hlf hN hO hf hI hA
      clear hi'
      have qg : bb.tmps[163]? = some (cond true (.bool (((hb 0) && (!(hb 1))) && (decide (0 < aa)))) undef) := hf.tmp (k := 19) rfl (by rw [ha]; decide) (hA 19 (by kernel_rfl))
      cases hP : (true && ((((hb 0) && (!(hb 1))) && (decide (0 < aa))) == true)) with
      | false => exact Rg.op_none (o := ⟨some 167, _, _, _, _, _⟩) rfl (Rg.unwanted_c (g := 19) rfl rfl qg hP) ⟨_, rfl, (fun h => by cases h), Rg.cond_f hP, hI, fun _ _ _ _ h => h⟩
      | true =>
        have hw := Rg.wanted_c (ops := (Rg.opsOf Try.f7 28)) (o := (Rg.opsOf Try.f7 28)[23]'(by rw [sizeRf28]; decide)) (g := 19) rfl rfl qg hP
        have g0 := Rg.pc_r hP
        have q166 : bb.tmps[166]? = some (.pointer (some ⟨R, 0, none⟩)) := hf.tmp (k := 22) rfl (by rw [ha]; decide) (Eq.trans (hA 22 (by kernel_rfl)) (Rg.cond_t hP))
        have e0 := (hI.cell (p := ⟨R, 0, none⟩) hRl).trans r0
        exact Rg.op_value (o := ⟨some 167, Op.load 2 (Operand.tmp 166), _, _, _, _⟩) (x := .int .i64 (te : Nat)) rfl hw (by clear hA HS hN hO hK0 hK1 hK2 hp hVl v1 hva; simp only [execOp]; go_simp) ⟨_, rfl, (fun h => by cases h), (Rg.cond_t hP).symm, hI, fun _ _ _ _ h => h⟩
    · intro ll bb w' hs hlf hN hO hf hI hA
      clear hi'
      have qg : bb.tmps[163]? = some (cond true (.bool (((hb 0) && (!(hb 1))) && (decide (0 < aa)))) undef) := hf.tmp (k := 19) rfl (by rw [ha]; decide) (hA 19 (by kernel_rfl))
      cases hP : (true && ((((hb 0) && (!(hb 1))) && (decide (0 < aa))) == true)) with
      | false => exact Rg.op_none (o := ⟨some 168, _, _, _, _, _⟩) rfl (Rg.unwanted_c (g := 19) rfl rfl qg hP) ⟨_, rfl, (fun h => by cases h), Rg.cond_f hP, hI, fun _ _ _ _ h => h⟩
      | true =>
        have hw := Rg.wanted_c (ops := (Rg.opsOf Try.f7 28)) (o := (Rg.opsOf Try.f7 28)[24]'(by rw [sizeRf28]; decide)) (g := 19) rfl rfl qg hP
        have g0 := Rg.pc_r hP
        have q165 : bb.tmps[165]? = some (.slice (some ⟨G, 0, none⟩) 100 100) := hf.tmp (k := 21) rfl (by rw [ha]; decide) (Eq.trans (hA 21 (by kernel_rfl)) (Rg.cond_t hP))
        have q167 : bb.tmps[167]? = some (.int .i64 (te : Nat)) := hf.tmp (k := 23) rfl (by rw [ha]; decide) (Eq.trans (hA 23 (by kernel_rfl)) (Rg.cond_t hP))
        have hin2 : (te : Int) < (100 : Int) := by omega
        exact Rg.op_value (o := ⟨some 168, Op.indexAddr 53 (Operand.tmp 165) (Operand.tmp 167), _, _, _, _⟩) (x := .pointer (some ⟨G, te, none⟩)) rfl hw (by clear hA HS hN hO hK0 hK1 hK2 hp hVl v1 hva; simp only [execOp]; go_simp) ⟨_, rfl, (fun h => by cases h), (Rg.cond_t hP).symm, hI, fun _ _ _ _ h => h⟩
    · intro ll bb w' hs hlf hN hO hf hI hA
      clear hi'
      have qg : bb.tmps[163]? = some (cond true (.bool (((hb 0) && (!(hb 1))) && (decide (0 < aa)))) undef) := hf.tmp (k := 19) rfl (by rw [ha]; decide) (hA 19 (by kernel_rfl))
      cases hP : (true && ((((hb 0) && (!(hb 1))) && (decide (0 < aa))) == true)) with
      | false => exact Rg.op_none (o := ⟨some 169, _, _, _, _, _⟩) rfl (Rg.unwanted_c (g := 19) rfl rfl qg hP) ⟨_, rfl, (fun h => by cases h), Rg.cond_f hP, hI, fun _ _ _ _ h => h⟩
      | true =>
        have hw := Rg.wanted_c (ops := (Rg.opsOf Try.f7 28)) (o := (Rg.opsOf Try.f7 28)[25]'(by rw [sizeRf28]; decide)) (g := 19) rfl rfl qg hP
        have g0 := Rg.pc_r hP
        have q168 : bb.tmps[168]? = some (.pointer (some ⟨G, te, none⟩)) := hf.tmp (k := 24) rfl (by rw [ha]; decide) (Eq.trans (hA 24 (by kernel_rfl)) (Rg.cond_t hP))
        have e0 := (hI.cell (p := ⟨G, te, none⟩) hGl).trans g0c
        exact Rg.op_value (o := ⟨some 169, Op.load 3 (Operand.tmp 168), _, _, _, _⟩) (x := .int .i64 aa) rfl hw (by clear hA HS hN hO hK0 hK1 hK2 hp hVl v1 hva; simp only [execOp]; go_simp) ⟨_, rfl, (fun h => by cases h), (Rg.cond_t hP).symm, hI, fun _ _ _ _ h => h⟩
    · intro ll bb w' hs hlf hN hO hf hI hA
      clear hi'
      have qg : bb.tmps[163]? = some (cond true (.bool (((hb 0) && (!(hb 1))) && (decide (0 < aa)))) undef) := hf.tmp (k := 19) rfl (by rw [ha]; decide) (hA 19 (by kernel_rfl))
      cases hP : (true && ((((hb 0) && (!(hb 1))) && (decide (0 < aa))) == true)) with
      | false => exact Rg.op_none (o := ⟨some 170, _, _, _, _, _⟩) rfl (Rg.unwanted_c (g := 19) rfl rfl qg hP) ⟨_, rfl, (fun h => by cases h), Rg.cond_f hP, hI, fun _ _ _ _ h => h⟩
      | true =>
        have hw := Rg.wanted_c (ops := (Rg.opsOf Try.f7 28)) (o := (Rg.opsOf Try.f7 28)[26]'(by rw [sizeRf28]; decide)) (g := 19) rfl rfl qg hP
        have g0 := Rg.pc_r hP
        have q169 : bb.tmps[169]? = some (.int .i64 aa) := hf.tmp (k := 25) rfl (by rw [ha]; decide) (Eq.trans (hA 25 (by kernel_rfl)) (Rg.cond_t hP))
        have hpos : 0 < aa := by have := hP; simp at this; omega
        have hap := hp hpos
        exact Rg.op_value (o := ⟨some 170, Op.binOp BinOp.sub 3 (Operand.tmp 169) (Operand.const (Value.int .i64 1)) 3, _, _, _, _⟩) (x := .int .i64 (aa - 1)) rfl hw (by clear hA HS hN hO hK0 hK1 hK2 hp hVl v1 hva; simp only [execOp]; go_simp; rw [IntKind.wrap_i64]; omega) ⟨_, rfl, (fun h => by cases h), (Rg.cond_t hP).symm, hI, fun _ _ _ _ h => h⟩
    · intro ll bb w' hs hlf hN hO hf hI hA
      clear hi'
      have qg : bb.tmps[163]? = some (cond true (.bool (((hb 0) && (!(hb 1))) && (decide (0 < aa)))) undef) := hf.tmp (k := 19) rfl (by rw [ha]; decide) (hA 19 (by kernel_rfl))
      cases hP : (true && ((((hb 0) && (!(hb 1))) && (decide (0 < aa))) == true)) with
      | false => exact Rg.op_none (o := ⟨some 171, _, _, _, _, _⟩) rfl (Rg.unwanted_c (g := 19) rfl rfl qg hP) ⟨_, rfl, (fun h => by cases h), Rg.cond_f hP, hI, fun _ _ _ _ h => h⟩
      | true =>
        have hw := Rg.wanted_c (ops := (Rg.opsOf Try.f7 28)) (o := (Rg.opsOf Try.f7 28)[27]'(by rw [sizeRf28]; decide)) (g := 19) rfl rfl qg hP
        have g0 := Rg.pc_r hP
        have q164 : bb.tmps[164]? = some (.slice av nv vcap) := hf.tmp (k := 20) rfl (by rw [ha]; decide) (Eq.trans (hA 20 (by kernel_rfl)) (Rg.cond_t hP))
        have q170 : bb.tmps[170]? = some (.int .i64 (aa - 1)) := hf.tmp (k := 26) rfl (by rw [ha]; decide) (Eq.trans (hA 26 (by kernel_rfl)) (Rg.cond_t hP))
        have hpos : 0 < aa := by have := hP; simp at this; omega
        have hap := hp hpos
        rw [hva hpos] at q164
        have ht : (aa - 1).toNat = p := by omega
        have hi1 : 0 ≤ aa - 1 := by omega
        have hi2 : aa - 1 < (nv : Int) := by omega
        exact Rg.op_value (o := ⟨some 171, Op.indexAddr 25 (Operand.tmp 164) (Operand.tmp 170), _, _, _, _⟩) (x := .pointer (some ⟨V, voff + p * 2, none⟩)) rfl hw (by clear hA HS hN hO hK0 hK1 hK2 hp hVl v1 hva; simp only [execOp]; go_simp) ⟨_, rfl, (fun h => by cases h), (Rg.cond_t hP).symm, hI, fun _ _ _ _ h => h⟩
    · intro ll bb w' hs hlf hN hO hf hI hA
      clear hi'
      have qg : bb.tmps[163]? = some (cond true (.bool (((hb 0) && (!(hb 1))) && (decide (0 < aa)))) undef) := hf.tmp (k := 19) rfl (by rw [ha]; decide) (hA 19 (by kernel_rfl))
      cases hP : (true && ((((hb 0) && (!(hb 1))) && (decide (0 < aa))) == true)) with
      | false => exact Rg.op_none (o := ⟨some 172, _, _, _, _, _⟩) rfl (Rg.unwanted_c (g := 19) rfl rfl qg hP) ⟨_, rfl, (fun h => by cases h), Rg.cond_f hP, hI, fun _ _ _ _ h => h⟩
      | true =>
        have hw := Rg.wanted_c (ops := (Rg.opsOf Try.f7 28)) (o := (Rg.opsOf Try.f7 28)[28]'(by rw [sizeRf28]; decide)) (g := 19) rfl rfl qg hP
        have g0 := Rg.pc_r hP
        have q171 : bb.tmps[171]? = some (.pointer (some ⟨V, voff + p * 2, none⟩)) := hf.tmp (k := 27) rfl (by rw [ha]; decide) (Eq.trans (hA 27 (by kernel_rfl)) (Rg.cond_t hP))
        exact Rg.op_value (o := ⟨some 172, Op.fieldAddr 40 (Operand.tmp 171) 1, _, _, _, _⟩) (x := .pointer (some ⟨V, voff + p * 2 + 1, none⟩)) rfl hw (by clear hA HS hN hO hK0 hK1 hK2 hp hVl v1 hva; simp only [execOp]; go_simp) ⟨_, rfl, (fun h => by cases h), (Rg.cond_t hP).symm, hI, fun _ _ _ _ h => h⟩
    · intro ll bb w' hs hlf hN hO hf hI hA
      clear hi'
      have qg : bb.tmps[163]? = some (cond true (.bool (((hb 0) && (!(hb 1))) && (decide (0 < aa)))) undef) := hf.tmp (k := 19) rfl (by rw [ha]; decide) (hA 19 (by kernel_rfl))
      cases hP : (true && ((((hb 0) && (!(hb 1))) && (decide (0 < aa))) == true)) with
      | false => exact Rg.op_none (o := ⟨some 173, _, _, _, _, _⟩) rfl (Rg.unwanted_c (g := 19) rfl rfl qg hP) ⟨_, rfl, (fun h => by cases h), Rg.cond_f hP, hI, fun _ _ _ _ h => h⟩
      | true =>
        have hw := Rg.wanted_c (ops := (Rg.opsOf Try.f7 28)) (o := (Rg.opsOf Try.f7 28)[29]'(by rw [sizeRf28]; decide)) (g := 19) rfl rfl qg hP
        have g0 := Rg.pc_r hP
        have q172 : bb.tmps[172]? = some (.pointer (some ⟨V, voff + p * 2 + 1, none⟩)) := hf.tmp (k := 28) rfl (by rw [ha]; decide) (Eq.trans (hA 28 (by kernel_rfl)) (Rg.cond_t hP))
        have hpos : 0 < aa := by have := hP; simp at this; omega
        have hap := hp hpos
        have e0 := (hI.cell (p := ⟨V, voff + p * 2 + 1, none⟩) (hVl hpos)).trans (v1 hpos)
        exact Rg.op_value (o := ⟨some 173, Op.load 2 (Operand.tmp 172), _, _, _, _⟩) (x := .int .i64 vv) rfl hw (by clear hA HS hN hO hK0 hK1 hK2 hp hVl v1 hva; simp only [execOp]; go_simp) ⟨_, rfl, (fun h => by cases h), (Rg.cond_t hP).symm, hI, fun _ _ _ _ h => h⟩
    · intro ll bb w' hs hlf hN hO hf hI hA
      clear hi'
      have qg : bb.tmps[163]? = some (cond true (.bool (((hb 0) && (!(hb 1))) && (decide (0 < aa)))) undef) := hf.tmp (k := 19) rfl (by rw [ha]; decide) (hA 19 (by kernel_rfl))
      cases hP : (true && ((((hb 0) && (!(hb 1))) && (decide (0 < aa))) == true)) with
      | false => exact Rg.op_none (o := ⟨some 174, _, _, _, _, _⟩) rfl (Rg.unwanted_c (g := 19) rfl rfl qg hP) ⟨_, rfl, (fun h => by cases h), Rg.cond_f hP, hI, fun _ _ _ _ h => h⟩
      | true =>
        have hw := Rg.wanted_c (ops := (Rg.opsOf Try.f7 28)) (o := (Rg.opsOf Try.f7 28)[30]'(by rw [sizeRf28]; decide)) (g := 19) rfl rfl qg hP
        have g0 := Rg.pc_r hP
        have q14 := hf.kept (s := 14) (by rw [sizeRf28]; kernel_rfl) k14
        exact Rg.op_value (o := ⟨some 174, Op.fieldAddr 37 (Operand.tmp 14) 1, _, _, _, _⟩) (x := .pointer (some ⟨R, 1, none⟩)) rfl hw (by clear hA HS hN hO hK0 hK1 hK2 hp hVl v1 hva; simp only [execOp]; go_simp) ⟨_, rfl, (fun h => by cases h), (Rg.cond_t hP).symm, hI, fun _ _ _ _ h => h⟩
    · intro ll bb w' hs hlf hN hO hf hI hA
      clear hi'
      have qg : bb.tmps[163]? = some (cond true (.bool (((hb 0) && (!(hb 1))) && (decide (0 < aa)))) undef) := hf.tmp (k := 19) rfl (by rw [ha]; decide) (hA 19 (by kernel_rfl))
      cases hP : (true && ((((hb 0) && (!(hb 1))) && (decide (0 < aa))) == true)) with
      | false => exact Rg.op_none (o := ⟨some 175, _, _, _, _, _⟩) rfl (Rg.unwanted_c (g := 19) rfl rfl qg hP) ⟨_, rfl, (fun h => by cases h), Rg.cond_f hP, hI, fun _ _ _ _ h => h⟩
      | true =>
        have hw := Rg.wanted_c (ops := (Rg.opsOf Try.f7 28)) (o := (Rg.opsOf Try.f7 28)[31]'(by rw [sizeRf28]; decide)) (g := 19) rfl rfl qg hP
        have g0 := Rg.pc_r hP
        have q174 : bb.tmps[174]? = some (.pointer (some ⟨R, 1, none⟩)) := hf.tmp (k := 30) rfl (by rw [ha]; decide) (Eq.trans (hA 30 (by kernel_rfl)) (Rg.cond_t hP))
        have e0 := (hI.cell (p := ⟨R, 1, none⟩) hRl).trans r1
        exact Rg.op_value (o := ⟨some 175, Op.load 2 (Operand.tmp 174), _, _, _, _⟩) (x := .int .i64 lo) rfl hw (by clear hA HS hN hO hK0 hK1 hK2 hp hVl v1 hva; simp only [execOp]; go_simp) ⟨_, rfl, (fun h => by cases h), (Rg.cond_t hP).symm, hI, fun _ _ _ _ h => h⟩
    · intro ll bb w' hs hlf hN hO hf hI hA
      clear hi'
      have qg : bb.tmps[163]? = some (cond true (.bool (((hb 0) && (!(hb 1))) && (decide (0 < aa)))) undef) := hf.tmp (k := 19) rfl (by rw [ha]; decide) (hA 19 (by kernel_rfl))
      cases hP : (true && ((((hb 0) && (!(hb 1))) && (decide (0 < aa))) == true)) with
      | false => exact Rg.op_none (o := ⟨some 176, _, _, _, _, _⟩) rfl (Rg.unwanted_c (g := 19) rfl rfl qg hP) ⟨_, rfl, (fun h => by cases h), Rg.cond_f hP, hI, fun _ _ _ _ h => h⟩
      | true =>
        have hw := Rg.wanted_c (ops := (Rg.opsOf Try.f7 28)) (o := (Rg.opsOf Try.f7 28)[32]'(by rw [sizeRf28]; decide)) (g := 19) rfl rfl qg hP
        have g0 := Rg.pc_r hP
        have q14 := hf.kept (s := 14) (by rw [sizeRf28]; kernel_rfl) k14
        exact Rg.op_value (o := ⟨some 176, Op.fieldAddr 37 (Operand.tmp 14) 2, _, _, _, _⟩) (x := .pointer (some ⟨R, 2, none⟩)) rfl hw (by clear hA HS hN hO hK0 hK1 hK2 hp hVl v1 hva; simp only [execOp]; go_simp) ⟨_, rfl, (fun h => by cases h), (Rg.cond_t hP).symm, hI, fun _ _ _ _ h => h⟩
    · intro ll bb w' hs hlf hN hO hf hI hA
      clear hi'
      have qg : bb.tmps[163]? = some (cond true (.bool (((hb 0) && (!(hb 1))) && (decide (0 < aa)))) undef) := hf.tmp (k := 19) rfl (by rw [ha]; decide) (hA 19 (by kernel_rfl))
      cases hP : (true && ((((hb 0) && (!(hb 1))) && (decide (0 < aa))) == true)) with
      | false => exact Rg.op_none (o := ⟨some 177, _, _, _, _, _⟩) rfl (Rg.unwanted_c (g := 19) rfl rfl qg hP) ⟨_, rfl, (fun h => by cases h), Rg.cond_f hP, hI, fun _ _ _ _ h => h⟩
      | true =>
        have hw := Rg.wanted_c (ops := (Rg.opsOf Try.f7 28)) (o := (Rg.opsOf Try.f7 28)[33]'(by rw [sizeRf28]; decide)) (g := 19) rfl rfl qg hP
        have g0 := Rg.pc_r hP
        have q176 : bb.tmps[176]? = some (.pointer (some ⟨R, 2, none⟩)) := hf.tmp (k := 32) rfl (by rw [ha]; decide) (Eq.trans (hA 32 (by kernel_rfl)) (Rg.cond_t hP))
        have e0 := (hI.cell (p := ⟨R, 2, none⟩) hRl).trans r2
        exact Rg.op_value (o := ⟨some 177, Op.load 2 (Operand.tmp 176), _, _, _, _⟩) (x := .int .i64 hi) rfl hw (by clear hA HS hN hO hK0 hK1 hK2 hp hVl v1 hva; simp only [execOp]; go_simp) ⟨_, rfl, (fun h => by cases h), (Rg.cond_t hP).symm, hI, fun _ _ _ _ h => h⟩
    · intro ll bb w' hs hlf hN hO hf hI hA
      clear hi'
      have qg : bb.tmps[163]? = some (cond true (.bool (((hb 0) && (!(hb 1))) && (decide (0 < aa)))) undef) := hf.tmp (k := 19) rfl (by rw [ha]; decide) (hA 19 (by kernel_rfl))
      cases hP : (true && ((((hb 0) && (!(hb 1))) && (decide (0 < aa))) == true)) with
      | false => exact Rg.op_none (o := ⟨some 178, _, _, _, _, _⟩) rfl (Rg.unwanted_c (g := 19) rfl rfl qg hP) ⟨_, rfl, (fun h => by cases h), Rg.cond_f hP, hI, fun _ _ _ _ h => h⟩
      | true =>
        have hw := Rg.wanted_c (ops := (Rg.opsOf Try.f7 28)) (o := (Rg.opsOf Try.f7 28)[34]'(by rw [sizeRf28]; decide)) (g := 19) rfl rfl qg hP
        have g0 := Rg.pc_r hP
        have q173 : bb.tmps[173]? = some (.int .i64 vv) := hf.tmp (k := 29) rfl (by rw [ha]; decide) (Eq.trans (hA 29 (by kernel_rfl)) (Rg.cond_t hP))
        have q175 : bb.tmps[175]? = some (.int .i64 lo) := hf.tmp (k := 31) rfl (by rw [ha]; decide) (Eq.trans (hA 31 (by kernel_rfl)) (Rg.cond_t hP))
        have q177 : bb.tmps[177]? = some (.int .i64 hi) := hf.tmp (k := 33) rfl (by rw [ha]; decide) (Eq.trans (hA 33 (by kernel_rfl)) (Rg.cond_t hP))
        refine Rg.op_call (o := ⟨some 178, Op.call { callee := Callee.value (Operand.func 19), args := #[(Operand.tmp 173), (Operand.tmp 175), (Operand.tmp 177)], argTypes := _ }, _, _, _, _⟩) rfl hw (by clear hA HS hN hO hK0 hK1 hK2 hp hVl v1 hva; simp only [execOp, resolve]; go_simp) (hK2 w') ?_
        rintro e w2 ⟨rfl, rfl⟩
        exact ⟨_, rfl, _, rfl, (fun h => by cases h), (Rg.cond_t hP).symm, hI, fun _ _ _ _ h => h⟩
    · intro ll bb w' hs hlf hN hO hf hI hA
      clear hi'
      have q163 : bb.tmps[163]? = some _ := hf.tmp (k := 19) rfl (by rw [ha]; decide) (hA 19 (by kernel_rfl))
      cases hC : (((hb 0) && (!(hb 1))) && (decide (0 < aa))) with
      | false =>
        have hval : ((.bool ((((hb 0) && (!(hb 1))) && (decide (0 < aa))) && (hb 2)) : Value)) = .bool false := by rw [hC]; rfl
        exact Rg.op_value (o := ⟨some 179, Op.pick (Operand.tmp 163) (Operand.tmp 178) (Operand.const (Value.bool false)), _, _, _, _⟩) (x := .bool false) rfl rfl (by rw [hC] at q163; clear hA HS hN hO hK0 hK1 hK2 hp hVl v1 hva hval; simp only [execOp]; go_simp) ⟨_, rfl, (fun h => by cases h), (by show ((.bool false : Value)) = _; exact hval.symm), hI, fun _ _ _ _ h => h⟩
      | true =>
        have hB : (true && ((((hb 0) && (!(hb 1))) && (decide (0 < aa))) == true)) = true := by rw [hC]; rfl
        have q178 : bb.tmps[178]? = some (.bool (hb 2)) := hf.tmp (k := 34) rfl (by rw [ha]; decide) (Eq.trans (hA 34 (by kernel_rfl)) (Rg.cond_t hB))
        have hval : ((.bool ((((hb 0) && (!(hb 1))) && (decide (0 < aa))) && (hb 2)) : Value)) = .bool (hb 2) := by rw [hC]; rfl
        exact Rg.op_value (o := ⟨some 179, Op.pick (Operand.tmp 163) (Operand.tmp 178) (Operand.const (Value.bool false)), _, _, _, _⟩) (x := .bool (hb 2)) rfl rfl (by rw [hC] at q163; clear hA HS hN hO hK0 hK1 hK2 hp hVl v1 hva hval; simp only [execOp]; go_simp) ⟨_, rfl, (fun h => by cases h), (by show ((.bool (hb 2) : Value)) = _; exact hval.symm), hI, fun _ _ _ _ h => h⟩

theorem dRf28_0 : Rg.dstAt (Rg.opsOf Try.f7 28) 0 = some 144 := by kernel_rfl
theorem dRf28_1 : Rg.dstAt (Rg.opsOf Try.f7 28) 1 = some 145 := by kernel_rfl
theorem dRf28_2 : Rg.dstAt (Rg.opsOf Try.f7 28) 2 = some 146 := by kernel_rfl
theorem dRf28_3 : Rg.dstAt (Rg.opsOf Try.f7 28) 3 = some 147 := by kernel_rfl
theorem dRf28_4 : Rg.dstAt (Rg.opsOf Try.f7 28) 4 = some 148 := by kernel_rfl
theorem dRf28_5 : Rg.dstAt (Rg.opsOf Try.f7 28) 5 = some 149 := by kernel_rfl
theorem dRf28_6 : Rg.dstAt (Rg.opsOf Try.f7 28) 6 = some 150 := by kernel_rfl
theorem dRf28_7 : Rg.dstAt (Rg.opsOf Try.f7 28) 7 = some 151 := by kernel_rfl
theorem dRf28_8 : Rg.dstAt (Rg.opsOf Try.f7 28) 8 = some 152 := by kernel_rfl
theorem dRf28_9 : Rg.dstAt (Rg.opsOf Try.f7 28) 9 = some 153 := by kernel_rfl
theorem dRf28_10 : Rg.dstAt (Rg.opsOf Try.f7 28) 10 = some 154 := by kernel_rfl
theorem dRf28_11 : Rg.dstAt (Rg.opsOf Try.f7 28) 11 = some 155 := by kernel_rfl
theorem dRf28_12 : Rg.dstAt (Rg.opsOf Try.f7 28) 12 = some 156 := by kernel_rfl
theorem dRf28_13 : Rg.dstAt (Rg.opsOf Try.f7 28) 13 = some 157 := by kernel_rfl
theorem dRf28_14 : Rg.dstAt (Rg.opsOf Try.f7 28) 14 = some 158 := by kernel_rfl
theorem dRf28_15 : Rg.dstAt (Rg.opsOf Try.f7 28) 15 = some 159 := by kernel_rfl
theorem dRf28_16 : Rg.dstAt (Rg.opsOf Try.f7 28) 16 = some 160 := by kernel_rfl
theorem dRf28_17 : Rg.dstAt (Rg.opsOf Try.f7 28) 17 = some 161 := by kernel_rfl
theorem dRf28_18 : Rg.dstAt (Rg.opsOf Try.f7 28) 18 = some 162 := by kernel_rfl
theorem dRf28_19 : Rg.dstAt (Rg.opsOf Try.f7 28) 19 = some 163 := by kernel_rfl
theorem dRf28_20 : Rg.dstAt (Rg.opsOf Try.f7 28) 20 = some 164 := by kernel_rfl
theorem dRf28_21 : Rg.dstAt (Rg.opsOf Try.f7 28) 21 = some 165 := by kernel_rfl
theorem dRf28_22 : Rg.dstAt (Rg.opsOf Try.f7 28) 22 = some 166 := by kernel_rfl
theorem dRf28_23 : Rg.dstAt (Rg.opsOf Try.f7 28) 23 = some 167 := by kernel_rfl
theorem dRf28_24 : Rg.dstAt (Rg.opsOf Try.f7 28) 24 = some 168 := by kernel_rfl
theorem dRf28_25 : Rg.dstAt (Rg.opsOf Try.f7 28) 25 = some 169 := by kernel_rfl
theorem dRf28_26 : Rg.dstAt (Rg.opsOf Try.f7 28) 26 = some 170 := by kernel_rfl
theorem dRf28_27 : Rg.dstAt (Rg.opsOf Try.f7 28) 27 = some 171 := by kernel_rfl
theorem dRf28_28 : Rg.dstAt (Rg.opsOf Try.f7 28) 28 = some 172 := by kernel_rfl
theorem dRf28_29 : Rg.dstAt (Rg.opsOf Try.f7 28) 29 = some 173 := by kernel_rfl
theorem dRf28_30 : Rg.dstAt (Rg.opsOf Try.f7 28) 30 = some 174 := by kernel_rfl
theorem dRf28_31 : Rg.dstAt (Rg.opsOf Try.f7 28) 31 = some 175 := by kernel_rfl
theorem dRf28_32 : Rg.dstAt (Rg.opsOf Try.f7 28) 32 = some 176 := by kernel_rfl
theorem dRf28_33 : Rg.dstAt (Rg.opsOf Try.f7 28) 33 = some 177 := by kernel_rfl
theorem dRf28_34 : Rg.dstAt (Rg.opsOf Try.f7 28) 34 = some 178 := by kernel_rfl
theorem dRf28_35 : Rg.dstAt (Rg.opsOf Try.f7 28) 35 = some 179 := by kernel_rfl
theorem layRf28 {a b : Act} (hf : Rg.Fr (Rg.opsOf Try.f7 28) a b) : b = ((((((((((((((((((((((((((((((((((((a.put (some 144) (Rg.out (Rg.opsOf Try.f7 28) b 0)).put (some 145) (Rg.out (Rg.opsOf Try.f7 28) b 1)).put (some 146) (Rg.out (Rg.opsOf Try.f7 28) b 2)).put (some 147) (Rg.out (Rg.opsOf Try.f7 28) b 3)).put (some 148) (Rg.out (Rg.opsOf Try.f7 28) b 4)).put (some 149) (Rg.out (Rg.opsOf Try.f7 28) b 5)).put (some 150) (Rg.out (Rg.opsOf Try.f7 28) b 6)).put (some 151) (Rg.out (Rg.opsOf Try.f7 28) b 7)).put (some 152) (Rg.out (Rg.opsOf Try.f7 28) b 8)).put (some 153) (Rg.out (Rg.opsOf Try.f7 28) b 9)).put (some 154) (Rg.out (Rg.opsOf Try.f7 28) b 10)).put (some 155) (Rg.out (Rg.opsOf Try.f7 28) b 11)).put (some 156) (Rg.out (Rg.opsOf Try.f7 28) b 12)).put (some 157) (Rg.out (Rg.opsOf Try.f7 28) b 13)).put (some 158) (Rg.out (Rg.opsOf Try.f7 28) b 14)).put (some 159) (Rg.out (Rg.opsOf Try.f7 28) b 15)).put (some 160) (Rg.out (Rg.opsOf Try.f7 28) b 16)).put (some 161) (Rg.out (Rg.opsOf Try.f7 28) b 17)).put (some 162) (Rg.out (Rg.opsOf Try.f7 28) b 18)).put (some 163) (Rg.out (Rg.opsOf Try.f7 28) b 19)).put (some 164) (Rg.out (Rg.opsOf Try.f7 28) b 20)).put (some 165) (Rg.out (Rg.opsOf Try.f7 28) b 21)).put (some 166) (Rg.out (Rg.opsOf Try.f7 28) b 22)).put (some 167) (Rg.out (Rg.opsOf Try.f7 28) b 23)).put (some 168) (Rg.out (Rg.opsOf Try.f7 28) b 24)).put (some 169) (Rg.out (Rg.opsOf Try.f7 28) b 25)).put (some 170) (Rg.out (Rg.opsOf Try.f7 28) b 26)).put (some 171) (Rg.out (Rg.opsOf Try.f7 28) b 27)).put (some 172) (Rg.out (Rg.opsOf Try.f7 28) b 28)).put (some 173) (Rg.out (Rg.opsOf Try.f7 28) b 29)).put (some 174) (Rg.out (Rg.opsOf Try.f7 28) b 30)).put (some 175) (Rg.out (Rg.opsOf Try.f7 28) b 31)).put (some 176) (Rg.out (Rg.opsOf Try.f7 28) b 32)).put (some 177) (Rg.out (Rg.opsOf Try.f7 28) b 33)).put (some 178) (Rg.out (Rg.opsOf Try.f7 28) b 34)).put (some 179) (Rg.out (Rg.opsOf Try.f7 28) b 35)) := by
  have h := hf.chain
  rw [sizeRf28, show List.range 36 = [0, 1, 2, 3, 4, 5, 6, 7, 8, 9, 10, 11, 12, 13, 14, 15, 16, 17, 18, 19, 20, 21, 22, 23, 24, 25, 26, 27, 28, 29, 30, 31, 32, 33, 34, 35] from by decide] at h
  simp only [List.foldl_cons, List.foldl_nil, dRf28_0, dRf28_1, dRf28_2, dRf28_3, dRf28_4, dRf28_5, dRf28_6, dRf28_7, dRf28_8, dRf28_9, dRf28_10, dRf28_11, dRf28_12, dRf28_13, dRf28_14, dRf28_15, dRf28_16, dRf28_17, dRf28_18, dRf28_19, dRf28_20, dRf28_21, dRf28_22, dRf28_23, dRf28_24, dRf28_25, dRf28_26, dRf28_27, dRf28_28, dRf28_29, dRf28_30, dRf28_31, dRf28_32, dRf28_33, dRf28_34, dRf28_35] at h
  exact h
end Go.Proofs.Ytldggndhdilncaa
