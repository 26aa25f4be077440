/-
  Fold: the regions of the specification's that draw their order.
-/
import Derived.Test.YtbabknhccapaoaaM21
import Derived.Test.YtbabknhccapaoaaRs
namespace Go.Proofs.Ytbabknhccapaoaa
open Go.RowKit Va Mg
set_option linter.all false

def FSf11 (G n cap B k : Nat) (xf xs yf ys : Int) (i9 : Nat) (v : Value) (w : World) : Prop :=
  match i9 with
  | 0 => v = .int .i64 (k : Nat)
  | 1 => v = .slice (some ⟨G, 0, none⟩) n cap
  | 2 => v = .int .i64 n
  | 3 => v = .bool (decide ((k : Int) < (n : Int)))
  | 4 => v = .bool (decide ((k : Int) < (n : Int)))
  | 5 => v = cond (true && ((decide ((k : Int) < (n : Int))) == true)) (.slice (some ⟨G, 0, none⟩) n cap) undef
  | 6 => v = cond (true && ((decide ((k : Int) < (n : Int))) == true)) (.int .i64 (k : Nat)) undef
  | 7 => v = cond (true && ((decide ((k : Int) < (n : Int))) == true)) (.pointer (some ⟨G, k * 5, none⟩)) undef
  | 8 => v = cond (true && ((decide ((k : Int) < (n : Int))) == true)) (.pointer (some ⟨G, k * 5, none⟩)) undef
  | 9 => v = cond (true && ((decide ((k : Int) < (n : Int))) == true)) (.int .i64 yf) undef
  | 10 => v = cond (true && ((decide ((k : Int) < (n : Int))) == true)) (.pointer (some ⟨B, 0, none⟩)) undef
  | 11 => v = cond (true && ((decide ((k : Int) < (n : Int))) == true)) (.int .i64 xf) undef
  | 12 => v = cond (true && ((decide ((k : Int) < (n : Int))) == true)) (.bool (yf != xf)) undef
  | 13 => v = cond (true && ((decide ((k : Int) < (n : Int))) == true)) (.bool (yf != xf)) undef
  | 14 => v = cond ((true && ((decide ((k : Int) < (n : Int))) == true)) && ((yf != xf) == false)) (.slice (some ⟨G, 0, none⟩) n cap) undef
  | 15 => v = cond ((true && ((decide ((k : Int) < (n : Int))) == true)) && ((yf != xf) == false)) (.int .i64 (k : Nat)) undef
  | 16 => v = cond ((true && ((decide ((k : Int) < (n : Int))) == true)) && ((yf != xf) == false)) (.pointer (some ⟨G, k * 5, none⟩)) undef
  | 17 => v = cond ((true && ((decide ((k : Int) < (n : Int))) == true)) && ((yf != xf) == false)) (.pointer (some ⟨G, k * 5 + 1, none⟩)) undef
  | 18 => v = cond ((true && ((decide ((k : Int) < (n : Int))) == true)) && ((yf != xf) == false)) (.int .i64 ys) undef
  | 19 => v = cond ((true && ((decide ((k : Int) < (n : Int))) == true)) && ((yf != xf) == false)) (.pointer (some ⟨B, 1, none⟩)) undef
  | 20 => v = cond ((true && ((decide ((k : Int) < (n : Int))) == true)) && ((yf != xf) == false)) (.int .i64 xs) undef
  | 21 => v = cond ((true && ((decide ((k : Int) < (n : Int))) == true)) && ((yf != xf) == false)) (.bool (ys != xs)) undef
  | 22 => v = cond (true && ((decide ((k : Int) < (n : Int))) == true)) (.bool ((yf != xf) || (ys != xs))) undef
  | 23 => v = .bool ((decide ((k : Int) < (n : Int))) && ((yf != xf) || (ys != xs)))
  | _ => True
theorem sizeSf11 : (Rg.opsOf Try.f8 11).size = 24 := by kernel_rfl

set_option maxRecDepth 20000 in
set_option maxHeartbeats 8000000 in
theorem regSf11 {Q : Exit → Act → World → Prop} {a : Act} {w9 : World} {G n cap B k : Nat} {xf xs yf ys : Int} (ha : a.tmps.size = 182)
    (k4 : a.tmps[4]? = some (.slice (some ⟨G, 0, none⟩) n cap)) (k6 : a.tmps[6]? = some (.pointer (some ⟨B, 0, none⟩))) (k7 : a.tmps[7]? = some (.int .i64 (k : Nat))) (hn : n < 1000000) (hkl : k < 1000000) (hGl : G < w9.heap.size) (hBl : B < w9.heap.size) (x0 : w9.cell? ⟨B, 0, none⟩ = some (.int .i64 xf)) (x1 : w9.cell? ⟨B, 1, none⟩ = some (.int .i64 xs)) (y0 : k < n → w9.cell? ⟨G, k * 5, none⟩ = some (.int .i64 yf)) (y1 : k < n → w9.cell? ⟨G, k * 5 + 1, none⟩ = some (.int .i64 ys))
    (hend : ∀ b' w', Rg.Fr (Rg.opsOf Try.f8 11) a b' → Below w9.heap.size w9 w' → Rg.out (Rg.opsOf Try.f8 11) b' 23 = .bool ((decide ((k : Int) < (n : Int))) && ((yf != xf) || (ys != xs))) → Q .normal b' w') :
    (Code.region 11 (Rg.opsOf Try.f8 11) true).wp Try.prog Q a w9 := by
  refine Rg.region_set3 (by kernel_rfl) (fun _ w' => Below w9.heap.size w9 w') (FSf11 G n cap B k xf xs yf ys) (by rw [ha, sizeSf11]; kernel_rfl) (st_drew (Below.refl _ _)) ?_ ?_
  case refine_2 =>
    intro l b' w' hf hall hI hA
    rw [sizeSf11] at hA
    exact hend b' w' hf hI (hA 23 (by decide))
  case refine_1 =>
    clear hend
    have HS : ∀ {w w' : World}, Below w.heap.size w w' → ∀ k9 y9, FSf11 G n cap B k xf xs yf ys k9 y9 w → FSf11 G n cap B k xf xs yf ys k9 y9 w' := fun hb k9 y9 h => by
      unfold FSf11 at *
      split at h <;> exact h
    intro i' hi'
    rw [sizeSf11] at hi'
    rcases (show i' = 0 ∨ i' = 1 ∨ i' = 2 ∨ i' = 3 ∨ i' = 4 ∨ i' = 5 ∨ i' = 6 ∨ i' = 7 ∨ i' = 8 ∨ i' = 9 ∨ i' = 10 ∨ i' = 11 ∨ i' = 12 ∨ i' = 13 ∨ i' = 14 ∨ i' = 15 ∨ i' = 16 ∨ i' = 17 ∨ i' = 18 ∨ i' = 19 ∨ i' = 20 ∨ i' = 21 ∨ i' = 22 ∨ i' = 23 by omega) with rfl | rfl | rfl | rfl | rfl | rfl | rfl | rfl | rfl | rfl | rfl | rfl | rfl | rfl | rfl | rfl | rfl | rfl | rfl | rfl | rfl | rfl | rfl | rfl
    · intro ll bb w' hs hlf hN hO hf hI hA
      clear hi'
      have q0 := hf.kept (s := 7) (by rw [sizeSf11]; kernel_rfl) k7
      exact Rg.op_value (o := ⟨some 32, Op.move (Operand.tmp 7), _, _, _, _⟩) (x := .int .i64 (k : Nat)) rfl rfl (by clear hA HS hN hO ; simp only [execOp]; go_simp) ⟨_, rfl, (fun h => by cases h), rfl, hI, fun _ _ _ _ h => h⟩
    · intro ll bb w' hs hlf hN hO hf hI hA
      clear hi'
      have q0 := hf.kept (s := 4) (by rw [sizeSf11]; kernel_rfl) k4
      exact Rg.op_value (o := ⟨some 33, Op.move (Operand.tmp 4), _, _, _, _⟩) (x := .slice (some ⟨G, 0, none⟩) n cap) rfl rfl (by clear hA HS hN hO ; simp only [execOp]; go_simp) ⟨_, rfl, (fun h => by cases h), rfl, hI, fun _ _ _ _ h => h⟩
    · intro ll bb w' hs hlf hN hO hf hI hA
      clear hi'
      have q33 : bb.tmps[33]? = some _ := hf.tmp (k := 1) rfl (by rw [ha]; decide) (hA 1 (by kernel_rfl))
      exact Rg.op_value (o := ⟨some 34, Op.call { callee := Callee.builtin Builtin.len, args := #[(Operand.tmp 33)], argTypes := _ }, _, _, _, _⟩) (x := .int .i64 n) rfl rfl (by clear hA HS hN hO ; simp only [execOp]; go_simp) ⟨_, rfl, (fun h => by cases h), rfl, hI, fun _ _ _ _ h => h⟩
    · intro ll bb w' hs hlf hN hO hf hI hA
      clear hi'
      have q32 : bb.tmps[32]? = some _ := hf.tmp (k := 0) rfl (by rw [ha]; decide) (hA 0 (by kernel_rfl))
      have q34 : bb.tmps[34]? = some _ := hf.tmp (k := 2) rfl (by rw [ha]; decide) (hA 2 (by kernel_rfl))
      exact Rg.op_value (o := ⟨some 35, Op.binOp BinOp.lss 3 (Operand.tmp 32) (Operand.tmp 34) 3, _, _, _, _⟩) (x := .bool (decide ((k : Int) < (n : Int)))) rfl rfl (by clear hA HS hN hO ; simp only [execOp]; go_simp) ⟨_, rfl, (fun h => by cases h), rfl, hI, fun _ _ _ _ h => h⟩
    · intro ll bb w' hs hlf hN hO hf hI hA
      clear hi'
      have q35 : bb.tmps[35]? = some _ := hf.tmp (k := 3) rfl (by rw [ha]; decide) (hA 3 (by kernel_rfl))
      exact Rg.op_value (o := ⟨some 36, Op.move (Operand.tmp 35), _, _, _, _⟩) (x := .bool (decide ((k : Int) < (n : Int)))) rfl rfl (by clear hA HS hN hO ; simp only [execOp]; go_simp) ⟨_, rfl, (fun h => by cases h), rfl, hI, fun _ _ _ _ h => h⟩
    · intro ll bb w' hs hlf hN hO hf hI hA
      clear hi'
      have qg : bb.tmps[36]? = some (cond true (.bool (decide ((k : Int) < (n : Int)))) undef) := hf.tmp (k := 4) rfl (by rw [ha]; decide) (hA 4 (by kernel_rfl))
      cases hP : (true && ((decide ((k : Int) < (n : Int))) == true)) with
      | false => exact Rg.op_none (o := ⟨some 37, _, _, _, _, _⟩) rfl (Rg.unwanted_c (g := 4) rfl rfl qg hP) ⟨_, rfl, (fun h => by cases h), Rg.cond_f hP, hI, fun _ _ _ _ h => h⟩
      | true =>
        have hw := Rg.wanted_c (ops := (Rg.opsOf Try.f8 11)) (o := (Rg.opsOf Try.f8 11)[5]'(by rw [sizeSf11]; decide)) (g := 4) rfl rfl qg hP
        have g0 := Rg.pc_r hP
        have q0 := hf.kept (s := 4) (by rw [sizeSf11]; kernel_rfl) k4
        exact Rg.op_value (o := ⟨some 37, Op.move (Operand.tmp 4), _, _, _, _⟩) (x := .slice (some ⟨G, 0, none⟩) n cap) rfl hw (by clear hA HS hN hO ; simp only [execOp]; go_simp) ⟨_, rfl, (fun h => by cases h), (Rg.cond_t hP).symm, hI, fun _ _ _ _ h => h⟩
    · intro ll bb w' hs hlf hN hO hf hI hA
      clear hi'
      have qg : bb.tmps[36]? = some (cond true (.bool (decide ((k : Int) < (n : Int)))) undef) := hf.tmp (k := 4) rfl (by rw [ha]; decide) (hA 4 (by kernel_rfl))
      cases hP : (true && ((decide ((k : Int) < (n : Int))) == true)) with
      | false => exact Rg.op_none (o := ⟨some 38, _, _, _, _, _⟩) rfl (Rg.unwanted_c (g := 4) rfl rfl qg hP) ⟨_, rfl, (fun h => by cases h), Rg.cond_f hP, hI, fun _ _ _ _ h => h⟩
      | true =>
        have hw := Rg.wanted_c (ops := (Rg.opsOf Try.f8 11)) (o := (Rg.opsOf Try.f8 11)[6]'(by rw [sizeSf11]; decide)) (g := 4) rfl rfl qg hP
        have g0 := Rg.pc_r hP
        have q0 := hf.kept (s := 7) (by rw [sizeSf11]; kernel_rfl) k7
        exact Rg.op_value (o := ⟨some 38, Op.move (Operand.tmp 7), _, _, _, _⟩) (x := .int .i64 (k : Nat)) rfl hw (by clear hA HS hN hO ; simp only [execOp]; go_simp) ⟨_, rfl, (fun h => by cases h), (Rg.cond_t hP).symm, hI, fun _ _ _ _ h => h⟩
    · intro ll bb w' hs hlf hN hO hf hI hA
      clear hi'
      have qg : bb.tmps[36]? = some (cond true (.bool (decide ((k : Int) < (n : Int)))) undef) := hf.tmp (k := 4) rfl (by rw [ha]; decide) (hA 4 (by kernel_rfl))
      cases hP : (true && ((decide ((k : Int) < (n : Int))) == true)) with
      | false => exact Rg.op_none (o := ⟨some 39, _, _, _, _, _⟩) rfl (Rg.unwanted_c (g := 4) rfl rfl qg hP) ⟨_, rfl, (fun h => by cases h), Rg.cond_f hP, hI, fun _ _ _ _ h => h⟩
      | true =>
        have hw := Rg.wanted_c (ops := (Rg.opsOf Try.f8 11)) (o := (Rg.opsOf Try.f8 11)[7]'(by rw [sizeSf11]; decide)) (g := 4) rfl rfl qg hP
        have g0 := Rg.pc_r hP
        have q37 : bb.tmps[37]? = some (.slice (some ⟨G, 0, none⟩) n cap) := hf.tmp (k := 5) rfl (by rw [ha]; decide) (Eq.trans (hA 5 (by kernel_rfl)) (Rg.cond_t hP))
        have q38 : bb.tmps[38]? = some (.int .i64 (k : Nat)) := hf.tmp (k := 6) rfl (by rw [ha]; decide) (Eq.trans (hA 6 (by kernel_rfl)) (Rg.cond_t hP))
        have hk0 : k < n := by have := g0; simp at this; omega
        have hin2 : (k : Int) < (n : Int) := by omega
        exact Rg.op_value (o := ⟨some 39, Op.indexAddr 24 (Operand.tmp 37) (Operand.tmp 38), _, _, _, _⟩) (x := .pointer (some ⟨G, k * 5, none⟩)) rfl hw (by clear hA HS hN hO ; simp only [execOp]; go_simp) ⟨_, rfl, (fun h => by cases h), (Rg.cond_t hP).symm, hI, fun _ _ _ _ h => h⟩
    · intro ll bb w' hs hlf hN hO hf hI hA
      clear hi'
      have qg : bb.tmps[36]? = some (cond true (.bool (decide ((k : Int) < (n : Int)))) undef) := hf.tmp (k := 4) rfl (by rw [ha]; decide) (hA 4 (by kernel_rfl))
      cases hP : (true && ((decide ((k : Int) < (n : Int))) == true)) with
      | false => exact Rg.op_none (o := ⟨some 40, _, _, _, _, _⟩) rfl (Rg.unwanted_c (g := 4) rfl rfl qg hP) ⟨_, rfl, (fun h => by cases h), Rg.cond_f hP, hI, fun _ _ _ _ h => h⟩
      | true =>
        have hw := Rg.wanted_c (ops := (Rg.opsOf Try.f8 11)) (o := (Rg.opsOf Try.f8 11)[8]'(by rw [sizeSf11]; decide)) (g := 4) rfl rfl qg hP
        have g0 := Rg.pc_r hP
        have q39 : bb.tmps[39]? = some (.pointer (some ⟨G, k * 5, none⟩)) := hf.tmp (k := 7) rfl (by rw [ha]; decide) (Eq.trans (hA 7 (by kernel_rfl)) (Rg.cond_t hP))
        exact Rg.op_value (o := ⟨some 40, Op.fieldAddr 29 (Operand.tmp 39) 0, _, _, _, _⟩) (x := .pointer (some ⟨G, k * 5, none⟩)) rfl hw (by clear hA HS hN hO ; simp only [execOp]; go_simp) ⟨_, rfl, (fun h => by cases h), (Rg.cond_t hP).symm, hI, fun _ _ _ _ h => h⟩
    · intro ll bb w' hs hlf hN hO hf hI hA
      clear hi'
      have qg : bb.tmps[36]? = some (cond true (.bool (decide ((k : Int) < (n : Int)))) undef) := hf.tmp (k := 4) rfl (by rw [ha]; decide) (hA 4 (by kernel_rfl))
      cases hP : (true && ((decide ((k : Int) < (n : Int))) == true)) with
      | false => exact Rg.op_none (o := ⟨some 41, _, _, _, _, _⟩) rfl (Rg.unwanted_c (g := 4) rfl rfl qg hP) ⟨_, rfl, (fun h => by cases h), Rg.cond_f hP, hI, fun _ _ _ _ h => h⟩
      | true =>
        have hw := Rg.wanted_c (ops := (Rg.opsOf Try.f8 11)) (o := (Rg.opsOf Try.f8 11)[9]'(by rw [sizeSf11]; decide)) (g := 4) rfl rfl qg hP
        have g0 := Rg.pc_r hP
        have q40 : bb.tmps[40]? = some (.pointer (some ⟨G, k * 5, none⟩)) := hf.tmp (k := 8) rfl (by rw [ha]; decide) (Eq.trans (hA 8 (by kernel_rfl)) (Rg.cond_t hP))
        have hk0 : k < n := by have := g0; simp at this; omega
        have e0 := (hI.cell (p := ⟨G, k * 5, none⟩) hGl).trans (y0 hk0)
        exact Rg.op_value (o := ⟨some 41, Op.load 2 (Operand.tmp 40), _, _, _, _⟩) (x := .int .i64 yf) rfl hw (by clear hA HS hN hO ; simp only [execOp]; go_simp) ⟨_, rfl, (fun h => by cases h), (Rg.cond_t hP).symm, hI, fun _ _ _ _ h => h⟩
    · intro ll bb w' hs hlf hN hO hf hI hA
      clear hi'
      have qg : bb.tmps[36]? = some (cond true (.bool (decide ((k : Int) < (n : Int)))) undef) := hf.tmp (k := 4) rfl (by rw [ha]; decide) (hA 4 (by kernel_rfl))
      cases hP : (true && ((decide ((k : Int) < (n : Int))) == true)) with
      | false => exact Rg.op_none (o := ⟨some 42, _, _, _, _, _⟩) rfl (Rg.unwanted_c (g := 4) rfl rfl qg hP) ⟨_, rfl, (fun h => by cases h), Rg.cond_f hP, hI, fun _ _ _ _ h => h⟩
      | true =>
        have hw := Rg.wanted_c (ops := (Rg.opsOf Try.f8 11)) (o := (Rg.opsOf Try.f8 11)[10]'(by rw [sizeSf11]; decide)) (g := 4) rfl rfl qg hP
        have g0 := Rg.pc_r hP
        have q6 := hf.kept (s := 6) (by rw [sizeSf11]; kernel_rfl) k6
        exact Rg.op_value (o := ⟨some 42, Op.fieldAddr 29 (Operand.tmp 6) 0, _, _, _, _⟩) (x := .pointer (some ⟨B, 0, none⟩)) rfl hw (by clear hA HS hN hO ; simp only [execOp]; go_simp) ⟨_, rfl, (fun h => by cases h), (Rg.cond_t hP).symm, hI, fun _ _ _ _ h => h⟩
    · intro ll bb w' hs hlf hN hO hf hI hA
      clear hi'
      have qg : bb.tmps[36]? = some (cond true (.bool (decide ((k : Int) < (n : Int)))) undef) := hf.tmp (k := 4) rfl (by rw [ha]; decide) (hA 4 (by kernel_rfl))
      cases hP : (true && ((decide ((k : Int) < (n : Int))) == true)) with
      | false => exact Rg.op_none (o := ⟨some 43, _, _, _, _, _⟩) rfl (Rg.unwanted_c (g := 4) rfl rfl qg hP) ⟨_, rfl, (fun h => by cases h), Rg.cond_f hP, hI, fun _ _ _ _ h => h⟩
      | true =>
        have hw := Rg.wanted_c (ops := (Rg.opsOf Try.f8 11)) (o := (Rg.opsOf Try.f8 11)[11]'(by rw [sizeSf11]; decide)) (g := 4) rfl rfl qg hP
        have g0 := Rg.pc_r hP
        have q42 : bb.tmps[42]? = some (.pointer (some ⟨B, 0, none⟩)) := hf.tmp (k := 10) rfl (by rw [ha]; decide) (Eq.trans (hA 10 (by kernel_rfl)) (Rg.cond_t hP))
        have e0 := (hI.cell (p := ⟨B, 0, none⟩) hBl).trans x0
        exact Rg.op_value (o := ⟨some 43, Op.load 2 (Operand.tmp 42), _, _, _, _⟩) (x := .int .i64 xf) rfl hw (by clear hA HS hN hO ; simp only [execOp]; go_simp) ⟨_, rfl, (fun h => by cases h), (Rg.cond_t hP).symm, hI, fun _ _ _ _ h => h⟩
    · intro ll bb w' hs hlf hN hO hf hI hA
      clear hi'
      have qg : bb.tmps[36]? = some (cond true (.bool (decide ((k : Int) < (n : Int)))) undef) := hf.tmp (k := 4) rfl (by rw [ha]; decide) (hA 4 (by kernel_rfl))
      cases hP : (true && ((decide ((k : Int) < (n : Int))) == true)) with
      | false => exact Rg.op_none (o := ⟨some 44, _, _, _, _, _⟩) rfl (Rg.unwanted_c (g := 4) rfl rfl qg hP) ⟨_, rfl, (fun h => by cases h), Rg.cond_f hP, hI, fun _ _ _ _ h => h⟩
      | true =>
        have hw := Rg.wanted_c (ops := (Rg.opsOf Try.f8 11)) (o := (Rg.opsOf Try.f8 11)[12]'(by rw [sizeSf11]; decide)) (g := 4) rfl rfl qg hP
        have g0 := Rg.pc_r hP
        have q41 : bb.tmps[41]? = some (.int .i64 yf) := hf.tmp (k := 9) rfl (by rw [ha]; decide) (Eq.trans (hA 9 (by kernel_rfl)) (Rg.cond_t hP))
        have q43 : bb.tmps[43]? = some (.int .i64 xf) := hf.tmp (k := 11) rfl (by rw [ha]; decide) (Eq.trans (hA 11 (by kernel_rfl)) (Rg.cond_t hP))
        exact Rg.op_value (o := ⟨some 44, Op.binOp BinOp.neq 2 (Operand.tmp 41) (Operand.tmp 43) 2, _, _, _, _⟩) (x := .bool (yf != xf)) rfl hw (by clear hA HS hN hO ; simp only [execOp]; go_simp) ⟨_, rfl, (fun h => by cases h), (Rg.cond_t hP).symm, hI, fun _ _ _ _ h => h⟩
    · intro ll bb w' hs hlf hN hO hf hI hA
      clear hi'
      have qg : bb.tmps[36]? = some (cond true (.bool (decide ((k : Int) < (n : Int)))) undef) := hf.tmp (k := 4) rfl (by rw [ha]; decide) (hA 4 (by kernel_rfl))
      cases hP : (true && ((decide ((k : Int) < (n : Int))) == true)) with
      | false => exact Rg.op_none (o := ⟨some 45, _, _, _, _, _⟩) rfl (Rg.unwanted_c (g := 4) rfl rfl qg hP) ⟨_, rfl, (fun h => by cases h), Rg.cond_f hP, hI, fun _ _ _ _ h => h⟩
      | true =>
        have hw := Rg.wanted_c (ops := (Rg.opsOf Try.f8 11)) (o := (Rg.opsOf Try.f8 11)[13]'(by rw [sizeSf11]; decide)) (g := 4) rfl rfl qg hP
        have g0 := Rg.pc_r hP
        have q44 : bb.tmps[44]? = some (.bool (yf != xf)) := hf.tmp (k := 12) rfl (by rw [ha]; decide) (Eq.trans (hA 12 (by kernel_rfl)) (Rg.cond_t hP))
        exact Rg.op_value (o := ⟨some 45, Op.move (Operand.tmp 44), _, _, _, _⟩) (x := .bool (yf != xf)) rfl hw (by clear hA HS hN hO ; simp only [execOp]; go_simp) ⟨_, rfl, (fun h => by cases h), (Rg.cond_t hP).symm, hI, fun _ _ _ _ h => h⟩
    · intro ll bb w' hs hlf hN hO hf hI hA
      clear hi'
      have qg : bb.tmps[45]? = some (cond (true && ((decide ((k : Int) < (n : Int))) == true)) (.bool (yf != xf)) undef) := hf.tmp (k := 13) rfl (by rw [ha]; decide) (hA 13 (by kernel_rfl))
      cases hP : ((true && ((decide ((k : Int) < (n : Int))) == true)) && ((yf != xf) == false)) with
      | false => exact Rg.op_none (o := ⟨some 46, _, _, _, _, _⟩) rfl (Rg.unwanted_c (g := 13) rfl rfl qg hP) ⟨_, rfl, (fun h => by cases h), Rg.cond_f hP, hI, fun _ _ _ _ h => h⟩
      | true =>
        have hw := Rg.wanted_c (ops := (Rg.opsOf Try.f8 11)) (o := (Rg.opsOf Try.f8 11)[14]'(by rw [sizeSf11]; decide)) (g := 13) rfl rfl qg hP
        have g1 := Rg.pc_r hP
        have p1 := Rg.pc_l hP
        have g0 := Rg.pc_r p1
        have q0 := hf.kept (s := 4) (by rw [sizeSf11]; kernel_rfl) k4
        exact Rg.op_value (o := ⟨some 46, Op.move (Operand.tmp 4), _, _, _, _⟩) (x := .slice (some ⟨G, 0, none⟩) n cap) rfl hw (by clear hA HS hN hO ; simp only [execOp]; go_simp) ⟨_, rfl, (fun h => by cases h), (Rg.cond_t hP).symm, hI, fun _ _ _ _ h => h⟩
    · intro ll bb w' hs hlf hN hO hf hI hA
      clear hi'
      have qg : bb.tmps[45]? = some (cond (true && ((decide ((k : Int) < (n : Int))) == true)) (.bool (yf != xf)) undef) := hf.tmp (k := 13) rfl (by rw [ha]; decide) (hA 13 (by kernel_rfl))
      cases hP : ((true && ((decide ((k : Int) < (n : Int))) == true)) && ((yf != xf) == false)) with
      | false => exact Rg.op_none (o := ⟨some 47, _, _, _, _, _⟩) rfl (Rg.unwanted_c (g := 13) rfl rfl qg hP) ⟨_, rfl, (fun h => by cases h), Rg.cond_f hP, hI, fun _ _ _ _ h => h⟩
      | true =>
        have hw := Rg.wanted_c (ops := (Rg.opsOf Try.f8 11)) (o := (Rg.opsOf Try.f8 11)[15]'(by rw [sizeSf11]; decide)) (g := 13) rfl rfl qg hP
        have g1 := Rg.pc_r hP
        have p1 := Rg.pc_l hP
        have g0 := Rg.pc_r p1
        have q0 := hf.kept (s := 7) (by rw [sizeSf11]; kernel_rfl) k7
        exact Rg.op_value (o := ⟨some 47, Op.move (Operand.tmp 7), _, _, _, _⟩) (x := .int .i64 (k : Nat)) rfl hw (by clear hA HS hN hO ; simp only [execOp]; go_simp) ⟨_, rfl, (fun h => by cases h), (Rg.cond_t hP).symm, hI, fun _ _ _ _ h => h⟩
    · intro ll bb w' hs hlf hN hO hf hI hA
      clear hi'
      have qg : bb.tmps[45]? = some (cond (true && ((decide ((k : Int) < (n : Int))) == true)) (.bool (yf != xf)) undef) := hf.tmp (k := 13) rfl (by rw [ha]; decide) (hA 13 (by kernel_rfl))
      cases hP : ((true && ((decide ((k : Int) < (n : Int))) == true)) && ((yf != xf) == false)) with
      | false => exact Rg.op_none (o := ⟨some 48, _, _, _, _, _⟩) rfl (Rg.unwanted_c (g := 13) rfl rfl qg hP) ⟨_, rfl, (fun h => by cases h), Rg.cond_f hP, hI, fun _ _ _ _ h => h⟩
      | true =>
        have hw := Rg.wanted_c (ops := (Rg.opsOf Try.f8 11)) (o := (Rg.opsOf Try.f8 11)[16]'(by rw [sizeSf11]; decide)) (g := 13) rfl rfl qg hP
        have g1 := Rg.pc_r hP
        have p1 := Rg.pc_l hP
        have g0 := Rg.pc_r p1
        have q46 : bb.tmps[46]? = some (.slice (some ⟨G, 0, none⟩) n cap) := hf.tmp (k := 14) rfl (by rw [ha]; decide) (Eq.trans (hA 14 (by kernel_rfl)) (Rg.cond_t hP))
        have q47 : bb.tmps[47]? = some (.int .i64 (k : Nat)) := hf.tmp (k := 15) rfl (by rw [ha]; decide) (Eq.trans (hA 15 (by kernel_rfl)) (Rg.cond_t hP))
        have hk0 : k < n := by have := g0; simp at this; omega
        have hin2 : (k : Int) < (n : Int) := by omega
        exact Rg.op_value (o := ⟨some 48, Op.indexAddr 24 (Operand.tmp 46) (Operand.tmp 47), _, _, _, _⟩) (x := .pointer (some ⟨G, k * 5, none⟩)) rfl hw (by clear hA HS hN hO ; simp only [execOp]; go_simp) ⟨_, rfl, (fun h => by cases h), (Rg.cond_t hP).symm, hI, fun _ _ _ _ h => h⟩
    · intro ll bb w' hs hlf hN hO hf hI hA
      clear hi'
      have qg : bb.tmps[45]? = some (cond (true && ((decide ((k : Int) < (n : Int))) == true)) (.bool (yf != xf)) undef) := hf.tmp (k := 13) rfl (by rw [ha]; decide) (hA 13 (by kernel_rfl))
      cases hP : ((true && ((decide ((k : Int) < (n : Int))) == true)) && ((yf != xf) == false)) with
      | false => exact Rg.op_none (o := ⟨some 49, _, _, _, _, _⟩) rfl (Rg.unwanted_c (g := 13) rfl rfl qg hP) ⟨_, rfl, (fun h => by cases h), Rg.cond_f hP, hI, fun _ _ _ _ h => h⟩
      | true =>
        have hw := Rg.wanted_c (ops := (Rg.opsOf Try.f8 11)) (o := (Rg.opsOf Try.f8 11)[17]'(by rw [sizeSf11]; decide)) (g := 13) rfl rfl qg hP
        have g1 := Rg.pc_r hP
        have p1 := Rg.pc_l hP
        have g0 := Rg.pc_r p1
        have q48 : bb.tmps[48]? = some (.pointer (some ⟨G, k * 5, none⟩)) := hf.tmp (k := 16) rfl (by rw [ha]; decide) (Eq.trans (hA 16 (by kernel_rfl)) (Rg.cond_t hP))
        exact Rg.op_value (o := ⟨some 49, Op.fieldAddr 29 (Operand.tmp 48) 1, _, _, _, _⟩) (x := .pointer (some ⟨G, k * 5 + 1, none⟩)) rfl hw (by clear hA HS hN hO ; simp only [execOp]; go_simp) ⟨_, rfl, (fun h => by cases h), (Rg.cond_t hP).symm, hI, fun _ _ _ _ h => h⟩
    · intro ll bb w' hs hlf hN hO hf hI hA
      clear hi'
      have qg : bb.tmps[45]? = some (cond (true && ((decide ((k : Int) < (n : Int))) == true)) (.bool (yf != xf)) undef) := hf.tmp (k := 13) rfl (by rw [ha]; decide) (hA 13 (by kernel_rfl))
      cases hP : ((true && ((decide ((k : Int) < (n : Int))) == true)) && ((yf != xf) == false)) with
      | false => exact Rg.op_none (o := ⟨some 50, _, _, _, _, _⟩) rfl (Rg.unwanted_c (g := 13) rfl rfl qg hP) ⟨_, rfl, (fun h => by cases h), Rg.cond_f hP, hI, fun _ _ _ _ h => h⟩
      | true =>
        have hw := Rg.wanted_c (ops := (Rg.opsOf Try.f8 11)) (o := (Rg.opsOf Try.f8 11)[18]'(by rw [sizeSf11]; decide)) (g := 13) rfl rfl qg hP
        have g1 := Rg.pc_r hP
        have p1 := Rg.pc_l hP
        have g0 := Rg.pc_r p1
        have q49 : bb.tmps[49]? = some (.pointer (some ⟨G, k * 5 + 1, none⟩)) := hf.tmp (k := 17) rfl (by rw [ha]; decide) (Eq.trans (hA 17 (by kernel_rfl)) (Rg.cond_t hP))
        have hk0 : k < n := by have := g0; simp at this; omega
        have e0 := (hI.cell (p := ⟨G, k * 5 + 1, none⟩) hGl).trans (y1 hk0)
        exact Rg.op_value (o := ⟨some 50, Op.load 2 (Operand.tmp 49), _, _, _, _⟩) (x := .int .i64 ys) rfl hw (by clear hA HS hN hO ; simp only [execOp]; go_simp) ⟨_, rfl, (fun h => by cases h), (Rg.cond_t hP).symm, hI, fun _ _ _ _ h => h⟩
    · intro ll bb w' hs hlf hN hO hf hI hA
      clear hi'
      have qg : bb.tmps[45]? = some (cond (true && ((decide ((k : Int) < (n : Int))) == true)) (.bool (yf != xf)) undef) := hf.tmp (k := 13) rfl (by rw [ha]; decide) (hA 13 (by kernel_rfl))
      cases hP : ((true && ((decide ((k : Int) < (n : Int))) == true)) && ((yf != xf) == false)) with
      | false => exact Rg.op_none (o := ⟨some 51, _, _, _, _, _⟩) rfl (Rg.unwanted_c (g := 13) rfl rfl qg hP) ⟨_, rfl, (fun h => by cases h), Rg.cond_f hP, hI, fun _ _ _ _ h => h⟩
      | true =>
        have hw := Rg.wanted_c (ops := (Rg.opsOf Try.f8 11)) (o := (Rg.opsOf Try.f8 11)[19]'(by rw [sizeSf11]; decide)) (g := 13) rfl rfl qg hP
        have g1 := Rg.pc_r hP
        have p1 := Rg.pc_l hP
        have g0 := Rg.pc_r p1
        have q6 := hf.kept (s := 6) (by rw [sizeSf11]; kernel_rfl) k6
        exact Rg.op_value (o := ⟨some 51, Op.fieldAddr 29 (Operand.tmp 6) 1, _, _, _, _⟩) (x := .pointer (some ⟨B, 1, none⟩)) rfl hw (by clear hA HS hN hO ; simp only [execOp]; go_simp) ⟨_, rfl, (fun h => by cases h), (Rg.cond_t hP).symm, hI, fun _ _ _ _ h => h⟩
    · intro ll bb w' hs hlf hN hO hf hI hA
      clear hi'
      have qg : bb.tmps[45]? = some (cond (true && ((decide ((k : Int) < (n : Int))) == true)) (.bool (yf != xf)) undef) := hf.tmp (k := 13) rfl (by rw [ha]; decide) (hA 13 (by kernel_rfl))
      cases hP : ((true && ((decide ((k : Int) < (n : Int))) == true)) && ((yf != xf) == false)) with
      | false => exact Rg.op_none (o := ⟨some 52, _, _, _, _, _⟩) rfl (Rg.unwanted_c (g := 13) rfl rfl qg hP) ⟨_, rfl, (fun h => by cases h), Rg.cond_f hP, hI, fun _ _ _ _ h => h⟩
      | true =>
        have hw := Rg.wanted_c (ops := (Rg.opsOf Try.f8 11)) (o := (Rg.opsOf Try.f8 11)[20]'(by rw [sizeSf11]; decide)) (g := 13) rfl rfl qg hP
        have g1 := Rg.pc_r hP
        have p1 := Rg.pc_l hP
        have g0 := Rg.pc_r p1
        have q51 : bb.tmps[51]? = some (.pointer (some ⟨B, 1, none⟩)) := hf.tmp (k := 19) rfl (by rw [ha]; decide) (Eq.trans (hA 19 (by kernel_rfl)) (Rg.cond_t hP))
        have e0 := (hI.cell (p := ⟨B, 1, none⟩) hBl).trans x1
        exact Rg.op_value (o := ⟨some 52, Op.load 2 (Operand.tmp 51), _, _, _, _⟩) (x := .int .i64 xs) rfl hw (by clear hA HS hN hO ; simp only [execOp]; go_simp) ⟨_, rfl, (fun h => by cases h), (Rg.cond_t hP).symm, hI, fun _ _ _ _ h => h⟩
    · intro ll bb w' hs hlf hN hO hf hI hA
      clear hi'
      have qg : bb.tmps[45]? = some (cond (true && ((decide ((k : Int) < (n : Int))) == true)) (.bool (yf != xf)) undef) := hf.tmp (k := 13) rfl (by rw [ha]; decide) (hA 13 (by kernel_rfl))
      cases hP : ((true && ((decide ((k : Int) < (n : Int))) == true)) && ((yf != xf) == false)) with
      | false => exact Rg.op_none (o := ⟨some 53, _, _, _, _, _⟩) rfl (Rg.unwanted_c (g := 13) rfl rfl qg hP) ⟨_, rfl, (fun h => by cases h), Rg.cond_f hP, hI, fun _ _ _ _ h => h⟩
      | true =>
        have hw := Rg.wanted_c (ops := (Rg.opsOf Try.f8 11)) (o := (Rg.opsOf Try.f8 11)[21]'(by rw [sizeSf11]; decide)) (g := 13) rfl rfl qg hP
        have g1 := Rg.pc_r hP
        have p1 := Rg.pc_l hP
        have g0 := Rg.pc_r p1
        have q50 : bb.tmps[50]? = some (.int .i64 ys) := hf.tmp (k := 18) rfl (by rw [ha]; decide) (Eq.trans (hA 18 (by kernel_rfl)) (Rg.cond_t hP))
        have q52 : bb.tmps[52]? = some (.int .i64 xs) := hf.tmp (k := 20) rfl (by rw [ha]; decide) (Eq.trans (hA 20 (by kernel_rfl)) (Rg.cond_t hP))
        exact Rg.op_value (o := ⟨some 53, Op.binOp BinOp.neq 2 (Operand.tmp 50) (Operand.tmp 52) 2, _, _, _, _⟩) (x := .bool (ys != xs)) rfl hw (by clear hA HS hN hO ; simp only [execOp]; go_simp) ⟨_, rfl, (fun h => by cases h), (Rg.cond_t hP).symm, hI, fun _ _ _ _ h => h⟩
    · intro ll bb w' hs hlf hN hO hf hI hA
      clear hi'
      have qg : bb.tmps[36]? = some (cond true (.bool (decide ((k : Int) < (n : Int)))) undef) := hf.tmp (k := 4) rfl (by rw [ha]; decide) (hA 4 (by kernel_rfl))
      cases hP : (true && ((decide ((k : Int) < (n : Int))) == true)) with
      | false => exact Rg.op_none (o := ⟨some 54, _, _, _, _, _⟩) rfl (Rg.unwanted_c (g := 4) rfl rfl qg hP) ⟨_, rfl, (fun h => by cases h), Rg.cond_f hP, hI, fun _ _ _ _ h => h⟩
      | true =>
        have hw := Rg.wanted_c (ops := (Rg.opsOf Try.f8 11)) (o := (Rg.opsOf Try.f8 11)[22]'(by rw [sizeSf11]; decide)) (g := 4) rfl rfl qg hP
        have g0 := Rg.pc_r hP
        have q45 : bb.tmps[45]? = some (.bool (yf != xf)) := hf.tmp (k := 13) rfl (by rw [ha]; decide) (Eq.trans (hA 13 (by kernel_rfl)) (Rg.cond_t hP))
        cases hC : (yf != xf) with
        | false =>
          have hB : ((true && ((decide ((k : Int) < (n : Int))) == true)) && ((yf != xf) == false)) = true := by
            rw [hC]; first | rfl | (rw [hP]; rfl) | simp_all
          have q53 : bb.tmps[53]? = some (.bool (ys != xs)) := hf.tmp (k := 21) rfl (by rw [ha]; decide) (Eq.trans (hA 21 (by kernel_rfl)) (Rg.cond_t hB))
          have hval : ((.bool ((yf != xf) || (ys != xs)) : Value)) = .bool (ys != xs) := by rw [hC]; rfl
          exact Rg.op_value (o := ⟨some 54, Op.pick (Operand.tmp 45) (Operand.const (Value.bool true)) (Operand.tmp 53), _, _, _, _⟩) (x := .bool (ys != xs)) rfl hw (by rw [hC] at q45; clear hA HS hN hO  hval; simp only [execOp]; go_simp) ⟨_, rfl, (fun h => by cases h), (by show ((.bool (ys != xs) : Value)) = _; exact hval.symm.trans (Rg.cond_t hP).symm), hI, fun _ _ _ _ h => h⟩
        | true =>
          have hval : ((.bool ((yf != xf) || (ys != xs)) : Value)) = .bool true := by rw [hC]; rfl
          exact Rg.op_value (o := ⟨some 54, Op.pick (Operand.tmp 45) (Operand.const (Value.bool true)) (Operand.tmp 53), _, _, _, _⟩) (x := .bool true) rfl hw (by rw [hC] at q45; clear hA HS hN hO  hval; simp only [execOp]; go_simp) ⟨_, rfl, (fun h => by cases h), (by show ((.bool true : Value)) = _; exact hval.symm.trans (Rg.cond_t hP).symm), hI, fun _ _ _ _ h => h⟩
    · intro ll bb w' hs hlf hN hO hf hI hA
      clear hi'
      have q36 : bb.tmps[36]? = some _ := hf.tmp (k := 4) rfl (by rw [ha]; decide) (hA 4 (by kernel_rfl))
      cases hC : (decide ((k : Int) < (n : Int))) with
      | false =>
        have hval : ((.bool ((decide ((k : Int) < (n : Int))) && ((yf != xf) || (ys != xs))) : Value)) = .bool false := by rw [hC]; rfl
        exact Rg.op_value (o := ⟨some 55, Op.pick (Operand.tmp 36) (Operand.tmp 54) (Operand.const (Value.bool false)), _, _, _, _⟩) (x := .bool false) rfl rfl (by rw [hC] at q36; clear hA HS hN hO  hval; simp only [execOp]; go_simp) ⟨_, rfl, (fun h => by cases h), (by show ((.bool false : Value)) = _; exact hval.symm), hI, fun _ _ _ _ h => h⟩
      | true =>
        have hB : (true && ((decide ((k : Int) < (n : Int))) == true)) = true := by rw [hC]; rfl
        have q54 : bb.tmps[54]? = some (.bool ((yf != xf) || (ys != xs))) := hf.tmp (k := 22) rfl (by rw [ha]; decide) (Eq.trans (hA 22 (by kernel_rfl)) (Rg.cond_t hB))
        have hval : ((.bool ((decide ((k : Int) < (n : Int))) && ((yf != xf) || (ys != xs))) : Value)) = .bool ((yf != xf) || (ys != xs)) := by rw [hC]; rfl
        exact Rg.op_value (o := ⟨some 55, Op.pick (Operand.tmp 36) (Operand.tmp 54) (Operand.const (Value.bool false)), _, _, _, _⟩) (x := .bool ((yf != xf) || (ys != xs))) rfl rfl (by rw [hC] at q36; clear hA HS hN hO  hval; simp only [execOp]; go_simp) ⟨_, rfl, (fun h => by cases h), (by show ((.bool ((yf != xf) || (ys != xs)) : Value)) = _; exact hval.symm), hI, fun _ _ _ _ h => h⟩

theorem dSf11_0 : Rg.dstAt (Rg.opsOf Try.f8 11) 0 = some 32 := by kernel_rfl
theorem dSf11_1 : Rg.dstAt (Rg.opsOf Try.f8 11) 1 = some 33 := by kernel_rfl
theorem dSf11_2 : Rg.dstAt (Rg.opsOf Try.f8 11) 2 = some 34 := by kernel_rfl
theorem dSf11_3 : Rg.dstAt (Rg.opsOf Try.f8 11) 3 = some 35 := by kernel_rfl
theorem dSf11_4 : Rg.dstAt (Rg.opsOf Try.f8 11) 4 = some 36 := by kernel_rfl
theorem dSf11_5 : Rg.dstAt (Rg.opsOf Try.f8 11) 5 = some 37 := by kernel_rfl
theorem dSf11_6 : Rg.dstAt (Rg.opsOf Try.f8 11) 6 = some 38 := by kernel_rfl
theorem dSf11_7 : Rg.dstAt (Rg.opsOf Try.f8 11) 7 = some 39 := by kernel_rfl
theorem dSf11_8 : Rg.dstAt (Rg.opsOf Try.f8 11) 8 = some 40 := by kernel_rfl
theorem dSf11_9 : Rg.dstAt (Rg.opsOf Try.f8 11) 9 = some 41 := by kernel_rfl
theorem dSf11_10 : Rg.dstAt (Rg.opsOf Try.f8 11) 10 = some 42 := by kernel_rfl
theorem dSf11_11 : Rg.dstAt (Rg.opsOf Try.f8 11) 11 = some 43 := by kernel_rfl
theorem dSf11_12 : Rg.dstAt (Rg.opsOf Try.f8 11) 12 = some 44 := by kernel_rfl
theorem dSf11_13 : Rg.dstAt (Rg.opsOf Try.f8 11) 13 = some 45 := by kernel_rfl
theorem dSf11_14 : Rg.dstAt (Rg.opsOf Try.f8 11) 14 = some 46 := by kernel_rfl
theorem dSf11_15 : Rg.dstAt (Rg.opsOf Try.f8 11) 15 = some 47 := by kernel_rfl
theorem dSf11_16 : Rg.dstAt (Rg.opsOf Try.f8 11) 16 = some 48 := by kernel_rfl
theorem dSf11_17 : Rg.dstAt (Rg.opsOf Try.f8 11) 17 = some 49 := by kernel_rfl
theorem dSf11_18 : Rg.dstAt (Rg.opsOf Try.f8 11) 18 = some 50 := by kernel_rfl
theorem dSf11_19 : Rg.dstAt (Rg.opsOf Try.f8 11) 19 = some 51 := by kernel_rfl
theorem dSf11_20 : Rg.dstAt (Rg.opsOf Try.f8 11) 20 = some 52 := by kernel_rfl
theorem dSf11_21 : Rg.dstAt (Rg.opsOf Try.f8 11) 21 = some 53 := by kernel_rfl
theorem dSf11_22 : Rg.dstAt (Rg.opsOf Try.f8 11) 22 = some 54 := by kernel_rfl
theorem dSf11_23 : Rg.dstAt (Rg.opsOf Try.f8 11) 23 = some 55 := by kernel_rfl
theorem laySf11 {a b : Act} (hf : Rg.Fr (Rg.opsOf Try.f8 11) a b) : b = ((((((((((((((((((((((((a.put (some 32) (Rg.out (Rg.opsOf Try.f8 11) b 0)).put (some 33) (Rg.out (Rg.opsOf Try.f8 11) b 1)).put (some 34) (Rg.out (Rg.opsOf Try.f8 11) b 2)).put (some 35) (Rg.out (Rg.opsOf Try.f8 11) b 3)).put (some 36) (Rg.out (Rg.opsOf Try.f8 11) b 4)).put (some 37) (Rg.out (Rg.opsOf Try.f8 11) b 5)).put (some 38) (Rg.out (Rg.opsOf Try.f8 11) b 6)).put (some 39) (Rg.out (Rg.opsOf Try.f8 11) b 7)).put (some 40) (Rg.out (Rg.opsOf Try.f8 11) b 8)).put (some 41) (Rg.out (Rg.opsOf Try.f8 11) b 9)).put (some 42) (Rg.out (Rg.opsOf Try.f8 11) b 10)).put (some 43) (Rg.out (Rg.opsOf Try.f8 11) b 11)).put (some 44) (Rg.out (Rg.opsOf Try.f8 11) b 12)).put (some 45) (Rg.out (Rg.opsOf Try.f8 11) b 13)).put (some 46) (Rg.out (Rg.opsOf Try.f8 11) b 14)).put (some 47) (Rg.out (Rg.opsOf Try.f8 11) b 15)).put (some 48) (Rg.out (Rg.opsOf Try.f8 11) b 16)).put (some 49) (Rg.out (Rg.opsOf Try.f8 11) b 17)).put (some 50) (Rg.out (Rg.opsOf Try.f8 11) b 18)).put (some 51) (Rg.out (Rg.opsOf Try.f8 11) b 19)).put (some 52) (Rg.out (Rg.opsOf Try.f8 11) b 20)).put (some 53) (Rg.out (Rg.opsOf Try.f8 11) b 21)).put (some 54) (Rg.out (Rg.opsOf Try.f8 11) b 22)).put (some 55) (Rg.out (Rg.opsOf Try.f8 11) b 23)) := by
  have h := hf.chain
  rw [sizeSf11, show List.range 24 = [0, 1, 2, 3, 4, 5, 6, 7, 8, 9, 10, 11, 12, 13, 14, 15, 16, 17, 18, 19, 20, 21, 22, 23] from by decide] at h
  simp only [List.foldl_cons, List.foldl_nil, dSf11_0, dSf11_1, dSf11_2, dSf11_3, dSf11_4, dSf11_5, dSf11_6, dSf11_7, dSf11_8, dSf11_9, dSf11_10, dSf11_11, dSf11_12, dSf11_13, dSf11_14, dSf11_15, dSf11_16, dSf11_17, dSf11_18, dSf11_19, dSf11_20, dSf11_21, dSf11_22, dSf11_23] at h
  exact h

def FSf25 (G n cap i bn : Nat) (b yf ys zf zs : Int) (i9 : Nat) (v : Value) (w : World) : Prop :=
  match i9 with
  | 0 => v = .int .i64 b
  | 1 => v = .bool (decide (0 ≤ b))
  | 2 => v = .bool (decide (0 ≤ b))
  | 3 => v = cond (true && ((decide (0 ≤ b)) == true)) (.slice (some ⟨G, 0, none⟩) n cap) undef
  | 4 => v = cond (true && ((decide (0 ≤ b)) == true)) (.int .i64 (i : Nat)) undef
  | 5 => v = cond (true && ((decide (0 ≤ b)) == true)) (.pointer (some ⟨G, i * 5, none⟩)) undef
  | 6 => v = cond (true && ((decide (0 ≤ b)) == true)) (.pointer (some ⟨G, i * 5 + 1, none⟩)) undef
  | 7 => v = cond (true && ((decide (0 ≤ b)) == true)) (.int .i64 ys) undef
  | 8 => v = cond (true && ((decide (0 ≤ b)) == true)) (.slice (some ⟨G, 0, none⟩) n cap) undef
  | 9 => v = cond (true && ((decide (0 ≤ b)) == true)) (.int .i64 b) undef
  | 10 => v = cond (true && ((decide (0 ≤ b)) == true)) (.pointer (some ⟨G, bn * 5, none⟩)) undef
  | 11 => v = cond (true && ((decide (0 ≤ b)) == true)) (.pointer (some ⟨G, bn * 5 + 1, none⟩)) undef
  | 12 => v = cond (true && ((decide (0 ≤ b)) == true)) (.int .i64 zs) undef
  | 13 => v = cond (true && ((decide (0 ≤ b)) == true)) (.bool (decide (ys < zs))) undef
  | 14 => v = cond (true && ((decide (0 ≤ b)) == true)) (.bool (decide (ys < zs))) undef
  | 15 => v = cond ((true && ((decide (0 ≤ b)) == true)) && ((decide (ys < zs)) == false)) (.slice (some ⟨G, 0, none⟩) n cap) undef
  | 16 => v = cond ((true && ((decide (0 ≤ b)) == true)) && ((decide (ys < zs)) == false)) (.int .i64 (i : Nat)) undef
  | 17 => v = cond ((true && ((decide (0 ≤ b)) == true)) && ((decide (ys < zs)) == false)) (.pointer (some ⟨G, i * 5, none⟩)) undef
  | 18 => v = cond ((true && ((decide (0 ≤ b)) == true)) && ((decide (ys < zs)) == false)) (.pointer (some ⟨G, i * 5 + 1, none⟩)) undef
  | 19 => v = cond ((true && ((decide (0 ≤ b)) == true)) && ((decide (ys < zs)) == false)) (.int .i64 ys) undef
  | 20 => v = cond ((true && ((decide (0 ≤ b)) == true)) && ((decide (ys < zs)) == false)) (.slice (some ⟨G, 0, none⟩) n cap) undef
  | 21 => v = cond ((true && ((decide (0 ≤ b)) == true)) && ((decide (ys < zs)) == false)) (.int .i64 b) undef
  | 22 => v = cond ((true && ((decide (0 ≤ b)) == true)) && ((decide (ys < zs)) == false)) (.pointer (some ⟨G, bn * 5, none⟩)) undef
  | 23 => v = cond ((true && ((decide (0 ≤ b)) == true)) && ((decide (ys < zs)) == false)) (.pointer (some ⟨G, bn * 5 + 1, none⟩)) undef
  | 24 => v = cond ((true && ((decide (0 ≤ b)) == true)) && ((decide (ys < zs)) == false)) (.int .i64 zs) undef
  | 25 => v = cond ((true && ((decide (0 ≤ b)) == true)) && ((decide (ys < zs)) == false)) (.bool (ys == zs)) undef
  | 26 => v = cond ((true && ((decide (0 ≤ b)) == true)) && ((decide (ys < zs)) == false)) (.bool (ys == zs)) undef
  | 27 => v = cond (((true && ((decide (0 ≤ b)) == true)) && ((decide (ys < zs)) == false)) && ((ys == zs) == true)) (.slice (some ⟨G, 0, none⟩) n cap) undef
  | 28 => v = cond (((true && ((decide (0 ≤ b)) == true)) && ((decide (ys < zs)) == false)) && ((ys == zs) == true)) (.int .i64 (i : Nat)) undef
  | 29 => v = cond (((true && ((decide (0 ≤ b)) == true)) && ((decide (ys < zs)) == false)) && ((ys == zs) == true)) (.pointer (some ⟨G, i * 5, none⟩)) undef
  | 30 => v = cond (((true && ((decide (0 ≤ b)) == true)) && ((decide (ys < zs)) == false)) && ((ys == zs) == true)) (.pointer (some ⟨G, i * 5, none⟩)) undef
  | 31 => v = cond (((true && ((decide (0 ≤ b)) == true)) && ((decide (ys < zs)) == false)) && ((ys == zs) == true)) (.int .i64 yf) undef
  | 32 => v = cond (((true && ((decide (0 ≤ b)) == true)) && ((decide (ys < zs)) == false)) && ((ys == zs) == true)) (.slice (some ⟨G, 0, none⟩) n cap) undef
  | 33 => v = cond (((true && ((decide (0 ≤ b)) == true)) && ((decide (ys < zs)) == false)) && ((ys == zs) == true)) (.int .i64 b) undef
  | 34 => v = cond (((true && ((decide (0 ≤ b)) == true)) && ((decide (ys < zs)) == false)) && ((ys == zs) == true)) (.pointer (some ⟨G, bn * 5, none⟩)) undef
  | 35 => v = cond (((true && ((decide (0 ≤ b)) == true)) && ((decide (ys < zs)) == false)) && ((ys == zs) == true)) (.pointer (some ⟨G, bn * 5, none⟩)) undef
  | 36 => v = cond (((true && ((decide (0 ≤ b)) == true)) && ((decide (ys < zs)) == false)) && ((ys == zs) == true)) (.int .i64 zf) undef
  | 37 => v = cond (((true && ((decide (0 ≤ b)) == true)) && ((decide (ys < zs)) == false)) && ((ys == zs) == true)) (.bool (decide (yf < zf))) undef
  | 38 => v = cond ((true && ((decide (0 ≤ b)) == true)) && ((decide (ys < zs)) == false)) (.bool ((ys == zs) && (decide (yf < zf)))) undef
  | 39 => v = cond (true && ((decide (0 ≤ b)) == true)) (.bool ((decide (ys < zs)) || ((ys == zs) && (decide (yf < zf))))) undef
  | 40 => v = .bool ((decide (0 ≤ b)) && ((decide (ys < zs)) || ((ys == zs) && (decide (yf < zf)))))
  | _ => True
theorem sizeSf25 : (Rg.opsOf Try.f8 25).size = 41 := by kernel_rfl

set_option maxRecDepth 20000 in
set_option maxHeartbeats 8000000 in
theorem regSf25 {Q : Exit → Act → World → Prop} {a : Act} {w9 : World} {G n cap i bn : Nat} {b yf ys zf zs : Int} (ha : a.tmps.size = 182)
    (k4 : a.tmps[4]? = some (.slice (some ⟨G, 0, none⟩) n cap)) (k9 : a.tmps[9]? = some (.int .i64 b)) (k10 : a.tmps[10]? = some (.int .i64 (i : Nat))) (hn : n < 1000000) (hil : i < n) (hGl : G < w9.heap.size) (hbb : 0 ≤ b → b = (bn : Int) ∧ bn < n) (y0 : w9.cell? ⟨G, i * 5, none⟩ = some (.int .i64 yf)) (y1 : w9.cell? ⟨G, i * 5 + 1, none⟩ = some (.int .i64 ys)) (z0 : 0 ≤ b → w9.cell? ⟨G, bn * 5, none⟩ = some (.int .i64 zf)) (z1 : 0 ≤ b → w9.cell? ⟨G, bn * 5 + 1, none⟩ = some (.int .i64 zs))
    (hend : ∀ b' w', Rg.Fr (Rg.opsOf Try.f8 25) a b' → Below w9.heap.size w9 w' → Rg.out (Rg.opsOf Try.f8 25) b' 40 = .bool ((decide (0 ≤ b)) && ((decide (ys < zs)) || ((ys == zs) && (decide (yf < zf))))) → Q .normal b' w') :
    (Code.region 25 (Rg.opsOf Try.f8 25) true).wp Try.prog Q a w9 := by
  refine Rg.region_set3 (by kernel_rfl) (fun _ w' => Below w9.heap.size w9 w') (FSf25 G n cap i bn b yf ys zf zs) (by rw [ha, sizeSf25]; kernel_rfl) (st_drew (Below.refl _ _)) ?_ ?_
  case refine_2 =>
    intro l b' w' hf hall hI hA
    rw [sizeSf25] at hA
    exact hend b' w' hf hI (hA 40 (by decide))
  case refine_1 =>
    clear hend
    have HS : ∀ {w w' : World}, Below w.heap.size w w' → ∀ k9 y9, FSf25 G n cap i bn b yf ys zf zs k9 y9 w → FSf25 G n cap i bn b yf ys zf zs k9 y9 w' := fun hb k9 y9 h => by
      unfold FSf25 at *
      split at h <;> exact h
    intro i' hi'
    rw [sizeSf25] at hi'
    rcases (show i' = 0 ∨ i' = 1 ∨ i' = 2 ∨ i' = 3 ∨ i' = 4 ∨ i' = 5 ∨ i' = 6 ∨ i' = 7 ∨ i' = 8 ∨ i' = 9 ∨ i' = 10 ∨ i' = 11 ∨ i' = 12 ∨ i' = 13 ∨ i' = 14 ∨ i' = 15 ∨ i' = 16 ∨ i' = 17 ∨ i' = 18 ∨ i' = 19 ∨ i' = 20 ∨ i' = 21 ∨ i' = 22 ∨ i' = 23 ∨ i' = 24 ∨ i' = 25 ∨ i' = 26 ∨ i' = 27 ∨ i' = 28 ∨ i' = 29 ∨ i' = 30 ∨ i' = 31 ∨ i' = 32 ∨ i' = 33 ∨ i' = 34 ∨ i' = 35 ∨ i' = 36 ∨ i' = 37 ∨ i' = 38 ∨ i' = 39 ∨ i' = 40 by omega) with rfl | rfl | rfl | rfl | rfl | rfl | rfl | rfl | rfl | rfl | rfl | rfl | rfl | rfl | rfl | rfl | rfl | rfl | rfl | rfl | rfl | rfl | rfl | rfl | rfl | rfl | rfl | rfl | rfl | rfl | rfl | rfl | rfl | rfl | rfl | rfl | rfl | rfl | rfl | rfl | rfl
    · intro ll bb w' hs hlf hN hO hf hI hA
      clear hi'
      have q0 := hf.kept (s := 9) (by rw [sizeSf25]; kernel_rfl) k9
      exact Rg.op_value (o := ⟨some 93, Op.move (Operand.tmp 9), _, _, _, _⟩) (x := .int .i64 b) rfl rfl (by clear hA HS hN hO hbb z0 z1; simp only [execOp]; go_simp) ⟨_, rfl, (fun h => by cases h), rfl, hI, fun _ _ _ _ h => h⟩
    · intro ll bb w' hs hlf hN hO hf hI hA
      clear hi'
      have q93 : bb.tmps[93]? = some _ := hf.tmp (k := 0) rfl (by rw [ha]; decide) (hA 0 (by kernel_rfl))
      exact Rg.op_value (o := ⟨some 94, Op.binOp BinOp.geq 3 (Operand.tmp 93) (Operand.const (Value.int .i64 0)) 3, _, _, _, _⟩) (x := .bool (decide (0 ≤ b))) rfl rfl (by clear hA HS hN hO hbb z0 z1; simp only [execOp]; go_simp) ⟨_, rfl, (fun h => by cases h), rfl, hI, fun _ _ _ _ h => h⟩
    · intro ll bb w' hs hlf hN hO hf hI hA
      clear hi'
      have q94 : bb.tmps[94]? = some _ := hf.tmp (k := 1) rfl (by rw [ha]; decide) (hA 1 (by kernel_rfl))
      exact Rg.op_value (o := ⟨some 95, Op.move (Operand.tmp 94), _, _, _, _⟩) (x := .bool (decide (0 ≤ b))) rfl rfl (by clear hA HS hN hO hbb z0 z1; simp only [execOp]; go_simp) ⟨_, rfl, (fun h => by cases h), rfl, hI, fun _ _ _ _ h => h⟩
    · intro ll bb w' hs hlf hN hO hf hI hA
      clear hi'
      have qg : bb.tmps[95]? = some (cond true (.bool (decide (0 ≤ b))) undef) := hf.tmp (k := 2) rfl (by rw [ha]; decide) (hA 2 (by kernel_rfl))
      cases hP : (true && ((decide (0 ≤ b)) == true)) with
      | false => exact Rg.op_none (o := ⟨some 96, _, _, _, _, _⟩) rfl (Rg.unwanted_c (g := 2) rfl rfl qg hP) ⟨_, rfl, (fun h => by cases h), Rg.cond_f hP, hI, fun _ _ _ _ h => h⟩
      | true =>
        have hw := Rg.wanted_c (ops := (Rg.opsOf Try.f8 25)) (o := (Rg.opsOf Try.f8 25)[3]'(by rw [sizeSf25]; decide)) (g := 2) rfl rfl qg hP
        have g0 := Rg.pc_r hP
        have q0 := hf.kept (s := 4) (by rw [sizeSf25]; kernel_rfl) k4
        exact Rg.op_value (o := ⟨some 96, Op.move (Operand.tmp 4), _, _, _, _⟩) (x := .slice (some ⟨G, 0, none⟩) n cap) rfl hw (by clear hA HS hN hO hbb z0 z1; simp only [execOp]; go_simp) ⟨_, rfl, (fun h => by cases h), (Rg.cond_t hP).symm, hI, fun _ _ _ _ h => h⟩
    · intro ll bb w' hs hlf hN hO hf hI hA
      clear hi'
      have qg : bb.tmps[95]? = some (cond true (.bool (decide (0 ≤ b))) undef) := hf.tmp (k := 2) rfl (by rw [ha]; decide) (hA 2 (by kernel_rfl))
      cases hP : (true && ((decide (0 ≤ b)) == true)) with
      | false => exact Rg.op_none (o := ⟨some 97, _, _, _, _, _⟩) rfl (Rg.unwanted_c (g := 2) rfl rfl qg hP) ⟨_, rfl, (fun h => by cases h), Rg.cond_f hP, hI, fun _ _ _ _ h => h⟩
      | true =>
        have hw := Rg.wanted_c (ops := (Rg.opsOf Try.f8 25)) (o := (Rg.opsOf Try.f8 25)[4]'(by rw [sizeSf25]; decide)) (g := 2) rfl rfl qg hP
        have g0 := Rg.pc_r hP
        have q0 := hf.kept (s := 10) (by rw [sizeSf25]; kernel_rfl) k10
        exact Rg.op_value (o := ⟨some 97, Op.move (Operand.tmp 10), _, _, _, _⟩) (x := .int .i64 (i : Nat)) rfl hw (by clear hA HS hN hO hbb z0 z1; simp only [execOp]; go_simp) ⟨_, rfl, (fun h => by cases h), (Rg.cond_t hP).symm, hI, fun _ _ _ _ h => h⟩
    · intro ll bb w' hs hlf hN hO hf hI hA
      clear hi'
      have qg : bb.tmps[95]? = some (cond true (.bool (decide (0 ≤ b))) undef) := hf.tmp (k := 2) rfl (by rw [ha]; decide) (hA 2 (by kernel_rfl))
      cases hP : (true && ((decide (0 ≤ b)) == true)) with
      | false => exact Rg.op_none (o := ⟨some 98, _, _, _, _, _⟩) rfl (Rg.unwanted_c (g := 2) rfl rfl qg hP) ⟨_, rfl, (fun h => by cases h), Rg.cond_f hP, hI, fun _ _ _ _ h => h⟩
      | true =>
        have hw := Rg.wanted_c (ops := (Rg.opsOf Try.f8 25)) (o := (Rg.opsOf Try.f8 25)[5]'(by rw [sizeSf25]; decide)) (g := 2) rfl rfl qg hP
        have g0 := Rg.pc_r hP
        have q96 : bb.tmps[96]? = some (.slice (some ⟨G, 0, none⟩) n cap) := hf.tmp (k := 3) rfl (by rw [ha]; decide) (Eq.trans (hA 3 (by kernel_rfl)) (Rg.cond_t hP))
        have q97 : bb.tmps[97]? = some (.int .i64 (i : Nat)) := hf.tmp (k := 4) rfl (by rw [ha]; decide) (Eq.trans (hA 4 (by kernel_rfl)) (Rg.cond_t hP))
        have hin2 : (i : Int) < (n : Int) := by omega
        exact Rg.op_value (o := ⟨some 98, Op.indexAddr 24 (Operand.tmp 96) (Operand.tmp 97), _, _, _, _⟩) (x := .pointer (some ⟨G, i * 5, none⟩)) rfl hw (by clear hA HS hN hO hbb z0 z1; simp only [execOp]; go_simp) ⟨_, rfl, (fun h => by cases h), (Rg.cond_t hP).symm, hI, fun _ _ _ _ h => h⟩
    · intro ll bb w' hs hlf hN hO hf hI hA
      clear hi'
      have qg : bb.tmps[95]? = some (cond true (.bool (decide (0 ≤ b))) undef) := hf.tmp (k := 2) rfl (by rw [ha]; decide) (hA 2 (by kernel_rfl))
      cases hP : (true && ((decide (0 ≤ b)) == true)) with
      | false => exact Rg.op_none (o := ⟨some 99, _, _, _, _, _⟩) rfl (Rg.unwanted_c (g := 2) rfl rfl qg hP) ⟨_, rfl, (fun h => by cases h), Rg.cond_f hP, hI, fun _ _ _ _ h => h⟩
      | true =>
        have hw := Rg.wanted_c (ops := (Rg.opsOf Try.f8 25)) (o := (Rg.opsOf Try.f8 25)[6]'(by rw [sizeSf25]; decide)) (g := 2) rfl rfl qg hP
        have g0 := Rg.pc_r hP
        have q98 : bb.tmps[98]? = some (.pointer (some ⟨G, i * 5, none⟩)) := hf.tmp (k := 5) rfl (by rw [ha]; decide) (Eq.trans (hA 5 (by kernel_rfl)) (Rg.cond_t hP))
        exact Rg.op_value (o := ⟨some 99, Op.fieldAddr 29 (Operand.tmp 98) 1, _, _, _, _⟩) (x := .pointer (some ⟨G, i * 5 + 1, none⟩)) rfl hw (by clear hA HS hN hO hbb z0 z1; simp only [execOp]; go_simp) ⟨_, rfl, (fun h => by cases h), (Rg.cond_t hP).symm, hI, fun _ _ _ _ h => h⟩
    · intro ll bb w' hs hlf hN hO hf hI hA
      clear hi'
      have qg : bb.tmps[95]? = some (cond true (.bool (decide (0 ≤ b))) undef) := hf.tmp (k := 2) rfl (by rw [ha]; decide) (hA 2 (by kernel_rfl))
      cases hP : (true && ((decide (0 ≤ b)) == true)) with
      | false => exact Rg.op_none (o := ⟨some 100, _, _, _, _, _⟩) rfl (Rg.unwanted_c (g := 2) rfl rfl qg hP) ⟨_, rfl, (fun h => by cases h), Rg.cond_f hP, hI, fun _ _ _ _ h => h⟩
      | true =>
        have hw := Rg.wanted_c (ops := (Rg.opsOf Try.f8 25)) (o := (Rg.opsOf Try.f8 25)[7]'(by rw [sizeSf25]; decide)) (g := 2) rfl rfl qg hP
        have g0 := Rg.pc_r hP
        have q99 : bb.tmps[99]? = some (.pointer (some ⟨G, i * 5 + 1, none⟩)) := hf.tmp (k := 6) rfl (by rw [ha]; decide) (Eq.trans (hA 6 (by kernel_rfl)) (Rg.cond_t hP))
        have e0 := (hI.cell (p := ⟨G, i * 5 + 1, none⟩) hGl).trans y1
        exact Rg.op_value (o := ⟨some 100, Op.load 2 (Operand.tmp 99), _, _, _, _⟩) (x := .int .i64 ys) rfl hw (by clear hA HS hN hO hbb z0 z1; simp only [execOp]; go_simp) ⟨_, rfl, (fun h => by cases h), (Rg.cond_t hP).symm, hI, fun _ _ _ _ h => h⟩
    · intro ll bb w' hs hlf hN hO hf hI hA
      clear hi'
      have qg : bb.tmps[95]? = some (cond true (.bool (decide (0 ≤ b))) undef) := hf.tmp (k := 2) rfl (by rw [ha]; decide) (hA 2 (by kernel_rfl))
      cases hP : (true && ((decide (0 ≤ b)) == true)) with
      | false => exact Rg.op_none (o := ⟨some 101, _, _, _, _, _⟩) rfl (Rg.unwanted_c (g := 2) rfl rfl qg hP) ⟨_, rfl, (fun h => by cases h), Rg.cond_f hP, hI, fun _ _ _ _ h => h⟩
      | true =>
        have hw := Rg.wanted_c (ops := (Rg.opsOf Try.f8 25)) (o := (Rg.opsOf Try.f8 25)[8]'(by rw [sizeSf25]; decide)) (g := 2) rfl rfl qg hP
        have g0 := Rg.pc_r hP
        have q0 := hf.kept (s := 4) (by rw [sizeSf25]; kernel_rfl) k4
        exact Rg.op_value (o := ⟨some 101, Op.move (Operand.tmp 4), _, _, _, _⟩) (x := .slice (some ⟨G, 0, none⟩) n cap) rfl hw (by clear hA HS hN hO hbb z0 z1; simp only [execOp]; go_simp) ⟨_, rfl, (fun h => by cases h), (Rg.cond_t hP).symm, hI, fun _ _ _ _ h => h⟩
    · intro ll bb w' hs hlf hN hO hf hI hA
      clear hi'
      have qg : bb.tmps[95]? = some (cond true (.bool (decide (0 ≤ b))) undef) := hf.tmp (k := 2) rfl (by rw [ha]; decide) (hA 2 (by kernel_rfl))
      cases hP : (true && ((decide (0 ≤ b)) == true)) with
      | false => exact Rg.op_none (o := ⟨some 102, _, _, _, _, _⟩) rfl (Rg.unwanted_c (g := 2) rfl rfl qg hP) ⟨_, rfl, (fun h => by cases h), Rg.cond_f hP, hI, fun _ _ _ _ h => h⟩
      | true =>
        have hw := Rg.wanted_c (ops := (Rg.opsOf Try.f8 25)) (o := (Rg.opsOf Try.f8 25)[9]'(by rw [sizeSf25]; decide)) (g := 2) rfl rfl qg hP
        have g0 := Rg.pc_r hP
        have q0 := hf.kept (s := 9) (by rw [sizeSf25]; kernel_rfl) k9
        exact Rg.op_value (o := ⟨some 102, Op.move (Operand.tmp 9), _, _, _, _⟩) (x := .int .i64 b) rfl hw (by clear hA HS hN hO hbb z0 z1; simp only [execOp]; go_simp) ⟨_, rfl, (fun h => by cases h), (Rg.cond_t hP).symm, hI, fun _ _ _ _ h => h⟩
    · intro ll bb w' hs hlf hN hO hf hI hA
      clear hi'
      have qg : bb.tmps[95]? = some (cond true (.bool (decide (0 ≤ b))) undef) := hf.tmp (k := 2) rfl (by rw [ha]; decide) (hA 2 (by kernel_rfl))
      cases hP : (true && ((decide (0 ≤ b)) == true)) with
      | false => exact Rg.op_none (o := ⟨some 103, _, _, _, _, _⟩) rfl (Rg.unwanted_c (g := 2) rfl rfl qg hP) ⟨_, rfl, (fun h => by cases h), Rg.cond_f hP, hI, fun _ _ _ _ h => h⟩
      | true =>
        have hw := Rg.wanted_c (ops := (Rg.opsOf Try.f8 25)) (o := (Rg.opsOf Try.f8 25)[10]'(by rw [sizeSf25]; decide)) (g := 2) rfl rfl qg hP
        have g0 := Rg.pc_r hP
        have q101 : bb.tmps[101]? = some (.slice (some ⟨G, 0, none⟩) n cap) := hf.tmp (k := 8) rfl (by rw [ha]; decide) (Eq.trans (hA 8 (by kernel_rfl)) (Rg.cond_t hP))
        have q102 : bb.tmps[102]? = some (.int .i64 b) := hf.tmp (k := 9) rfl (by rw [ha]; decide) (Eq.trans (hA 9 (by kernel_rfl)) (Rg.cond_t hP))
        have hb0 : 0 ≤ b := by have := g0; simp at this; omega
        obtain ⟨hbe, hbn⟩ := hbb hb0
        have hi2 : b < (n : Int) := by omega
        have ht : b.toNat = bn := by omega
        exact Rg.op_value (o := ⟨some 103, Op.indexAddr 24 (Operand.tmp 101) (Operand.tmp 102), _, _, _, _⟩) (x := .pointer (some ⟨G, bn * 5, none⟩)) rfl hw (by clear hA HS hN hO hbb z0 z1; simp only [execOp]; go_simp) ⟨_, rfl, (fun h => by cases h), (Rg.cond_t hP).symm, hI, fun _ _ _ _ h => h⟩
    · intro ll bb w' hs hlf hN hO hf hI hA
      clear hi'
      have qg : bb.tmps[95]? = some (cond true (.bool (decide (0 ≤ b))) undef) := hf.tmp (k := 2) rfl (by rw [ha]; decide) (hA 2 (by kernel_rfl))
      cases hP : (true && ((decide (0 ≤ b)) == true)) with
      | false => exact Rg.op_none (o := ⟨some 104, _, _, _, _, _⟩) rfl (Rg.unwanted_c (g := 2) rfl rfl qg hP) ⟨_, rfl, (fun h => by cases h), Rg.cond_f hP, hI, fun _ _ _ _ h => h⟩
      | true =>
        have hw := Rg.wanted_c (ops := (Rg.opsOf Try.f8 25)) (o := (Rg.opsOf Try.f8 25)[11]'(by rw [sizeSf25]; decide)) (g := 2) rfl rfl qg hP
        have g0 := Rg.pc_r hP
        have q103 : bb.tmps[103]? = some (.pointer (some ⟨G, bn * 5, none⟩)) := hf.tmp (k := 10) rfl (by rw [ha]; decide) (Eq.trans (hA 10 (by kernel_rfl)) (Rg.cond_t hP))
        exact Rg.op_value (o := ⟨some 104, Op.fieldAddr 29 (Operand.tmp 103) 1, _, _, _, _⟩) (x := .pointer (some ⟨G, bn * 5 + 1, none⟩)) rfl hw (by clear hA HS hN hO hbb z0 z1; simp only [execOp]; go_simp) ⟨_, rfl, (fun h => by cases h), (Rg.cond_t hP).symm, hI, fun _ _ _ _ h => h⟩
    · intro ll bb w' hs hlf hN hO hf hI hA
      clear hi'
      have qg : bb.tmps[95]? = some (cond true (.bool (decide (0 ≤ b))) undef) := hf.tmp (k := 2) rfl (by rw [ha]; decide) (hA 2 (by kernel_rfl))
      cases hP : (true && ((decide (0 ≤ b)) == true)) with
      | false => exact Rg.op_none (o := ⟨some 105, _, _, _, _, _⟩) rfl (Rg.unwanted_c (g := 2) rfl rfl qg hP) ⟨_, rfl, (fun h => by cases h), Rg.cond_f hP, hI, fun _ _ _ _ h => h⟩
      | true =>
        have hw := Rg.wanted_c (ops := (Rg.opsOf Try.f8 25)) (o := (Rg.opsOf Try.f8 25)[12]'(by rw [sizeSf25]; decide)) (g := 2) rfl rfl qg hP
        have g0 := Rg.pc_r hP
        have q104 : bb.tmps[104]? = some (.pointer (some ⟨G, bn * 5 + 1, none⟩)) := hf.tmp (k := 11) rfl (by rw [ha]; decide) (Eq.trans (hA 11 (by kernel_rfl)) (Rg.cond_t hP))
        have hb0 : 0 ≤ b := by have := g0; simp at this; omega
        obtain ⟨hbe, hbn⟩ := hbb hb0
        have e0 := (hI.cell (p := ⟨G, bn * 5 + 1, none⟩) hGl).trans (z1 hb0)
        exact Rg.op_value (o := ⟨some 105, Op.load 2 (Operand.tmp 104), _, _, _, _⟩) (x := .int .i64 zs) rfl hw (by clear hA HS hN hO hbb z0 z1; simp only [execOp]; go_simp) ⟨_, rfl, (fun h => by cases h), (Rg.cond_t hP).symm, hI, fun _ _ _ _ h => h⟩
    · intro ll bb w' hs hlf hN hO hf hI hA
      clear hi'
      have qg : bb.tmps[95]? = some (cond true (.bool (decide (0 ≤ b))) undef) := hf.tmp (k := 2) rfl (by rw [ha]; decide) (hA 2 (by kernel_rfl))
      cases hP : (true && ((decide (0 ≤ b)) == true)) with
      | false => exact Rg.op_none (o := ⟨some 106, _, _, _, _, _⟩) rfl (Rg.unwanted_c (g := 2) rfl rfl qg hP) ⟨_, rfl, (fun h => by cases h), Rg.cond_f hP, hI, fun _ _ _ _ h => h⟩
      | true =>
        have hw := Rg.wanted_c (ops := (Rg.opsOf Try.f8 25)) (o := (Rg.opsOf Try.f8 25)[13]'(by rw [sizeSf25]; decide)) (g := 2) rfl rfl qg hP
        have g0 := Rg.pc_r hP
        have q100 : bb.tmps[100]? = some (.int .i64 ys) := hf.tmp (k := 7) rfl (by rw [ha]; decide) (Eq.trans (hA 7 (by kernel_rfl)) (Rg.cond_t hP))
        have q105 : bb.tmps[105]? = some (.int .i64 zs) := hf.tmp (k := 12) rfl (by rw [ha]; decide) (Eq.trans (hA 12 (by kernel_rfl)) (Rg.cond_t hP))
        exact Rg.op_value (o := ⟨some 106, Op.binOp BinOp.lss 2 (Operand.tmp 100) (Operand.tmp 105) 2, _, _, _, _⟩) (x := .bool (decide (ys < zs))) rfl hw (by clear hA HS hN hO hbb z0 z1; simp only [execOp]; go_simp) ⟨_, rfl, (fun h => by cases h), (Rg.cond_t hP).symm, hI, fun _ _ _ _ h => h⟩
    · intro ll bb w' hs hlf hN hO hf hI hA
      clear hi'
      have qg : bb.tmps[95]? = some (cond true (.bool (decide (0 ≤ b))) undef) := hf.tmp (k := 2) rfl (by rw [ha]; decide) (hA 2 (by kernel_rfl))
      cases hP : (true && ((decide (0 ≤ b)) == true)) with
      | false => exact Rg.op_none (o := ⟨some 107, _, _, _, _, _⟩) rfl (Rg.unwanted_c (g := 2) rfl rfl qg hP) ⟨_, rfl, (fun h => by cases h), Rg.cond_f hP, hI, fun _ _ _ _ h => h⟩
      | true =>
        have hw := Rg.wanted_c (ops := (Rg.opsOf Try.f8 25)) (o := (Rg.opsOf Try.f8 25)[14]'(by rw [sizeSf25]; decide)) (g := 2) rfl rfl qg hP
        have g0 := Rg.pc_r hP
        have q106 : bb.tmps[106]? = some (.bool (decide (ys < zs))) := hf.tmp (k := 13) rfl (by rw [ha]; decide) (Eq.trans (hA 13 (by kernel_rfl)) (Rg.cond_t hP))
        exact Rg.op_value (o := ⟨some 107, Op.move (Operand.tmp 106), _, _, _, _⟩) (x := .bool (decide (ys < zs))) rfl hw (by clear hA HS hN hO hbb z0 z1; simp only [execOp]; go_simp) ⟨_, rfl, (fun h => by cases h), (Rg.cond_t hP).symm, hI, fun _ _ _ _ h => h⟩
    · intro ll bb w' hs hlf hN hO hf hI hA
      clear hi'
      have qg : bb.tmps[107]? = some (cond (true && ((decide (0 ≤ b)) == true)) (.bool (decide (ys < zs))) undef) := hf.tmp (k := 14) rfl (by rw [ha]; decide) (hA 14 (by kernel_rfl))
      cases hP : ((true && ((decide (0 ≤ b)) == true)) && ((decide (ys < zs)) == false)) with
      | false => exact Rg.op_none (o := ⟨some 108, _, _, _, _, _⟩) rfl (Rg.unwanted_c (g := 14) rfl rfl qg hP) ⟨_, rfl, (fun h => by cases h), Rg.cond_f hP, hI, fun _ _ _ _ h => h⟩
      | true =>
        have hw := Rg.wanted_c (ops := (Rg.opsOf Try.f8 25)) (o := (Rg.opsOf Try.f8 25)[15]'(by rw [sizeSf25]; decide)) (g := 14) rfl rfl qg hP
        have g1 := Rg.pc_r hP
        have p1 := Rg.pc_l hP
        have g0 := Rg.pc_r p1
        have q0 := hf.kept (s := 4) (by rw [sizeSf25]; kernel_rfl) k4
        exact Rg.op_value (o := ⟨some 108, Op.move (Operand.tmp 4), _, _, _, _⟩) (x := .slice (some ⟨G, 0, none⟩) n cap) rfl hw (by clear hA HS hN hO hbb z0 z1; simp only [execOp]; go_simp) ⟨_, rfl, (fun h => by cases h), (Rg.cond_t hP).symm, hI, fun _ _ _ _ h => h⟩
    · intro ll bb w' hs hlf hN hO hf hI hA
      clear hi'
      have qg : bb.tmps[107]? = some (cond (true && ((decide (0 ≤ b)) == true)) (.bool (decide (ys < zs))) undef) := hf.tmp (k := 14) rfl (by rw [ha]; decide) (hA 14 (by kernel_rfl))
      cases hP : ((true && ((decide (0 ≤ b)) == true)) && ((decide (ys < zs)) == false)) with
      | false => exact Rg.op_none (o := ⟨some 109, _, _, _, _, _⟩) rfl (Rg.unwanted_c (g := 14) rfl rfl qg hP) ⟨_, rfl, (fun h => by cases h), Rg.cond_f hP, hI, fun _ _ _ _ h => h⟩
      | true =>
        have hw := Rg.wanted_c (ops := (Rg.opsOf Try.f8 25)) (o := (Rg.opsOf Try.f8 25)[16]'(by rw [sizeSf25]; decide)) (g := 14) rfl rfl qg hP
        have g1 := Rg.pc_r hP
        have p1 := Rg.pc_l hP
        have g0 := Rg.pc_r p1
        have q0 := hf.kept (s := 10) (by rw [sizeSf25]; kernel_rfl) k10
        exact Rg.op_value (o := ⟨some 109, Op.move (Operand.tmp 10), _, _, _, _⟩) (x := .int .i64 (i : Nat)) rfl hw (by clear hA HS hN hO hbb z0 z1; simp only [execOp]; go_simp) ⟨_, rfl, (fun h => by cases h), (Rg.cond_t hP).symm, hI, fun _ _ _ _ h => h⟩
    · intro ll bb w' hs hlf hN hO hf hI hA
      clear hi'
      have qg : bb.tmps[107]? = some (cond (true && ((decide (0 ≤ b)) == true)) (.bool (decide (ys < zs))) undef) := hf.tmp (k := 14) rfl (by rw [ha]; decide) (hA 14 (by kernel_rfl))
      cases hP : ((true && ((decide (0 ≤ b)) == true)) && ((decide (ys < zs)) == false)) with
      | false => exact Rg.op_none (o := ⟨some 110, _, _, _, _, _⟩) rfl (Rg.unwanted_c (g := 14) rfl rfl qg hP) ⟨_, rfl, (fun h => by cases h), Rg.cond_f hP, hI, fun _ _ _ _ h => h⟩
      | true =>
        have hw := Rg.wanted_c (ops := (Rg.opsOf Try.f8 25)) (o := (Rg.opsOf Try.f8 25)[17]'(by rw [sizeSf25]; decide)) (g := 14) rfl rfl qg hP
        have g1 := Rg.pc_r hP
        have p1 := Rg.pc_l hP
        have g0 := Rg.pc_r p1
        have q108 : bb.tmps[108]? = some (.slice (some ⟨G, 0, none⟩) n cap) := hf.tmp (k := 15) rfl (by rw [ha]; decide) (Eq.trans (hA 15 (by kernel_rfl)) (Rg.cond_t hP))
        have q109 : bb.tmps[109]? = some (.int .i64 (i : Nat)) := hf.tmp (k := 16) rfl (by rw [ha]; decide) (Eq.trans (hA 16 (by kernel_rfl)) (Rg.cond_t hP))
        have hin2 : (i : Int) < (n : Int) := by omega
        exact Rg.op_value (o := ⟨some 110, Op.indexAddr 24 (Operand.tmp 108) (Operand.tmp 109), _, _, _, _⟩) (x := .pointer (some ⟨G, i * 5, none⟩)) rfl hw (by clear hA HS hN hO hbb z0 z1; simp only [execOp]; go_simp) ⟨_, rfl, (fun h => by cases h), (Rg.cond_t hP).symm, hI, fun _ _ _ _ h => h⟩
    · intro ll bb w' hs hlf hN hO hf hI hA
      clear hi'
      have qg : bb.tmps[107]? = some (cond (true && ((decide (0 ≤ b)) == true)) (.bool (decide (ys < zs))) undef) := hf.tmp (k := 14) rfl (by rw [ha]; decide) (hA 14 (by kernel_rfl))
      cases hP : ((true && ((decide (0 ≤ b)) == true)) && ((decide (ys < zs)) == false)) with
      | false => exact Rg.op_none (o := ⟨some 111, _, _, _, _, _⟩) rfl (Rg.unwanted_c (g := 14) rfl rfl qg hP) ⟨_, rfl, (fun h => by cases h), Rg.cond_f hP, hI, fun _ _ _ _ h => h⟩
      | true =>
        have hw := Rg.wanted_c (ops := (Rg.opsOf Try.f8 25)) (o := (Rg.opsOf Try.f8 25)[18]'(by rw [sizeSf25]; decide)) (g := 14) rfl rfl qg hP
        have g1 := Rg.pc_r hP
        have p1 := Rg.pc_l hP
        have g0 := Rg.pc_r p1
        have q110 : bb.tmps[110]? = some (.pointer (some ⟨G, i * 5, none⟩)) := hf.tmp (k := 17) rfl (by rw [ha]; decide) (Eq.trans (hA 17 (by kernel_rfl)) (Rg.cond_t hP))
        exact Rg.op_value (o := ⟨some 111, Op.fieldAddr 29 (Operand.tmp 110) 1, _, _, _, _⟩) (x := .pointer (some ⟨G, i * 5 + 1, none⟩)) rfl hw (by clear hA HS hN hO hbb z0 z1; simp only [execOp]; go_simp) ⟨_, rfl, (fun h => by cases h), (Rg.cond_t hP).symm, hI, fun _ _ _ _ h => h⟩
    · intro ll bb w' hs hlf hN hO hf hI hA
      clear hi'
      have qg : bb.tmps[107]? = some (cond (true && ((decide (0 ≤ b)) == true)) (.bool (decide (ys < zs))) undef) := hf.tmp (k := 14) rfl (by rw [ha]; decide) (hA 14 (by kernel_rfl))
      cases hP : ((true && ((decide (0 ≤ b)) == true)) && ((decide (ys < zs)) == false)) with
      | false => exact Rg.op_none (o := ⟨some 112, _, _, _, _, _⟩) rfl (Rg.unwanted_c (g := 14) rfl rfl qg hP) ⟨_, rfl, (fun h => by cases h), Rg.cond_f hP, hI, fun _ _ _ _ h => h⟩
      | true =>
        have hw := Rg.wanted_c (ops := (Rg.opsOf Try.f8 25)) (o := (Rg.opsOf Try.f8 25)[19]'(by rw [sizeSf25]; decide)) (g := 14) rfl rfl qg hP
        have g1 := Rg.pc_r hP
        have p1 := Rg.pc_l hP
        have g0 := Rg.pc_r p1
        have q111 : bb.tmps[111]? = some (.pointer (some ⟨G, i * 5 + 1, none⟩)) := hf.tmp (k := 18) rfl (by rw [ha]; decide) (Eq.trans (hA 18 (by kernel_rfl)) (Rg.cond_t hP))
        have e0 := (hI.cell (p := ⟨G, i * 5 + 1, none⟩) hGl).trans y1
        exact Rg.op_value (o := ⟨some 112, Op.load 2 (Operand.tmp 111), _, _, _, _⟩) (x := .int .i64 ys) rfl hw (by clear hA HS hN hO hbb z0 z1; simp only [execOp]; go_simp) ⟨_, rfl, (fun h => by cases h), (Rg.cond_t hP).symm, hI, fun _ _ _ _ h => h⟩
    · intro ll bb w' hs hlf hN hO hf hI hA
      clear hi'
      have qg : bb.tmps[107]? = some (cond (true && ((decide (0 ≤ b)) == true)) (.bool (decide (ys < zs))) undef) := hf.tmp (k := 14) rfl (by rw [ha]; decide) (hA 14 (by kernel_rfl))
      cases hP : ((true && ((decide (0 ≤ b)) == true)) && ((decide (ys < zs)) == false)) with
      | false => exact Rg.op_none (o := ⟨some 113, _, _, _, _, _⟩) rfl (Rg.unwanted_c (g := 14) rfl rfl qg hP) ⟨_, rfl, (fun h => by cases h), Rg.cond_f hP, hI, fun _ _ _ _ h => h⟩
      | true =>
        have hw := Rg.wanted_c (ops := (Rg.opsOf Try.f8 25)) (o := (Rg.opsOf Try.f8 25)[20]'(by rw [sizeSf25]; decide)) (g := 14) rfl rfl qg hP
        have g1 := Rg.pc_r hP
        have p1 := Rg.pc_l hP
        have g0 := Rg.pc_r p1
        have q0 := hf.kept (s := 4) (by rw [sizeSf25]; kernel_rfl) k4
        exact Rg.op_value (o := ⟨some 113, Op.move (Operand.tmp 4), _, _, _, _⟩) (x := .slice (some ⟨G, 0, none⟩) n cap) rfl hw (by clear hA HS hN hO hbb z0 z1; simp only [execOp]; go_simp) ⟨_, rfl, (fun h => by cases h), (Rg.cond_t hP).symm, hI, fun _ _ _ _ h => h⟩
    · intro ll bb w' hs hlf hN hO hf hI hA
      clear hi'
      have qg : bb.tmps[107]? = some (cond (true && ((decide (0 ≤ b)) == true)) (.bool (decide (ys < zs))) undef) := hf.tmp (k := 14) rfl (by rw [ha]; decide) (hA 14 (by kernel_rfl))
      cases hP : ((true && ((decide (0 ≤ b)) == true)) && ((decide (ys < zs)) == false)) with
      | false => exact Rg.op_none (o := ⟨some 114, _, _, _, _, _⟩) rfl (Rg.unwanted_c (g := 14) rfl rfl qg hP) ⟨_, rfl, (fun h => by cases h), Rg.cond_f hP, hI, fun _ _ _ _ h => h⟩
      | true =>
        have hw := Rg.wanted_c (ops := (Rg.opsOf Try.f8 25)) (o := (Rg.opsOf Try.f8 25)[21]'(by rw [sizeSf25]; decide)) (g := 14) rfl rfl qg hP
        have g1 := Rg.pc_r hP
        have p1 := Rg.pc_l hP
        have g0 := Rg.pc_r p1
        have q0 := hf.kept (s := 9) (by rw [sizeSf25]; kernel_rfl) k9
        exact Rg.op_value (o := ⟨some 114, Op.move (Operand.tmp 9), _, _, _, _⟩) (x := .int .i64 b) rfl hw (by clear hA HS hN hO hbb z0 z1; simp only [execOp]; go_simp) ⟨_, rfl, (fun h => by cases h), (Rg.cond_t hP).symm, hI, fun _ _ _ _ h => h⟩
    · intro ll bb w' hs hlf hN hO hf hI hA
      clear hi'
      have qg : bb.tmps[107]? = some (cond (true && ((decide (0 ≤ b)) == true)) (.bool (decide (ys < zs))) undef) := hf.tmp (k := 14) rfl (by rw [ha]; decide) (hA 14 (by kernel_rfl))
      cases hP : ((true && ((decide (0 ≤ b)) == true)) && ((decide (ys < zs)) == false)) with
      | false => exact Rg.op_none (o := ⟨some 115, _, _, _, _, _⟩) rfl (Rg.unwanted_c (g := 14) rfl rfl qg hP) ⟨_, rfl, (fun h => by cases h), Rg.cond_f hP, hI, fun _ _ _ _ h => h⟩
      | true =>
        have hw := Rg.wanted_c (ops := (Rg.opsOf Try.f8 25)) (o := (Rg.opsOf Try.f8 25)[22]'(by rw [sizeSf25]; decide)) (g := 14) rfl rfl qg hP
        have g1 := Rg.pc_r hP
        have p1 := Rg.pc_l hP
        have g0 := Rg.pc_r p1
        have q113 : bb.tmps[113]? = some (.slice (some ⟨G, 0, none⟩) n cap) := hf.tmp (k := 20) rfl (by rw [ha]; decide) (Eq.trans (hA 20 (by kernel_rfl)) (Rg.cond_t hP))
        have q114 : bb.tmps[114]? = some (.int .i64 b) := hf.tmp (k := 21) rfl (by rw [ha]; decide) (Eq.trans (hA 21 (by kernel_rfl)) (Rg.cond_t hP))
        have hb0 : 0 ≤ b := by have := g0; simp at this; omega
        obtain ⟨hbe, hbn⟩ := hbb hb0
        have hi2 : b < (n : Int) := by omega
        have ht : b.toNat = bn := by omega
        exact Rg.op_value (o := ⟨some 115, Op.indexAddr 24 (Operand.tmp 113) (Operand.tmp 114), _, _, _, _⟩) (x := .pointer (some ⟨G, bn * 5, none⟩)) rfl hw (by clear hA HS hN hO hbb z0 z1; simp only [execOp]; go_simp) ⟨_, rfl, (fun h => by cases h), (Rg.cond_t hP).symm, hI, fun _ _ _ _ h => h⟩
    · intro ll bb w' hs hlf hN hO hf hI hA
      clear hi'
      have qg : bb.tmps[107]? = some (cond (true && ((decide (0 ≤ b)) == true)) (.bool (decide (ys < zs))) undef) := hf.tmp (k := 14) rfl (by rw [ha]; decide) (hA 14 (by kernel_rfl))
      cases hP : ((true && ((decide (0 ≤ b)) == true)) && ((decide (ys < zs)) == false)) with
      | false => exact Rg.op_none (o := ⟨some 116, _, _, _, _, _⟩) rfl (Rg.unwanted_c (g := 14) rfl rfl qg hP) ⟨_, rfl, (fun h => by cases h), Rg.cond_f hP, hI, fun _ _ _ _ h => h⟩
      | true =>
        have hw := Rg.wanted_c (ops := (Rg.opsOf Try.f8 25)) (o := (Rg.opsOf Try.f8 25)[23]'(by rw [sizeSf25]; decide)) (g := 14) rfl rfl qg hP
        have g1 := Rg.pc_r hP
        have p1 := Rg.pc_l hP
        have g0 := Rg.pc_r p1
        have q115 : bb.tmps[115]? = some (.pointer (some ⟨G, bn * 5, none⟩)) := hf.tmp (k := 22) rfl (by rw [ha]; decide) (Eq.trans (hA 22 (by kernel_rfl)) (Rg.cond_t hP))
        exact Rg.op_value (o := ⟨some 116, Op.fieldAddr 29 (Operand.tmp 115) 1, _, _, _, _⟩) (x := .pointer (some ⟨G, bn * 5 + 1, none⟩)) rfl hw (by clear hA HS hN hO hbb z0 z1; simp only [execOp]; go_simp) ⟨_, rfl, (fun h => by cases h), (Rg.cond_t hP).symm, hI, fun _ _ _ _ h => h⟩
    · intro ll bb w' hs hlf hN hO hf hI hA
      clear hi'
      have qg : bb.tmps[107]? = some (cond (true && ((decide (0 ≤ b)) == true)) (.bool (decide (ys < zs))) undef) := hf.tmp (k := 14) rfl (by rw [ha]; decide) (hA 14 (by kernel_rfl))
      cases hP : ((true && ((decide (0 ≤ b)) == true)) && ((decide (ys < zs)) == false)) with
      | false => exact Rg.op_none (o := ⟨some 117, _, _, _, _, _⟩) rfl (Rg.unwanted_c (g := 14) rfl rfl qg hP) ⟨_, rfl, (fun h => by cases h), Rg.cond_f hP, hI, fun _ _ _ _ h => h⟩
      | true =>
        have hw := Rg.wanted_c (ops := (Rg.opsOf Try.f8 25)) (o := (Rg.opsOf Try.f8 25)[24]'(by rw [sizeSf25]; decide)) (g := 14) rfl rfl qg hP
        have g1 := Rg.pc_r hP
        have p1 := Rg.pc_l hP
        have g0 := Rg.pc_r p1
        have q116 : bb.tmps[116]? = some (.pointer (some ⟨G, bn * 5 + 1, none⟩)) := hf.tmp (k := 23) rfl (by rw [ha]; decide) (Eq.trans (hA 23 (by kernel_rfl)) (Rg.cond_t hP))
        have hb0 : 0 ≤ b := by have := g0; simp at this; omega
        obtain ⟨hbe, hbn⟩ := hbb hb0
        have e0 := (hI.cell (p := ⟨G, bn * 5 + 1, none⟩) hGl).trans (z1 hb0)
        exact Rg.op_value (o := ⟨some 117, Op.load 2 (Operand.tmp 116), _, _, _, _⟩) (x := .int .i64 zs) rfl hw (by clear hA HS hN hO hbb z0 z1; simp only [execOp]; go_simp) ⟨_, rfl, (fun h => by cases h), (Rg.cond_t hP).symm, hI, fun _ _ _ _ h => h⟩
    · intro ll bb w' hs hlf hN hO hf hI hA
      clear hi'
      have qg : bb.tmps[107]? = some (cond (true && ((decide (0 ≤ b)) == true)) (.bool (decide (ys < zs))) undef) := hf.tmp (k := 14) rfl (by rw [ha]; decide) (hA 14 (by kernel_rfl))
      cases hP : ((true && ((decide (0 ≤ b)) == true)) && ((decide (ys < zs)) == false)) with
      | false => exact Rg.op_none (o := ⟨some 118, _, _, _, _, _⟩) rfl (Rg.unwanted_c (g := 14) rfl rfl qg hP) ⟨_, rfl, (fun h => by cases h), Rg.cond_f hP, hI, fun _ _ _ _ h => h⟩
      | true =>
        have hw := Rg.wanted_c (ops := (Rg.opsOf Try.f8 25)) (o := (Rg.opsOf Try.f8 25)[25]'(by rw [sizeSf25]; decide)) (g := 14) rfl rfl qg hP
        have g1 := Rg.pc_r hP
        have p1 := Rg.pc_l hP
        have g0 := Rg.pc_r p1
        have q112 : bb.tmps[112]? = some (.int .i64 ys) := hf.tmp (k := 19) rfl (by rw [ha]; decide) (Eq.trans (hA 19 (by kernel_rfl)) (Rg.cond_t hP))
        have q117 : bb.tmps[117]? = some (.int .i64 zs) := hf.tmp (k := 24) rfl (by rw [ha]; decide) (Eq.trans (hA 24 (by kernel_rfl)) (Rg.cond_t hP))
        exact Rg.op_value (o := ⟨some 118, Op.binOp BinOp.eql 2 (Operand.tmp 112) (Operand.tmp 117) 2, _, _, _, _⟩) (x := .bool (ys == zs)) rfl hw (by clear hA HS hN hO hbb z0 z1; simp only [execOp]; go_simp) ⟨_, rfl, (fun h => by cases h), (Rg.cond_t hP).symm, hI, fun _ _ _ _ h => h⟩
    · intro ll bb w' hs hlf hN hO hf hI hA
      clear hi'
      have qg : bb.tmps[107]? = some (cond (true && ((decide (0 ≤ b)) == true)) (.bool (decide (ys < zs))) undef) := hf.tmp (k := 14) rfl (by rw [ha]; decide) (hA 14 (by kernel_rfl))
      cases hP : ((true && ((decide (0 ≤ b)) == true)) && ((decide (ys < zs)) == false)) with
      | false => exact Rg.op_none (o := ⟨some 119, _, _, _, _, _⟩) rfl (Rg.unwanted_c (g := 14) rfl rfl qg hP) ⟨_, rfl, (fun h => by cases h), Rg.cond_f hP, hI, fun _ _ _ _ h => h⟩
      | true =>
        have hw := Rg.wanted_c (ops := (Rg.opsOf Try.f8 25)) (o := (Rg.opsOf Try.f8 25)[26]'(by rw [sizeSf25]; decide)) (g := 14) rfl rfl qg hP
        have g1 := Rg.pc_r hP
        have p1 := Rg.pc_l hP
        have g0 := Rg.pc_r p1
        have q118 : bb.tmps[118]? = some (.bool (ys == zs)) := hf.tmp (k := 25) rfl (by rw [ha]; decide) (Eq.trans (hA 25 (by kernel_rfl)) (Rg.cond_t hP))
        exact Rg.op_value (o := ⟨some 119, Op.move (Operand.tmp 118), _, _, _, _⟩) (x := .bool (ys == zs)) rfl hw (by clear hA HS hN hO hbb z0 z1; simp only [execOp]; go_simp) ⟨_, rfl, (fun h => by cases h), (Rg.cond_t hP).symm, hI, fun _ _ _ _ h => h⟩
    · intro ll bb w' hs hlf hN hO hf hI hA
      clear hi'
      have qg : bb.tmps[119]? = some (cond ((true && ((decide (0 ≤ b)) == true)) && ((decide (ys < zs)) == false)) (.bool (ys == zs)) undef) := hf.tmp (k := 26) rfl (by rw [ha]; decide) (hA 26 (by kernel_rfl))
      cases hP : (((true && ((decide (0 ≤ b)) == true)) && ((decide (ys < zs)) == false)) && ((ys == zs) == true)) with
      | false => exact Rg.op_none (o := ⟨some 120, _, _, _, _, _⟩) rfl (Rg.unwanted_c (g := 26) rfl rfl qg hP) ⟨_, rfl, (fun h => by cases h), Rg.cond_f hP, hI, fun _ _ _ _ h => h⟩
      | true =>
        have hw := Rg.wanted_c (ops := (Rg.opsOf Try.f8 25)) (o := (Rg.opsOf Try.f8 25)[27]'(by rw [sizeSf25]; decide)) (g := 26) rfl rfl qg hP
        have g2 := Rg.pc_r hP
        have p2 := Rg.pc_l hP
        have g1 := Rg.pc_r p2
        have p1 := Rg.pc_l p2
        have g0 := Rg.pc_r p1
        have q0 := hf.kept (s := 4) (by rw [sizeSf25]; kernel_rfl) k4
        exact Rg.op_value (o := ⟨some 120, Op.move (Operand.tmp 4), _, _, _, _⟩) (x := .slice (some ⟨G, 0, none⟩) n cap) rfl hw (by clear hA HS hN hO hbb z0 z1; simp only [execOp]; go_simp) ⟨_, rfl, (fun h => by cases h), (Rg.cond_t hP).symm, hI, fun _ _ _ _ h => h⟩
    · intro ll bb w' hs hlf hN hO hf hI hA
      clear hi'
      have qg : bb.tmps[119]? = some (cond ((true && ((decide (0 ≤ b)) == true)) && ((decide (ys < zs)) == false)) (.bool (ys == zs)) undef) := hf.tmp (k := 26) rfl (by rw [ha]; decide) (hA 26 (by kernel_rfl))
      cases hP : (((true && ((decide (0 ≤ b)) == true)) && ((decide (ys < zs)) == false)) && ((ys == zs) == true)) with
      | false => exact Rg.op_none (o := ⟨some 121, _, _, _, _, _⟩) rfl (Rg.unwanted_c (g := 26) rfl rfl qg hP) ⟨_, rfl, (fun h => by cases h), Rg.cond_f hP, hI, fun _ _ _ _ h => h⟩
      | true =>
        have hw := Rg.wanted_c (ops := (Rg.opsOf Try.f8 25)) (o := (Rg.opsOf Try.f8 25)[28]'(by rw [sizeSf25]; decide)) (g := 26) rfl rfl qg hP
        have g2 := Rg.pc_r hP
        have p2 := Rg.pc_l hP
        have g1 := Rg.pc_r p2
        have p1 := Rg.pc_l p2
        have g0 := Rg.pc_r p1
        have q0 := hf.kept (s := 10) (by rw [sizeSf25]; kernel_rfl) k10
        exact Rg.op_value (o := ⟨some 121, Op.move (Operand.tmp 10), _, _, _, _⟩) (x := .int .i64 (i : Nat)) rfl hw (by clear hA HS hN hO hbb z0 z1; simp only [execOp]; go_simp) ⟨_, rfl, (fun h => by cases h), (Rg.cond_t hP).symm, hI, fun _ _ _ _ h => h⟩
    · intro ll bb w' hs hlf hN hO hf hI hA
      clear hi'
      have qg : bb.tmps[119]? = some (cond ((true && ((decide (0 ≤ b)) == true)) && ((decide (ys < zs)) == false)) (.bool (ys == zs)) undef) := hf.tmp (k := 26) rfl (by rw [ha]; decide) (hA 26 (by kernel_rfl))
      cases hP : (((true && ((decide (0 ≤ b)) == true)) && ((decide (ys < zs)) == false)) && ((ys == zs) == true)) with
      | false => exact Rg.op_none (o := ⟨some 122, _, _, _, _, _⟩) rfl (Rg.unwanted_c (g := 26) rfl rfl qg hP) ⟨_, rfl, (fun h => by cases h), Rg.cond_f hP, hI, fun _ _ _ _ h => h⟩
      | true =>
        have hw := Rg.wanted_c (ops := (Rg.opsOf Try.f8 25)) (o := (Rg.opsOf Try.f8 25)[29]'(by rw [sizeSf25]; decide)) (g := 26) rfl rfl qg hP
        have g2 := Rg.pc_r hP
        have p2 := Rg.pc_l hP
        have g1 := Rg.pc_r p2
        have p1 := Rg.pc_l p2
        have g0 := Rg.pc_r p1
        have q120 : bb.tmps[120]? = some (.slice (some ⟨G, 0, none⟩) n cap) := hf.tmp (k := 27) rfl (by rw [ha]; decide) (Eq.trans (hA 27 (by kernel_rfl)) (Rg.cond_t hP))
        have q121 : bb.tmps[121]? = some (.int .i64 (i : Nat)) := hf.tmp (k := 28) rfl (by rw [ha]; decide) (Eq.trans (hA 28 (by kernel_rfl)) (Rg.cond_t hP))
        have hin2 : (i : Int) < (n : Int) := by omega
        exact Rg.op_value (o := ⟨some 122, Op.indexAddr 24 (Operand.tmp 120) (Operand.tmp 121), _, _, _, _⟩) (x := .pointer (some ⟨G, i * 5, none⟩)) rfl hw (by clear hA HS hN hO hbb z0 z1; simp only [execOp]; go_simp) ⟨_, rfl, (fun h => by cases h), (Rg.cond_t hP).symm, hI, fun _ _ _ _ h => h⟩
    · intro ll bb w' hs hlf hN hO hf hI hA
      clear hi'
      have qg : bb.tmps[119]? = some (cond ((true && ((decide (0 ≤ b)) == true)) && ((decide (ys < zs)) == false)) (.bool (ys == zs)) undef) := hf.tmp (k := 26) rfl (by rw [ha]; decide) (hA 26 (by kernel_rfl))
      cases hP : (((true && ((decide (0 ≤ b)) == true)) && ((decide (ys < zs)) == false)) && ((ys == zs) == true)) with
      | false => exact Rg.op_none (o := ⟨some 123, _, _, _, _, _⟩) rfl (Rg.unwanted_c (g := 26) rfl rfl qg hP) ⟨_, rfl, (fun h => by cases h), Rg.cond_f hP, hI, fun _ _ _ _ h => h⟩
      | true =>
        have hw := Rg.wanted_c (ops := (Rg.opsOf Try.f8 25)) (o := (Rg.opsOf Try.f8 25)[30]'(by rw [sizeSf25]; decide)) (g := 26) rfl rfl qg hP
        have g2 := Rg.pc_r hP
        have p2 := Rg.pc_l hP
        have g1 := Rg.pc_r p2
        have p1 := Rg.pc_l p2
        have g0 := Rg.pc_r p1
        have q122 : bb.tmps[122]? = some (.pointer (some ⟨G, i * 5, none⟩)) := hf.tmp (k := 29) rfl (by rw [ha]; decide) (Eq.trans (hA 29 (by kernel_rfl)) (Rg.cond_t hP))
        exact Rg.op_value (o := ⟨some 123, Op.fieldAddr 29 (Operand.tmp 122) 0, _, _, _, _⟩) (x := .pointer (some ⟨G, i * 5, none⟩)) rfl hw (by clear hA HS hN hO hbb z0 z1; simp only [execOp]; go_simp) ⟨_, rfl, (fun h => by cases h), (Rg.cond_t hP).symm, hI, fun _ _ _ _ h => h⟩
    · intro ll bb w' hs hlf hN hO hf hI hA
      clear hi'
      have qg : bb.tmps[119]? = some (cond ((true && ((decide (0 ≤ b)) == true)) && ((decide (ys < zs)) == false)) (.bool (ys == zs)) undef) := hf.tmp (k := 26) rfl (by rw [ha]; decide) (hA 26 (by kernel_rfl))
      cases hP : (((true && ((decide (0 ≤ b)) == true)) && ((decide (ys < zs)) == false)) && ((ys == zs) == true)) with
      | false => exact Rg.op_none (o := ⟨some 124, _, _, _, _, _⟩) rfl (Rg.unwanted_c (g := 26) rfl rfl qg hP) ⟨_, rfl, (fun h => by cases h), Rg.cond_f hP, hI, fun _ _ _ _ h => h⟩
      | true =>
        have hw := Rg.wanted_c (ops := (Rg.opsOf Try.f8 25)) (o := (Rg.opsOf Try.f8 25)[31]'(by rw [sizeSf25]; decide)) (g := 26) rfl rfl qg hP
        have g2 := Rg.pc_r hP
        have p2 := Rg.pc_l hP
        have g1 := Rg.pc_r p2
        have p1 := Rg.pc_l p2
        have g0 := Rg.pc_r p1
        have q123 : bb.tmps[123]? = some (.pointer (some ⟨G, i * 5, none⟩)) := hf.tmp (k := 30) rfl (by rw [ha]; decide) (Eq.trans (hA 30 (by kernel_rfl)) (Rg.cond_t hP))
        have e0 := (hI.cell (p := ⟨G, i * 5, none⟩) hGl).trans y0
        exact Rg.op_value (o := ⟨some 124, Op.load 2 (Operand.tmp 123), _, _, _, _⟩) (x := .int .i64 yf) rfl hw (by clear hA HS hN hO hbb z0 z1; simp only [execOp]; go_simp) ⟨_, rfl, (fun h => by cases h), (Rg.cond_t hP).symm, hI, fun _ _ _ _ h => h⟩
    · intro ll bb w' hs hlf hN hO hf hI hA
      clear hi'
      have qg : bb.tmps[119]? = some (cond ((true && ((decide (0 ≤ b)) == true)) && ((decide (ys < zs)) == false)) (.bool (ys == zs)) undef) := hf.tmp (k := 26) rfl (by rw [ha]; decide) (hA 26 (by kernel_rfl))
      cases hP : (((true && ((decide (0 ≤ b)) == true)) && ((decide (ys < zs)) == false)) && ((ys == zs) == true)) with
      | false => exact Rg.op_none (o := ⟨some 125, _, _, _, _, _⟩) rfl (Rg.unwanted_c (g := 26) rfl rfl qg hP) ⟨_, rfl, (fun h => by cases h), Rg.cond_f hP, hI, fun _ _ _ _ h => h⟩
      | true =>
        have hw := Rg.wanted_c (ops := (Rg.opsOf Try.f8 25)) (o := (Rg.opsOf Try.f8 25)[32]'(by rw [sizeSf25]; decide)) (g := 26) rfl rfl qg hP
        have g2 := Rg.pc_r hP
        have p2 := Rg.pc_l hP
        have g1 := Rg.pc_r p2
        have p1 := Rg.pc_l p2
        have g0 := Rg.pc_r p1
        have q0 := hf.kept (s := 4) (by rw [sizeSf25]; kernel_rfl) k4
        exact Rg.op_value (o := ⟨some 125, Op.move (Operand.tmp 4), _, _, _, _⟩) (x := .slice (some ⟨G, 0, none⟩) n cap) rfl hw (by clear hA HS hN hO hbb z0 z1; simp only [execOp]; go_simp) ⟨_, rfl, (fun h => by cases h), (Rg.cond_t hP).symm, hI, fun _ _ _ _ h => h⟩
    · intro ll bb w' hs hlf hN hO hf hI hA
      clear hi'
      have qg : bb.tmps[119]? = some (cond ((true && ((decide (0 ≤ b)) == true)) && ((decide (ys < zs)) == false)) (.bool (ys == zs)) undef) := hf.tmp (k := 26) rfl (by rw [ha]; decide) (hA 26 (by kernel_rfl))
      cases hP : (((true && ((decide (0 ≤ b)) == true)) && ((decide (ys < zs)) == false)) && ((ys == zs) == true)) with
      | false => exact Rg.op_none (o := ⟨some 126, _, _, _, _, _⟩) rfl (Rg.unwanted_c (g := 26) rfl rfl qg hP) ⟨_, rfl, (fun h => by cases h), Rg.cond_f hP, hI, fun _ _ _ _ h => h⟩
      | true =>
        have hw := Rg.wanted_c (ops := (Rg.opsOf Try.f8 25)) (o := (Rg.opsOf Try.f8 25)[33]'(by rw [sizeSf25]; decide)) (g := 26) rfl rfl qg hP
        have g2 := Rg.pc_r hP
        have p2 := Rg.pc_l hP
        have g1 := Rg.pc_r p2
        have p1 := Rg.pc_l p2
        have g0 := Rg.pc_r p1
        have q0 := hf.kept (s := 9) (by rw [sizeSf25]; kernel_rfl) k9
        exact Rg.op_value (o := ⟨some 126, Op.move (Operand.tmp 9), _, _, _, _⟩) (x := .int .i64 b) rfl hw (by clear hA HS hN hO hbb z0 z1; simp only [execOp]; go_simp) ⟨_, rfl, (fun h => by cases h), (Rg.cond_t hP).symm, hI, fun _ _ _ _ h => h⟩
    · intro ll bb w' hs hlf hN hO hf hI hA
      clear hi'
      have qg : bb.tmps[119]? = some (cond ((true && ((decide (0 ≤ b)) == true)) && ((decide (ys < zs)) == false)) (.bool (ys == zs)) undef) := hf.tmp (k := 26) rfl (by rw [ha]; decide) (hA 26 (by kernel_rfl))
      cases hP : (((true && ((decide (0 ≤ b)) == true)) && ((decide (ys < zs)) == false)) && ((ys == zs) == true)) with
      | false => exact Rg.op_none (o := ⟨some 127, _, _, _, _, _⟩) rfl (Rg.unwanted_c (g := 26) rfl rfl qg hP) ⟨_, rfl, (fun h => by cases h), Rg.cond_f hP, hI, fun _ _ _ _ h => h⟩
      | true =>
        have hw := Rg.wanted_c (ops := (Rg.opsOf Try.f8 25)) (o := (Rg.opsOf Try.f8 25)[34]'(by rw [sizeSf25]; decide)) (g := 26) rfl rfl qg hP
        have g2 := Rg.pc_r hP
        have p2 := Rg.pc_l hP
        have g1 := Rg.pc_r p2
        have p1 := Rg.pc_l p2
        have g0 := Rg.pc_r p1
        have q125 : bb.tmps[125]? = some (.slice (some ⟨G, 0, none⟩) n cap) := hf.tmp (k := 32) rfl (by rw [ha]; decide) (Eq.trans (hA 32 (by kernel_rfl)) (Rg.cond_t hP))
        have q126 : bb.tmps[126]? = some (.int .i64 b) := hf.tmp (k := 33) rfl (by rw [ha]; decide) (Eq.trans (hA 33 (by kernel_rfl)) (Rg.cond_t hP))
        have hb0 : 0 ≤ b := by have := g0; simp at this; omega
        obtain ⟨hbe, hbn⟩ := hbb hb0
        have hi2 : b < (n : Int) := by omega
        have ht : b.toNat = bn := by omega
        exact Rg.op_value (o := ⟨some 127, Op.indexAddr 24 (Operand.tmp 125) (Operand.tmp 126), _, _, _, _⟩) (x := .pointer (some ⟨G, bn * 5, none⟩)) rfl hw (by clear hA HS hN hO hbb z0 z1; simp only [execOp]; go_simp) ⟨_, rfl, (fun h => by cases h), (Rg.cond_t hP).symm, hI, fun _ _ _ _ h => h⟩
    · intro ll bb w' hs hlf hN hO hf hI hA
      clear hi'
      have qg : bb.tmps[119]? = some (cond ((true && ((decide (0 ≤ b)) == true)) && ((decide (ys < zs)) == false)) (.bool (ys == zs)) undef) := hf.tmp (k := 26) rfl (by rw [ha]; decide) (hA 26 (by kernel_rfl))
      cases hP : (((true && ((decide (0 ≤ b)) == true)) && ((decide (ys < zs)) == false)) && ((ys == zs) == true)) with
      | false => exact Rg.op_none (o := ⟨some 128, _, _, _, _, _⟩) rfl (Rg.unwanted_c (g := 26) rfl rfl qg hP) ⟨_, rfl, (fun h => by cases h), Rg.cond_f hP, hI, fun _ _ _ _ h => h⟩
      | true =>
        have hw := Rg.wanted_c (ops := (Rg.opsOf Try.f8 25)) (o := (Rg.opsOf Try.f8 25)[35]'(by rw [sizeSf25]; decide)) (g := 26) rfl rfl qg hP
        have g2 := Rg.pc_r hP
        have p2 := Rg.pc_l hP
        have g1 := Rg.pc_r p2
        have p1 := Rg.pc_l p2
        have g0 := Rg.pc_r p1
        have q127 : bb.tmps[127]? = some (.pointer (some ⟨G, bn * 5, none⟩)) := hf.tmp (k := 34) rfl (by rw [ha]; decide) (Eq.trans (hA 34 (by kernel_rfl)) (Rg.cond_t hP))
        exact Rg.op_value (o := ⟨some 128, Op.fieldAddr 29 (Operand.tmp 127) 0, _, _, _, _⟩) (x := .pointer (some ⟨G, bn * 5, none⟩)) rfl hw (by clear hA HS hN hO hbb z0 z1; simp only [execOp]; go_simp) ⟨_, rfl, (fun h => by cases h), (Rg.cond_t hP).symm, hI, fun _ _ _ _ h => h⟩
    · intro ll bb w' hs hlf hN hO hf hI hA
      clear hi'
      have qg : bb.tmps[119]? = some (cond ((true && ((decide (0 ≤ b)) == true)) && ((decide (ys < zs)) == false)) (.bool (ys == zs)) undef) := hf.tmp (k := 26) rfl (by rw [ha]; decide) (hA 26 (by kernel_rfl))
      cases hP : (((true && ((decide (0 ≤ b)) == true)) && ((decide (ys < zs)) == false)) && ((ys == zs) == true)) with
      | false => exact Rg.op_none (o := ⟨some 129, _, _, _, _, _⟩) rfl (Rg.unwanted_c (g := 26) rfl rfl qg hP) ⟨_, rfl, (fun h => by cases h), Rg.cond_f hP, hI, fun _ _ _ _ h => h⟩
      | true =>
        have hw := Rg.wanted_c (ops := (Rg.opsOf Try.f8 25)) (o := (Rg.opsOf Try.f8 25)[36]'(by rw [sizeSf25]; decide)) (g := 26) rfl rfl qg hP
        have g2 := Rg.pc_r hP
        have p2 := Rg.pc_l hP
        have g1 := Rg.pc_r p2
        have p1 := Rg.pc_l p2
        have g0 := Rg.pc_r p1
        have q128 : bb.tmps[128]? = some (.pointer (some ⟨G, bn * 5, none⟩)) := hf.tmp (k := 35) rfl (by rw [ha]; decide) (Eq.trans (hA 35 (by kernel_rfl)) (Rg.cond_t hP))
        have hb0 : 0 ≤ b := by have := g0; simp at this; omega
        obtain ⟨hbe, hbn⟩ := hbb hb0
        have e0 := (hI.cell (p := ⟨G, bn * 5, none⟩) hGl).trans (z0 hb0)
        exact Rg.op_value (o := ⟨some 129, Op.load 2 (Operand.tmp 128), _, _, _, _⟩) (x := .int .i64 zf) rfl hw (by clear hA HS hN hO hbb z0 z1; simp only [execOp]; go_simp) ⟨_, rfl, (fun h => by cases h), (Rg.cond_t hP).symm, hI, fun _ _ _ _ h => h⟩
    · intro ll bb w' hs hlf hN hO hf hI hA
      clear hi'
      have qg : bb.tmps[119]? = some (cond ((true && ((decide (0 ≤ b)) == true)) && ((decide (ys < zs)) == false)) (.bool (ys == zs)) undef) := hf.tmp (k := 26) rfl (by rw [ha]; decide) (hA 26 (by kernel_rfl))
      cases hP : (((true && ((decide (0 ≤ b)) == true)) && ((decide (ys < zs)) == false)) && ((ys == zs) == true)) with
      | false => exact Rg.op_none (o := ⟨some 130, _, _, _, _, _⟩) rfl (Rg.unwanted_c (g := 26) rfl rfl qg hP) ⟨_, rfl, (fun h => by cases h), Rg.cond_f hP, hI, fun _ _ _ _ h => h⟩
      | true =>
        have hw := Rg.wanted_c (ops := (Rg.opsOf Try.f8 25)) (o := (Rg.opsOf Try.f8 25)[37]'(by rw [sizeSf25]; decide)) (g := 26) rfl rfl qg hP
        have g2 := Rg.pc_r hP
        have p2 := Rg.pc_l hP
        have g1 := Rg.pc_r p2
        have p1 := Rg.pc_l p2
        have g0 := Rg.pc_r p1
        have q124 : bb.tmps[124]? = some (.int .i64 yf) := hf.tmp (k := 31) rfl (by rw [ha]; decide) (Eq.trans (hA 31 (by kernel_rfl)) (Rg.cond_t hP))
        have q129 : bb.tmps[129]? = some (.int .i64 zf) := hf.tmp (k := 36) rfl (by rw [ha]; decide) (Eq.trans (hA 36 (by kernel_rfl)) (Rg.cond_t hP))
        exact Rg.op_value (o := ⟨some 130, Op.binOp BinOp.lss 2 (Operand.tmp 124) (Operand.tmp 129) 2, _, _, _, _⟩) (x := .bool (decide (yf < zf))) rfl hw (by clear hA HS hN hO hbb z0 z1; simp only [execOp]; go_simp) ⟨_, rfl, (fun h => by cases h), (Rg.cond_t hP).symm, hI, fun _ _ _ _ h => h⟩
    · intro ll bb w' hs hlf hN hO hf hI hA
      clear hi'
      have qg : bb.tmps[107]? = some (cond (true && ((decide (0 ≤ b)) == true)) (.bool (decide (ys < zs))) undef) := hf.tmp (k := 14) rfl (by rw [ha]; decide) (hA 14 (by kernel_rfl))
      cases hP : ((true && ((decide (0 ≤ b)) == true)) && ((decide (ys < zs)) == false)) with
      | false => exact Rg.op_none (o := ⟨some 131, _, _, _, _, _⟩) rfl (Rg.unwanted_c (g := 14) rfl rfl qg hP) ⟨_, rfl, (fun h => by cases h), Rg.cond_f hP, hI, fun _ _ _ _ h => h⟩
      | true =>
        have hw := Rg.wanted_c (ops := (Rg.opsOf Try.f8 25)) (o := (Rg.opsOf Try.f8 25)[38]'(by rw [sizeSf25]; decide)) (g := 14) rfl rfl qg hP
        have g1 := Rg.pc_r hP
        have p1 := Rg.pc_l hP
        have g0 := Rg.pc_r p1
        have q119 : bb.tmps[119]? = some (.bool (ys == zs)) := hf.tmp (k := 26) rfl (by rw [ha]; decide) (Eq.trans (hA 26 (by kernel_rfl)) (Rg.cond_t hP))
        cases hC : (ys == zs) with
        | false =>
          have hval : ((.bool ((ys == zs) && (decide (yf < zf))) : Value)) = .bool false := by rw [hC]; rfl
          exact Rg.op_value (o := ⟨some 131, Op.pick (Operand.tmp 119) (Operand.tmp 130) (Operand.const (Value.bool false)), _, _, _, _⟩) (x := .bool false) rfl hw (by rw [hC] at q119; clear hA HS hN hO hbb z0 z1 hval; simp only [execOp]; go_simp) ⟨_, rfl, (fun h => by cases h), (by show ((.bool false : Value)) = _; exact hval.symm.trans (Rg.cond_t hP).symm), hI, fun _ _ _ _ h => h⟩
        | true =>
          have hB : (((true && ((decide (0 ≤ b)) == true)) && ((decide (ys < zs)) == false)) && ((ys == zs) == true)) = true := by
            rw [hC]; first | rfl | (rw [hP]; rfl) | simp_all
          have q130 : bb.tmps[130]? = some (.bool (decide (yf < zf))) := hf.tmp (k := 37) rfl (by rw [ha]; decide) (Eq.trans (hA 37 (by kernel_rfl)) (Rg.cond_t hB))
          have hval : ((.bool ((ys == zs) && (decide (yf < zf))) : Value)) = .bool (decide (yf < zf)) := by rw [hC]; rfl
          exact Rg.op_value (o := ⟨some 131, Op.pick (Operand.tmp 119) (Operand.tmp 130) (Operand.const (Value.bool false)), _, _, _, _⟩) (x := .bool (decide (yf < zf))) rfl hw (by rw [hC] at q119; clear hA HS hN hO hbb z0 z1 hval; simp only [execOp]; go_simp) ⟨_, rfl, (fun h => by cases h), (by show ((.bool (decide (yf < zf)) : Value)) = _; exact hval.symm.trans (Rg.cond_t hP).symm), hI, fun _ _ _ _ h => h⟩
    · intro ll bb w' hs hlf hN hO hf hI hA
      clear hi'
      have qg : bb.tmps[95]? = some (cond true (.bool (decide (0 ≤ b))) undef) := hf.tmp (k := 2) rfl (by rw [ha]; decide) (hA 2 (by kernel_rfl))
      cases hP : (true && ((decide (0 ≤ b)) == true)) with
      | false => exact Rg.op_none (o := ⟨some 132, _, _, _, _, _⟩) rfl (Rg.unwanted_c (g := 2) rfl rfl qg hP) ⟨_, rfl, (fun h => by cases h), Rg.cond_f hP, hI, fun _ _ _ _ h => h⟩
      | true =>
        have hw := Rg.wanted_c (ops := (Rg.opsOf Try.f8 25)) (o := (Rg.opsOf Try.f8 25)[39]'(by rw [sizeSf25]; decide)) (g := 2) rfl rfl qg hP
        have g0 := Rg.pc_r hP
        have q107 : bb.tmps[107]? = some (.bool (decide (ys < zs))) := hf.tmp (k := 14) rfl (by rw [ha]; decide) (Eq.trans (hA 14 (by kernel_rfl)) (Rg.cond_t hP))
        cases hC : (decide (ys < zs)) with
        | false =>
          have hB : ((true && ((decide (0 ≤ b)) == true)) && ((decide (ys < zs)) == false)) = true := by
            rw [hC]; first | rfl | (rw [hP]; rfl) | simp_all
          have q131 : bb.tmps[131]? = some (.bool ((ys == zs) && (decide (yf < zf)))) := hf.tmp (k := 38) rfl (by rw [ha]; decide) (Eq.trans (hA 38 (by kernel_rfl)) (Rg.cond_t hB))
          have hval : ((.bool ((decide (ys < zs)) || ((ys == zs) && (decide (yf < zf)))) : Value)) = .bool ((ys == zs) && (decide (yf < zf))) := by rw [hC]; rfl
          exact Rg.op_value (o := ⟨some 132, Op.pick (Operand.tmp 107) (Operand.const (Value.bool true)) (Operand.tmp 131), _, _, _, _⟩) (x := .bool ((ys == zs) && (decide (yf < zf)))) rfl hw (by rw [hC] at q107; clear hA HS hN hO hbb z0 z1 hval; simp only [execOp]; go_simp) ⟨_, rfl, (fun h => by cases h), (by show ((.bool ((ys == zs) && (decide (yf < zf))) : Value)) = _; exact hval.symm.trans (Rg.cond_t hP).symm), hI, fun _ _ _ _ h => h⟩
        | true =>
          have hval : ((.bool ((decide (ys < zs)) || ((ys == zs) && (decide (yf < zf)))) : Value)) = .bool true := by rw [hC]; rfl
          exact Rg.op_value (o := ⟨some 132, Op.pick (Operand.tmp 107) (Operand.const (Value.bool true)) (Operand.tmp 131), _, _, _, _⟩) (x := .bool true) rfl hw (by rw [hC] at q107; clear hA HS hN hO hbb z0 z1 hval; simp only [execOp]; go_simp) ⟨_, rfl, (fun h => by cases h), (by show ((.bool true : Value)) = _; exact hval.symm.trans (Rg.cond_t hP).symm), hI, fun _ _ _ _ h => h⟩
    · intro ll bb w' hs hlf hN hO hf hI hA
      clear hi'
      have q95 : bb.tmps[95]? = some _ := hf.tmp (k := 2) rfl (by rw [ha]; decide) (hA 2 (by kernel_rfl))
      cases hC : (decide (0 ≤ b)) with
      | false =>
        have hval : ((.bool ((decide (0 ≤ b)) && ((decide (ys < zs)) || ((ys == zs) && (decide (yf < zf))))) : Value)) = .bool false := by rw [hC]; rfl
        exact Rg.op_value (o := ⟨some 133, Op.pick (Operand.tmp 95) (Operand.tmp 132) (Operand.const (Value.bool false)), _, _, _, _⟩) (x := .bool false) rfl rfl (by rw [hC] at q95; clear hA HS hN hO hbb z0 z1 hval; simp only [execOp]; go_simp) ⟨_, rfl, (fun h => by cases h), (by show ((.bool false : Value)) = _; exact hval.symm), hI, fun _ _ _ _ h => h⟩
      | true =>
        have hB : (true && ((decide (0 ≤ b)) == true)) = true := by rw [hC]; rfl
        have q132 : bb.tmps[132]? = some (.bool ((decide (ys < zs)) || ((ys == zs) && (decide (yf < zf))))) := hf.tmp (k := 39) rfl (by rw [ha]; decide) (Eq.trans (hA 39 (by kernel_rfl)) (Rg.cond_t hB))
        have hval : ((.bool ((decide (0 ≤ b)) && ((decide (ys < zs)) || ((ys == zs) && (decide (yf < zf))))) : Value)) = .bool ((decide (ys < zs)) || ((ys == zs) && (decide (yf < zf)))) := by rw [hC]; rfl
        exact Rg.op_value (o := ⟨some 133, Op.pick (Operand.tmp 95) (Operand.tmp 132) (Operand.const (Value.bool false)), _, _, _, _⟩) (x := .bool ((decide (ys < zs)) || ((ys == zs) && (decide (yf < zf))))) rfl rfl (by rw [hC] at q95; clear hA HS hN hO hbb z0 z1 hval; simp only [execOp]; go_simp) ⟨_, rfl, (fun h => by cases h), (by show ((.bool ((decide (ys < zs)) || ((ys == zs) && (decide (yf < zf)))) : Value)) = _; exact hval.symm), hI, fun _ _ _ _ h => h⟩

theorem dSf25_0 : Rg.dstAt (Rg.opsOf Try.f8 25) 0 = some 93 := by kernel_rfl
theorem dSf25_1 : Rg.dstAt (Rg.opsOf Try.f8 25) 1 = some 94 := by kernel_rfl
theorem dSf25_2 : Rg.dstAt (Rg.opsOf Try.f8 25) 2 = some 95 := by kernel_rfl
theorem dSf25_3 : Rg.dstAt (Rg.opsOf Try.f8 25) 3 = some 96 := by kernel_rfl
theorem dSf25_4 : Rg.dstAt (Rg.opsOf Try.f8 25) 4 = some 97 := by kernel_rfl
theorem dSf25_5 : Rg.dstAt (Rg.opsOf Try.f8 25) 5 = some 98 := by kernel_rfl
theorem dSf25_6 : Rg.dstAt (Rg.opsOf Try.f8 25) 6 = some 99 := by kernel_rfl
theorem dSf25_7 : Rg.dstAt (Rg.opsOf Try.f8 25) 7 = some 100 := by kernel_rfl
theorem dSf25_8 : Rg.dstAt (Rg.opsOf Try.f8 25) 8 = some 101 := by kernel_rfl
theorem dSf25_9 : Rg.dstAt (Rg.opsOf Try.f8 25) 9 = some 102 := by kernel_rfl
theorem dSf25_10 : Rg.dstAt (Rg.opsOf Try.f8 25) 10 = some 103 := by kernel_rfl
theorem dSf25_11 : Rg.dstAt (Rg.opsOf Try.f8 25) 11 = some 104 := by kernel_rfl
theorem dSf25_12 : Rg.dstAt (Rg.opsOf Try.f8 25) 12 = some 105 := by kernel_rfl
theorem dSf25_13 : Rg.dstAt (Rg.opsOf Try.f8 25) 13 = some 106 := by kernel_rfl
theorem dSf25_14 : Rg.dstAt (Rg.opsOf Try.f8 25) 14 = some 107 := by kernel_rfl
theorem dSf25_15 : Rg.dstAt (Rg.opsOf Try.f8 25) 15 = some 108 := by kernel_rfl
theorem dSf25_16 : Rg.dstAt (Rg.opsOf Try.f8 25) 16 = some 109 := by kernel_rfl
theorem dSf25_17 : Rg.dstAt (Rg.opsOf Try.f8 25) 17 = some 110 := by kernel_rfl
theorem dSf25_18 : Rg.dstAt (Rg.opsOf Try.f8 25) 18 = some 111 := by kernel_rfl
theorem dSf25_19 : Rg.dstAt (Rg.opsOf Try.f8 25) 19 = some 112 := by kernel_rfl
theorem dSf25_20 : Rg.dstAt (Rg.opsOf Try.f8 25) 20 = some 113 := by kernel_rfl
theorem dSf25_21 : Rg.dstAt (Rg.opsOf Try.f8 25) 21 = some 114 := by kernel_rfl
theorem dSf25_22 : Rg.dstAt (Rg.opsOf Try.f8 25) 22 = some 115 := by kernel_rfl
theorem dSf25_23 : Rg.dstAt (Rg.opsOf Try.f8 25) 23 = some 116 := by kernel_rfl
theorem dSf25_24 : Rg.dstAt (Rg.opsOf Try.f8 25) 24 = some 117 := by kernel_rfl
theorem dSf25_25 : Rg.dstAt (Rg.opsOf Try.f8 25) 25 = some 118 := by kernel_rfl
theorem dSf25_26 : Rg.dstAt (Rg.opsOf Try.f8 25) 26 = some 119 := by kernel_rfl
theorem dSf25_27 : Rg.dstAt (Rg.opsOf Try.f8 25) 27 = some 120 := by kernel_rfl
theorem dSf25_28 : Rg.dstAt (Rg.opsOf Try.f8 25) 28 = some 121 := by kernel_rfl
theorem dSf25_29 : Rg.dstAt (Rg.opsOf Try.f8 25) 29 = some 122 := by kernel_rfl
theorem dSf25_30 : Rg.dstAt (Rg.opsOf Try.f8 25) 30 = some 123 := by kernel_rfl
theorem dSf25_31 : Rg.dstAt (Rg.opsOf Try.f8 25) 31 = some 124 := by kernel_rfl
theorem dSf25_32 : Rg.dstAt (Rg.opsOf Try.f8 25) 32 = some 125 := by kernel_rfl
theorem dSf25_33 : Rg.dstAt (Rg.opsOf Try.f8 25) 33 = some 126 := by kernel_rfl
theorem dSf25_34 : Rg.dstAt (Rg.opsOf Try.f8 25) 34 = some 127 := by kernel_rfl
theorem dSf25_35 : Rg.dstAt (Rg.opsOf Try.f8 25) 35 = some 128 := by kernel_rfl
theorem dSf25_36 : Rg.dstAt (Rg.opsOf Try.f8 25) 36 = some 129 := by kernel_rfl
theorem dSf25_37 : Rg.dstAt (Rg.opsOf Try.f8 25) 37 = some 130 := by kernel_rfl
theorem dSf25_38 : Rg.dstAt (Rg.opsOf Try.f8 25) 38 = some 131 := by kernel_rfl
theorem dSf25_39 : Rg.dstAt (Rg.opsOf Try.f8 25) 39 = some 132 := by kernel_rfl
theorem dSf25_40 : Rg.dstAt (Rg.opsOf Try.f8 25) 40 = some 133 := by kernel_rfl
theorem laySf25 {a b : Act} (hf : Rg.Fr (Rg.opsOf Try.f8 25) a b) : b = (((((((((((((((((((((((((((((((((((((((((a.put (some 93) (Rg.out (Rg.opsOf Try.f8 25) b 0)).put (some 94) (Rg.out (Rg.opsOf Try.f8 25) b 1)).put (some 95) (Rg.out (Rg.opsOf Try.f8 25) b 2)).put (some 96) (Rg.out (Rg.opsOf Try.f8 25) b 3)).put (some 97) (Rg.out (Rg.opsOf Try.f8 25) b 4)).put (some 98) (Rg.out (Rg.opsOf Try.f8 25) b 5)).put (some 99) (Rg.out (Rg.opsOf Try.f8 25) b 6)).put (some 100) (Rg.out (Rg.opsOf Try.f8 25) b 7)).put (some 101) (Rg.out (Rg.opsOf Try.f8 25) b 8)).put (some 102) (Rg.out (Rg.opsOf Try.f8 25) b 9)).put (some 103) (Rg.out (Rg.opsOf Try.f8 25) b 10)).put (some 104) (Rg.out (Rg.opsOf Try.f8 25) b 11)).put (some 105) (Rg.out (Rg.opsOf Try.f8 25) b 12)).put (some 106) (Rg.out (Rg.opsOf Try.f8 25) b 13)).put (some 107) (Rg.out (Rg.opsOf Try.f8 25) b 14)).put (some 108) (Rg.out (Rg.opsOf Try.f8 25) b 15)).put (some 109) (Rg.out (Rg.opsOf Try.f8 25) b 16)).put (some 110) (Rg.out (Rg.opsOf Try.f8 25) b 17)).put (some 111) (Rg.out (Rg.opsOf Try.f8 25) b 18)).put (some 112) (Rg.out (Rg.opsOf Try.f8 25) b 19)).put (some 113) (Rg.out (Rg.opsOf Try.f8 25) b 20)).put (some 114) (Rg.out (Rg.opsOf Try.f8 25) b 21)).put (some 115) (Rg.out (Rg.opsOf Try.f8 25) b 22)).put (some 116) (Rg.out (Rg.opsOf Try.f8 25) b 23)).put (some 117) (Rg.out (Rg.opsOf Try.f8 25) b 24)).put (some 118) (Rg.out (Rg.opsOf Try.f8 25) b 25)).put (some 119) (Rg.out (Rg.opsOf Try.f8 25) b 26)).put (some 120) (Rg.out (Rg.opsOf Try.f8 25) b 27)).put (some 121) (Rg.out (Rg.opsOf Try.f8 25) b 28)).put (some 122) (Rg.out (Rg.opsOf Try.f8 25) b 29)).put (some 123) (Rg.out (Rg.opsOf Try.f8 25) b 30)).put (some 124) (Rg.out (Rg.opsOf Try.f8 25) b 31)).put (some 125) (Rg.out (Rg.opsOf Try.f8 25) b 32)).put (some 126) (Rg.out (Rg.opsOf Try.f8 25) b 33)).put (some 127) (Rg.out (Rg.opsOf Try.f8 25) b 34)).put (some 128) (Rg.out (Rg.opsOf Try.f8 25) b 35)).put (some 129) (Rg.out (Rg.opsOf Try.f8 25) b 36)).put (some 130) (Rg.out (Rg.opsOf Try.f8 25) b 37)).put (some 131) (Rg.out (Rg.opsOf Try.f8 25) b 38)).put (some 132) (Rg.out (Rg.opsOf Try.f8 25) b 39)).put (some 133) (Rg.out (Rg.opsOf Try.f8 25) b 40)) := by
  have h := hf.chain
  rw [sizeSf25, show List.range 41 = [0, 1, 2, 3, 4, 5, 6, 7, 8, 9, 10, 11, 12, 13, 14, 15, 16, 17, 18, 19, 20, 21, 22, 23, 24, 25, 26, 27, 28, 29, 30, 31, 32, 33, 34, 35, 36, 37, 38, 39, 40] from by decide] at h
  simp only [List.foldl_cons, List.foldl_nil, dSf25_0, dSf25_1, dSf25_2, dSf25_3, dSf25_4, dSf25_5, dSf25_6, dSf25_7, dSf25_8, dSf25_9, dSf25_10, dSf25_11, dSf25_12, dSf25_13, dSf25_14, dSf25_15, dSf25_16, dSf25_17, dSf25_18, dSf25_19, dSf25_20, dSf25_21, dSf25_22, dSf25_23, dSf25_24, dSf25_25, dSf25_26, dSf25_27, dSf25_28, dSf25_29, dSf25_30, dSf25_31, dSf25_32, dSf25_33, dSf25_34, dSf25_35, dSf25_36, dSf25_37, dSf25_38, dSf25_39, dSf25_40] at h
  exact h

def FSf30 (G n cap i k : Nat) (uf uc yf ys : Int) (i9 : Nat) (v : Value) (w : World) : Prop :=
  match i9 with
  | 0 => v = .slice (some ⟨G, 0, none⟩) n cap
  | 1 => v = .int .i64 (k : Nat)
  | 2 => v = .pointer (some ⟨G, k * 5, none⟩)
  | 3 => v = .pointer (some ⟨G, k * 5, none⟩)
  | 4 => v = .int .i64 uf
  | 5 => v = .slice (some ⟨G, 0, none⟩) n cap
  | 6 => v = .int .i64 (i : Nat)
  | 7 => v = .pointer (some ⟨G, i * 5, none⟩)
  | 8 => v = .pointer (some ⟨G, i * 5, none⟩)
  | 9 => v = .int .i64 yf
  | 10 => v = .bool (uf != yf)
  | 11 => v = .bool (uf != yf)
  | 12 => v = cond (true && ((uf != yf) == false)) (.slice (some ⟨G, 0, none⟩) n cap) undef
  | 13 => v = cond (true && ((uf != yf) == false)) (.int .i64 (k : Nat)) undef
  | 14 => v = cond (true && ((uf != yf) == false)) (.pointer (some ⟨G, k * 5, none⟩)) undef
  | 15 => v = cond (true && ((uf != yf) == false)) (.pointer (some ⟨G, k * 5 + 2, none⟩)) undef
  | 16 => v = cond (true && ((uf != yf) == false)) (.int .i64 uc) undef
  | 17 => v = cond (true && ((uf != yf) == false)) (.slice (some ⟨G, 0, none⟩) n cap) undef
  | 18 => v = cond (true && ((uf != yf) == false)) (.int .i64 (i : Nat)) undef
  | 19 => v = cond (true && ((uf != yf) == false)) (.pointer (some ⟨G, i * 5, none⟩)) undef
  | 20 => v = cond (true && ((uf != yf) == false)) (.pointer (some ⟨G, i * 5 + 1, none⟩)) undef
  | 21 => v = cond (true && ((uf != yf) == false)) (.int .i64 ys) undef
  | 22 => v = cond (true && ((uf != yf) == false)) (.bool (uc != ys)) undef
  | 23 => v = .bool ((uf != yf) || (uc != ys))
  | 24 => v = .bool ((uf != yf) || (uc != ys))
  | _ => True
theorem sizeSf30 : (Rg.opsOf Try.f8 30).size = 25 := by kernel_rfl

set_option maxRecDepth 20000 in
set_option maxHeartbeats 8000000 in
theorem regSf30 {Q : Exit → Act → World → Prop} {a : Act} {w9 : World} {G n cap i k : Nat} {uf uc yf ys : Int} (ha : a.tmps.size = 182)
    (k4 : a.tmps[4]? = some (.slice (some ⟨G, 0, none⟩) n cap)) (k12 : a.tmps[12]? = some (.int .i64 (k : Nat))) (k10 : a.tmps[10]? = some (.int .i64 (i : Nat))) (hn : n < 1000000) (hil : i < n) (hkl : k < n) (hGl : G < w9.heap.size) (u0 : w9.cell? ⟨G, k * 5, none⟩ = some (.int .i64 uf)) (u2 : w9.cell? ⟨G, k * 5 + 2, none⟩ = some (.int .i64 uc)) (y0 : w9.cell? ⟨G, i * 5, none⟩ = some (.int .i64 yf)) (y1 : w9.cell? ⟨G, i * 5 + 1, none⟩ = some (.int .i64 ys))
    (hend : ∀ b' w', Rg.Fr (Rg.opsOf Try.f8 30) a b' → Below w9.heap.size w9 w' → Rg.out (Rg.opsOf Try.f8 30) b' 24 = .bool ((uf != yf) || (uc != ys)) → Q .normal b' w') :
    (Code.region 30 (Rg.opsOf Try.f8 30) true).wp Try.prog Q a w9 := by
  refine Rg.region_set3 (by kernel_rfl) (fun _ w' => Below w9.heap.size w9 w') (FSf30 G n cap i k uf uc yf ys) (by rw [ha, sizeSf30]; kernel_rfl) (st_drew (Below.refl _ _)) ?_ ?_
  case refine_2 =>
    intro l b' w' hf hall hI hA
    rw [sizeSf30] at hA
    exact hend b' w' hf hI (hA 24 (by decide))
  case refine_1 =>
    clear hend
    have HS : ∀ {w w' : World}, Below w.heap.size w w' → ∀ k9 y9, FSf30 G n cap i k uf uc yf ys k9 y9 w → FSf30 G n cap i k uf uc yf ys k9 y9 w' := fun hb k9 y9 h => by
      unfold FSf30 at *
      split at h <;> exact h
    intro i' hi'
    rw [sizeSf30] at hi'
    rcases (show i' = 0 ∨ i' = 1 ∨ i' = 2 ∨ i' = 3 ∨ i' = 4 ∨ i' = 5 ∨ i' = 6 ∨ i' = 7 ∨ i' = 8 ∨ i' = 9 ∨ i' = 10 ∨ i' = 11 ∨ i' = 12 ∨ i' = 13 ∨ i' = 14 ∨ i' = 15 ∨ i' = 16 ∨ i' = 17 ∨ i' = 18 ∨ i' = 19 ∨ i' = 20 ∨ i' = 21 ∨ i' = 22 ∨ i' = 23 ∨ i' = 24 by omega) with rfl | rfl | rfl | rfl | rfl | rfl | rfl | rfl | rfl | rfl | rfl | rfl | rfl | rfl | rfl | rfl | rfl | rfl | rfl | rfl | rfl | rfl | rfl | rfl | rfl
    · intro ll bb w' hs hlf hN hO hf hI hA
      clear hi'
      have q0 := hf.kept (s := 4) (by rw [sizeSf30]; kernel_rfl) k4
      exact Rg.op_value (o := ⟨some 143, Op.move (Operand.tmp 4), _, _, _, _⟩) (x := .slice (some ⟨G, 0, none⟩) n cap) rfl rfl (by clear hA HS hN hO ; simp only [execOp]; go_simp) ⟨_, rfl, (fun h => by cases h), rfl, hI, fun _ _ _ _ h => h⟩
    · intro ll bb w' hs hlf hN hO hf hI hA
      clear hi'
      have q0 := hf.kept (s := 12) (by rw [sizeSf30]; kernel_rfl) k12
      exact Rg.op_value (o := ⟨some 144, Op.move (Operand.tmp 12), _, _, _, _⟩) (x := .int .i64 (k : Nat)) rfl rfl (by clear hA HS hN hO ; simp only [execOp]; go_simp) ⟨_, rfl, (fun h => by cases h), rfl, hI, fun _ _ _ _ h => h⟩
    · intro ll bb w' hs hlf hN hO hf hI hA
      clear hi'
      have q143 : bb.tmps[143]? = some _ := hf.tmp (k := 0) rfl (by rw [ha]; decide) (hA 0 (by kernel_rfl))
      have q144 : bb.tmps[144]? = some _ := hf.tmp (k := 1) rfl (by rw [ha]; decide) (hA 1 (by kernel_rfl))
      have hin2 : (k : Int) < (n : Int) := by omega
      exact Rg.op_value (o := ⟨some 145, Op.indexAddr 24 (Operand.tmp 143) (Operand.tmp 144), _, _, _, _⟩) (x := .pointer (some ⟨G, k * 5, none⟩)) rfl rfl (by clear hA HS hN hO ; simp only [execOp]; go_simp) ⟨_, rfl, (fun h => by cases h), rfl, hI, fun _ _ _ _ h => h⟩
    · intro ll bb w' hs hlf hN hO hf hI hA
      clear hi'
      have q145 : bb.tmps[145]? = some _ := hf.tmp (k := 2) rfl (by rw [ha]; decide) (hA 2 (by kernel_rfl))
      exact Rg.op_value (o := ⟨some 146, Op.fieldAddr 29 (Operand.tmp 145) 0, _, _, _, _⟩) (x := .pointer (some ⟨G, k * 5, none⟩)) rfl rfl (by clear hA HS hN hO ; simp only [execOp]; go_simp) ⟨_, rfl, (fun h => by cases h), rfl, hI, fun _ _ _ _ h => h⟩
    · intro ll bb w' hs hlf hN hO hf hI hA
      clear hi'
      have q146 : bb.tmps[146]? = some _ := hf.tmp (k := 3) rfl (by rw [ha]; decide) (hA 3 (by kernel_rfl))
      have e0 := (hI.cell (p := ⟨G, k * 5, none⟩) hGl).trans u0
      exact Rg.op_value (o := ⟨some 147, Op.load 2 (Operand.tmp 146), _, _, _, _⟩) (x := .int .i64 uf) rfl rfl (by clear hA HS hN hO ; simp only [execOp]; go_simp) ⟨_, rfl, (fun h => by cases h), rfl, hI, fun _ _ _ _ h => h⟩
    · intro ll bb w' hs hlf hN hO hf hI hA
      clear hi'
      have q0 := hf.kept (s := 4) (by rw [sizeSf30]; kernel_rfl) k4
      exact Rg.op_value (o := ⟨some 148, Op.move (Operand.tmp 4), _, _, _, _⟩) (x := .slice (some ⟨G, 0, none⟩) n cap) rfl rfl (by clear hA HS hN hO ; simp only [execOp]; go_simp) ⟨_, rfl, (fun h => by cases h), rfl, hI, fun _ _ _ _ h => h⟩
    · intro ll bb w' hs hlf hN hO hf hI hA
      clear hi'
      have q0 := hf.kept (s := 10) (by rw [sizeSf30]; kernel_rfl) k10
      exact Rg.op_value (o := ⟨some 149, Op.move (Operand.tmp 10), _, _, _, _⟩) (x := .int .i64 (i : Nat)) rfl rfl (by clear hA HS hN hO ; simp only [execOp]; go_simp) ⟨_, rfl, (fun h => by cases h), rfl, hI, fun _ _ _ _ h => h⟩
    · intro ll bb w' hs hlf hN hO hf hI hA
      clear hi'
      have q148 : bb.tmps[148]? = some _ := hf.tmp (k := 5) rfl (by rw [ha]; decide) (hA 5 (by kernel_rfl))
      have q149 : bb.tmps[149]? = some _ := hf.tmp (k := 6) rfl (by rw [ha]; decide) (hA 6 (by kernel_rfl))
      have hin2 : (i : Int) < (n : Int) := by omega
      exact Rg.op_value (o := ⟨some 150, Op.indexAddr 24 (Operand.tmp 148) (Operand.tmp 149), _, _, _, _⟩) (x := .pointer (some ⟨G, i * 5, none⟩)) rfl rfl (by clear hA HS hN hO ; simp only [execOp]; go_simp) ⟨_, rfl, (fun h => by cases h), rfl, hI, fun _ _ _ _ h => h⟩
    · intro ll bb w' hs hlf hN hO hf hI hA
      clear hi'
      have q150 : bb.tmps[150]? = some _ := hf.tmp (k := 7) rfl (by rw [ha]; decide) (hA 7 (by kernel_rfl))
      exact Rg.op_value (o := ⟨some 151, Op.fieldAddr 29 (Operand.tmp 150) 0, _, _, _, _⟩) (x := .pointer (some ⟨G, i * 5, none⟩)) rfl rfl (by clear hA HS hN hO ; simp only [execOp]; go_simp) ⟨_, rfl, (fun h => by cases h), rfl, hI, fun _ _ _ _ h => h⟩
    · intro ll bb w' hs hlf hN hO hf hI hA
      clear hi'
      have q151 : bb.tmps[151]? = some _ := hf.tmp (k := 8) rfl (by rw [ha]; decide) (hA 8 (by kernel_rfl))
      have e0 := (hI.cell (p := ⟨G, i * 5, none⟩) hGl).trans y0
      exact Rg.op_value (o := ⟨some 152, Op.load 2 (Operand.tmp 151), _, _, _, _⟩) (x := .int .i64 yf) rfl rfl (by clear hA HS hN hO ; simp only [execOp]; go_simp) ⟨_, rfl, (fun h => by cases h), rfl, hI, fun _ _ _ _ h => h⟩
    · intro ll bb w' hs hlf hN hO hf hI hA
      clear hi'
      have q147 : bb.tmps[147]? = some _ := hf.tmp (k := 4) rfl (by rw [ha]; decide) (hA 4 (by kernel_rfl))
      have q152 : bb.tmps[152]? = some _ := hf.tmp (k := 9) rfl (by rw [ha]; decide) (hA 9 (by kernel_rfl))
      exact Rg.op_value (o := ⟨some 153, Op.binOp BinOp.neq 2 (Operand.tmp 147) (Operand.tmp 152) 2, _, _, _, _⟩) (x := .bool (uf != yf)) rfl rfl (by clear hA HS hN hO ; simp only [execOp]; go_simp) ⟨_, rfl, (fun h => by cases h), rfl, hI, fun _ _ _ _ h => h⟩
    · intro ll bb w' hs hlf hN hO hf hI hA
      clear hi'
      have q153 : bb.tmps[153]? = some _ := hf.tmp (k := 10) rfl (by rw [ha]; decide) (hA 10 (by kernel_rfl))
      exact Rg.op_value (o := ⟨some 154, Op.move (Operand.tmp 153), _, _, _, _⟩) (x := .bool (uf != yf)) rfl rfl (by clear hA HS hN hO ; simp only [execOp]; go_simp) ⟨_, rfl, (fun h => by cases h), rfl, hI, fun _ _ _ _ h => h⟩
    · intro ll bb w' hs hlf hN hO hf hI hA
      clear hi'
      have qg : bb.tmps[154]? = some (cond true (.bool (uf != yf)) undef) := hf.tmp (k := 11) rfl (by rw [ha]; decide) (hA 11 (by kernel_rfl))
      cases hP : (true && ((uf != yf) == false)) with
      | false => exact Rg.op_none (o := ⟨some 155, _, _, _, _, _⟩) rfl (Rg.unwanted_c (g := 11) rfl rfl qg hP) ⟨_, rfl, (fun h => by cases h), Rg.cond_f hP, hI, fun _ _ _ _ h => h⟩
      | true =>
        have hw := Rg.wanted_c (ops := (Rg.opsOf Try.f8 30)) (o := (Rg.opsOf Try.f8 30)[12]'(by rw [sizeSf30]; decide)) (g := 11) rfl rfl qg hP
        have g0 := Rg.pc_r hP
        have q0 := hf.kept (s := 4) (by rw [sizeSf30]; kernel_rfl) k4
        exact Rg.op_value (o := ⟨some 155, Op.move (Operand.tmp 4), _, _, _, _⟩) (x := .slice (some ⟨G, 0, none⟩) n cap) rfl hw (by clear hA HS hN hO ; simp only [execOp]; go_simp) ⟨_, rfl, (fun h => by cases h), (Rg.cond_t hP).symm, hI, fun _ _ _ _ h => h⟩
    · intro ll bb w' hs hlf hN hO hf hI hA
      clear hi'
      have qg : bb.tmps[154]? = some (cond true (.bool (uf != yf)) undef) := hf.tmp (k := 11) rfl (by rw [ha]; decide) (hA 11 (by kernel_rfl))
      cases hP : (true && ((uf != yf) == false)) with
      | false => exact Rg.op_none (o := ⟨some 156, _, _, _, _, _⟩) rfl (Rg.unwanted_c (g := 11) rfl rfl qg hP) ⟨_, rfl, (fun h => by cases h), Rg.cond_f hP, hI, fun _ _ _ _ h => h⟩
      | true =>
        have hw := Rg.wanted_c (ops := (Rg.opsOf Try.f8 30)) (o := (Rg.opsOf Try.f8 30)[13]'(by rw [sizeSf30]; decide)) (g := 11) rfl rfl qg hP
        have g0 := Rg.pc_r hP
        have q0 := hf.kept (s := 12) (by rw [sizeSf30]; kernel_rfl) k12
        exact Rg.op_value (o := ⟨some 156, Op.move (Operand.tmp 12), _, _, _, _⟩) (x := .int .i64 (k : Nat)) rfl hw (by clear hA HS hN hO ; simp only [execOp]; go_simp) ⟨_, rfl, (fun h => by cases h), (Rg.cond_t hP).symm, hI, fun _ _ _ _ h => h⟩
    · intro ll bb w' hs hlf hN hO hf hI hA
      clear hi'
      have qg : bb.tmps[154]? = some (cond true (.bool (uf != yf)) undef) := hf.tmp (k := 11) rfl (by rw [ha]; decide) (hA 11 (by kernel_rfl))
      cases hP : (true && ((uf != yf) == false)) with
      | false => exact Rg.op_none (o := ⟨some 157, _, _, _, _, _⟩) rfl (Rg.unwanted_c (g := 11) rfl rfl qg hP) ⟨_, rfl, (fun h => by cases h), Rg.cond_f hP, hI, fun _ _ _ _ h => h⟩
      | true =>
        have hw := Rg.wanted_c (ops := (Rg.opsOf Try.f8 30)) (o := (Rg.opsOf Try.f8 30)[14]'(by rw [sizeSf30]; decide)) (g := 11) rfl rfl qg hP
        have g0 := Rg.pc_r hP
        have q155 : bb.tmps[155]? = some (.slice (some ⟨G, 0, none⟩) n cap) := hf.tmp (k := 12) rfl (by rw [ha]; decide) (Eq.trans (hA 12 (by kernel_rfl)) (Rg.cond_t hP))
        have q156 : bb.tmps[156]? = some (.int .i64 (k : Nat)) := hf.tmp (k := 13) rfl (by rw [ha]; decide) (Eq.trans (hA 13 (by kernel_rfl)) (Rg.cond_t hP))
        have hin2 : (k : Int) < (n : Int) := by omega
        exact Rg.op_value (o := ⟨some 157, Op.indexAddr 24 (Operand.tmp 155) (Operand.tmp 156), _, _, _, _⟩) (x := .pointer (some ⟨G, k * 5, none⟩)) rfl hw (by clear hA HS hN hO ; simp only [execOp]; go_simp) ⟨_, rfl, (fun h => by cases h), (Rg.cond_t hP).symm, hI, fun _ _ _ _ h => h⟩
    · intro ll bb w' hs hlf hN hO hf hI hA
      clear hi'
      have qg : bb.tmps[154]? = some (cond true (.bool (uf != yf)) undef) := hf.tmp (k := 11) rfl (by rw [ha]; decide) (hA 11 (by kernel_rfl))
      cases hP : (true && ((uf != yf) == false)) with
      | false => exact Rg.op_none (o := ⟨some 158, _, _, _, _, _⟩) rfl (Rg.unwanted_c (g := 11) rfl rfl qg hP) ⟨_, rfl, (fun h => by cases h), Rg.cond_f hP, hI, fun _ _ _ _ h => h⟩
      | true =>
        have hw := Rg.wanted_c (ops := (Rg.opsOf Try.f8 30)) (o := (Rg.opsOf Try.f8 30)[15]'(by rw [sizeSf30]; decide)) (g := 11) rfl rfl qg hP
        have g0 := Rg.pc_r hP
        have q157 : bb.tmps[157]? = some (.pointer (some ⟨G, k * 5, none⟩)) := hf.tmp (k := 14) rfl (by rw [ha]; decide) (Eq.trans (hA 14 (by kernel_rfl)) (Rg.cond_t hP))
        exact Rg.op_value (o := ⟨some 158, Op.fieldAddr 29 (Operand.tmp 157) 2, _, _, _, _⟩) (x := .pointer (some ⟨G, k * 5 + 2, none⟩)) rfl hw (by clear hA HS hN hO ; simp only [execOp]; go_simp) ⟨_, rfl, (fun h => by cases h), (Rg.cond_t hP).symm, hI, fun _ _ _ _ h => h⟩
    · intro ll bb w' hs hlf hN hO hf hI hA
      clear hi'
      have qg : bb.tmps[154]? = some (cond true (.bool (uf != yf)) undef) := hf.tmp (k := 11) rfl (by rw [ha]; decide) (hA 11 (by kernel_rfl))
      cases hP : (true && ((uf != yf) == false)) with
      | false => exact Rg.op_none (o := ⟨some 159, _, _, _, _, _⟩) rfl (Rg.unwanted_c (g := 11) rfl rfl qg hP) ⟨_, rfl, (fun h => by cases h), Rg.cond_f hP, hI, fun _ _ _ _ h => h⟩
      | true =>
        have hw := Rg.wanted_c (ops := (Rg.opsOf Try.f8 30)) (o := (Rg.opsOf Try.f8 30)[16]'(by rw [sizeSf30]; decide)) (g := 11) rfl rfl qg hP
        have g0 := Rg.pc_r hP
        have q158 : bb.tmps[158]? = some (.pointer (some ⟨G, k * 5 + 2, none⟩)) := hf.tmp (k := 15) rfl (by rw [ha]; decide) (Eq.trans (hA 15 (by kernel_rfl)) (Rg.cond_t hP))
        have e0 := (hI.cell (p := ⟨G, k * 5 + 2, none⟩) hGl).trans u2
        exact Rg.op_value (o := ⟨some 159, Op.load 2 (Operand.tmp 158), _, _, _, _⟩) (x := .int .i64 uc) rfl hw (by clear hA HS hN hO ; simp only [execOp]; go_simp) ⟨_, rfl, (fun h => by cases h), (Rg.cond_t hP).symm, hI, fun _ _ _ _ h => h⟩
    · intro ll bb w' hs hlf hN hO hf hI hA
      clear hi'
      have qg : bb.tmps[154]? = some (cond true (.bool (uf != yf)) undef) := hf.tmp (k := 11) rfl (by rw [ha]; decide) (hA 11 (by kernel_rfl))
      cases hP : (true && ((uf != yf) == false)) with
      | false => exact Rg.op_none (o := ⟨some 160, _, _, _, _, _⟩) rfl (Rg.unwanted_c (g := 11) rfl rfl qg hP) ⟨_, rfl, (fun h => by cases h), Rg.cond_f hP, hI, fun _ _ _ _ h => h⟩
      | true =>
        have hw := Rg.wanted_c (ops := (Rg.opsOf Try.f8 30)) (o := (Rg.opsOf Try.f8 30)[17]'(by rw [sizeSf30]; decide)) (g := 11) rfl rfl qg hP
        have g0 := Rg.pc_r hP
        have q0 := hf.kept (s := 4) (by rw [sizeSf30]; kernel_rfl) k4
        exact Rg.op_value (o := ⟨some 160, Op.move (Operand.tmp 4), _, _, _, _⟩) (x := .slice (some ⟨G, 0, none⟩) n cap) rfl hw (by clear hA HS hN hO ; simp only [execOp]; go_simp) ⟨_, rfl, (fun h => by cases h), (Rg.cond_t hP).symm, hI, fun _ _ _ _ h => h⟩
    · intro ll bb w' hs hlf hN hO hf hI hA
      clear hi'
      have qg : bb.tmps[154]? = some (cond true (.bool (uf != yf)) undef) := hf.tmp (k := 11) rfl (by rw [ha]; decide) (hA 11 (by kernel_rfl))
      cases hP : (true && ((uf != yf) == false)) with
      | false => exact Rg.op_none (o := ⟨some 161, _, _, _, _, _⟩) rfl (Rg.unwanted_c (g := 11) rfl rfl qg hP) ⟨_, rfl, (fun h => by cases h), Rg.cond_f hP, hI, fun _ _ _ _ h => h⟩
      | true =>
        have hw := Rg.wanted_c (ops := (Rg.opsOf Try.f8 30)) (o := (Rg.opsOf Try.f8 30)[18]'(by rw [sizeSf30]; decide)) (g := 11) rfl rfl qg hP
        have g0 := Rg.pc_r hP
        have q0 := hf.kept (s := 10) (by rw [sizeSf30]; kernel_rfl) k10
        exact Rg.op_value (o := ⟨some 161, Op.move (Operand.tmp 10), _, _, _, _⟩) (x := .int .i64 (i : Nat)) rfl hw (by clear hA HS hN hO ; simp only [execOp]; go_simp) ⟨_, rfl, (fun h => by cases h), (Rg.cond_t hP).symm, hI, fun _ _ _ _ h => h⟩
    · intro ll bb w' hs hlf hN hO hf hI hA
      clear hi'
      have qg : bb.tmps[154]? = some (cond true (.bool (uf != yf)) undef) := hf.tmp (k := 11) rfl (by rw [ha]; decide) (hA 11 (by kernel_rfl))
      cases hP : (true && ((uf != yf) == false)) with
      | false => exact Rg.op_none (o := ⟨some 162, _, _, _, _, _⟩) rfl (Rg.unwanted_c (g := 11) rfl rfl qg hP) ⟨_, rfl, (fun h => by cases h), Rg.cond_f hP, hI, fun _ _ _ _ h => h⟩
      | true =>
        have hw := Rg.wanted_c (ops := (Rg.opsOf Try.f8 30)) (o := (Rg.opsOf Try.f8 30)[19]'(by rw [sizeSf30]; decide)) (g := 11) rfl rfl qg hP
        have g0 := Rg.pc_r hP
        have q160 : bb.tmps[160]? = some (.slice (some ⟨G, 0, none⟩) n cap) := hf.tmp (k := 17) rfl (by rw [ha]; decide) (Eq.trans (hA 17 (by kernel_rfl)) (Rg.cond_t hP))
        have q161 : bb.tmps[161]? = some (.int .i64 (i : Nat)) := hf.tmp (k := 18) rfl (by rw [ha]; decide) (Eq.trans (hA 18 (by kernel_rfl)) (Rg.cond_t hP))
        have hin2 : (i : Int) < (n : Int) := by omega
        exact Rg.op_value (o := ⟨some 162, Op.indexAddr 24 (Operand.tmp 160) (Operand.tmp 161), _, _, _, _⟩) (x := .pointer (some ⟨G, i * 5, none⟩)) rfl hw (by clear hA HS hN hO ; simp only [execOp]; go_simp) ⟨_, rfl, (fun h => by cases h), (Rg.cond_t hP).symm, hI, fun _ _ _ _ h => h⟩
    · intro ll bb w' hs hlf hN hO hf hI hA
      clear hi'
      have qg : bb.tmps[154]? = some (cond true (.bool (uf != yf)) undef) := hf.tmp (k := 11) rfl (by rw [ha]; decide) (hA 11 (by kernel_rfl))
      cases hP : (true && ((uf != yf) == false)) with
      | false => exact Rg.op_none (o := ⟨some 163, _, _, _, _, _⟩) rfl (Rg.unwanted_c (g := 11) rfl rfl qg hP) ⟨_, rfl, (fun h => by cases h), Rg.cond_f hP, hI, fun _ _ _ _ h => h⟩
      | true =>
        have hw := Rg.wanted_c (ops := (Rg.opsOf Try.f8 30)) (o := (Rg.opsOf Try.f8 30)[20]'(by rw [sizeSf30]; decide)) (g := 11) rfl rfl qg hP
        have g0 := Rg.pc_r hP
        have q162 : bb.tmps[162]? = some (.pointer (some ⟨G, i * 5, none⟩)) := hf.tmp (k := 19) rfl (by rw [ha]; decide) (Eq.trans (hA 19 (by kernel_rfl)) (Rg.cond_t hP))
        exact Rg.op_value (o := ⟨some 163, Op.fieldAddr 29 (Operand.tmp 162) 1, _, _, _, _⟩) (x := .pointer (some ⟨G, i * 5 + 1, none⟩)) rfl hw (by clear hA HS hN hO ; simp only [execOp]; go_simp) ⟨_, rfl, (fun h => by cases h), (Rg.cond_t hP).symm, hI, fun _ _ _ _ h => h⟩
    · intro ll bb w' hs hlf hN hO hf hI hA
      clear hi'
      have qg : bb.tmps[154]? = some (cond true (.bool (uf != yf)) undef) := hf.tmp (k := 11) rfl (by rw [ha]; decide) (hA 11 (by kernel_rfl))
      cases hP : (true && ((uf != yf) == false)) with
      | false => exact Rg.op_none (o := ⟨some 164, _, _, _, _, _⟩) rfl (Rg.unwanted_c (g := 11) rfl rfl qg hP) ⟨_, rfl, (fun h => by cases h), Rg.cond_f hP, hI, fun _ _ _ _ h => h⟩
      | true =>
        have hw := Rg.wanted_c (ops := (Rg.opsOf Try.f8 30)) (o := (Rg.opsOf Try.f8 30)[21]'(by rw [sizeSf30]; decide)) (g := 11) rfl rfl qg hP
        have g0 := Rg.pc_r hP
        have q163 : bb.tmps[163]? = some (.pointer (some ⟨G, i * 5 + 1, none⟩)) := hf.tmp (k := 20) rfl (by rw [ha]; decide) (Eq.trans (hA 20 (by kernel_rfl)) (Rg.cond_t hP))
        have e0 := (hI.cell (p := ⟨G, i * 5 + 1, none⟩) hGl).trans y1
        exact Rg.op_value (o := ⟨some 164, Op.load 2 (Operand.tmp 163), _, _, _, _⟩) (x := .int .i64 ys) rfl hw (by clear hA HS hN hO ; simp only [execOp]; go_simp) ⟨_, rfl, (fun h => by cases h), (Rg.cond_t hP).symm, hI, fun _ _ _ _ h => h⟩
    · intro ll bb w' hs hlf hN hO hf hI hA
      clear hi'
      have qg : bb.tmps[154]? = some (cond true (.bool (uf != yf)) undef) := hf.tmp (k := 11) rfl (by rw [ha]; decide) (hA 11 (by kernel_rfl))
      cases hP : (true && ((uf != yf) == false)) with
      | false => exact Rg.op_none (o := ⟨some 165, _, _, _, _, _⟩) rfl (Rg.unwanted_c (g := 11) rfl rfl qg hP) ⟨_, rfl, (fun h => by cases h), Rg.cond_f hP, hI, fun _ _ _ _ h => h⟩
      | true =>
        have hw := Rg.wanted_c (ops := (Rg.opsOf Try.f8 30)) (o := (Rg.opsOf Try.f8 30)[22]'(by rw [sizeSf30]; decide)) (g := 11) rfl rfl qg hP
        have g0 := Rg.pc_r hP
        have q159 : bb.tmps[159]? = some (.int .i64 uc) := hf.tmp (k := 16) rfl (by rw [ha]; decide) (Eq.trans (hA 16 (by kernel_rfl)) (Rg.cond_t hP))
        have q164 : bb.tmps[164]? = some (.int .i64 ys) := hf.tmp (k := 21) rfl (by rw [ha]; decide) (Eq.trans (hA 21 (by kernel_rfl)) (Rg.cond_t hP))
        exact Rg.op_value (o := ⟨some 165, Op.binOp BinOp.neq 2 (Operand.tmp 159) (Operand.tmp 164) 2, _, _, _, _⟩) (x := .bool (uc != ys)) rfl hw (by clear hA HS hN hO ; simp only [execOp]; go_simp) ⟨_, rfl, (fun h => by cases h), (Rg.cond_t hP).symm, hI, fun _ _ _ _ h => h⟩
    · intro ll bb w' hs hlf hN hO hf hI hA
      clear hi'
      have q154 : bb.tmps[154]? = some _ := hf.tmp (k := 11) rfl (by rw [ha]; decide) (hA 11 (by kernel_rfl))
      cases hC : (uf != yf) with
      | false =>
        have hB : (true && ((uf != yf) == false)) = true := by rw [hC]; rfl
        have q165 : bb.tmps[165]? = some (.bool (uc != ys)) := hf.tmp (k := 22) rfl (by rw [ha]; decide) (Eq.trans (hA 22 (by kernel_rfl)) (Rg.cond_t hB))
        have hval : ((.bool ((uf != yf) || (uc != ys)) : Value)) = .bool (uc != ys) := by rw [hC]; rfl
        exact Rg.op_value (o := ⟨some 166, Op.pick (Operand.tmp 154) (Operand.const (Value.bool true)) (Operand.tmp 165), _, _, _, _⟩) (x := .bool (uc != ys)) rfl rfl (by rw [hC] at q154; clear hA HS hN hO  hval; simp only [execOp]; go_simp) ⟨_, rfl, (fun h => by cases h), (by show ((.bool (uc != ys) : Value)) = _; exact hval.symm), hI, fun _ _ _ _ h => h⟩
      | true =>
        have hval : ((.bool ((uf != yf) || (uc != ys)) : Value)) = .bool true := by rw [hC]; rfl
        exact Rg.op_value (o := ⟨some 166, Op.pick (Operand.tmp 154) (Operand.const (Value.bool true)) (Operand.tmp 165), _, _, _, _⟩) (x := .bool true) rfl rfl (by rw [hC] at q154; clear hA HS hN hO  hval; simp only [execOp]; go_simp) ⟨_, rfl, (fun h => by cases h), (by show ((.bool true : Value)) = _; exact hval.symm), hI, fun _ _ _ _ h => h⟩
    · intro ll bb w' hs hlf hN hO hf hI hA
      clear hi'
      have q166 : bb.tmps[166]? = some _ := hf.tmp (k := 23) rfl (by rw [ha]; decide) (hA 23 (by kernel_rfl))
      exact Rg.op_value (o := ⟨some 11, Op.assign (Operand.tmp 166), _, _, _, _⟩) (x := .bool ((uf != yf) || (uc != ys))) rfl rfl (by clear hA HS hN hO ; simp only [execOp]; go_simp) ⟨_, rfl, (fun h => by cases h), rfl, hI, fun _ _ _ _ h => h⟩

theorem dSf30_0 : Rg.dstAt (Rg.opsOf Try.f8 30) 0 = some 143 := by kernel_rfl
theorem dSf30_1 : Rg.dstAt (Rg.opsOf Try.f8 30) 1 = some 144 := by kernel_rfl
theorem dSf30_2 : Rg.dstAt (Rg.opsOf Try.f8 30) 2 = some 145 := by kernel_rfl
theorem dSf30_3 : Rg.dstAt (Rg.opsOf Try.f8 30) 3 = some 146 := by kernel_rfl
theorem dSf30_4 : Rg.dstAt (Rg.opsOf Try.f8 30) 4 = some 147 := by kernel_rfl
theorem dSf30_5 : Rg.dstAt (Rg.opsOf Try.f8 30) 5 = some 148 := by kernel_rfl
theorem dSf30_6 : Rg.dstAt (Rg.opsOf Try.f8 30) 6 = some 149 := by kernel_rfl
theorem dSf30_7 : Rg.dstAt (Rg.opsOf Try.f8 30) 7 = some 150 := by kernel_rfl
theorem dSf30_8 : Rg.dstAt (Rg.opsOf Try.f8 30) 8 = some 151 := by kernel_rfl
theorem dSf30_9 : Rg.dstAt (Rg.opsOf Try.f8 30) 9 = some 152 := by kernel_rfl
theorem dSf30_10 : Rg.dstAt (Rg.opsOf Try.f8 30) 10 = some 153 := by kernel_rfl
theorem dSf30_11 : Rg.dstAt (Rg.opsOf Try.f8 30) 11 = some 154 := by kernel_rfl
theorem dSf30_12 : Rg.dstAt (Rg.opsOf Try.f8 30) 12 = some 155 := by kernel_rfl
theorem dSf30_13 : Rg.dstAt (Rg.opsOf Try.f8 30) 13 = some 156 := by kernel_rfl
theorem dSf30_14 : Rg.dstAt (Rg.opsOf Try.f8 30) 14 = some 157 := by kernel_rfl
theorem dSf30_15 : Rg.dstAt (Rg.opsOf Try.f8 30) 15 = some 158 := by kernel_rfl
theorem dSf30_16 : Rg.dstAt (Rg.opsOf Try.f8 30) 16 = some 159 := by kernel_rfl
theorem dSf30_17 : Rg.dstAt (Rg.opsOf Try.f8 30) 17 = some 160 := by kernel_rfl
theorem dSf30_18 : Rg.dstAt (Rg.opsOf Try.f8 30) 18 = some 161 := by kernel_rfl
theorem dSf30_19 : Rg.dstAt (Rg.opsOf Try.f8 30) 19 = some 162 := by kernel_rfl
theorem dSf30_20 : Rg.dstAt (Rg.opsOf Try.f8 30) 20 = some 163 := by kernel_rfl
theorem dSf30_21 : Rg.dstAt (Rg.opsOf Try.f8 30) 21 = some 164 := by kernel_rfl
theorem dSf30_22 : Rg.dstAt (Rg.opsOf Try.f8 30) 22 = some 165 := by kernel_rfl
theorem dSf30_23 : Rg.dstAt (Rg.opsOf Try.f8 30) 23 = some 166 := by kernel_rfl
theorem dSf30_24 : Rg.dstAt (Rg.opsOf Try.f8 30) 24 = some 11 := by kernel_rfl
theorem laySf30 {a b : Act} (hf : Rg.Fr (Rg.opsOf Try.f8 30) a b) : b = (((((((((((((((((((((((((a.put (some 143) (Rg.out (Rg.opsOf Try.f8 30) b 0)).put (some 144) (Rg.out (Rg.opsOf Try.f8 30) b 1)).put (some 145) (Rg.out (Rg.opsOf Try.f8 30) b 2)).put (some 146) (Rg.out (Rg.opsOf Try.f8 30) b 3)).put (some 147) (Rg.out (Rg.opsOf Try.f8 30) b 4)).put (some 148) (Rg.out (Rg.opsOf Try.f8 30) b 5)).put (some 149) (Rg.out (Rg.opsOf Try.f8 30) b 6)).put (some 150) (Rg.out (Rg.opsOf Try.f8 30) b 7)).put (some 151) (Rg.out (Rg.opsOf Try.f8 30) b 8)).put (some 152) (Rg.out (Rg.opsOf Try.f8 30) b 9)).put (some 153) (Rg.out (Rg.opsOf Try.f8 30) b 10)).put (some 154) (Rg.out (Rg.opsOf Try.f8 30) b 11)).put (some 155) (Rg.out (Rg.opsOf Try.f8 30) b 12)).put (some 156) (Rg.out (Rg.opsOf Try.f8 30) b 13)).put (some 157) (Rg.out (Rg.opsOf Try.f8 30) b 14)).put (some 158) (Rg.out (Rg.opsOf Try.f8 30) b 15)).put (some 159) (Rg.out (Rg.opsOf Try.f8 30) b 16)).put (some 160) (Rg.out (Rg.opsOf Try.f8 30) b 17)).put (some 161) (Rg.out (Rg.opsOf Try.f8 30) b 18)).put (some 162) (Rg.out (Rg.opsOf Try.f8 30) b 19)).put (some 163) (Rg.out (Rg.opsOf Try.f8 30) b 20)).put (some 164) (Rg.out (Rg.opsOf Try.f8 30) b 21)).put (some 165) (Rg.out (Rg.opsOf Try.f8 30) b 22)).put (some 166) (Rg.out (Rg.opsOf Try.f8 30) b 23)).put (some 11) (Rg.out (Rg.opsOf Try.f8 30) b 24)) := by
  have h := hf.chain
  rw [sizeSf30, show List.range 25 = [0, 1, 2, 3, 4, 5, 6, 7, 8, 9, 10, 11, 12, 13, 14, 15, 16, 17, 18, 19, 20, 21, 22, 23, 24] from by decide] at h
  simp only [List.foldl_cons, List.foldl_nil, dSf30_0, dSf30_1, dSf30_2, dSf30_3, dSf30_4, dSf30_5, dSf30_6, dSf30_7, dSf30_8, dSf30_9, dSf30_10, dSf30_11, dSf30_12, dSf30_13, dSf30_14, dSf30_15, dSf30_16, dSf30_17, dSf30_18, dSf30_19, dSf30_20, dSf30_21, dSf30_22, dSf30_23, dSf30_24] at h
  exact h
end Go.Proofs.Ytbabknhccapaoaa
