/-
  Asks that are right: the region that draws its order.
-/
import Derived.Test.YtecljmpojninfaaT4
import Derived.Test.YtecljmpojninfaaRs
namespace Go.Proofs.Ytecljmpojninfaa
open Go.RowKit Va Lb
set_option linter.all false

def FSh12 (g off n cap i m2 cap2 : Nat) (ao2 : Option Addr) (y : Int) (t : Bool) (i9 : Nat) (v : Value) (w : World) : Prop :=
  match i9 with
  | 0 => v = .slice (some ⟨g, off, none⟩) n cap
  | 1 => v = .int .i64 (i : Nat)
  | 2 => v = .pointer (some ⟨g, off + i, none⟩)
  | 3 => v = .int .i64 y
  | 4 => v = .bool (decide (y < 0))
  | 5 => v = .bool (decide (y < 0))
  | 6 => v = cond (true && ((decide (y < 0)) == false)) (.slice (some ⟨g, off, none⟩) n cap) undef
  | 7 => v = cond (true && ((decide (y < 0)) == false)) (.int .i64 (i : Nat)) undef
  | 8 => v = cond (true && ((decide (y < 0)) == false)) (.pointer (some ⟨g, off + i, none⟩)) undef
  | 9 => v = cond (true && ((decide (y < 0)) == false)) (.int .i64 y) undef
  | 10 => v = cond (true && ((decide (y < 0)) == false)) (.slice ao2 m2 cap2) undef
  | 11 => v = cond (true && ((decide (y < 0)) == false)) (.int .i64 m2) undef
  | 12 => v = cond (true && ((decide (y < 0)) == false)) (.bool (decide ((m2 : Int) ≤ y))) undef
  | 13 => v = .bool ((decide (y < 0)) || (decide ((m2 : Int) ≤ y)))
  | 14 => v = .bool ((decide (y < 0)) || (decide ((m2 : Int) ≤ y)))
  | 15 => v = cond (true && (((decide (y < 0)) || (decide ((m2 : Int) ≤ y))) == false)) (.slice (some ⟨g, off, none⟩) n cap) undef
  | 16 => v = cond (true && (((decide (y < 0)) || (decide ((m2 : Int) ≤ y))) == false)) (.int .i64 (i : Nat)) undef
  | 17 => v = cond (true && (((decide (y < 0)) || (decide ((m2 : Int) ≤ y))) == false)) (.slice (some ⟨g, off, none⟩) i cap) undef
  | 18 => v = cond (true && (((decide (y < 0)) || (decide ((m2 : Int) ≤ y))) == false)) (.slice (some ⟨g, off, none⟩) n cap) undef
  | 19 => v = cond (true && (((decide (y < 0)) || (decide ((m2 : Int) ≤ y))) == false)) (.int .i64 (i : Nat)) undef
  | 20 => v = cond (true && (((decide (y < 0)) || (decide ((m2 : Int) ≤ y))) == false)) (.pointer (some ⟨g, off + i, none⟩)) undef
  | 21 => v = cond (true && (((decide (y < 0)) || (decide ((m2 : Int) ≤ y))) == false)) (.int .i64 y) undef
  | 22 => v = cond (true && (((decide (y < 0)) || (decide ((m2 : Int) ≤ y))) == false)) (.bool t) undef
  | 23 => v = .bool (((decide (y < 0)) || (decide ((m2 : Int) ≤ y))) || t)
  | _ => True
theorem sizeSh12 : (Rg.opsOf Try.f20 12).size = 24 := by kernel_rfl

set_option maxRecDepth 20000 in
set_option maxHeartbeats 8000000 in
theorem regSh12 {Q : Exit → Act → World → Prop} {a : Act} {w9 : World} {g off n cap i m2 cap2 : Nat} {ao2 : Option Addr} {y : Int} {t : Bool} (ha : a.tmps.size = 102)
    (k1 : a.tmps[1]? = some (.slice (some ⟨g, off, none⟩) n cap)) (k2 : a.tmps[2]? = some (.slice ao2 m2 cap2)) (k9 : a.tmps[9]? = some (.int .i64 (i : Nat))) (hin : i < n) (hil : i < 1000000) (hic : i ≤ cap) (hgl : g < w9.heap.size) (x0 : w9.cell? ⟨g, off + i, none⟩ = some (.int .i64 y)) (hK : ∀ W, Below w9.heap.size w9 W → Calls Try.prog 44 #[.slice (some ⟨g, off, none⟩) i cap, .int .i64 y] W fun e W' => e = .returned (.bool t) ∧ W' = W)
    (hend : ∀ b' w', Rg.Fr (Rg.opsOf Try.f20 12) a b' → Below w9.heap.size w9 w' → Rg.out (Rg.opsOf Try.f20 12) b' 23 = .bool (((decide (y < 0)) || (decide ((m2 : Int) ≤ y))) || t) → Q .normal b' w') :
    (Code.region 12 (Rg.opsOf Try.f20 12) true).wp Try.prog Q a w9 := by
  refine Rg.region_set3 (by kernel_rfl) (fun _ w' => Below w9.heap.size w9 w') (FSh12 g off n cap i m2 cap2 ao2 y t) (by rw [ha, sizeSh12]; kernel_rfl) (st_drew (Below.refl _ _)) ?_ ?_
  case refine_2 =>
    intro l b' w' hf hall hI hA
    rw [sizeSh12] at hA
    exact hend b' w' hf hI (hA 23 (by decide))
  case refine_1 =>
    clear hend
    have HS : ∀ {w w' : World}, Below w.heap.size w w' → ∀ k9 y9, FSh12 g off n cap i m2 cap2 ao2 y t k9 y9 w → FSh12 g off n cap i m2 cap2 ao2 y t k9 y9 w' := fun hb k9 y9 h => by
      unfold FSh12 at *
      split at h <;> exact h
    intro i' hi'
    rw [sizeSh12] at hi'
    rcases (show i' = 0 ∨ i' = 1 ∨ i' = 2 ∨ i' = 3 ∨ i' = 4 ∨ i' = 5 ∨ i' = 6 ∨ i' = 7 ∨ i' = 8 ∨ i' = 9 ∨ i' = 10 ∨ i' = 11 ∨ i' = 12 ∨ i' = 13 ∨ i' = 14 ∨ i' = 15 ∨ i' = 16 ∨ i' = 17 ∨ i' = 18 ∨ i' = 19 ∨ i' = 20 ∨ i' = 21 ∨ i' = 22 ∨ i' = 23 by omega) with rfl | rfl | rfl | rfl | rfl | rfl | rfl | rfl | rfl | rfl | rfl | rfl | rfl | rfl | rfl | rfl | rfl | rfl | rfl | rfl | rfl | rfl | rfl | rfl
    · intro ll bb w' hs hlf hN hO hf hI hA
      clear hi'
      have q0 := hf.kept (s := 1) (by rw [sizeSh12]; kernel_rfl) k1
      exact Rg.op_value (o := ⟨some 45, Op.move (Operand.tmp 1), _, _, _, _⟩) (x := .slice (some ⟨g, off, none⟩) n cap) rfl rfl (by clear hA HS hN hO hK; simp only [execOp]; go_simp) ⟨_, rfl, (fun h => by cases h), rfl, hI, fun _ _ _ _ h => h⟩
    · intro ll bb w' hs hlf hN hO hf hI hA
      clear hi'
      have q0 := hf.kept (s := 9) (by rw [sizeSh12]; kernel_rfl) k9
      exact Rg.op_value (o := ⟨some 46, Op.move (Operand.tmp 9), _, _, _, _⟩) (x := .int .i64 (i : Nat)) rfl rfl (by clear hA HS hN hO hK; simp only [execOp]; go_simp) ⟨_, rfl, (fun h => by cases h), rfl, hI, fun _ _ _ _ h => h⟩
    · intro ll bb w' hs hlf hN hO hf hI hA
      clear hi'
      have q45 : bb.tmps[45]? = some _ := hf.tmp (k := 0) rfl (by rw [ha]; decide) (hA 0 (by kernel_rfl))
      have q46 : bb.tmps[46]? = some _ := hf.tmp (k := 1) rfl (by rw [ha]; decide) (hA 1 (by kernel_rfl))
      have hin2 : (i : Int) < (n : Int) := by omega
      exact Rg.op_value (o := ⟨some 47, Op.indexAddr 24 (Operand.tmp 45) (Operand.tmp 46), _, _, _, _⟩) (x := .pointer (some ⟨g, off + i, none⟩)) rfl rfl (by clear hA HS hN hO hK; simp only [execOp]; go_simp) ⟨_, rfl, (fun h => by cases h), rfl, hI, fun _ _ _ _ h => h⟩
    · intro ll bb w' hs hlf hN hO hf hI hA
      clear hi'
      have q47 : bb.tmps[47]? = some _ := hf.tmp (k := 2) rfl (by rw [ha]; decide) (hA 2 (by kernel_rfl))
      have e0 := (hI.cell (p := ⟨g, off + i, none⟩) hgl).trans x0
      exact Rg.op_value (o := ⟨some 48, Op.load 2 (Operand.tmp 47), _, _, _, _⟩) (x := .int .i64 y) rfl rfl (by clear hA HS hN hO hK; simp only [execOp]; go_simp) ⟨_, rfl, (fun h => by cases h), rfl, hI, fun _ _ _ _ h => h⟩
    · intro ll bb w' hs hlf hN hO hf hI hA
      clear hi'
      have q48 : bb.tmps[48]? = some _ := hf.tmp (k := 3) rfl (by rw [ha]; decide) (hA 3 (by kernel_rfl))
      exact Rg.op_value (o := ⟨some 49, Op.binOp BinOp.lss 2 (Operand.tmp 48) (Operand.const (Value.int .i64 0)) 2, _, _, _, _⟩) (x := .bool (decide (y < 0))) rfl rfl (by clear hA HS hN hO hK; simp only [execOp]; go_simp) ⟨_, rfl, (fun h => by cases h), rfl, hI, fun _ _ _ _ h => h⟩
    · intro ll bb w' hs hlf hN hO hf hI hA
      clear hi'
      have q49 : bb.tmps[49]? = some _ := hf.tmp (k := 4) rfl (by rw [ha]; decide) (hA 4 (by kernel_rfl))
      exact Rg.op_value (o := ⟨some 50, Op.move (Operand.tmp 49), _, _, _, _⟩) (x := .bool (decide (y < 0))) rfl rfl (by clear hA HS hN hO hK; simp only [execOp]; go_simp) ⟨_, rfl, (fun h => by cases h), rfl, hI, fun _ _ _ _ h => h⟩
    · intro ll bb w' hs hlf hN hO hf hI hA
      clear hi'
      have qg : bb.tmps[50]? = some (cond true (.bool (decide (y < 0))) undef) := hf.tmp (k := 5) rfl (by rw [ha]; decide) (hA 5 (by kernel_rfl))
      cases hP : (true && ((decide (y < 0)) == false)) with
      | false => exact Rg.op_none (o := ⟨some 51, _, _, _, _, _⟩) rfl (Rg.unwanted_c (g := 5) rfl rfl qg hP) ⟨_, rfl, (fun h => by cases h), Rg.cond_f hP, hI, fun _ _ _ _ h => h⟩
      | true =>
        have hw := Rg.wanted_c (ops := (Rg.opsOf Try.f20 12)) (o := (Rg.opsOf Try.f20 12)[6]'(by rw [sizeSh12]; decide)) (g := 5) rfl rfl qg hP
        have g0 := Rg.pc_r hP
        have q0 := hf.kept (s := 1) (by rw [sizeSh12]; kernel_rfl) k1
        exact Rg.op_value (o := ⟨some 51, Op.move (Operand.tmp 1), _, _, _, _⟩) (x := .slice (some ⟨g, off, none⟩) n cap) rfl hw (by clear hA HS hN hO hK; simp only [execOp]; go_simp) ⟨_, rfl, (fun h => by cases h), (Rg.cond_t hP).symm, hI, fun _ _ _ _ h => h⟩
    · intro ll bb w' hs hlf hN hO hf hI hA
      clear hi'
      have qg : bb.tmps[50]? = some (cond true (.bool (decide (y < 0))) undef) := hf.tmp (k := 5) rfl (by rw [ha]; decide) (hA 5 (by kernel_rfl))
      cases hP : (true && ((decide (y < 0)) == false)) with
      | false => exact Rg.op_none (o := ⟨some 52, _, _, _, _, _⟩) rfl (Rg.unwanted_c (g := 5) rfl rfl qg hP) ⟨_, rfl, (fun h => by cases h), Rg.cond_f hP, hI, fun _ _ _ _ h => h⟩
      | true =>
        have hw := Rg.wanted_c (ops := (Rg.opsOf Try.f20 12)) (o := (Rg.opsOf Try.f20 12)[7]'(by rw [sizeSh12]; decide)) (g := 5) rfl rfl qg hP
        have g0 := Rg.pc_r hP
        have q0 := hf.kept (s := 9) (by rw [sizeSh12]; kernel_rfl) k9
        exact Rg.op_value (o := ⟨some 52, Op.move (Operand.tmp 9), _, _, _, _⟩) (x := .int .i64 (i : Nat)) rfl hw (by clear hA HS hN hO hK; simp only [execOp]; go_simp) ⟨_, rfl, (fun h => by cases h), (Rg.cond_t hP).symm, hI, fun _ _ _ _ h => h⟩
    · intro ll bb w' hs hlf hN hO hf hI hA
      clear hi'
      have qg : bb.tmps[50]? = some (cond true (.bool (decide (y < 0))) undef) := hf.tmp (k := 5) rfl (by rw [ha]; decide) (hA 5 (by kernel_rfl))
      cases hP : (true && ((decide (y < 0)) == false)) with
      | false => exact Rg.op_none (o := ⟨some 53, _, _, _, _, _⟩) rfl (Rg.unwanted_c (g := 5) rfl rfl qg hP) ⟨_, rfl, (fun h => by cases h), Rg.cond_f hP, hI, fun _ _ _ _ h => h⟩
      | true =>
        have hw := Rg.wanted_c (ops := (Rg.opsOf Try.f20 12)) (o := (Rg.opsOf Try.f20 12)[8]'(by rw [sizeSh12]; decide)) (g := 5) rfl rfl qg hP
        have g0 := Rg.pc_r hP
        have q51 : bb.tmps[51]? = some (.slice (some ⟨g, off, none⟩) n cap) := hf.tmp (k := 6) rfl (by rw [ha]; decide) (Eq.trans (hA 6 (by kernel_rfl)) (Rg.cond_t hP))
        have q52 : bb.tmps[52]? = some (.int .i64 (i : Nat)) := hf.tmp (k := 7) rfl (by rw [ha]; decide) (Eq.trans (hA 7 (by kernel_rfl)) (Rg.cond_t hP))
        have hin2 : (i : Int) < (n : Int) := by omega
        exact Rg.op_value (o := ⟨some 53, Op.indexAddr 24 (Operand.tmp 51) (Operand.tmp 52), _, _, _, _⟩) (x := .pointer (some ⟨g, off + i, none⟩)) rfl hw (by clear hA HS hN hO hK; simp only [execOp]; go_simp) ⟨_, rfl, (fun h => by cases h), (Rg.cond_t hP).symm, hI, fun _ _ _ _ h => h⟩
    · intro ll bb w' hs hlf hN hO hf hI hA
      clear hi'
      have qg : bb.tmps[50]? = some (cond true (.bool (decide (y < 0))) undef) := hf.tmp (k := 5) rfl (by rw [ha]; decide) (hA 5 (by kernel_rfl))
      cases hP : (true && ((decide (y < 0)) == false)) with
      | false => exact Rg.op_none (o := ⟨some 54, _, _, _, _, _⟩) rfl (Rg.unwanted_c (g := 5) rfl rfl qg hP) ⟨_, rfl, (fun h => by cases h), Rg.cond_f hP, hI, fun _ _ _ _ h => h⟩
      | true =>
        have hw := Rg.wanted_c (ops := (Rg.opsOf Try.f20 12)) (o := (Rg.opsOf Try.f20 12)[9]'(by rw [sizeSh12]; decide)) (g := 5) rfl rfl qg hP
        have g0 := Rg.pc_r hP
        have q53 : bb.tmps[53]? = some (.pointer (some ⟨g, off + i, none⟩)) := hf.tmp (k := 8) rfl (by rw [ha]; decide) (Eq.trans (hA 8 (by kernel_rfl)) (Rg.cond_t hP))
        have e0 := (hI.cell (p := ⟨g, off + i, none⟩) hgl).trans x0
        exact Rg.op_value (o := ⟨some 54, Op.load 2 (Operand.tmp 53), _, _, _, _⟩) (x := .int .i64 y) rfl hw (by clear hA HS hN hO hK; simp only [execOp]; go_simp) ⟨_, rfl, (fun h => by cases h), (Rg.cond_t hP).symm, hI, fun _ _ _ _ h => h⟩
    · intro ll bb w' hs hlf hN hO hf hI hA
      clear hi'
      have qg : bb.tmps[50]? = some (cond true (.bool (decide (y < 0))) undef) := hf.tmp (k := 5) rfl (by rw [ha]; decide) (hA 5 (by kernel_rfl))
      cases hP : (true && ((decide (y < 0)) == false)) with
      | false => exact Rg.op_none (o := ⟨some 55, _, _, _, _, _⟩) rfl (Rg.unwanted_c (g := 5) rfl rfl qg hP) ⟨_, rfl, (fun h => by cases h), Rg.cond_f hP, hI, fun _ _ _ _ h => h⟩
      | true =>
        have hw := Rg.wanted_c (ops := (Rg.opsOf Try.f20 12)) (o := (Rg.opsOf Try.f20 12)[10]'(by rw [sizeSh12]; decide)) (g := 5) rfl rfl qg hP
        have g0 := Rg.pc_r hP
        have q0 := hf.kept (s := 2) (by rw [sizeSh12]; kernel_rfl) k2
        exact Rg.op_value (o := ⟨some 55, Op.move (Operand.tmp 2), _, _, _, _⟩) (x := .slice ao2 m2 cap2) rfl hw (by clear hA HS hN hO hK; simp only [execOp]; go_simp) ⟨_, rfl, (fun h => by cases h), (Rg.cond_t hP).symm, hI, fun _ _ _ _ h => h⟩
    · intro ll bb w' hs hlf hN hO hf hI hA
      clear hi'
      have qg : bb.tmps[50]? = some (cond true (.bool (decide (y < 0))) undef) := hf.tmp (k := 5) rfl (by rw [ha]; decide) (hA 5 (by kernel_rfl))
      cases hP : (true && ((decide (y < 0)) == false)) with
      | false => exact Rg.op_none (o := ⟨some 56, _, _, _, _, _⟩) rfl (Rg.unwanted_c (g := 5) rfl rfl qg hP) ⟨_, rfl, (fun h => by cases h), Rg.cond_f hP, hI, fun _ _ _ _ h => h⟩
      | true =>
        have hw := Rg.wanted_c (ops := (Rg.opsOf Try.f20 12)) (o := (Rg.opsOf Try.f20 12)[11]'(by rw [sizeSh12]; decide)) (g := 5) rfl rfl qg hP
        have g0 := Rg.pc_r hP
        have q55 : bb.tmps[55]? = some (.slice ao2 m2 cap2) := hf.tmp (k := 10) rfl (by rw [ha]; decide) (Eq.trans (hA 10 (by kernel_rfl)) (Rg.cond_t hP))
        exact Rg.op_value (o := ⟨some 56, Op.call { callee := Callee.builtin Builtin.len, args := #[(Operand.tmp 55)], argTypes := _ }, _, _, _, _⟩) (x := .int .i64 m2) rfl hw (by clear hA HS hN hO hK; simp only [execOp]; go_simp) ⟨_, rfl, (fun h => by cases h), (Rg.cond_t hP).symm, hI, fun _ _ _ _ h => h⟩
    · intro ll bb w' hs hlf hN hO hf hI hA
      clear hi'
      have qg : bb.tmps[50]? = some (cond true (.bool (decide (y < 0))) undef) := hf.tmp (k := 5) rfl (by rw [ha]; decide) (hA 5 (by kernel_rfl))
      cases hP : (true && ((decide (y < 0)) == false)) with
      | false => exact Rg.op_none (o := ⟨some 57, _, _, _, _, _⟩) rfl (Rg.unwanted_c (g := 5) rfl rfl qg hP) ⟨_, rfl, (fun h => by cases h), Rg.cond_f hP, hI, fun _ _ _ _ h => h⟩
      | true =>
        have hw := Rg.wanted_c (ops := (Rg.opsOf Try.f20 12)) (o := (Rg.opsOf Try.f20 12)[12]'(by rw [sizeSh12]; decide)) (g := 5) rfl rfl qg hP
        have g0 := Rg.pc_r hP
        have q54 : bb.tmps[54]? = some (.int .i64 y) := hf.tmp (k := 9) rfl (by rw [ha]; decide) (Eq.trans (hA 9 (by kernel_rfl)) (Rg.cond_t hP))
        have q56 : bb.tmps[56]? = some (.int .i64 m2) := hf.tmp (k := 11) rfl (by rw [ha]; decide) (Eq.trans (hA 11 (by kernel_rfl)) (Rg.cond_t hP))
        exact Rg.op_value (o := ⟨some 57, Op.binOp BinOp.geq 2 (Operand.tmp 54) (Operand.tmp 56) 2, _, _, _, _⟩) (x := .bool (decide ((m2 : Int) ≤ y))) rfl hw (by clear hA HS hN hO hK; simp only [execOp]; go_simp) ⟨_, rfl, (fun h => by cases h), (Rg.cond_t hP).symm, hI, fun _ _ _ _ h => h⟩
    · intro ll bb w' hs hlf hN hO hf hI hA
      clear hi'
      have q50 : bb.tmps[50]? = some _ := hf.tmp (k := 5) rfl (by rw [ha]; decide) (hA 5 (by kernel_rfl))
      cases hC : (decide (y < 0)) with
      | false =>
        have hB : (true && ((decide (y < 0)) == false)) = true := by rw [hC]; rfl
        have q57 : bb.tmps[57]? = some (.bool (decide ((m2 : Int) ≤ y))) := hf.tmp (k := 12) rfl (by rw [ha]; decide) (Eq.trans (hA 12 (by kernel_rfl)) (Rg.cond_t hB))
        have hval : ((.bool ((decide (y < 0)) || (decide ((m2 : Int) ≤ y))) : Value)) = .bool (decide ((m2 : Int) ≤ y)) := by rw [hC]; rfl
        exact Rg.op_value (o := ⟨some 58, Op.pick (Operand.tmp 50) (Operand.const (Value.bool true)) (Operand.tmp 57), _, _, _, _⟩) (x := .bool (decide ((m2 : Int) ≤ y))) rfl rfl (by rw [hC] at q50; clear hA HS hN hO hK hval; simp only [execOp]; go_simp) ⟨_, rfl, (fun h => by cases h), (by show ((.bool (decide ((m2 : Int) ≤ y)) : Value)) = _; exact hval.symm), hI, fun _ _ _ _ h => h⟩
      | true =>
        have hval : ((.bool ((decide (y < 0)) || (decide ((m2 : Int) ≤ y))) : Value)) = .bool true := by rw [hC]; rfl
        exact Rg.op_value (o := ⟨some 58, Op.pick (Operand.tmp 50) (Operand.const (Value.bool true)) (Operand.tmp 57), _, _, _, _⟩) (x := .bool true) rfl rfl (by rw [hC] at q50; clear hA HS hN hO hK hval; simp only [execOp]; go_simp) ⟨_, rfl, (fun h => by cases h), (by show ((.bool true : Value)) = _; exact hval.symm), hI, fun _ _ _ _ h => h⟩
    · intro ll bb w' hs hlf hN hO hf hI hA
      clear hi'
      have q58 : bb.tmps[58]? = some _ := hf.tmp (k := 13) rfl (by rw [ha]; decide) (hA 13 (by kernel_rfl))
      exact Rg.op_value (o := ⟨some 59, Op.move (Operand.tmp 58), _, _, _, _⟩) (x := .bool ((decide (y < 0)) || (decide ((m2 : Int) ≤ y)))) rfl rfl (by clear hA HS hN hO hK; simp only [execOp]; go_simp) ⟨_, rfl, (fun h => by cases h), rfl, hI, fun _ _ _ _ h => h⟩
    · intro ll bb w' hs hlf hN hO hf hI hA
      clear hi'
      have qg : bb.tmps[59]? = some (cond true (.bool ((decide (y < 0)) || (decide ((m2 : Int) ≤ y)))) undef) := hf.tmp (k := 14) rfl (by rw [ha]; decide) (hA 14 (by kernel_rfl))
      cases hP : (true && (((decide (y < 0)) || (decide ((m2 : Int) ≤ y))) == false)) with
      | false => exact Rg.op_none (o := ⟨some 60, _, _, _, _, _⟩) rfl (Rg.unwanted_c (g := 14) rfl rfl qg hP) ⟨_, rfl, (fun h => by cases h), Rg.cond_f hP, hI, fun _ _ _ _ h => h⟩
      | true =>
        have hw := Rg.wanted_c (ops := (Rg.opsOf Try.f20 12)) (o := (Rg.opsOf Try.f20 12)[15]'(by rw [sizeSh12]; decide)) (g := 14) rfl rfl qg hP
        have g0 := Rg.pc_r hP
        have q0 := hf.kept (s := 1) (by rw [sizeSh12]; kernel_rfl) k1
        exact Rg.op_value (o := ⟨some 60, Op.move (Operand.tmp 1), _, _, _, _⟩) (x := .slice (some ⟨g, off, none⟩) n cap) rfl hw (by clear hA HS hN hO hK; simp only [execOp]; go_simp) ⟨_, rfl, (fun h => by cases h), (Rg.cond_t hP).symm, hI, fun _ _ _ _ h => h⟩
    · intro ll bb w' hs hlf hN hO hf hI hA
      clear hi'
      have qg : bb.tmps[59]? = some (cond true (.bool ((decide (y < 0)) || (decide ((m2 : Int) ≤ y)))) undef) := hf.tmp (k := 14) rfl (by rw [ha]; decide) (hA 14 (by kernel_rfl))
      cases hP : (true && (((decide (y < 0)) || (decide ((m2 : Int) ≤ y))) == false)) with
      | false => exact Rg.op_none (o := ⟨some 61, _, _, _, _, _⟩) rfl (Rg.unwanted_c (g := 14) rfl rfl qg hP) ⟨_, rfl, (fun h => by cases h), Rg.cond_f hP, hI, fun _ _ _ _ h => h⟩
      | true =>
        have hw := Rg.wanted_c (ops := (Rg.opsOf Try.f20 12)) (o := (Rg.opsOf Try.f20 12)[16]'(by rw [sizeSh12]; decide)) (g := 14) rfl rfl qg hP
        have g0 := Rg.pc_r hP
        have q0 := hf.kept (s := 9) (by rw [sizeSh12]; kernel_rfl) k9
        exact Rg.op_value (o := ⟨some 61, Op.move (Operand.tmp 9), _, _, _, _⟩) (x := .int .i64 (i : Nat)) rfl hw (by clear hA HS hN hO hK; simp only [execOp]; go_simp) ⟨_, rfl, (fun h => by cases h), (Rg.cond_t hP).symm, hI, fun _ _ _ _ h => h⟩
    · intro ll bb w' hs hlf hN hO hf hI hA
      clear hi'
      have qg : bb.tmps[59]? = some (cond true (.bool ((decide (y < 0)) || (decide ((m2 : Int) ≤ y)))) undef) := hf.tmp (k := 14) rfl (by rw [ha]; decide) (hA 14 (by kernel_rfl))
      cases hP : (true && (((decide (y < 0)) || (decide ((m2 : Int) ≤ y))) == false)) with
      | false => exact Rg.op_none (o := ⟨some 62, _, _, _, _, _⟩) rfl (Rg.unwanted_c (g := 14) rfl rfl qg hP) ⟨_, rfl, (fun h => by cases h), Rg.cond_f hP, hI, fun _ _ _ _ h => h⟩
      | true =>
        have hw := Rg.wanted_c (ops := (Rg.opsOf Try.f20 12)) (o := (Rg.opsOf Try.f20 12)[17]'(by rw [sizeSh12]; decide)) (g := 14) rfl rfl qg hP
        have g0 := Rg.pc_r hP
        have q60 : bb.tmps[60]? = some (.slice (some ⟨g, off, none⟩) n cap) := hf.tmp (k := 15) rfl (by rw [ha]; decide) (Eq.trans (hA 15 (by kernel_rfl)) (Rg.cond_t hP))
        have q61 : bb.tmps[61]? = some (.int .i64 (i : Nat)) := hf.tmp (k := 16) rfl (by rw [ha]; decide) (Eq.trans (hA 16 (by kernel_rfl)) (Rg.cond_t hP))
        have hic2 : (i : Int) ≤ (cap : Int) := by omega
        exact Rg.op_value (o := ⟨some 62, Op.slice 24 (Operand.tmp 60) none (some (Operand.tmp 61)) none, _, _, _, _⟩) (x := .slice (some ⟨g, off, none⟩) i cap) rfl hw (by clear hA HS hN hO hK; simp only [execOp]; go_simp) ⟨_, rfl, (fun h => by cases h), (Rg.cond_t hP).symm, hI, fun _ _ _ _ h => h⟩
    · intro ll bb w' hs hlf hN hO hf hI hA
      clear hi'
      have qg : bb.tmps[59]? = some (cond true (.bool ((decide (y < 0)) || (decide ((m2 : Int) ≤ y)))) undef) := hf.tmp (k := 14) rfl (by rw [ha]; decide) (hA 14 (by kernel_rfl))
      cases hP : (true && (((decide (y < 0)) || (decide ((m2 : Int) ≤ y))) == false)) with
      | false => exact Rg.op_none (o := ⟨some 63, _, _, _, _, _⟩) rfl (Rg.unwanted_c (g := 14) rfl rfl qg hP) ⟨_, rfl, (fun h => by cases h), Rg.cond_f hP, hI, fun _ _ _ _ h => h⟩
      | true =>
        have hw := Rg.wanted_c (ops := (Rg.opsOf Try.f20 12)) (o := (Rg.opsOf Try.f20 12)[18]'(by rw [sizeSh12]; decide)) (g := 14) rfl rfl qg hP
        have g0 := Rg.pc_r hP
        have q0 := hf.kept (s := 1) (by rw [sizeSh12]; kernel_rfl) k1
        exact Rg.op_value (o := ⟨some 63, Op.move (Operand.tmp 1), _, _, _, _⟩) (x := .slice (some ⟨g, off, none⟩) n cap) rfl hw (by clear hA HS hN hO hK; simp only [execOp]; go_simp) ⟨_, rfl, (fun h => by cases h), (Rg.cond_t hP).symm, hI, fun _ _ _ _ h => h⟩
    · intro ll bb w' hs hlf hN hO hf hI hA
      clear hi'
      have qg : bb.tmps[59]? = some (cond true (.bool ((decide (y < 0)) || (decide ((m2 : Int) ≤ y)))) undef) := hf.tmp (k := 14) rfl (by rw [ha]; decide) (hA 14 (by kernel_rfl))
      cases hP : (true && (((decide (y < 0)) || (decide ((m2 : Int) ≤ y))) == false)) with
      | false => exact Rg.op_none (o := ⟨some 64, _, _, _, _, _⟩) rfl (Rg.unwanted_c (g := 14) rfl rfl qg hP) ⟨_, rfl, (fun h => by cases h), Rg.cond_f hP, hI, fun _ _ _ _ h => h⟩
      | true =>
        have hw := Rg.wanted_c (ops := (Rg.opsOf Try.f20 12)) (o := (Rg.opsOf Try.f20 12)[19]'(by rw [sizeSh12]; decide)) (g := 14) rfl rfl qg hP
        have g0 := Rg.pc_r hP
        have q0 := hf.kept (s := 9) (by rw [sizeSh12]; kernel_rfl) k9
        exact Rg.op_value (o := ⟨some 64, Op.move (Operand.tmp 9), _, _, _, _⟩) (x := .int .i64 (i : Nat)) rfl hw (by clear hA HS hN hO hK; simp only [execOp]; go_simp) ⟨_, rfl, (fun h => by cases h), (Rg.cond_t hP).symm, hI, fun _ _ _ _ h => h⟩
    · intro ll bb w' hs hlf hN hO hf hI hA
      clear hi'
      have qg : bb.tmps[59]? = some (cond true (.bool ((decide (y < 0)) || (decide ((m2 : Int) ≤ y)))) undef) := hf.tmp (k := 14) rfl (by rw [ha]; decide) (hA 14 (by kernel_rfl))
      cases hP : (true && (((decide (y < 0)) || (decide ((m2 : Int) ≤ y))) == false)) with
      | false => exact Rg.op_none (o := ⟨some 65, _, _, _, _, _⟩) rfl (Rg.unwanted_c (g := 14) rfl rfl qg hP) ⟨_, rfl, (fun h => by cases h), Rg.cond_f hP, hI, fun _ _ _ _ h => h⟩
      | true =>
        have hw := Rg.wanted_c (ops := (Rg.opsOf Try.f20 12)) (o := (Rg.opsOf Try.f20 12)[20]'(by rw [sizeSh12]; decide)) (g := 14) rfl rfl qg hP
        have g0 := Rg.pc_r hP
        have q63 : bb.tmps[63]? = some (.slice (some ⟨g, off, none⟩) n cap) := hf.tmp (k := 18) rfl (by rw [ha]; decide) (Eq.trans (hA 18 (by kernel_rfl)) (Rg.cond_t hP))
        have q64 : bb.tmps[64]? = some (.int .i64 (i : Nat)) := hf.tmp (k := 19) rfl (by rw [ha]; decide) (Eq.trans (hA 19 (by kernel_rfl)) (Rg.cond_t hP))
        have hin2 : (i : Int) < (n : Int) := by omega
        exact Rg.op_value (o := ⟨some 65, Op.indexAddr 24 (Operand.tmp 63) (Operand.tmp 64), _, _, _, _⟩) (x := .pointer (some ⟨g, off + i, none⟩)) rfl hw (by clear hA HS hN hO hK; simp only [execOp]; go_simp) ⟨_, rfl, (fun h => by cases h), (Rg.cond_t hP).symm, hI, fun _ _ _ _ h => h⟩
    · intro ll bb w' hs hlf hN hO hf hI hA
      clear hi'
      have qg : bb.tmps[59]? = some (cond true (.bool ((decide (y < 0)) || (decide ((m2 : Int) ≤ y)))) undef) := hf.tmp (k := 14) rfl (by rw [ha]; decide) (hA 14 (by kernel_rfl))
      cases hP : (true && (((decide (y < 0)) || (decide ((m2 : Int) ≤ y))) == false)) with
      | false => exact Rg.op_none (o := ⟨some 66, _, _, _, _, _⟩) rfl (Rg.unwanted_c (g := 14) rfl rfl qg hP) ⟨_, rfl, (fun h => by cases h), Rg.cond_f hP, hI, fun _ _ _ _ h => h⟩
      | true =>
        have hw := Rg.wanted_c (ops := (Rg.opsOf Try.f20 12)) (o := (Rg.opsOf Try.f20 12)[21]'(by rw [sizeSh12]; decide)) (g := 14) rfl rfl qg hP
        have g0 := Rg.pc_r hP
        have q65 : bb.tmps[65]? = some (.pointer (some ⟨g, off + i, none⟩)) := hf.tmp (k := 20) rfl (by rw [ha]; decide) (Eq.trans (hA 20 (by kernel_rfl)) (Rg.cond_t hP))
        have e0 := (hI.cell (p := ⟨g, off + i, none⟩) hgl).trans x0
        exact Rg.op_value (o := ⟨some 66, Op.load 2 (Operand.tmp 65), _, _, _, _⟩) (x := .int .i64 y) rfl hw (by clear hA HS hN hO hK; simp only [execOp]; go_simp) ⟨_, rfl, (fun h => by cases h), (Rg.cond_t hP).symm, hI, fun _ _ _ _ h => h⟩
    · intro ll bb w' hs hlf hN hO hf hI hA
      clear hi'
      have qg : bb.tmps[59]? = some (cond true (.bool ((decide (y < 0)) || (decide ((m2 : Int) ≤ y)))) undef) := hf.tmp (k := 14) rfl (by rw [ha]; decide) (hA 14 (by kernel_rfl))
      cases hP : (true && (((decide (y < 0)) || (decide ((m2 : Int) ≤ y))) == false)) with
      | false => exact Rg.op_none (o := ⟨some 67, _, _, _, _, _⟩) rfl (Rg.unwanted_c (g := 14) rfl rfl qg hP) ⟨_, rfl, (fun h => by cases h), Rg.cond_f hP, hI, fun _ _ _ _ h => h⟩
      | true =>
        have hw := Rg.wanted_c (ops := (Rg.opsOf Try.f20 12)) (o := (Rg.opsOf Try.f20 12)[22]'(by rw [sizeSh12]; decide)) (g := 14) rfl rfl qg hP
        have g0 := Rg.pc_r hP
        have q62 : bb.tmps[62]? = some (.slice (some ⟨g, off, none⟩) i cap) := hf.tmp (k := 17) rfl (by rw [ha]; decide) (Eq.trans (hA 17 (by kernel_rfl)) (Rg.cond_t hP))
        have q66 : bb.tmps[66]? = some (.int .i64 y) := hf.tmp (k := 21) rfl (by rw [ha]; decide) (Eq.trans (hA 21 (by kernel_rfl)) (Rg.cond_t hP))
        refine Rg.op_call (o := ⟨some 67, Op.call { callee := Callee.value (Operand.func 44), args := #[(Operand.tmp 62), (Operand.tmp 66)], argTypes := _ }, _, _, _, _⟩) rfl hw (by clear hA HS hN hO hK; simp only [execOp, resolve]; go_simp) (hK w' hI) ?_
        rintro e w2 ⟨rfl, rfl⟩
        exact ⟨_, rfl, _, rfl, (fun h => by cases h), (Rg.cond_t hP).symm, hI, fun _ _ _ _ h => h⟩
    · intro ll bb w' hs hlf hN hO hf hI hA
      clear hi'
      have q59 : bb.tmps[59]? = some _ := hf.tmp (k := 14) rfl (by rw [ha]; decide) (hA 14 (by kernel_rfl))
      cases hC : ((decide (y < 0)) || (decide ((m2 : Int) ≤ y))) with
      | false =>
        have hB : (true && (((decide (y < 0)) || (decide ((m2 : Int) ≤ y))) == false)) = true := by rw [hC]; rfl
        have q67 : bb.tmps[67]? = some (.bool t) := hf.tmp (k := 22) rfl (by rw [ha]; decide) (Eq.trans (hA 22 (by kernel_rfl)) (Rg.cond_t hB))
        have hval : ((.bool (((decide (y < 0)) || (decide ((m2 : Int) ≤ y))) || t) : Value)) = .bool t := by rw [hC]; rfl
        exact Rg.op_value (o := ⟨some 68, Op.pick (Operand.tmp 59) (Operand.const (Value.bool true)) (Operand.tmp 67), _, _, _, _⟩) (x := .bool t) rfl rfl (by rw [hC] at q59; clear hA HS hN hO hK hval; simp only [execOp]; go_simp) ⟨_, rfl, (fun h => by cases h), (by show ((.bool t : Value)) = _; exact hval.symm), hI, fun _ _ _ _ h => h⟩
      | true =>
        have hval : ((.bool (((decide (y < 0)) || (decide ((m2 : Int) ≤ y))) || t) : Value)) = .bool true := by rw [hC]; rfl
        exact Rg.op_value (o := ⟨some 68, Op.pick (Operand.tmp 59) (Operand.const (Value.bool true)) (Operand.tmp 67), _, _, _, _⟩) (x := .bool true) rfl rfl (by rw [hC] at q59; clear hA HS hN hO hK hval; simp only [execOp]; go_simp) ⟨_, rfl, (fun h => by cases h), (by show ((.bool true : Value)) = _; exact hval.symm), hI, fun _ _ _ _ h => h⟩

theorem dSh12_0 : Rg.dstAt (Rg.opsOf Try.f20 12) 0 = some 45 := by kernel_rfl
theorem dSh12_1 : Rg.dstAt (Rg.opsOf Try.f20 12) 1 = some 46 := by kernel_rfl
theorem dSh12_2 : Rg.dstAt (Rg.opsOf Try.f20 12) 2 = some 47 := by kernel_rfl
theorem dSh12_3 : Rg.dstAt (Rg.opsOf Try.f20 12) 3 = some 48 := by kernel_rfl
theorem dSh12_4 : Rg.dstAt (Rg.opsOf Try.f20 12) 4 = some 49 := by kernel_rfl
theorem dSh12_5 : Rg.dstAt (Rg.opsOf Try.f20 12) 5 = some 50 := by kernel_rfl
theorem dSh12_6 : Rg.dstAt (Rg.opsOf Try.f20 12) 6 = some 51 := by kernel_rfl
theorem dSh12_7 : Rg.dstAt (Rg.opsOf Try.f20 12) 7 = some 52 := by kernel_rfl
theorem dSh12_8 : Rg.dstAt (Rg.opsOf Try.f20 12) 8 = some 53 := by kernel_rfl
theorem dSh12_9 : Rg.dstAt (Rg.opsOf Try.f20 12) 9 = some 54 := by kernel_rfl
theorem dSh12_10 : Rg.dstAt (Rg.opsOf Try.f20 12) 10 = some 55 := by kernel_rfl
theorem dSh12_11 : Rg.dstAt (Rg.opsOf Try.f20 12) 11 = some 56 := by kernel_rfl
theorem dSh12_12 : Rg.dstAt (Rg.opsOf Try.f20 12) 12 = some 57 := by kernel_rfl
theorem dSh12_13 : Rg.dstAt (Rg.opsOf Try.f20 12) 13 = some 58 := by kernel_rfl
theorem dSh12_14 : Rg.dstAt (Rg.opsOf Try.f20 12) 14 = some 59 := by kernel_rfl
theorem dSh12_15 : Rg.dstAt (Rg.opsOf Try.f20 12) 15 = some 60 := by kernel_rfl
theorem dSh12_16 : Rg.dstAt (Rg.opsOf Try.f20 12) 16 = some 61 := by kernel_rfl
theorem dSh12_17 : Rg.dstAt (Rg.opsOf Try.f20 12) 17 = some 62 := by kernel_rfl
theorem dSh12_18 : Rg.dstAt (Rg.opsOf Try.f20 12) 18 = some 63 := by kernel_rfl
theorem dSh12_19 : Rg.dstAt (Rg.opsOf Try.f20 12) 19 = some 64 := by kernel_rfl
theorem dSh12_20 : Rg.dstAt (Rg.opsOf Try.f20 12) 20 = some 65 := by kernel_rfl
theorem dSh12_21 : Rg.dstAt (Rg.opsOf Try.f20 12) 21 = some 66 := by kernel_rfl
theorem dSh12_22 : Rg.dstAt (Rg.opsOf Try.f20 12) 22 = some 67 := by kernel_rfl
theorem dSh12_23 : Rg.dstAt (Rg.opsOf Try.f20 12) 23 = some 68 := by kernel_rfl
theorem laySh12 {a b : Act} (hf : Rg.Fr (Rg.opsOf Try.f20 12) a b) : b = ((((((((((((((((((((((((a.put (some 45) (Rg.out (Rg.opsOf Try.f20 12) b 0)).put (some 46) (Rg.out (Rg.opsOf Try.f20 12) b 1)).put (some 47) (Rg.out (Rg.opsOf Try.f20 12) b 2)).put (some 48) (Rg.out (Rg.opsOf Try.f20 12) b 3)).put (some 49) (Rg.out (Rg.opsOf Try.f20 12) b 4)).put (some 50) (Rg.out (Rg.opsOf Try.f20 12) b 5)).put (some 51) (Rg.out (Rg.opsOf Try.f20 12) b 6)).put (some 52) (Rg.out (Rg.opsOf Try.f20 12) b 7)).put (some 53) (Rg.out (Rg.opsOf Try.f20 12) b 8)).put (some 54) (Rg.out (Rg.opsOf Try.f20 12) b 9)).put (some 55) (Rg.out (Rg.opsOf Try.f20 12) b 10)).put (some 56) (Rg.out (Rg.opsOf Try.f20 12) b 11)).put (some 57) (Rg.out (Rg.opsOf Try.f20 12) b 12)).put (some 58) (Rg.out (Rg.opsOf Try.f20 12) b 13)).put (some 59) (Rg.out (Rg.opsOf Try.f20 12) b 14)).put (some 60) (Rg.out (Rg.opsOf Try.f20 12) b 15)).put (some 61) (Rg.out (Rg.opsOf Try.f20 12) b 16)).put (some 62) (Rg.out (Rg.opsOf Try.f20 12) b 17)).put (some 63) (Rg.out (Rg.opsOf Try.f20 12) b 18)).put (some 64) (Rg.out (Rg.opsOf Try.f20 12) b 19)).put (some 65) (Rg.out (Rg.opsOf Try.f20 12) b 20)).put (some 66) (Rg.out (Rg.opsOf Try.f20 12) b 21)).put (some 67) (Rg.out (Rg.opsOf Try.f20 12) b 22)).put (some 68) (Rg.out (Rg.opsOf Try.f20 12) b 23)) := by
  have h := hf.chain
  rw [sizeSh12, show List.range 24 = [0, 1, 2, 3, 4, 5, 6, 7, 8, 9, 10, 11, 12, 13, 14, 15, 16, 17, 18, 19, 20, 21, 22, 23] from by decide] at h
  simp only [List.foldl_cons, List.foldl_nil, dSh12_0, dSh12_1, dSh12_2, dSh12_3, dSh12_4, dSh12_5, dSh12_6, dSh12_7, dSh12_8, dSh12_9, dSh12_10, dSh12_11, dSh12_12, dSh12_13, dSh12_14, dSh12_15, dSh12_16, dSh12_17, dSh12_18, dSh12_19, dSh12_20, dSh12_21, dSh12_22, dSh12_23] at h
  exact h
end Go.Proofs.Ytecljmpojninfaa
