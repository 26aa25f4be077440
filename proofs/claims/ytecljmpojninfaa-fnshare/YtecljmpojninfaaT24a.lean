/-
  What is done of the asks: a region of the law that draws its order.
-/
import Derived.Test.YtecljmpojninfaaT23
import Derived.Test.YtecljmpojninfaaRs
namespace Go.Proofs.Ytecljmpojninfaa
open Go.RowKit Va Lb
set_option linter.all false

def FFs11 (g off n cap dg doff dn dc k i : Nat) (x z : Int) (i9 : Nat) (v : Value) (w : World) : Prop :=
  match i9 with
  | 0 => v = .int .i64 (k : Nat)
  | 1 => v = .slice (some ⟨dg, doff, none⟩) dn dc
  | 2 => v = .int .i64 dn
  | 3 => v = .bool (decide ((k : Int) < (dn : Int)))
  | 4 => v = .bool (decide ((k : Int) < (dn : Int)))
  | 5 => v = cond (true && ((decide ((k : Int) < (dn : Int))) == true)) (.slice (some ⟨dg, doff, none⟩) dn dc) undef
  | 6 => v = cond (true && ((decide ((k : Int) < (dn : Int))) == true)) (.int .i64 (k : Nat)) undef
  | 7 => v = cond (true && ((decide ((k : Int) < (dn : Int))) == true)) (.pointer (some ⟨dg, doff + k, none⟩)) undef
  | 8 => v = cond (true && ((decide ((k : Int) < (dn : Int))) == true)) (.int .i64 z) undef
  | 9 => v = cond (true && ((decide ((k : Int) < (dn : Int))) == true)) (.slice (some ⟨g, off, none⟩) n cap) undef
  | 10 => v = cond (true && ((decide ((k : Int) < (dn : Int))) == true)) (.int .i64 (i : Nat)) undef
  | 11 => v = cond (true && ((decide ((k : Int) < (dn : Int))) == true)) (.pointer (some ⟨g, off + i, none⟩)) undef
  | 12 => v = cond (true && ((decide ((k : Int) < (dn : Int))) == true)) (.int .i64 x) undef
  | 13 => v = cond (true && ((decide ((k : Int) < (dn : Int))) == true)) (.bool (z == x)) undef
  | 14 => v = .bool ((decide ((k : Int) < (dn : Int))) && (z == x))
  | _ => True
theorem sizeFs11 : (Rg.opsOf Try.f5 11).size = 15 := by kernel_rfl

set_option maxRecDepth 20000 in
set_option maxHeartbeats 8000000 in
theorem regFs11 {Q : Exit → Act → World → Prop} {a : Act} {w9 : World} {g off n cap dg doff dn dc k i : Nat} {x z : Int} (ha : a.tmps.size = 88)
    (k4 : a.tmps[4]? = some (.slice (some ⟨g, off, none⟩) n cap)) (k6 : a.tmps[6]? = some (.slice (some ⟨dg, doff, none⟩) dn dc)) (k7 : a.tmps[7]? = some (.int .i64 (k : Nat))) (k8 : a.tmps[8]? = some (.int .i64 (i : Nat))) (hin : i < n) (hil : n < 1000000) (hdl2 : dn < 1000000) (hkl : k < 1000000) (hgl : g < w9.heap.size) (hdl : dg < w9.heap.size) (x0 : w9.cell? ⟨g, off + i, none⟩ = some (.int .i64 x)) (z0 : k < dn → w9.cell? ⟨dg, doff + k, none⟩ = some (.int .i64 z))
    (hend : ∀ b' w', Rg.Fr (Rg.opsOf Try.f5 11) a b' → Below w9.heap.size w9 w' → Rg.out (Rg.opsOf Try.f5 11) b' 14 = .bool ((decide ((k : Int) < (dn : Int))) && (z == x)) → Q .normal b' w') :
    (Code.region 11 (Rg.opsOf Try.f5 11) true).wp Try.prog Q a w9 := by
  refine Rg.region_set3 (by kernel_rfl) (fun _ w' => Below w9.heap.size w9 w') (FFs11 g off n cap dg doff dn dc k i x z) (by rw [ha, sizeFs11]; kernel_rfl) (st_drew (Below.refl _ _)) ?_ ?_
  case refine_2 =>
    intro l b' w' hf hall hI hA
    rw [sizeFs11] at hA
    exact hend b' w' hf hI (hA 14 (by decide))
  case refine_1 =>
    clear hend
    have HS : ∀ {w w' : World}, Below w.heap.size w w' → ∀ k9 y9, FFs11 g off n cap dg doff dn dc k i x z k9 y9 w → FFs11 g off n cap dg doff dn dc k i x z k9 y9 w' := fun hb k9 y9 h => by
      unfold FFs11 at *
      split at h <;> exact h
    intro i' hi'
    rw [sizeFs11] at hi'
    rcases (show i' = 0 ∨ i' = 1 ∨ i' = 2 ∨ i' = 3 ∨ i' = 4 ∨ i' = 5 ∨ i' = 6 ∨ i' = 7 ∨ i' = 8 ∨ i' = 9 ∨ i' = 10 ∨ i' = 11 ∨ i' = 12 ∨ i' = 13 ∨ i' = 14 by omega) with rfl | rfl | rfl | rfl | rfl | rfl | rfl | rfl | rfl | rfl | rfl | rfl | rfl | rfl | rfl
    · intro ll bb w' hs hlf hN hO hf hI hA
      clear hi'
      have q0 := hf.kept (s := 7) (by rw [sizeFs11]; kernel_rfl) k7
      exact Rg.op_value (o := ⟨some 40, Op.move (Operand.tmp 7), _, _, _, _⟩) (x := .int .i64 (k : Nat)) rfl rfl (by clear hA HS hN hO ; simp only [execOp]; go_simp) ⟨_, rfl, (fun h => by cases h), rfl, hI, fun _ _ _ _ h => h⟩
    · intro ll bb w' hs hlf hN hO hf hI hA
      clear hi'
      have q0 := hf.kept (s := 6) (by rw [sizeFs11]; kernel_rfl) k6
      exact Rg.op_value (o := ⟨some 41, Op.move (Operand.tmp 6), _, _, _, _⟩) (x := .slice (some ⟨dg, doff, none⟩) dn dc) rfl rfl (by clear hA HS hN hO ; simp only [execOp]; go_simp) ⟨_, rfl, (fun h => by cases h), rfl, hI, fun _ _ _ _ h => h⟩
    · intro ll bb w' hs hlf hN hO hf hI hA
      clear hi'
      have q41 : bb.tmps[41]? = some _ := hf.tmp (k := 1) rfl (by rw [ha]; decide) (hA 1 (by kernel_rfl))
      exact Rg.op_value (o := ⟨some 42, Op.call { callee := Callee.builtin Builtin.len, args := #[(Operand.tmp 41)], argTypes := _ }, _, _, _, _⟩) (x := .int .i64 dn) rfl rfl (by clear hA HS hN hO ; simp only [execOp]; go_simp) ⟨_, rfl, (fun h => by cases h), rfl, hI, fun _ _ _ _ h => h⟩
    · intro ll bb w' hs hlf hN hO hf hI hA
      clear hi'
      have q40 : bb.tmps[40]? = some _ := hf.tmp (k := 0) rfl (by rw [ha]; decide) (hA 0 (by kernel_rfl))
      have q42 : bb.tmps[42]? = some _ := hf.tmp (k := 2) rfl (by rw [ha]; decide) (hA 2 (by kernel_rfl))
      exact Rg.op_value (o := ⟨some 43, Op.binOp BinOp.lss 3 (Operand.tmp 40) (Operand.tmp 42) 3, _, _, _, _⟩) (x := .bool (decide ((k : Int) < (dn : Int)))) rfl rfl (by clear hA HS hN hO ; simp only [execOp]; go_simp) ⟨_, rfl, (fun h => by cases h), rfl, hI, fun _ _ _ _ h => h⟩
    · intro ll bb w' hs hlf hN hO hf hI hA
      clear hi'
      have q43 : bb.tmps[43]? = some _ := hf.tmp (k := 3) rfl (by rw [ha]; decide) (hA 3 (by kernel_rfl))
      exact Rg.op_value (o := ⟨some 44, Op.move (Operand.tmp 43), _, _, _, _⟩) (x := .bool (decide ((k : Int) < (dn : Int)))) rfl rfl (by clear hA HS hN hO ; simp only [execOp]; go_simp) ⟨_, rfl, (fun h => by cases h), rfl, hI, fun _ _ _ _ h => h⟩
    · intro ll bb w' hs hlf hN hO hf hI hA
      clear hi'
      have qg : bb.tmps[44]? = some (cond true (.bool (decide ((k : Int) < (dn : Int)))) undef) := hf.tmp (k := 4) rfl (by rw [ha]; decide) (hA 4 (by kernel_rfl))
      cases hP : (true && ((decide ((k : Int) < (dn : Int))) == true)) with
      | false => exact Rg.op_none (o := ⟨some 45, _, _, _, _, _⟩) rfl (Rg.unwanted_c (g := 4) rfl rfl qg hP) ⟨_, rfl, (fun h => by cases h), Rg.cond_f hP, hI, fun _ _ _ _ h => h⟩
      | true =>
        have hw := Rg.wanted_c (ops := (Rg.opsOf Try.f5 11)) (o := (Rg.opsOf Try.f5 11)[5]'(by rw [sizeFs11]; decide)) (g := 4) rfl rfl qg hP
        have g0 := Rg.pc_r hP
        have q0 := hf.kept (s := 6) (by rw [sizeFs11]; kernel_rfl) k6
        exact Rg.op_value (o := ⟨some 45, Op.move (Operand.tmp 6), _, _, _, _⟩) (x := .slice (some ⟨dg, doff, none⟩) dn dc) rfl hw (by clear hA HS hN hO ; simp only [execOp]; go_simp) ⟨_, rfl, (fun h => by cases h), (Rg.cond_t hP).symm, hI, fun _ _ _ _ h => h⟩
    · intro ll bb w' hs hlf hN hO hf hI hA
      clear hi'
      have qg : bb.tmps[44]? = some (cond true (.bool (decide ((k : Int) < (dn : Int)))) undef) := hf.tmp (k := 4) rfl (by rw [ha]; decide) (hA 4 (by kernel_rfl))
      cases hP : (true && ((decide ((k : Int) < (dn : Int))) == true)) with
      | false => exact Rg.op_none (o := ⟨some 46, _, _, _, _, _⟩) rfl (Rg.unwanted_c (g := 4) rfl rfl qg hP) ⟨_, rfl, (fun h => by cases h), Rg.cond_f hP, hI, fun _ _ _ _ h => h⟩
      | true =>
        have hw := Rg.wanted_c (ops := (Rg.opsOf Try.f5 11)) (o := (Rg.opsOf Try.f5 11)[6]'(by rw [sizeFs11]; decide)) (g := 4) rfl rfl qg hP
        have g0 := Rg.pc_r hP
        have q0 := hf.kept (s := 7) (by rw [sizeFs11]; kernel_rfl) k7
        exact Rg.op_value (o := ⟨some 46, Op.move (Operand.tmp 7), _, _, _, _⟩) (x := .int .i64 (k : Nat)) rfl hw (by clear hA HS hN hO ; simp only [execOp]; go_simp) ⟨_, rfl, (fun h => by cases h), (Rg.cond_t hP).symm, hI, fun _ _ _ _ h => h⟩
    · intro ll bb w' hs hlf hN hO hf hI hA
      clear hi'
      have qg : bb.tmps[44]? = some (cond true (.bool (decide ((k : Int) < (dn : Int)))) undef) := hf.tmp (k := 4) rfl (by rw [ha]; decide) (hA 4 (by kernel_rfl))
      cases hP : (true && ((decide ((k : Int) < (dn : Int))) == true)) with
      | false => exact Rg.op_none (o := ⟨some 47, _, _, _, _, _⟩) rfl (Rg.unwanted_c (g := 4) rfl rfl qg hP) ⟨_, rfl, (fun h => by cases h), Rg.cond_f hP, hI, fun _ _ _ _ h => h⟩
      | true =>
        have hw := Rg.wanted_c (ops := (Rg.opsOf Try.f5 11)) (o := (Rg.opsOf Try.f5 11)[7]'(by rw [sizeFs11]; decide)) (g := 4) rfl rfl qg hP
        have g0 := Rg.pc_r hP
        have q45 : bb.tmps[45]? = some (.slice (some ⟨dg, doff, none⟩) dn dc) := hf.tmp (k := 5) rfl (by rw [ha]; decide) (Eq.trans (hA 5 (by kernel_rfl)) (Rg.cond_t hP))
        have q46 : bb.tmps[46]? = some (.int .i64 (k : Nat)) := hf.tmp (k := 6) rfl (by rw [ha]; decide) (Eq.trans (hA 6 (by kernel_rfl)) (Rg.cond_t hP))
        have hk0 : k < dn := by have := g0; simp at this; omega
        have hin2 : (k : Int) < (dn : Int) := by omega
        exact Rg.op_value (o := ⟨some 47, Op.indexAddr 24 (Operand.tmp 45) (Operand.tmp 46), _, _, _, _⟩) (x := .pointer (some ⟨dg, doff + k, none⟩)) rfl hw (by clear hA HS hN hO ; simp only [execOp]; go_simp) ⟨_, rfl, (fun h => by cases h), (Rg.cond_t hP).symm, hI, fun _ _ _ _ h => h⟩
    · intro ll bb w' hs hlf hN hO hf hI hA
      clear hi'
      have qg : bb.tmps[44]? = some (cond true (.bool (decide ((k : Int) < (dn : Int)))) undef) := hf.tmp (k := 4) rfl (by rw [ha]; decide) (hA 4 (by kernel_rfl))
      cases hP : (true && ((decide ((k : Int) < (dn : Int))) == true)) with
      | false => exact Rg.op_none (o := ⟨some 48, _, _, _, _, _⟩) rfl (Rg.unwanted_c (g := 4) rfl rfl qg hP) ⟨_, rfl, (fun h => by cases h), Rg.cond_f hP, hI, fun _ _ _ _ h => h⟩
      | true =>
        have hw := Rg.wanted_c (ops := (Rg.opsOf Try.f5 11)) (o := (Rg.opsOf Try.f5 11)[8]'(by rw [sizeFs11]; decide)) (g := 4) rfl rfl qg hP
        have g0 := Rg.pc_r hP
        have q47 : bb.tmps[47]? = some (.pointer (some ⟨dg, doff + k, none⟩)) := hf.tmp (k := 7) rfl (by rw [ha]; decide) (Eq.trans (hA 7 (by kernel_rfl)) (Rg.cond_t hP))
        have hk0 : k < dn := by have := g0; simp at this; omega
        have e0 := (hI.cell (p := ⟨dg, doff + k, none⟩) hdl).trans (z0 hk0)
        exact Rg.op_value (o := ⟨some 48, Op.load 2 (Operand.tmp 47), _, _, _, _⟩) (x := .int .i64 z) rfl hw (by clear hA HS hN hO ; simp only [execOp]; go_simp) ⟨_, rfl, (fun h => by cases h), (Rg.cond_t hP).symm, hI, fun _ _ _ _ h => h⟩
    · intro ll bb w' hs hlf hN hO hf hI hA
      clear hi'
      have qg : bb.tmps[44]? = some (cond true (.bool (decide ((k : Int) < (dn : Int)))) undef) := hf.tmp (k := 4) rfl (by rw [ha]; decide) (hA 4 (by kernel_rfl))
      cases hP : (true && ((decide ((k : Int) < (dn : Int))) == true)) with
      | false => exact Rg.op_none (o := ⟨some 49, _, _, _, _, _⟩) rfl (Rg.unwanted_c (g := 4) rfl rfl qg hP) ⟨_, rfl, (fun h => by cases h), Rg.cond_f hP, hI, fun _ _ _ _ h => h⟩
      | true =>
        have hw := Rg.wanted_c (ops := (Rg.opsOf Try.f5 11)) (o := (Rg.opsOf Try.f5 11)[9]'(by rw [sizeFs11]; decide)) (g := 4) rfl rfl qg hP
        have g0 := Rg.pc_r hP
        have q0 := hf.kept (s := 4) (by rw [sizeFs11]; kernel_rfl) k4
        exact Rg.op_value (o := ⟨some 49, Op.move (Operand.tmp 4), _, _, _, _⟩) (x := .slice (some ⟨g, off, none⟩) n cap) rfl hw (by clear hA HS hN hO ; simp only [execOp]; go_simp) ⟨_, rfl, (fun h => by cases h), (Rg.cond_t hP).symm, hI, fun _ _ _ _ h => h⟩
    · intro ll bb w' hs hlf hN hO hf hI hA
      clear hi'
      have qg : bb.tmps[44]? = some (cond true (.bool (decide ((k : Int) < (dn : Int)))) undef) := hf.tmp (k := 4) rfl (by rw [ha]; decide) (hA 4 (by kernel_rfl))
      cases hP : (true && ((decide ((k : Int) < (dn : Int))) == true)) with
      | false => exact Rg.op_none (o := ⟨some 50, _, _, _, _, _⟩) rfl (Rg.unwanted_c (g := 4) rfl rfl qg hP) ⟨_, rfl, (fun h => by cases h), Rg.cond_f hP, hI, fun _ _ _ _ h => h⟩
      | true =>
        have hw := Rg.wanted_c (ops := (Rg.opsOf Try.f5 11)) (o := (Rg.opsOf Try.f5 11)[10]'(by rw [sizeFs11]; decide)) (g := 4) rfl rfl qg hP
        have g0 := Rg.pc_r hP
        have q0 := hf.kept (s := 8) (by rw [sizeFs11]; kernel_rfl) k8
        exact Rg.op_value (o := ⟨some 50, Op.move (Operand.tmp 8), _, _, _, _⟩) (x := .int .i64 (i : Nat)) rfl hw (by clear hA HS hN hO ; simp only [execOp]; go_simp) ⟨_, rfl, (fun h => by cases h), (Rg.cond_t hP).symm, hI, fun _ _ _ _ h => h⟩
    · intro ll bb w' hs hlf hN hO hf hI hA
      clear hi'
      have qg : bb.tmps[44]? = some (cond true (.bool (decide ((k : Int) < (dn : Int)))) undef) := hf.tmp (k := 4) rfl (by rw [ha]; decide) (hA 4 (by kernel_rfl))
      cases hP : (true && ((decide ((k : Int) < (dn : Int))) == true)) with
      | false => exact Rg.op_none (o := ⟨some 51, _, _, _, _, _⟩) rfl (Rg.unwanted_c (g := 4) rfl rfl qg hP) ⟨_, rfl, (fun h => by cases h), Rg.cond_f hP, hI, fun _ _ _ _ h => h⟩
      | true =>
        have hw := Rg.wanted_c (ops := (Rg.opsOf Try.f5 11)) (o := (Rg.opsOf Try.f5 11)[11]'(by rw [sizeFs11]; decide)) (g := 4) rfl rfl qg hP
        have g0 := Rg.pc_r hP
        have q49 : bb.tmps[49]? = some (.slice (some ⟨g, off, none⟩) n cap) := hf.tmp (k := 9) rfl (by rw [ha]; decide) (Eq.trans (hA 9 (by kernel_rfl)) (Rg.cond_t hP))
        have q50 : bb.tmps[50]? = some (.int .i64 (i : Nat)) := hf.tmp (k := 10) rfl (by rw [ha]; decide) (Eq.trans (hA 10 (by kernel_rfl)) (Rg.cond_t hP))
        have hin2 : (i : Int) < (n : Int) := by omega
        exact Rg.op_value (o := ⟨some 51, Op.indexAddr 24 (Operand.tmp 49) (Operand.tmp 50), _, _, _, _⟩) (x := .pointer (some ⟨g, off + i, none⟩)) rfl hw (by clear hA HS hN hO ; simp only [execOp]; go_simp) ⟨_, rfl, (fun h => by cases h), (Rg.cond_t hP).symm, hI, fun _ _ _ _ h => h⟩
    · intro ll bb w' hs hlf hN hO hf hI hA
      clear hi'
      have qg : bb.tmps[44]? = some (cond true (.bool (decide ((k : Int) < (dn : Int)))) undef) := hf.tmp (k := 4) rfl (by rw [ha]; decide) (hA 4 (by kernel_rfl))
      cases hP : (true && ((decide ((k : Int) < (dn : Int))) == true)) with
      | false => exact Rg.op_none (o := ⟨some 52, _, _, _, _, _⟩) rfl (Rg.unwanted_c (g := 4) rfl rfl qg hP) ⟨_, rfl, (fun h => by cases h), Rg.cond_f hP, hI, fun _ _ _ _ h => h⟩
      | true =>
        have hw := Rg.wanted_c (ops := (Rg.opsOf Try.f5 11)) (o := (Rg.opsOf Try.f5 11)[12]'(by rw [sizeFs11]; decide)) (g := 4) rfl rfl qg hP
        have g0 := Rg.pc_r hP
        have q51 : bb.tmps[51]? = some (.pointer (some ⟨g, off + i, none⟩)) := hf.tmp (k := 11) rfl (by rw [ha]; decide) (Eq.trans (hA 11 (by kernel_rfl)) (Rg.cond_t hP))
        have e0 := (hI.cell (p := ⟨g, off + i, none⟩) hgl).trans x0
        exact Rg.op_value (o := ⟨some 52, Op.load 2 (Operand.tmp 51), _, _, _, _⟩) (x := .int .i64 x) rfl hw (by clear hA HS hN hO ; simp only [execOp]; go_simp) ⟨_, rfl, (fun h => by cases h), (Rg.cond_t hP).symm, hI, fun _ _ _ _ h => h⟩
    · intro ll bb w' hs hlf hN hO hf hI hA
      clear hi'
      have qg : bb.tmps[44]? = some (cond true (.bool (decide ((k : Int) < (dn : Int)))) undef) := hf.tmp (k := 4) rfl (by rw [ha]; decide) (hA 4 (by kernel_rfl))
      cases hP : (true && ((decide ((k : Int) < (dn : Int))) == true)) with
      | false => exact Rg.op_none (o := ⟨some 53, _, _, _, _, _⟩) rfl (Rg.unwanted_c (g := 4) rfl rfl qg hP) ⟨_, rfl, (fun h => by cases h), Rg.cond_f hP, hI, fun _ _ _ _ h => h⟩
      | true =>
        have hw := Rg.wanted_c (ops := (Rg.opsOf Try.f5 11)) (o := (Rg.opsOf Try.f5 11)[13]'(by rw [sizeFs11]; decide)) (g := 4) rfl rfl qg hP
        have g0 := Rg.pc_r hP
        have q48 : bb.tmps[48]? = some (.int .i64 z) := hf.tmp (k := 8) rfl (by rw [ha]; decide) (Eq.trans (hA 8 (by kernel_rfl)) (Rg.cond_t hP))
        have q52 : bb.tmps[52]? = some (.int .i64 x) := hf.tmp (k := 12) rfl (by rw [ha]; decide) (Eq.trans (hA 12 (by kernel_rfl)) (Rg.cond_t hP))
        exact Rg.op_value (o := ⟨some 53, Op.binOp BinOp.eql 2 (Operand.tmp 48) (Operand.tmp 52) 2, _, _, _, _⟩) (x := .bool (z == x)) rfl hw (by clear hA HS hN hO ; simp only [execOp]; go_simp) ⟨_, rfl, (fun h => by cases h), (Rg.cond_t hP).symm, hI, fun _ _ _ _ h => h⟩
    · intro ll bb w' hs hlf hN hO hf hI hA
      clear hi'
      have q44 : bb.tmps[44]? = some _ := hf.tmp (k := 4) rfl (by rw [ha]; decide) (hA 4 (by kernel_rfl))
      cases hC : (decide ((k : Int) < (dn : Int))) with
      | false =>
        have hval : ((.bool ((decide ((k : Int) < (dn : Int))) && (z == x)) : Value)) = .bool false := by rw [hC]; rfl
        exact Rg.op_value (o := ⟨some 54, Op.pick (Operand.tmp 44) (Operand.tmp 53) (Operand.const (Value.bool false)), _, _, _, _⟩) (x := .bool false) rfl rfl (by rw [hC] at q44; clear hA HS hN hO  hval; simp only [execOp]; go_simp) ⟨_, rfl, (fun h => by cases h), (by show ((.bool false : Value)) = _; exact hval.symm), hI, fun _ _ _ _ h => h⟩
      | true =>
        have hB : (true && ((decide ((k : Int) < (dn : Int))) == true)) = true := by rw [hC]; rfl
        have q53 : bb.tmps[53]? = some (.bool (z == x)) := hf.tmp (k := 13) rfl (by rw [ha]; decide) (Eq.trans (hA 13 (by kernel_rfl)) (Rg.cond_t hB))
        have hval : ((.bool ((decide ((k : Int) < (dn : Int))) && (z == x)) : Value)) = .bool (z == x) := by rw [hC]; rfl
        exact Rg.op_value (o := ⟨some 54, Op.pick (Operand.tmp 44) (Operand.tmp 53) (Operand.const (Value.bool false)), _, _, _, _⟩) (x := .bool (z == x)) rfl rfl (by rw [hC] at q44; clear hA HS hN hO  hval; simp only [execOp]; go_simp) ⟨_, rfl, (fun h => by cases h), (by show ((.bool (z == x) : Value)) = _; exact hval.symm), hI, fun _ _ _ _ h => h⟩

theorem dFs11_0 : Rg.dstAt (Rg.opsOf Try.f5 11) 0 = some 40 := by kernel_rfl
theorem dFs11_1 : Rg.dstAt (Rg.opsOf Try.f5 11) 1 = some 41 := by kernel_rfl
theorem dFs11_2 : Rg.dstAt (Rg.opsOf Try.f5 11) 2 = some 42 := by kernel_rfl
theorem dFs11_3 : Rg.dstAt (Rg.opsOf Try.f5 11) 3 = some 43 := by kernel_rfl
theorem dFs11_4 : Rg.dstAt (Rg.opsOf Try.f5 11) 4 = some 44 := by kernel_rfl
theorem dFs11_5 : Rg.dstAt (Rg.opsOf Try.f5 11) 5 = some 45 := by kernel_rfl
theorem dFs11_6 : Rg.dstAt (Rg.opsOf Try.f5 11) 6 = some 46 := by kernel_rfl
theorem dFs11_7 : Rg.dstAt (Rg.opsOf Try.f5 11) 7 = some 47 := by kernel_rfl
theorem dFs11_8 : Rg.dstAt (Rg.opsOf Try.f5 11) 8 = some 48 := by kernel_rfl
theorem dFs11_9 : Rg.dstAt (Rg.opsOf Try.f5 11) 9 = some 49 := by kernel_rfl
theorem dFs11_10 : Rg.dstAt (Rg.opsOf Try.f5 11) 10 = some 50 := by kernel_rfl
theorem dFs11_11 : Rg.dstAt (Rg.opsOf Try.f5 11) 11 = some 51 := by kernel_rfl
theorem dFs11_12 : Rg.dstAt (Rg.opsOf Try.f5 11) 12 = some 52 := by kernel_rfl
theorem dFs11_13 : Rg.dstAt (Rg.opsOf Try.f5 11) 13 = some 53 := by kernel_rfl
theorem dFs11_14 : Rg.dstAt (Rg.opsOf Try.f5 11) 14 = some 54 := by kernel_rfl
theorem layFs11 {a b : Act} (hf : Rg.Fr (Rg.opsOf Try.f5 11) a b) : b = (((((((((((((((a.put (some 40) (Rg.out (Rg.opsOf Try.f5 11) b 0)).put (some 41) (Rg.out (Rg.opsOf Try.f5 11) b 1)).put (some 42) (Rg.out (Rg.opsOf Try.f5 11) b 2)).put (some 43) (Rg.out (Rg.opsOf Try.f5 11) b 3)).put (some 44) (Rg.out (Rg.opsOf Try.f5 11) b 4)).put (some 45) (Rg.out (Rg.opsOf Try.f5 11) b 5)).put (some 46) (Rg.out (Rg.opsOf Try.f5 11) b 6)).put (some 47) (Rg.out (Rg.opsOf Try.f5 11) b 7)).put (some 48) (Rg.out (Rg.opsOf Try.f5 11) b 8)).put (some 49) (Rg.out (Rg.opsOf Try.f5 11) b 9)).put (some 50) (Rg.out (Rg.opsOf Try.f5 11) b 10)).put (some 51) (Rg.out (Rg.opsOf Try.f5 11) b 11)).put (some 52) (Rg.out (Rg.opsOf Try.f5 11) b 12)).put (some 53) (Rg.out (Rg.opsOf Try.f5 11) b 13)).put (some 54) (Rg.out (Rg.opsOf Try.f5 11) b 14)) := by
  have h := hf.chain
  rw [sizeFs11, show List.range 15 = [0, 1, 2, 3, 4, 5, 6, 7, 8, 9, 10, 11, 12, 13, 14] from by decide] at h
  simp only [List.foldl_cons, List.foldl_nil, dFs11_0, dFs11_1, dFs11_2, dFs11_3, dFs11_4, dFs11_5, dFs11_6, dFs11_7, dFs11_8, dFs11_9, dFs11_10, dFs11_11, dFs11_12, dFs11_13, dFs11_14] at h
  exact h
end Go.Proofs.Ytecljmpojninfaa
