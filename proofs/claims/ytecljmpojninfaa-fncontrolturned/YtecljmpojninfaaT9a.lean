/-
  Delta and Calls, the specification's: the regions that draw their order.
-/
import Derived.Test.YtecljmpojninfaaT7
import Derived.Test.YtecljmpojninfaaGx
import Derived.Test.YtecljmpojninfaaRs
namespace Go.Proofs.Ytecljmpojninfaa
open Go.RowKit Va Lb
set_option linter.all false

def FCa10 (B g off n cap n7 c7 og j : Nat) (ao7 : Option Addr) (xt pt : Int) (i9 : Nat) (v : Value) (w : World) : Prop :=
  match i9 with
  | 0 => v = .int .i64 (n7 : Nat)
  | 1 => v = .bool (decide ((0 : Int) < (n7 : Int)))
  | 2 => v = .bool (decide ((0 : Int) < (n7 : Int)))
  | 3 => v = cond (true && ((decide ((0 : Int) < (n7 : Int))) == true)) (.pointer (some ⟨B, 1, none⟩)) undef
  | 4 => v = cond (true && ((decide ((0 : Int) < (n7 : Int))) == true)) (.int .i64 xt) undef
  | 5 => v = cond (true && ((decide ((0 : Int) < (n7 : Int))) == true)) (.slice (some ⟨g, off, none⟩) n cap) undef
  | 6 => v = cond (true && ((decide ((0 : Int) < (n7 : Int))) == true)) (.slice ao7 n7 c7) undef
  | 7 => v = cond (true && ((decide ((0 : Int) < (n7 : Int))) == true)) (.int .i64 (n7 : Nat)) undef
  | 8 => v = cond (true && ((decide ((0 : Int) < (n7 : Int))) == true)) (.int .i64 ((n7 - 1 : Nat) : Int)) undef
  | 9 => v = cond (true && ((decide ((0 : Int) < (n7 : Int))) == true)) (.pointer (some ⟨og, n7 - 1, none⟩)) undef
  | 10 => v = cond (true && ((decide ((0 : Int) < (n7 : Int))) == true)) (.int .i64 (j : Nat)) undef
  | 11 => v = cond (true && ((decide ((0 : Int) < (n7 : Int))) == true)) (.pointer (some ⟨g, off + j * 3, none⟩)) undef
  | 12 => v = cond (true && ((decide ((0 : Int) < (n7 : Int))) == true)) (.pointer (some ⟨g, off + j * 3 + 1, none⟩)) undef
  | 13 => v = cond (true && ((decide ((0 : Int) < (n7 : Int))) == true)) (.int .i64 pt) undef
  | 14 => v = cond (true && ((decide ((0 : Int) < (n7 : Int))) == true)) (.int .i64 (xt - pt)) undef
  | 15 => v = cond (true && ((decide ((0 : Int) < (n7 : Int))) == true)) (.bool (decide (xt - pt < 60))) undef
  | 16 => v = .bool ((decide ((0 : Int) < (n7 : Int))) && (decide (xt - pt < 60)))
  | _ => True
theorem sizeCa10 : (Rg.opsOf Try.f27 10).size = 17 := by kernel_rfl

set_option maxRecDepth 20000 in
set_option maxHeartbeats 8000000 in
theorem regCa10 {Q : Exit → Act → World → Prop} {a : Act} {w9 : World} {B g off n cap n7 c7 og j : Nat} {ao7 : Option Addr} {xt pt : Int} (ha : a.tmps.size = 65)
    (k0 : a.tmps[0]? = some (.slice (some ⟨g, off, none⟩) n cap)) (k7 : a.tmps[7]? = some (.slice ao7 n7 c7)) (k9 : a.tmps[9]? = some (.pointer (some ⟨B, 0, none⟩))) (k10 : a.tmps[10]? = some (.int .i64 (n7 : Nat))) (hil : n < 1000000) (hil7 : n7 < 1000000) (hgl : g < w9.heap.size) (hBl : B < w9.heap.size) (x0 : w9.cell? ⟨B, 1, none⟩ = some (.int .i64 xt)) (hao : 0 < n7 → ao7 = some ⟨og, 0, none⟩) (hol : 0 < n7 → og < w9.heap.size) (o0 : 0 < n7 → w9.cell? ⟨og, n7 - 1, none⟩ = some (.int .i64 (j : Int))) (hjn : 0 < n7 → j < n) (y0 : 0 < n7 → w9.cell? ⟨g, off + j * 3 + 1, none⟩ = some (.int .i64 pt)) (hx1 : 0 ≤ xt ∧ xt ≤ 10000000) (hp1 : 0 ≤ pt ∧ pt ≤ 10000000)
    (hend : ∀ b' w', Rg.Fr (Rg.opsOf Try.f27 10) a b' → Below w9.heap.size w9 w' → Rg.out (Rg.opsOf Try.f27 10) b' 16 = .bool ((decide ((0 : Int) < (n7 : Int))) && (decide (xt - pt < 60))) → Q .normal b' w') :
    (Code.region 10 (Rg.opsOf Try.f27 10) true).wp Try.prog Q a w9 := by
  refine Rg.region_set3 (by kernel_rfl) (fun _ w' => Below w9.heap.size w9 w') (FCa10 B g off n cap n7 c7 og j ao7 xt pt) (by rw [ha, sizeCa10]; kernel_rfl) (st_drew (Below.refl _ _)) ?_ ?_
  case refine_2 =>
    intro l b' w' hf hall hI hA
    rw [sizeCa10] at hA
    exact hend b' w' hf hI (hA 16 (by decide))
  case refine_1 =>
    clear hend
    have HS : ∀ {w w' : World}, Below w.heap.size w w' → ∀ k9 y9, FCa10 B g off n cap n7 c7 og j ao7 xt pt k9 y9 w → FCa10 B g off n cap n7 c7 og j ao7 xt pt k9 y9 w' := fun hb k9 y9 h => by
      unfold FCa10 at *
      split at h <;> exact h
    intro i' hi'
    rw [sizeCa10] at hi'
    rcases (show i' = 0 ∨ i' = 1 ∨ i' = 2 ∨ i' = 3 ∨ i' = 4 ∨ i' = 5 ∨ i' = 6 ∨ i' = 7 ∨ i' = 8 ∨ i' = 9 ∨ i' = 10 ∨ i' = 11 ∨ i' = 12 ∨ i' = 13 ∨ i' = 14 ∨ i' = 15 ∨ i' = 16 by omega) with rfl | rfl | rfl | rfl | rfl | rfl | rfl | rfl | rfl | rfl | rfl | rfl | rfl | rfl | rfl | rfl | rfl
    · intro ll bb w' hs hlf hN hO hf hI hA
      clear hi'
      have q0 := hf.kept (s := 10) (by rw [sizeCa10]; kernel_rfl) k10
      exact Rg.op_value (o := ⟨some 43, Op.move (Operand.tmp 10), _, _, _, _⟩) (x := .int .i64 (n7 : Nat)) rfl rfl (by clear hA HS hN hO hao; simp only [execOp]; go_simp) ⟨_, rfl, (fun h => by cases h), rfl, hI, fun _ _ _ _ h => h⟩
    · intro ll bb w' hs hlf hN hO hf hI hA
      clear hi'
      have q43 : bb.tmps[43]? = some _ := hf.tmp (k := 0) rfl (by rw [ha]; decide) (hA 0 (by kernel_rfl))
      exact Rg.op_value (o := ⟨some 44, Op.binOp BinOp.gtr 3 (Operand.tmp 43) (Operand.const (Value.int .i64 0)) 3, _, _, _, _⟩) (x := .bool (decide ((0 : Int) < (n7 : Int)))) rfl rfl (by clear hA HS hN hO hao; simp only [execOp]; go_simp) ⟨_, rfl, (fun h => by cases h), rfl, hI, fun _ _ _ _ h => h⟩
    · intro ll bb w' hs hlf hN hO hf hI hA
      clear hi'
      have q44 : bb.tmps[44]? = some _ := hf.tmp (k := 1) rfl (by rw [ha]; decide) (hA 1 (by kernel_rfl))
      exact Rg.op_value (o := ⟨some 45, Op.move (Operand.tmp 44), _, _, _, _⟩) (x := .bool (decide ((0 : Int) < (n7 : Int)))) rfl rfl (by clear hA HS hN hO hao; simp only [execOp]; go_simp) ⟨_, rfl, (fun h => by cases h), rfl, hI, fun _ _ _ _ h => h⟩
    · intro ll bb w' hs hlf hN hO hf hI hA
      clear hi'
      have qg : bb.tmps[45]? = some (cond true (.bool (decide ((0 : Int) < (n7 : Int)))) undef) := hf.tmp (k := 2) rfl (by rw [ha]; decide) (hA 2 (by kernel_rfl))
      cases hP : (true && ((decide ((0 : Int) < (n7 : Int))) == true)) with
      | false => exact Rg.op_none (o := ⟨some 46, _, _, _, _, _⟩) rfl (Rg.unwanted_c (g := 2) rfl rfl qg hP) ⟨_, rfl, (fun h => by cases h), Rg.cond_f hP, hI, fun _ _ _ _ h => h⟩
      | true =>
        have hw := Rg.wanted_c (ops := (Rg.opsOf Try.f27 10)) (o := (Rg.opsOf Try.f27 10)[3]'(by rw [sizeCa10]; decide)) (g := 2) rfl rfl qg hP
        have g0 := Rg.pc_r hP
        have q9 := hf.kept (s := 9) (by rw [sizeCa10]; kernel_rfl) k9
        exact Rg.op_value (o := ⟨some 46, Op.fieldAddr 46 (Operand.tmp 9) 1, _, _, _, _⟩) (x := .pointer (some ⟨B, 1, none⟩)) rfl hw (by clear hA HS hN hO hao; simp only [execOp]; go_simp) ⟨_, rfl, (fun h => by cases h), (Rg.cond_t hP).symm, hI, fun _ _ _ _ h => h⟩
    · intro ll bb w' hs hlf hN hO hf hI hA
      clear hi'
      have qg : bb.tmps[45]? = some (cond true (.bool (decide ((0 : Int) < (n7 : Int)))) undef) := hf.tmp (k := 2) rfl (by rw [ha]; decide) (hA 2 (by kernel_rfl))
      cases hP : (true && ((decide ((0 : Int) < (n7 : Int))) == true)) with
      | false => exact Rg.op_none (o := ⟨some 47, _, _, _, _, _⟩) rfl (Rg.unwanted_c (g := 2) rfl rfl qg hP) ⟨_, rfl, (fun h => by cases h), Rg.cond_f hP, hI, fun _ _ _ _ h => h⟩
      | true =>
        have hw := Rg.wanted_c (ops := (Rg.opsOf Try.f27 10)) (o := (Rg.opsOf Try.f27 10)[4]'(by rw [sizeCa10]; decide)) (g := 2) rfl rfl qg hP
        have g0 := Rg.pc_r hP
        have q46 : bb.tmps[46]? = some (.pointer (some ⟨B, 1, none⟩)) := hf.tmp (k := 3) rfl (by rw [ha]; decide) (Eq.trans (hA 3 (by kernel_rfl)) (Rg.cond_t hP))
        have e0 := (hI.cell (p := ⟨B, 1, none⟩) hBl).trans x0
        exact Rg.op_value (o := ⟨some 47, Op.load 2 (Operand.tmp 46), _, _, _, _⟩) (x := .int .i64 xt) rfl hw (by clear hA HS hN hO hao; simp only [execOp]; go_simp) ⟨_, rfl, (fun h => by cases h), (Rg.cond_t hP).symm, hI, fun _ _ _ _ h => h⟩
    · intro ll bb w' hs hlf hN hO hf hI hA
      clear hi'
      have qg : bb.tmps[45]? = some (cond true (.bool (decide ((0 : Int) < (n7 : Int)))) undef) := hf.tmp (k := 2) rfl (by rw [ha]; decide) (hA 2 (by kernel_rfl))
      cases hP : (true && ((decide ((0 : Int) < (n7 : Int))) == true)) with
      | false => exact Rg.op_none (o := ⟨some 48, _, _, _, _, _⟩) rfl (Rg.unwanted_c (g := 2) rfl rfl qg hP) ⟨_, rfl, (fun h => by cases h), Rg.cond_f hP, hI, fun _ _ _ _ h => h⟩
      | true =>
        have hw := Rg.wanted_c (ops := (Rg.opsOf Try.f27 10)) (o := (Rg.opsOf Try.f27 10)[5]'(by rw [sizeCa10]; decide)) (g := 2) rfl rfl qg hP
        have g0 := Rg.pc_r hP
        have q0 := hf.kept (s := 0) (by rw [sizeCa10]; kernel_rfl) k0
        exact Rg.op_value (o := ⟨some 48, Op.move (Operand.tmp 0), _, _, _, _⟩) (x := .slice (some ⟨g, off, none⟩) n cap) rfl hw (by clear hA HS hN hO hao; simp only [execOp]; go_simp) ⟨_, rfl, (fun h => by cases h), (Rg.cond_t hP).symm, hI, fun _ _ _ _ h => h⟩
    · intro ll bb w' hs hlf hN hO hf hI hA
      clear hi'
      have qg : bb.tmps[45]? = some (cond true (.bool (decide ((0 : Int) < (n7 : Int)))) undef) := hf.tmp (k := 2) rfl (by rw [ha]; decide) (hA 2 (by kernel_rfl))
      cases hP : (true && ((decide ((0 : Int) < (n7 : Int))) == true)) with
      | false => exact Rg.op_none (o := ⟨some 49, _, _, _, _, _⟩) rfl (Rg.unwanted_c (g := 2) rfl rfl qg hP) ⟨_, rfl, (fun h => by cases h), Rg.cond_f hP, hI, fun _ _ _ _ h => h⟩
      | true =>
        have hw := Rg.wanted_c (ops := (Rg.opsOf Try.f27 10)) (o := (Rg.opsOf Try.f27 10)[6]'(by rw [sizeCa10]; decide)) (g := 2) rfl rfl qg hP
        have g0 := Rg.pc_r hP
        have q0 := hf.kept (s := 7) (by rw [sizeCa10]; kernel_rfl) k7
        exact Rg.op_value (o := ⟨some 49, Op.move (Operand.tmp 7), _, _, _, _⟩) (x := .slice ao7 n7 c7) rfl hw (by clear hA HS hN hO hao; simp only [execOp]; go_simp) ⟨_, rfl, (fun h => by cases h), (Rg.cond_t hP).symm, hI, fun _ _ _ _ h => h⟩
    · intro ll bb w' hs hlf hN hO hf hI hA
      clear hi'
      have qg : bb.tmps[45]? = some (cond true (.bool (decide ((0 : Int) < (n7 : Int)))) undef) := hf.tmp (k := 2) rfl (by rw [ha]; decide) (hA 2 (by kernel_rfl))
      cases hP : (true && ((decide ((0 : Int) < (n7 : Int))) == true)) with
      | false => exact Rg.op_none (o := ⟨some 50, _, _, _, _, _⟩) rfl (Rg.unwanted_c (g := 2) rfl rfl qg hP) ⟨_, rfl, (fun h => by cases h), Rg.cond_f hP, hI, fun _ _ _ _ h => h⟩
      | true =>
        have hw := Rg.wanted_c (ops := (Rg.opsOf Try.f27 10)) (o := (Rg.opsOf Try.f27 10)[7]'(by rw [sizeCa10]; decide)) (g := 2) rfl rfl qg hP
        have g0 := Rg.pc_r hP
        have q0 := hf.kept (s := 10) (by rw [sizeCa10]; kernel_rfl) k10
        exact Rg.op_value (o := ⟨some 50, Op.move (Operand.tmp 10), _, _, _, _⟩) (x := .int .i64 (n7 : Nat)) rfl hw (by clear hA HS hN hO hao; simp only [execOp]; go_simp) ⟨_, rfl, (fun h => by cases h), (Rg.cond_t hP).symm, hI, fun _ _ _ _ h => h⟩
    · intro ll bb w' hs hlf hN hO hf hI hA
      clear hi'
      have qg : bb.tmps[45]? = some (cond true (.bool (decide ((0 : Int) < (n7 : Int)))) undef) := hf.tmp (k := 2) rfl (by rw [ha]; decide) (hA 2 (by kernel_rfl))
      cases hP : (true && ((decide ((0 : Int) < (n7 : Int))) == true)) with
      | false => exact Rg.op_none (o := ⟨some 51, _, _, _, _, _⟩) rfl (Rg.unwanted_c (g := 2) rfl rfl qg hP) ⟨_, rfl, (fun h => by cases h), Rg.cond_f hP, hI, fun _ _ _ _ h => h⟩
      | true =>
        have hw := Rg.wanted_c (ops := (Rg.opsOf Try.f27 10)) (o := (Rg.opsOf Try.f27 10)[8]'(by rw [sizeCa10]; decide)) (g := 2) rfl rfl qg hP
        have g0 := Rg.pc_r hP
        have q50 : bb.tmps[50]? = some (.int .i64 (n7 : Nat)) := hf.tmp (k := 7) rfl (by rw [ha]; decide) (Eq.trans (hA 7 (by kernel_rfl)) (Rg.cond_t hP))
        have hn0 : 0 < n7 := by have := g0; simp at this; omega
        have hwr : IntKind.i64.wrap ((n7 : Int) - 1) = ((n7 - 1 : Nat) : Int) := by rw [IntKind.wrap_i64]; omega
        exact Rg.op_value (o := ⟨some 51, Op.binOp BinOp.sub 3 (Operand.tmp 50) (Operand.const (Value.int .i64 1)) 3, _, _, _, _⟩) (x := .int .i64 ((n7 - 1 : Nat) : Int)) rfl hw (by clear hA HS hN hO hao; simp only [execOp]; go_simp) ⟨_, rfl, (fun h => by cases h), (Rg.cond_t hP).symm, hI, fun _ _ _ _ h => h⟩
    · intro ll bb w' hs hlf hN hO hf hI hA
      clear hi'
      have qg : bb.tmps[45]? = some (cond true (.bool (decide ((0 : Int) < (n7 : Int)))) undef) := hf.tmp (k := 2) rfl (by rw [ha]; decide) (hA 2 (by kernel_rfl))
      cases hP : (true && ((decide ((0 : Int) < (n7 : Int))) == true)) with
      | false => exact Rg.op_none (o := ⟨some 52, _, _, _, _, _⟩) rfl (Rg.unwanted_c (g := 2) rfl rfl qg hP) ⟨_, rfl, (fun h => by cases h), Rg.cond_f hP, hI, fun _ _ _ _ h => h⟩
      | true =>
        have hw := Rg.wanted_c (ops := (Rg.opsOf Try.f27 10)) (o := (Rg.opsOf Try.f27 10)[9]'(by rw [sizeCa10]; decide)) (g := 2) rfl rfl qg hP
        have g0 := Rg.pc_r hP
        have q49 : bb.tmps[49]? = some (.slice ao7 n7 c7) := hf.tmp (k := 6) rfl (by rw [ha]; decide) (Eq.trans (hA 6 (by kernel_rfl)) (Rg.cond_t hP))
        have q51 : bb.tmps[51]? = some (.int .i64 ((n7 - 1 : Nat) : Int)) := hf.tmp (k := 8) rfl (by rw [ha]; decide) (Eq.trans (hA 8 (by kernel_rfl)) (Rg.cond_t hP))
        have hn0 : 0 < n7 := by have := g0; simp at this; omega
        rw [hao hn0] at q49
        have hi3 : ((n7 - 1 : Nat) : Int) < (n7 : Int) := by omega
        have hi4 : n7 - 1 < n7 := by omega
        exact Rg.op_value (o := ⟨some 52, Op.indexAddr 24 (Operand.tmp 49) (Operand.tmp 51), _, _, _, _⟩) (x := .pointer (some ⟨og, n7 - 1, none⟩)) rfl hw (by clear hA HS hN hO hao; simp only [execOp]; go_simp) ⟨_, rfl, (fun h => by cases h), (Rg.cond_t hP).symm, hI, fun _ _ _ _ h => h⟩
    · intro ll bb w' hs hlf hN hO hf hI hA
      clear hi'
      have qg : bb.tmps[45]? = some (cond true (.bool (decide ((0 : Int) < (n7 : Int)))) undef) := hf.tmp (k := 2) rfl (by rw [ha]; decide) (hA 2 (by kernel_rfl))
      cases hP : (true && ((decide ((0 : Int) < (n7 : Int))) == true)) with
      | false => exact Rg.op_none (o := ⟨some 53, _, _, _, _, _⟩) rfl (Rg.unwanted_c (g := 2) rfl rfl qg hP) ⟨_, rfl, (fun h => by cases h), Rg.cond_f hP, hI, fun _ _ _ _ h => h⟩
      | true =>
        have hw := Rg.wanted_c (ops := (Rg.opsOf Try.f27 10)) (o := (Rg.opsOf Try.f27 10)[10]'(by rw [sizeCa10]; decide)) (g := 2) rfl rfl qg hP
        have g0 := Rg.pc_r hP
        have q52 : bb.tmps[52]? = some (.pointer (some ⟨og, n7 - 1, none⟩)) := hf.tmp (k := 9) rfl (by rw [ha]; decide) (Eq.trans (hA 9 (by kernel_rfl)) (Rg.cond_t hP))
        have hn0 : 0 < n7 := by have := g0; simp at this; omega
        have e0 := (hI.cell (p := ⟨og, n7 - 1, none⟩) (hol hn0)).trans (o0 hn0)
        exact Rg.op_value (o := ⟨some 53, Op.load 2 (Operand.tmp 52), _, _, _, _⟩) (x := .int .i64 (j : Nat)) rfl hw (by clear hA HS hN hO hao; simp only [execOp]; go_simp) ⟨_, rfl, (fun h => by cases h), (Rg.cond_t hP).symm, hI, fun _ _ _ _ h => h⟩
    · intro ll bb w' hs hlf hN hO hf hI hA
      clear hi'
      have qg : bb.tmps[45]? = some (cond true (.bool (decide ((0 : Int) < (n7 : Int)))) undef) := hf.tmp (k := 2) rfl (by rw [ha]; decide) (hA 2 (by kernel_rfl))
      cases hP : (true && ((decide ((0 : Int) < (n7 : Int))) == true)) with
      | false => exact Rg.op_none (o := ⟨some 54, _, _, _, _, _⟩) rfl (Rg.unwanted_c (g := 2) rfl rfl qg hP) ⟨_, rfl, (fun h => by cases h), Rg.cond_f hP, hI, fun _ _ _ _ h => h⟩
      | true =>
        have hw := Rg.wanted_c (ops := (Rg.opsOf Try.f27 10)) (o := (Rg.opsOf Try.f27 10)[11]'(by rw [sizeCa10]; decide)) (g := 2) rfl rfl qg hP
        have g0 := Rg.pc_r hP
        have q48 : bb.tmps[48]? = some (.slice (some ⟨g, off, none⟩) n cap) := hf.tmp (k := 5) rfl (by rw [ha]; decide) (Eq.trans (hA 5 (by kernel_rfl)) (Rg.cond_t hP))
        have q53 : bb.tmps[53]? = some (.int .i64 (j : Nat)) := hf.tmp (k := 10) rfl (by rw [ha]; decide) (Eq.trans (hA 10 (by kernel_rfl)) (Rg.cond_t hP))
        have hn0 : 0 < n7 := by have := g0; simp at this; omega
        have hjn2 := hjn hn0
        have hin2 : (j : Int) < (n : Int) := by omega
        exact Rg.op_value (o := ⟨some 54, Op.indexAddr 41 (Operand.tmp 48) (Operand.tmp 53), _, _, _, _⟩) (x := .pointer (some ⟨g, off + j * 3, none⟩)) rfl hw (by clear hA HS hN hO hao; simp only [execOp]; go_simp) ⟨_, rfl, (fun h => by cases h), (Rg.cond_t hP).symm, hI, fun _ _ _ _ h => h⟩
    · intro ll bb w' hs hlf hN hO hf hI hA
      clear hi'
      have qg : bb.tmps[45]? = some (cond true (.bool (decide ((0 : Int) < (n7 : Int)))) undef) := hf.tmp (k := 2) rfl (by rw [ha]; decide) (hA 2 (by kernel_rfl))
      cases hP : (true && ((decide ((0 : Int) < (n7 : Int))) == true)) with
      | false => exact Rg.op_none (o := ⟨some 55, _, _, _, _, _⟩) rfl (Rg.unwanted_c (g := 2) rfl rfl qg hP) ⟨_, rfl, (fun h => by cases h), Rg.cond_f hP, hI, fun _ _ _ _ h => h⟩
      | true =>
        have hw := Rg.wanted_c (ops := (Rg.opsOf Try.f27 10)) (o := (Rg.opsOf Try.f27 10)[12]'(by rw [sizeCa10]; decide)) (g := 2) rfl rfl qg hP
        have g0 := Rg.pc_r hP
        have q54 : bb.tmps[54]? = some (.pointer (some ⟨g, off + j * 3, none⟩)) := hf.tmp (k := 11) rfl (by rw [ha]; decide) (Eq.trans (hA 11 (by kernel_rfl)) (Rg.cond_t hP))
        exact Rg.op_value (o := ⟨some 55, Op.fieldAddr 46 (Operand.tmp 54) 1, _, _, _, _⟩) (x := .pointer (some ⟨g, off + j * 3 + 1, none⟩)) rfl hw (by clear hA HS hN hO hao; simp only [execOp]; go_simp) ⟨_, rfl, (fun h => by cases h), (Rg.cond_t hP).symm, hI, fun _ _ _ _ h => h⟩
    · intro ll bb w' hs hlf hN hO hf hI hA
      clear hi'
      have qg : bb.tmps[45]? = some (cond true (.bool (decide ((0 : Int) < (n7 : Int)))) undef) := hf.tmp (k := 2) rfl (by rw [ha]; decide) (hA 2 (by kernel_rfl))
      cases hP : (true && ((decide ((0 : Int) < (n7 : Int))) == true)) with
      | false => exact Rg.op_none (o := ⟨some 56, _, _, _, _, _⟩) rfl (Rg.unwanted_c (g := 2) rfl rfl qg hP) ⟨_, rfl, (fun h => by cases h), Rg.cond_f hP, hI, fun _ _ _ _ h => h⟩
      | true =>
        have hw := Rg.wanted_c (ops := (Rg.opsOf Try.f27 10)) (o := (Rg.opsOf Try.f27 10)[13]'(by rw [sizeCa10]; decide)) (g := 2) rfl rfl qg hP
        have g0 := Rg.pc_r hP
        have q55 : bb.tmps[55]? = some (.pointer (some ⟨g, off + j * 3 + 1, none⟩)) := hf.tmp (k := 12) rfl (by rw [ha]; decide) (Eq.trans (hA 12 (by kernel_rfl)) (Rg.cond_t hP))
        have hn0 : 0 < n7 := by have := g0; simp at this; omega
        have e0 := (hI.cell (p := ⟨g, off + j * 3 + 1, none⟩) hgl).trans (y0 hn0)
        exact Rg.op_value (o := ⟨some 56, Op.load 2 (Operand.tmp 55), _, _, _, _⟩) (x := .int .i64 pt) rfl hw (by clear hA HS hN hO hao; simp only [execOp]; go_simp) ⟨_, rfl, (fun h => by cases h), (Rg.cond_t hP).symm, hI, fun _ _ _ _ h => h⟩
    · intro ll bb w' hs hlf hN hO hf hI hA
      clear hi'
      have qg : bb.tmps[45]? = some (cond true (.bool (decide ((0 : Int) < (n7 : Int)))) undef) := hf.tmp (k := 2) rfl (by rw [ha]; decide) (hA 2 (by kernel_rfl))
      cases hP : (true && ((decide ((0 : Int) < (n7 : Int))) == true)) with
      | false => exact Rg.op_none (o := ⟨some 57, _, _, _, _, _⟩) rfl (Rg.unwanted_c (g := 2) rfl rfl qg hP) ⟨_, rfl, (fun h => by cases h), Rg.cond_f hP, hI, fun _ _ _ _ h => h⟩
      | true =>
        have hw := Rg.wanted_c (ops := (Rg.opsOf Try.f27 10)) (o := (Rg.opsOf Try.f27 10)[14]'(by rw [sizeCa10]; decide)) (g := 2) rfl rfl qg hP
        have g0 := Rg.pc_r hP
        have q47 : bb.tmps[47]? = some (.int .i64 xt) := hf.tmp (k := 4) rfl (by rw [ha]; decide) (Eq.trans (hA 4 (by kernel_rfl)) (Rg.cond_t hP))
        have q56 : bb.tmps[56]? = some (.int .i64 pt) := hf.tmp (k := 13) rfl (by rw [ha]; decide) (Eq.trans (hA 13 (by kernel_rfl)) (Rg.cond_t hP))
        have hw9 : IntKind.i64.wrap (xt - pt) = xt - pt := by rw [IntKind.wrap_i64]; omega
        exact Rg.op_value (o := ⟨some 57, Op.binOp BinOp.sub 2 (Operand.tmp 47) (Operand.tmp 56) 2, _, _, _, _⟩) (x := .int .i64 (xt - pt)) rfl hw (by clear hA HS hN hO hao; simp only [execOp]; go_simp) ⟨_, rfl, (fun h => by cases h), (Rg.cond_t hP).symm, hI, fun _ _ _ _ h => h⟩
    · intro ll bb w' hs hlf hN hO hf hI hA
      clear hi'
      have qg : bb.tmps[45]? = some (cond true (.bool (decide ((0 : Int) < (n7 : Int)))) undef) := hf.tmp (k := 2) rfl (by rw [ha]; decide) (hA 2 (by kernel_rfl))
      cases hP : (true && ((decide ((0 : Int) < (n7 : Int))) == true)) with
      | false => exact Rg.op_none (o := ⟨some 58, _, _, _, _, _⟩) rfl (Rg.unwanted_c (g := 2) rfl rfl qg hP) ⟨_, rfl, (fun h => by cases h), Rg.cond_f hP, hI, fun _ _ _ _ h => h⟩
      | true =>
        have hw := Rg.wanted_c (ops := (Rg.opsOf Try.f27 10)) (o := (Rg.opsOf Try.f27 10)[15]'(by rw [sizeCa10]; decide)) (g := 2) rfl rfl qg hP
        have g0 := Rg.pc_r hP
        have q57 : bb.tmps[57]? = some (.int .i64 (xt - pt)) := hf.tmp (k := 14) rfl (by rw [ha]; decide) (Eq.trans (hA 14 (by kernel_rfl)) (Rg.cond_t hP))
        exact Rg.op_value (o := ⟨some 58, Op.binOp BinOp.lss 2 (Operand.tmp 57) (Operand.const (Value.int .i64 60)) 2, _, _, _, _⟩) (x := .bool (decide (xt - pt < 60))) rfl hw (by clear hA HS hN hO hao; simp only [execOp]; go_simp) ⟨_, rfl, (fun h => by cases h), (Rg.cond_t hP).symm, hI, fun _ _ _ _ h => h⟩
    · intro ll bb w' hs hlf hN hO hf hI hA
      clear hi'
      have q45 : bb.tmps[45]? = some _ := hf.tmp (k := 2) rfl (by rw [ha]; decide) (hA 2 (by kernel_rfl))
      cases hC : (decide ((0 : Int) < (n7 : Int))) with
      | false =>
        have hval : ((.bool ((decide ((0 : Int) < (n7 : Int))) && (decide (xt - pt < 60))) : Value)) = .bool false := by rw [hC]; rfl
        exact Rg.op_value (o := ⟨some 59, Op.pick (Operand.tmp 45) (Operand.tmp 58) (Operand.const (Value.bool false)), _, _, _, _⟩) (x := .bool false) rfl rfl (by rw [hC] at q45; clear hA HS hN hO hao hval; simp only [execOp]; go_simp) ⟨_, rfl, (fun h => by cases h), (by show ((.bool false : Value)) = _; exact hval.symm), hI, fun _ _ _ _ h => h⟩
      | true =>
        have hB : (true && ((decide ((0 : Int) < (n7 : Int))) == true)) = true := by rw [hC]; rfl
        have q58 : bb.tmps[58]? = some (.bool (decide (xt - pt < 60))) := hf.tmp (k := 15) rfl (by rw [ha]; decide) (Eq.trans (hA 15 (by kernel_rfl)) (Rg.cond_t hB))
        have hval : ((.bool ((decide ((0 : Int) < (n7 : Int))) && (decide (xt - pt < 60))) : Value)) = .bool (decide (xt - pt < 60)) := by rw [hC]; rfl
        exact Rg.op_value (o := ⟨some 59, Op.pick (Operand.tmp 45) (Operand.tmp 58) (Operand.const (Value.bool false)), _, _, _, _⟩) (x := .bool (decide (xt - pt < 60))) rfl rfl (by rw [hC] at q45; clear hA HS hN hO hao hval; simp only [execOp]; go_simp) ⟨_, rfl, (fun h => by cases h), (by show ((.bool (decide (xt - pt < 60)) : Value)) = _; exact hval.symm), hI, fun _ _ _ _ h => h⟩

theorem dCa10_0 : Rg.dstAt (Rg.opsOf Try.f27 10) 0 = some 43 := by kernel_rfl
theorem dCa10_1 : Rg.dstAt (Rg.opsOf Try.f27 10) 1 = some 44 := by kernel_rfl
theorem dCa10_2 : Rg.dstAt (Rg.opsOf Try.f27 10) 2 = some 45 := by kernel_rfl
theorem dCa10_3 : Rg.dstAt (Rg.opsOf Try.f27 10) 3 = some 46 := by kernel_rfl
theorem dCa10_4 : Rg.dstAt (Rg.opsOf Try.f27 10) 4 = some 47 := by kernel_rfl
theorem dCa10_5 : Rg.dstAt (Rg.opsOf Try.f27 10) 5 = some 48 := by kernel_rfl
theorem dCa10_6 : Rg.dstAt (Rg.opsOf Try.f27 10) 6 = some 49 := by kernel_rfl
theorem dCa10_7 : Rg.dstAt (Rg.opsOf Try.f27 10) 7 = some 50 := by kernel_rfl
theorem dCa10_8 : Rg.dstAt (Rg.opsOf Try.f27 10) 8 = some 51 := by kernel_rfl
theorem dCa10_9 : Rg.dstAt (Rg.opsOf Try.f27 10) 9 = some 52 := by kernel_rfl
theorem dCa10_10 : Rg.dstAt (Rg.opsOf Try.f27 10) 10 = some 53 := by kernel_rfl
theorem dCa10_11 : Rg.dstAt (Rg.opsOf Try.f27 10) 11 = some 54 := by kernel_rfl
theorem dCa10_12 : Rg.dstAt (Rg.opsOf Try.f27 10) 12 = some 55 := by kernel_rfl
theorem dCa10_13 : Rg.dstAt (Rg.opsOf Try.f27 10) 13 = some 56 := by kernel_rfl
theorem dCa10_14 : Rg.dstAt (Rg.opsOf Try.f27 10) 14 = some 57 := by kernel_rfl
theorem dCa10_15 : Rg.dstAt (Rg.opsOf Try.f27 10) 15 = some 58 := by kernel_rfl
theorem dCa10_16 : Rg.dstAt (Rg.opsOf Try.f27 10) 16 = some 59 := by kernel_rfl
theorem layCa10 {a b : Act} (hf : Rg.Fr (Rg.opsOf Try.f27 10) a b) : b = (((((((((((((((((a.put (some 43) (Rg.out (Rg.opsOf Try.f27 10) b 0)).put (some 44) (Rg.out (Rg.opsOf Try.f27 10) b 1)).put (some 45) (Rg.out (Rg.opsOf Try.f27 10) b 2)).put (some 46) (Rg.out (Rg.opsOf Try.f27 10) b 3)).put (some 47) (Rg.out (Rg.opsOf Try.f27 10) b 4)).put (some 48) (Rg.out (Rg.opsOf Try.f27 10) b 5)).put (some 49) (Rg.out (Rg.opsOf Try.f27 10) b 6)).put (some 50) (Rg.out (Rg.opsOf Try.f27 10) b 7)).put (some 51) (Rg.out (Rg.opsOf Try.f27 10) b 8)).put (some 52) (Rg.out (Rg.opsOf Try.f27 10) b 9)).put (some 53) (Rg.out (Rg.opsOf Try.f27 10) b 10)).put (some 54) (Rg.out (Rg.opsOf Try.f27 10) b 11)).put (some 55) (Rg.out (Rg.opsOf Try.f27 10) b 12)).put (some 56) (Rg.out (Rg.opsOf Try.f27 10) b 13)).put (some 57) (Rg.out (Rg.opsOf Try.f27 10) b 14)).put (some 58) (Rg.out (Rg.opsOf Try.f27 10) b 15)).put (some 59) (Rg.out (Rg.opsOf Try.f27 10) b 16)) := by
  have h := hf.chain
  rw [sizeCa10, show List.range 17 = [0, 1, 2, 3, 4, 5, 6, 7, 8, 9, 10, 11, 12, 13, 14, 15, 16] from by decide] at h
  simp only [List.foldl_cons, List.foldl_nil, dCa10_0, dCa10_1, dCa10_2, dCa10_3, dCa10_4, dCa10_5, dCa10_6, dCa10_7, dCa10_8, dCa10_9, dCa10_10, dCa10_11, dCa10_12, dCa10_13, dCa10_14, dCa10_15, dCa10_16] at h
  exact h
end Go.Proofs.Ytecljmpojninfaa
