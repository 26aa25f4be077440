/-
  Which letter counts, which tells: the program's.
-/
import Derived.Test.YtbabknhccapaoaaM21
namespace Go.Proofs.Ytbabknhccapaoaa
open Go.RowKit Va Mg
set_option linter.all false

def FCa (X Y H : Nat) (x y : Lt) (k : Nat) (v : Value) (w : World) : Prop :=
  match k with
  | 0 => v = .pointer (some ⟨X, 2, none⟩)
  | 1 => v = .int .i64 x.c
  | 2 => v = .pointer (some ⟨Y, 2, none⟩)
  | 3 => v = .int .i64 y.c
  | 4 => v = .int .i64 (cmpI x.c y.c)
  | 5 => v = .pointer (some ⟨X, 3, none⟩)
  | 6 => v = .int .i64 x.k
  | 7 => v = .pointer (some ⟨Y, 3, none⟩)
  | 8 => v = .int .i64 y.k
  | 9 => v = .int .i64 (cmpI x.k y.k)
  | 10 => v = .pointer (some ⟨X, 4, none⟩)
  | 11 => v = .int .i64 x.v
  | 12 => v = .pointer (some ⟨Y, 4, none⟩)
  | 13 => v = .int .i64 y.v
  | 14 => v = .int .i64 (cmpI x.v y.v)
  | 15 => v = .slice (some ⟨H, 0, none⟩) 3 3
  | 16 => v = .int .i64 (orL [cmpI x.c y.c, cmpI x.k y.k, cmpI x.v y.v])
  | 17 => v = .bool (decide (0 < orL [cmpI x.c y.c, cmpI x.k y.k, cmpI x.v y.v]))
  | 18 => v = .bool (decide (0 < orL [cmpI x.c y.c, cmpI x.k y.k, cmpI x.v y.v]))
  | _ => True
def ICa (w9 : World) (x y : Lt) (l : Array Bool) (w : World) : Prop := (l.getD 15 false = false → w = w9.drew) ∧ (l.getD 15 false = true → w = w9.drew.alloc (.cells #[.int .i64 (cmpI x.c y.c), .int .i64 (cmpI x.k y.k), .int .i64 (cmpI x.v y.v)] 3))
theorem sameCa {w9 w : World} {x y : Lt} {l : Array Bool} {i : Nat} (hi : i ≠ 15) (h : ICa w9 x y l w) : ICa w9 x y (l.setIfInBounds i true) w := by
  unfold ICa
  rw [Rg.set_ne hi]
  exact h
theorem boxCa {w9 w : World} {x y : Lt} {l : Array Bool} {B : Nat} {vs : Array Value} {t : TypeId} (h : PB w9 B vs t) (hI : ICa w9 x y l w) : PB w B vs t := by
  cases hl : l.getD 15 false with
  | false => rw [hI.1 hl]; exact h
  | true =>
    rw [hI.2 hl]
    exact PB.alloc (W := w9.drew) h _
theorem sizeCa : (Rg.opsOf Try.f41 1).size = 19 := by kernel_rfl

set_option maxRecDepth 20000 in
set_option maxHeartbeats 8000000 in
theorem regCa {Q : Exit → Act → World → Prop} {a : Act} {w9 : World} {X Y : Nat} {x y : Lt} (ha : a.tmps.size = 23) (k2 : a.tmps[2]? = some (.pointer (some ⟨X, 0, none⟩))) (k3 : a.tmps[3]? = some (.pointer (some ⟨Y, 0, none⟩))) (hX : PB w9 X #[.int .i64 x.f, .int .i64 x.s, .int .i64 x.c, .int .i64 x.k, .int .i64 x.v] 29) (hY : PB w9 Y #[.int .i64 y.f, .int .i64 y.s, .int .i64 y.c, .int .i64 y.k, .int .i64 y.v] 29)
    (hcm : ∀ a b W, Calls Try.prog 56 #[.int .i64 a, .int .i64 b] W fun e w' => e = .returned (.int .i64 (cmpI a b)) ∧ w' = W)
    (hco : ∀ W, PB W w9.heap.size #[.int .i64 (cmpI x.c y.c), .int .i64 (cmpI x.k y.k), .int .i64 (cmpI x.v y.v)] 3 → Calls Try.prog 55 #[.slice (some ⟨w9.heap.size, 0, none⟩) 3 3] W fun e w' => e = .returned (.int .i64 (orL [cmpI x.c y.c, cmpI x.k y.k, cmpI x.v y.v])) ∧ w' = W)
    (hend : ∀ b' w', Rg.Fr (Rg.opsOf Try.f41 1) a b' → w' = w9.drew.alloc (.cells #[.int .i64 (cmpI x.c y.c), .int .i64 (cmpI x.k y.k), .int .i64 (cmpI x.v y.v)] 3) → Rg.out (Rg.opsOf Try.f41 1) b' 18 = .bool (decide (0 < orL [cmpI x.c y.c, cmpI x.k y.k, cmpI x.v y.v])) → Q .normal b' w') : (Code.region 1 (Rg.opsOf Try.f41 1) true).wp Try.prog Q a w9 := by
  refine Rg.region_set4 (by kernel_rfl) (ICa w9 x y) (FCa X Y w9.heap.size x y) (by rw [ha, sizeCa]; kernel_rfl) ⟨fun _ => rfl, fun h => (by rw [Rg.none_yet] at h; cases h)⟩ ?_ ?_
  case refine_2 =>
    intro l b' w' hf hall hI hA
    rw [sizeCa] at hA hall
    exact hend b' w' hf (hI.2 (hall 15 (by omega))) (hA 18 (by decide))
  case refine_1 =>
    clear hend
    intro i' hi'
    rw [sizeCa] at hi'
    rcases (show i' = 0 ∨ i' = 1 ∨ i' = 2 ∨ i' = 3 ∨ i' = 4 ∨ i' = 5 ∨ i' = 6 ∨ i' = 7 ∨ i' = 8 ∨ i' = 9 ∨ i' = 10 ∨ i' = 11 ∨ i' = 12 ∨ i' = 13 ∨ i' = 14 ∨ i' = 15 ∨ i' = 16 ∨ i' = 17 ∨ i' = 18 by omega) with rfl | rfl | rfl | rfl | rfl | rfl | rfl | rfl | rfl | rfl | rfl | rfl | rfl | rfl | rfl | rfl | rfl | rfl | rfl
    · intro ll bb w' hs hlf hN hO hf hI hL hA
      clear hi'
      have q2 := hf.kept (s := 2) (by rw [sizeCa]; kernel_rfl) k2
      exact Rg.op_value (o := ⟨some 5, Op.fieldAddr 29 (Operand.tmp 2) 2, _, _, _, _⟩) (x := .pointer (some ⟨X, 2, none⟩)) rfl rfl (by clear hA hN hO hL hI hcm hco; simp only [execOp]; go_simp) ⟨_, rfl, (fun h => by cases h), rfl, sameCa (by decide) hI, fun _ _ _ _ h => h⟩
    · intro ll bb w' hs hlf hN hO hf hI hL hA
      clear hi'
      have q5 : bb.tmps[5]? = some _ := hf.tmp (k := 0) rfl (by rw [ha]; decide) (hA 0 (by kernel_rfl))
      have e0 : w'.cell? ⟨X, 2, none⟩ = some (.int .i64 x.c) := (boxCa hX hI).cell 2
      exact Rg.op_value (o := ⟨some 6, Op.load 2 (Operand.tmp 5), _, _, _, _⟩) (x := .int .i64 x.c) rfl rfl (by clear hA hN hO hL hI hcm hco; simp only [execOp]; go_simp) ⟨_, rfl, (fun h => by cases h), rfl, sameCa (by decide) hI, fun _ _ _ _ h => h⟩
    · intro ll bb w' hs hlf hN hO hf hI hL hA
      clear hi'
      have q3 := hf.kept (s := 3) (by rw [sizeCa]; kernel_rfl) k3
      exact Rg.op_value (o := ⟨some 7, Op.fieldAddr 29 (Operand.tmp 3) 2, _, _, _, _⟩) (x := .pointer (some ⟨Y, 2, none⟩)) rfl rfl (by clear hA hN hO hL hI hcm hco; simp only [execOp]; go_simp) ⟨_, rfl, (fun h => by cases h), rfl, sameCa (by decide) hI, fun _ _ _ _ h => h⟩
    · intro ll bb w' hs hlf hN hO hf hI hL hA
      clear hi'
      have q7 : bb.tmps[7]? = some _ := hf.tmp (k := 2) rfl (by rw [ha]; decide) (hA 2 (by kernel_rfl))
      have e0 : w'.cell? ⟨Y, 2, none⟩ = some (.int .i64 y.c) := (boxCa hY hI).cell 2
      exact Rg.op_value (o := ⟨some 8, Op.load 2 (Operand.tmp 7), _, _, _, _⟩) (x := .int .i64 y.c) rfl rfl (by clear hA hN hO hL hI hcm hco; simp only [execOp]; go_simp) ⟨_, rfl, (fun h => by cases h), rfl, sameCa (by decide) hI, fun _ _ _ _ h => h⟩
    · intro ll bb w' hs hlf hN hO hf hI hL hA
      clear hi'
      have q6 : bb.tmps[6]? = some _ := hf.tmp (k := 1) rfl (by rw [ha]; decide) (hA 1 (by kernel_rfl))
      have q8 : bb.tmps[8]? = some _ := hf.tmp (k := 3) rfl (by rw [ha]; decide) (hA 3 (by kernel_rfl))
      refine Rg.op_call (o := ⟨some 9, Op.call { callee := Callee.value (Operand.func 56), args := #[Operand.tmp 6, Operand.tmp 8], argTypes := _ }, _, _, _, _⟩) rfl rfl (by clear hA hN hO hL hI hcm hco; simp only [execOp, resolve]; go_simp) (hcm x.c y.c w') ?_
      rintro e w2 ⟨rfl, hw2⟩
      have hw3 := hw2.symm
      clear hw2
      subst hw3
      exact ⟨_, rfl, _, rfl, (fun h => by cases h), rfl, sameCa (by decide) hI, fun _ _ _ _ h => h⟩
    · intro ll bb w' hs hlf hN hO hf hI hL hA
      clear hi'
      have q2 := hf.kept (s := 2) (by rw [sizeCa]; kernel_rfl) k2
      exact Rg.op_value (o := ⟨some 10, Op.fieldAddr 29 (Operand.tmp 2) 3, _, _, _, _⟩) (x := .pointer (some ⟨X, 3, none⟩)) rfl rfl (by clear hA hN hO hL hI hcm hco; simp only [execOp]; go_simp) ⟨_, rfl, (fun h => by cases h), rfl, sameCa (by decide) hI, fun _ _ _ _ h => h⟩
    · intro ll bb w' hs hlf hN hO hf hI hL hA
      clear hi'
      have q10 : bb.tmps[10]? = some _ := hf.tmp (k := 5) rfl (by rw [ha]; decide) (hA 5 (by kernel_rfl))
      have e0 : w'.cell? ⟨X, 3, none⟩ = some (.int .i64 x.k) := (boxCa hX hI).cell 3
      exact Rg.op_value (o := ⟨some 11, Op.load 2 (Operand.tmp 10), _, _, _, _⟩) (x := .int .i64 x.k) rfl rfl (by clear hA hN hO hL hI hcm hco; simp only [execOp]; go_simp) ⟨_, rfl, (fun h => by cases h), rfl, sameCa (by decide) hI, fun _ _ _ _ h => h⟩
    · intro ll bb w' hs hlf hN hO hf hI hL hA
      clear hi'
      have q3 := hf.kept (s := 3) (by rw [sizeCa]; kernel_rfl) k3
      exact Rg.op_value (o := ⟨some 12, Op.fieldAddr 29 (Operand.tmp 3) 3, _, _, _, _⟩) (x := .pointer (some ⟨Y, 3, none⟩)) rfl rfl (by clear hA hN hO hL hI hcm hco; simp only [execOp]; go_simp) ⟨_, rfl, (fun h => by cases h), rfl, sameCa (by decide) hI, fun _ _ _ _ h => h⟩
    · intro ll bb w' hs hlf hN hO hf hI hL hA
      clear hi'
      have q12 : bb.tmps[12]? = some _ := hf.tmp (k := 7) rfl (by rw [ha]; decide) (hA 7 (by kernel_rfl))
      have e0 : w'.cell? ⟨Y, 3, none⟩ = some (.int .i64 y.k) := (boxCa hY hI).cell 3
      exact Rg.op_value (o := ⟨some 13, Op.load 2 (Operand.tmp 12), _, _, _, _⟩) (x := .int .i64 y.k) rfl rfl (by clear hA hN hO hL hI hcm hco; simp only [execOp]; go_simp) ⟨_, rfl, (fun h => by cases h), rfl, sameCa (by decide) hI, fun _ _ _ _ h => h⟩
    · intro ll bb w' hs hlf hN hO hf hI hL hA
      clear hi'
      have q11 : bb.tmps[11]? = some _ := hf.tmp (k := 6) rfl (by rw [ha]; decide) (hA 6 (by kernel_rfl))
      have q13 : bb.tmps[13]? = some _ := hf.tmp (k := 8) rfl (by rw [ha]; decide) (hA 8 (by kernel_rfl))
      refine Rg.op_call (o := ⟨some 14, Op.call { callee := Callee.value (Operand.func 56), args := #[Operand.tmp 11, Operand.tmp 13], argTypes := _ }, _, _, _, _⟩) rfl rfl (by clear hA hN hO hL hI hcm hco; simp only [execOp, resolve]; go_simp) (hcm x.k y.k w') ?_
      rintro e w2 ⟨rfl, hw2⟩
      have hw3 := hw2.symm
      clear hw2
      subst hw3
      exact ⟨_, rfl, _, rfl, (fun h => by cases h), rfl, sameCa (by decide) hI, fun _ _ _ _ h => h⟩
    · intro ll bb w' hs hlf hN hO hf hI hL hA
      clear hi'
      have q2 := hf.kept (s := 2) (by rw [sizeCa]; kernel_rfl) k2
      exact Rg.op_value (o := ⟨some 15, Op.fieldAddr 29 (Operand.tmp 2) 4, _, _, _, _⟩) (x := .pointer (some ⟨X, 4, none⟩)) rfl rfl (by clear hA hN hO hL hI hcm hco; simp only [execOp]; go_simp) ⟨_, rfl, (fun h => by cases h), rfl, sameCa (by decide) hI, fun _ _ _ _ h => h⟩
    · intro ll bb w' hs hlf hN hO hf hI hL hA
      clear hi'
      have q15 : bb.tmps[15]? = some _ := hf.tmp (k := 10) rfl (by rw [ha]; decide) (hA 10 (by kernel_rfl))
      have e0 : w'.cell? ⟨X, 4, none⟩ = some (.int .i64 x.v) := (boxCa hX hI).cell 4
      exact Rg.op_value (o := ⟨some 16, Op.load 2 (Operand.tmp 15), _, _, _, _⟩) (x := .int .i64 x.v) rfl rfl (by clear hA hN hO hL hI hcm hco; simp only [execOp]; go_simp) ⟨_, rfl, (fun h => by cases h), rfl, sameCa (by decide) hI, fun _ _ _ _ h => h⟩
    · intro ll bb w' hs hlf hN hO hf hI hL hA
      clear hi'
      have q3 := hf.kept (s := 3) (by rw [sizeCa]; kernel_rfl) k3
      exact Rg.op_value (o := ⟨some 17, Op.fieldAddr 29 (Operand.tmp 3) 4, _, _, _, _⟩) (x := .pointer (some ⟨Y, 4, none⟩)) rfl rfl (by clear hA hN hO hL hI hcm hco; simp only [execOp]; go_simp) ⟨_, rfl, (fun h => by cases h), rfl, sameCa (by decide) hI, fun _ _ _ _ h => h⟩
    · intro ll bb w' hs hlf hN hO hf hI hL hA
      clear hi'
      have q17 : bb.tmps[17]? = some _ := hf.tmp (k := 12) rfl (by rw [ha]; decide) (hA 12 (by kernel_rfl))
      have e0 : w'.cell? ⟨Y, 4, none⟩ = some (.int .i64 y.v) := (boxCa hY hI).cell 4
      exact Rg.op_value (o := ⟨some 18, Op.load 2 (Operand.tmp 17), _, _, _, _⟩) (x := .int .i64 y.v) rfl rfl (by clear hA hN hO hL hI hcm hco; simp only [execOp]; go_simp) ⟨_, rfl, (fun h => by cases h), rfl, sameCa (by decide) hI, fun _ _ _ _ h => h⟩
    · intro ll bb w' hs hlf hN hO hf hI hL hA
      clear hi'
      have q16 : bb.tmps[16]? = some _ := hf.tmp (k := 11) rfl (by rw [ha]; decide) (hA 11 (by kernel_rfl))
      have q18 : bb.tmps[18]? = some _ := hf.tmp (k := 13) rfl (by rw [ha]; decide) (hA 13 (by kernel_rfl))
      refine Rg.op_call (o := ⟨some 19, Op.call { callee := Callee.value (Operand.func 56), args := #[Operand.tmp 16, Operand.tmp 18], argTypes := _ }, _, _, _, _⟩) rfl rfl (by clear hA hN hO hL hI hcm hco; simp only [execOp, resolve]; go_simp) (hcm x.v y.v w') ?_
      rintro e w2 ⟨rfl, hw2⟩
      have hw3 := hw2.symm
      clear hw2
      subst hw3
      exact ⟨_, rfl, _, rfl, (fun h => by cases h), rfl, sameCa (by decide) hI, fun _ _ _ _ h => h⟩
    · intro ll bb w' hs hlf hN hO hf hI hL hA
      clear hi'
      have q9 : bb.tmps[9]? = some _ := hf.tmp (k := 4) rfl (by rw [ha]; decide) (hA 4 (by kernel_rfl))
      have q14 : bb.tmps[14]? = some _ := hf.tmp (k := 9) rfl (by rw [ha]; decide) (hA 9 (by kernel_rfl))
      have q19 : bb.tmps[19]? = some _ := hf.tmp (k := 14) rfl (by rw [ha]; decide) (hA 14 (by kernel_rfl))
      have hw : w' = w9.drew := hI.1 hlf
      subst hw
      exact Rg.op_value (o := ⟨some 20, Op.buildSlice 100 3 #[(0, Operand.tmp 9), (1, Operand.tmp 14), (2, Operand.tmp 19)], _, _, _, _⟩) (x := .slice (some ⟨w9.heap.size, 0, none⟩) 3 3) (w' := w9.drew.alloc (.cells #[.int .i64 (cmpI x.c y.c), .int .i64 (cmpI x.k y.k), .int .i64 (cmpI x.v y.v)] 3)) rfl rfl (by clear hA hN hO hL hI hcm hco; simp only [execOp]; go_simp) ⟨_, rfl, (fun h => by cases h), rfl, ⟨fun h => (by rw [Rg.set_self hs (by rw [sizeCa]; decide)] at h; cases h), fun _ => rfl⟩, fun _ _ _ _ h => h⟩
    · intro ll bb w' hs hlf hN hO hf hI hL hA
      clear hi'
      have q20 : bb.tmps[20]? = some _ := hf.tmp (k := 15) rfl (by rw [ha]; decide) (hA 15 (by kernel_rfl))
      have hw : w' = w9.drew.alloc (.cells #[.int .i64 (cmpI x.c y.c), .int .i64 (cmpI x.k y.k), .int .i64 (cmpI x.v y.v)] 3) := hI.2 (hL 15 (by kernel_rfl))
      refine Rg.op_call (o := ⟨some 21, Op.call { callee := Callee.value (Operand.func 55), args := #[Operand.tmp 20], argTypes := _ }, _, _, _, _⟩) rfl rfl (by clear hA hN hO hL hI hcm hco; simp only [execOp, resolve]; go_simp) (hco w' (by rw [hw]; exact PB.new w9.drew _ _)) ?_
      rintro e w2 ⟨rfl, hw2⟩
      have hw3 := hw2.symm
      clear hw2
      subst hw3
      exact ⟨_, rfl, _, rfl, (fun h => by cases h), rfl, sameCa (by decide) hI, fun _ _ _ _ h => h⟩
    · intro ll bb w' hs hlf hN hO hf hI hL hA
      clear hi'
      have q21 : bb.tmps[21]? = some _ := hf.tmp (k := 16) rfl (by rw [ha]; decide) (hA 16 (by kernel_rfl))
      exact Rg.op_value (o := ⟨some 22, Op.binOp BinOp.gtr 3 (Operand.tmp 21) (Operand.const (Value.int IntKind.i64 0)) 3, _, _, _, _⟩) (x := .bool (decide (0 < orL [cmpI x.c y.c, cmpI x.k y.k, cmpI x.v y.v]))) rfl rfl (by clear hA hN hO hL hI hcm hco; simp only [execOp]; go_simp) ⟨_, rfl, (fun h => by cases h), rfl, sameCa (by decide) hI, fun _ _ _ _ h => h⟩
    · intro ll bb w' hs hlf hN hO hf hI hL hA
      clear hi'
      have q22 : bb.tmps[22]? = some _ := hf.tmp (k := 17) rfl (by rw [ha]; decide) (hA 17 (by kernel_rfl))
      exact Rg.op_value (o := ⟨some 4, Op.assign (Operand.tmp 22), _, _, _, _⟩) (x := .bool (decide (0 < orL [cmpI x.c y.c, cmpI x.k y.k, cmpI x.v y.v]))) rfl rfl (by clear hA hN hO hL hI hcm hco; simp only [execOp]; go_simp) ⟨_, rfl, (fun h => by cases h), rfl, sameCa (by decide) hI, fun _ _ _ _ h => h⟩

theorem dCa_0 : Rg.dstAt (Rg.opsOf Try.f41 1) 0 = some 5 := by kernel_rfl
theorem dCa_1 : Rg.dstAt (Rg.opsOf Try.f41 1) 1 = some 6 := by kernel_rfl
theorem dCa_2 : Rg.dstAt (Rg.opsOf Try.f41 1) 2 = some 7 := by kernel_rfl
theorem dCa_3 : Rg.dstAt (Rg.opsOf Try.f41 1) 3 = some 8 := by kernel_rfl
theorem dCa_4 : Rg.dstAt (Rg.opsOf Try.f41 1) 4 = some 9 := by kernel_rfl
theorem dCa_5 : Rg.dstAt (Rg.opsOf Try.f41 1) 5 = some 10 := by kernel_rfl
theorem dCa_6 : Rg.dstAt (Rg.opsOf Try.f41 1) 6 = some 11 := by kernel_rfl
theorem dCa_7 : Rg.dstAt (Rg.opsOf Try.f41 1) 7 = some 12 := by kernel_rfl
theorem dCa_8 : Rg.dstAt (Rg.opsOf Try.f41 1) 8 = some 13 := by kernel_rfl
theorem dCa_9 : Rg.dstAt (Rg.opsOf Try.f41 1) 9 = some 14 := by kernel_rfl
theorem dCa_10 : Rg.dstAt (Rg.opsOf Try.f41 1) 10 = some 15 := by kernel_rfl
theorem dCa_11 : Rg.dstAt (Rg.opsOf Try.f41 1) 11 = some 16 := by kernel_rfl
theorem dCa_12 : Rg.dstAt (Rg.opsOf Try.f41 1) 12 = some 17 := by kernel_rfl
theorem dCa_13 : Rg.dstAt (Rg.opsOf Try.f41 1) 13 = some 18 := by kernel_rfl
theorem dCa_14 : Rg.dstAt (Rg.opsOf Try.f41 1) 14 = some 19 := by kernel_rfl
theorem dCa_15 : Rg.dstAt (Rg.opsOf Try.f41 1) 15 = some 20 := by kernel_rfl
theorem dCa_16 : Rg.dstAt (Rg.opsOf Try.f41 1) 16 = some 21 := by kernel_rfl
theorem dCa_17 : Rg.dstAt (Rg.opsOf Try.f41 1) 17 = some 22 := by kernel_rfl
theorem dCa_18 : Rg.dstAt (Rg.opsOf Try.f41 1) 18 = some 4 := by kernel_rfl
theorem layCa {a b : Act} (hf : Rg.Fr (Rg.opsOf Try.f41 1) a b) : b = ((((((((((((((((((a.put (some 5) (Rg.out (Rg.opsOf Try.f41 1) b 0)).put (some 6) (Rg.out (Rg.opsOf Try.f41 1) b 1)).put (some 7) (Rg.out (Rg.opsOf Try.f41 1) b 2)).put (some 8) (Rg.out (Rg.opsOf Try.f41 1) b 3)).put (some 9) (Rg.out (Rg.opsOf Try.f41 1) b 4)).put (some 10) (Rg.out (Rg.opsOf Try.f41 1) b 5)).put (some 11) (Rg.out (Rg.opsOf Try.f41 1) b 6)).put (some 12) (Rg.out (Rg.opsOf Try.f41 1) b 7)).put (some 13) (Rg.out (Rg.opsOf Try.f41 1) b 8)).put (some 14) (Rg.out (Rg.opsOf Try.f41 1) b 9)).put (some 15) (Rg.out (Rg.opsOf Try.f41 1) b 10)).put (some 16) (Rg.out (Rg.opsOf Try.f41 1) b 11)).put (some 17) (Rg.out (Rg.opsOf Try.f41 1) b 12)).put (some 18) (Rg.out (Rg.opsOf Try.f41 1) b 13)).put (some 19) (Rg.out (Rg.opsOf Try.f41 1) b 14)).put (some 20) (Rg.out (Rg.opsOf Try.f41 1) b 15)).put (some 21) (Rg.out (Rg.opsOf Try.f41 1) b 16)).put (some 22) (Rg.out (Rg.opsOf Try.f41 1) b 17)).put (some 4) (Rg.out (Rg.opsOf Try.f41 1) b 18) := by
  have h := hf.chain
  rw [sizeCa, show List.range 19 = [0, 1, 2, 3, 4, 5, 6, 7, 8, 9, 10, 11, 12, 13, 14, 15, 16, 17, 18] from by decide] at h
  simp only [List.foldl_cons, List.foldl_nil, dCa_0, dCa_1, dCa_2, dCa_3, dCa_4, dCa_5, dCa_6, dCa_7, dCa_8, dCa_9, dCa_10, dCa_11, dCa_12, dCa_13, dCa_14, dCa_15, dCa_16, dCa_17, dCa_18] at h
  exact h
theorem valCa (x y : Lt) : decide (0 < orL [cmpI x.c y.c, cmpI x.k y.k, cmpI x.v y.v]) = moreB x y := by
  unfold orL orL orL orL moreB cmpI
  by_cases h1 : x.c = y.c
  · by_cases h2 : x.k = y.k
    · by_cases h3 : x.v < y.v
      · have : ¬ y.v < x.v := by omega
        simp [h1, h2, h3, this]
      · by_cases h4 : y.v < x.v <;> simp [h1, h2, h3, h4]
    · by_cases h3 : x.k < y.k
      · have : ¬ y.k < x.k := by omega
        simp [h1, h2, h3, this]
      · have h4 : y.k < x.k := by omega
        simp [h1, h2, h3, h4]
  · by_cases h3 : x.c < y.c
    · have : ¬ y.c < x.c := by omega
      simp [h1, h3, this]
    · have h4 : y.c < x.c := by omega
      simp [h1, h3, h4]


set_option maxRecDepth 20000 in
set_option maxHeartbeats 2000000 in
theorem icounts_any (x y : Lt) (W : World) : Calls Try.prog 41 #[aLt x, aLt y] W fun e w' => e = .returned (.bool (moreB x y)) ∧ Below W.heap.size W w' := by
  rw [← valCa x y]
  unfold aLt
  go_enter Try.func41, Try.ntmps41
  go_upto_region 1 with fail
  have hX := (PB.new W #[.int .i64 x.f, .int .i64 x.s, .int .i64 x.c, .int .i64 x.k, .int .i64 x.v] 29).alloc (.cells #[.int .i64 y.f, .int .i64 y.s, .int .i64 y.c, .int .i64 y.k, .int .i64 y.v] 29)
  have hY := PB.new (W.alloc (.cells #[.int .i64 x.f, .int .i64 x.s, .int .i64 x.c, .int .i64 x.k, .int .i64 x.v] 29)) #[.int .i64 y.f, .int .i64 y.s, .int .i64 y.c, .int .i64 y.k, .int .i64 y.v] 29
  have e9 : (W.alloc (.cells #[.int .i64 x.f, .int .i64 x.s, .int .i64 x.c, .int .i64 x.k, .int .i64 x.v] 29)).heap.size = W.heap.size + 1 := by simp
  rw [e9] at hY
  refine regCa (x := x) (y := y) rfl rfl rfl hX hY (fun a b W' => icmpM_any a b W') (fun W' hW => iorL_any [cmpI x.c y.c, cmpI x.k y.k, cmpI x.v y.v] _ W' (by simp) (fun i d hd => ?_)) ?_
  · have := hW.cell i
    rw [this]
    match i, hd with
    | 0, hd => exact congrArg (fun z => some (Value.int .i64 z)) (Option.some.inj hd)
    | 1, hd => exact congrArg (fun z => some (Value.int .i64 z)) (Option.some.inj hd)
    | 2, hd => exact congrArg (fun z => some (Value.int .i64 z)) (Option.some.inj hd)
    | i + 3, hd => simp at hd
  intro b' w' hf hw hv
  rw [layCa hf, hv]
  clear hv hf hX hY e9
  subst hw
  generalize Rg.out (Rg.opsOf Try.f41 1) b' 0 = y0
  generalize Rg.out (Rg.opsOf Try.f41 1) b' 1 = y1
  generalize Rg.out (Rg.opsOf Try.f41 1) b' 2 = y2
  generalize Rg.out (Rg.opsOf Try.f41 1) b' 3 = y3
  generalize Rg.out (Rg.opsOf Try.f41 1) b' 4 = y4
  generalize Rg.out (Rg.opsOf Try.f41 1) b' 5 = y5
  generalize Rg.out (Rg.opsOf Try.f41 1) b' 6 = y6
  generalize Rg.out (Rg.opsOf Try.f41 1) b' 7 = y7
  generalize Rg.out (Rg.opsOf Try.f41 1) b' 8 = y8
  generalize Rg.out (Rg.opsOf Try.f41 1) b' 9 = y9
  generalize Rg.out (Rg.opsOf Try.f41 1) b' 10 = y10
  generalize Rg.out (Rg.opsOf Try.f41 1) b' 11 = y11
  generalize Rg.out (Rg.opsOf Try.f41 1) b' 12 = y12
  generalize Rg.out (Rg.opsOf Try.f41 1) b' 13 = y13
  generalize Rg.out (Rg.opsOf Try.f41 1) b' 14 = y14
  generalize Rg.out (Rg.opsOf Try.f41 1) b' 15 = y15
  generalize Rg.out (Rg.opsOf Try.f41 1) b' 16 = y16
  generalize Rg.out (Rg.opsOf Try.f41 1) b' 17 = y17
  go_frame
  go_wp2_with fail
  go_ret
  exact ⟨rfl, by repeat (first | exact Below.refl _ _ | assumption | refine st_drew ?_ | refine st_drewN ?_ _ | refine Below.setCell ?_ (by first | omega | (simp; done) | (simp; omega)) _ | refine Below.alloc ?_ (by first | omega | (simp; done) | (simp; omega)) _)⟩

def FTa (X Y H : Nat) (x y : Lt) (k : Nat) (v : Value) (w : World) : Prop :=
  match k with
  | 0 => v = .pointer (some ⟨X, 1, none⟩)
  | 1 => v = .int .i64 x.s
  | 2 => v = .pointer (some ⟨Y, 1, none⟩)
  | 3 => v = .int .i64 y.s
  | 4 => v = .int .i64 (cmpI x.s y.s)
  | 5 => v = .pointer (some ⟨X, 0, none⟩)
  | 6 => v = .int .i64 x.f
  | 7 => v = .pointer (some ⟨Y, 0, none⟩)
  | 8 => v = .int .i64 y.f
  | 9 => v = .int .i64 (cmpI x.f y.f)
  | 10 => v = .slice (some ⟨H, 0, none⟩) 2 2
  | 11 => v = .int .i64 (orL [cmpI x.s y.s, cmpI x.f y.f])
  | 12 => v = .bool (decide (0 < orL [cmpI x.s y.s, cmpI x.f y.f]))
  | 13 => v = .bool (decide (0 < orL [cmpI x.s y.s, cmpI x.f y.f]))
  | _ => True
def ITa (w9 : World) (x y : Lt) (l : Array Bool) (w : World) : Prop := (l.getD 10 false = false → w = w9.drew) ∧ (l.getD 10 false = true → w = w9.drew.alloc (.cells #[.int .i64 (cmpI x.s y.s), .int .i64 (cmpI x.f y.f)] 3))
theorem sameTa {w9 w : World} {x y : Lt} {l : Array Bool} {i : Nat} (hi : i ≠ 10) (h : ITa w9 x y l w) : ITa w9 x y (l.setIfInBounds i true) w := by
  unfold ITa
  rw [Rg.set_ne hi]
  exact h
theorem boxTa {w9 w : World} {x y : Lt} {l : Array Bool} {B : Nat} {vs : Array Value} {t : TypeId} (h : PB w9 B vs t) (hI : ITa w9 x y l w) : PB w B vs t := by
  cases hl : l.getD 10 false with
  | false => rw [hI.1 hl]; exact h
  | true =>
    rw [hI.2 hl]
    exact PB.alloc (W := w9.drew) h _
theorem sizeTa : (Rg.opsOf Try.f39 1).size = 14 := by kernel_rfl

set_option maxRecDepth 20000 in
set_option maxHeartbeats 8000000 in
theorem regTa {Q : Exit → Act → World → Prop} {a : Act} {w9 : World} {X Y : Nat} {x y : Lt} (ha : a.tmps.size = 18) (k2 : a.tmps[2]? = some (.pointer (some ⟨X, 0, none⟩))) (k3 : a.tmps[3]? = some (.pointer (some ⟨Y, 0, none⟩))) (hX : PB w9 X #[.int .i64 x.f, .int .i64 x.s, .int .i64 x.c, .int .i64 x.k, .int .i64 x.v] 29) (hY : PB w9 Y #[.int .i64 y.f, .int .i64 y.s, .int .i64 y.c, .int .i64 y.k, .int .i64 y.v] 29)
    (hcm : ∀ a b W, Calls Try.prog 56 #[.int .i64 a, .int .i64 b] W fun e w' => e = .returned (.int .i64 (cmpI a b)) ∧ w' = W)
    (hco : ∀ W, PB W w9.heap.size #[.int .i64 (cmpI x.s y.s), .int .i64 (cmpI x.f y.f)] 3 → Calls Try.prog 55 #[.slice (some ⟨w9.heap.size, 0, none⟩) 2 2] W fun e w' => e = .returned (.int .i64 (orL [cmpI x.s y.s, cmpI x.f y.f])) ∧ w' = W)
    (hend : ∀ b' w', Rg.Fr (Rg.opsOf Try.f39 1) a b' → w' = w9.drew.alloc (.cells #[.int .i64 (cmpI x.s y.s), .int .i64 (cmpI x.f y.f)] 3) → Rg.out (Rg.opsOf Try.f39 1) b' 13 = .bool (decide (0 < orL [cmpI x.s y.s, cmpI x.f y.f])) → Q .normal b' w') : (Code.region 1 (Rg.opsOf Try.f39 1) true).wp Try.prog Q a w9 := by
  refine Rg.region_set4 (by kernel_rfl) (ITa w9 x y) (FTa X Y w9.heap.size x y) (by rw [ha, sizeTa]; kernel_rfl) ⟨fun _ => rfl, fun h => (by rw [Rg.none_yet] at h; cases h)⟩ ?_ ?_
  case refine_2 =>
    intro l b' w' hf hall hI hA
    rw [sizeTa] at hA hall
    exact hend b' w' hf (hI.2 (hall 10 (by omega))) (hA 13 (by decide))
  case refine_1 =>
    clear hend
    intro i' hi'
    rw [sizeTa] at hi'
    rcases (show i' = 0 ∨ i' = 1 ∨ i' = 2 ∨ i' = 3 ∨ i' = 4 ∨ i' = 5 ∨ i' = 6 ∨ i' = 7 ∨ i' = 8 ∨ i' = 9 ∨ i' = 10 ∨ i' = 11 ∨ i' = 12 ∨ i' = 13 by omega) with rfl | rfl | rfl | rfl | rfl | rfl | rfl | rfl | rfl | rfl | rfl | rfl | rfl | rfl
    · intro ll bb w' hs hlf hN hO hf hI hL hA
      clear hi'
      have q2 := hf.kept (s := 2) (by rw [sizeTa]; kernel_rfl) k2
      exact Rg.op_value (o := ⟨some 5, Op.fieldAddr 29 (Operand.tmp 2) 1, _, _, _, _⟩) (x := .pointer (some ⟨X, 1, none⟩)) rfl rfl (by clear hA hN hO hL hI hcm hco; simp only [execOp]; go_simp) ⟨_, rfl, (fun h => by cases h), rfl, sameTa (by decide) hI, fun _ _ _ _ h => h⟩
    · intro ll bb w' hs hlf hN hO hf hI hL hA
      clear hi'
      have q5 : bb.tmps[5]? = some _ := hf.tmp (k := 0) rfl (by rw [ha]; decide) (hA 0 (by kernel_rfl))
      have e0 : w'.cell? ⟨X, 1, none⟩ = some (.int .i64 x.s) := (boxTa hX hI).cell 1
      exact Rg.op_value (o := ⟨some 6, Op.load 2 (Operand.tmp 5), _, _, _, _⟩) (x := .int .i64 x.s) rfl rfl (by clear hA hN hO hL hI hcm hco; simp only [execOp]; go_simp) ⟨_, rfl, (fun h => by cases h), rfl, sameTa (by decide) hI, fun _ _ _ _ h => h⟩
    · intro ll bb w' hs hlf hN hO hf hI hL hA
      clear hi'
      have q3 := hf.kept (s := 3) (by rw [sizeTa]; kernel_rfl) k3
      exact Rg.op_value (o := ⟨some 7, Op.fieldAddr 29 (Operand.tmp 3) 1, _, _, _, _⟩) (x := .pointer (some ⟨Y, 1, none⟩)) rfl rfl (by clear hA hN hO hL hI hcm hco; simp only [execOp]; go_simp) ⟨_, rfl, (fun h => by cases h), rfl, sameTa (by decide) hI, fun _ _ _ _ h => h⟩
    · intro ll bb w' hs hlf hN hO hf hI hL hA
      clear hi'
      have q7 : bb.tmps[7]? = some _ := hf.tmp (k := 2) rfl (by rw [ha]; decide) (hA 2 (by kernel_rfl))
      have e0 : w'.cell? ⟨Y, 1, none⟩ = some (.int .i64 y.s) := (boxTa hY hI).cell 1
      exact Rg.op_value (o := ⟨some 8, Op.load 2 (Operand.tmp 7), _, _, _, _⟩) (x := .int .i64 y.s) rfl rfl (by clear hA hN hO hL hI hcm hco; simp only [execOp]; go_simp) ⟨_, rfl, (fun h => by cases h), rfl, sameTa (by decide) hI, fun _ _ _ _ h => h⟩
    · intro ll bb w' hs hlf hN hO hf hI hL hA
      clear hi'
      have q6 : bb.tmps[6]? = some _ := hf.tmp (k := 1) rfl (by rw [ha]; decide) (hA 1 (by kernel_rfl))
      have q8 : bb.tmps[8]? = some _ := hf.tmp (k := 3) rfl (by rw [ha]; decide) (hA 3 (by kernel_rfl))
      refine Rg.op_call (o := ⟨some 9, Op.call { callee := Callee.value (Operand.func 56), args := #[Operand.tmp 6, Operand.tmp 8], argTypes := _ }, _, _, _, _⟩) rfl rfl (by clear hA hN hO hL hI hcm hco; simp only [execOp, resolve]; go_simp) (hcm x.s y.s w') ?_
      rintro e w2 ⟨rfl, hw2⟩
      have hw3 := hw2.symm
      clear hw2
      subst hw3
      exact ⟨_, rfl, _, rfl, (fun h => by cases h), rfl, sameTa (by decide) hI, fun _ _ _ _ h => h⟩
    · intro ll bb w' hs hlf hN hO hf hI hL hA
      clear hi'
      have q2 := hf.kept (s := 2) (by rw [sizeTa]; kernel_rfl) k2
      exact Rg.op_value (o := ⟨some 10, Op.fieldAddr 29 (Operand.tmp 2) 0, _, _, _, _⟩) (x := .pointer (some ⟨X, 0, none⟩)) rfl rfl (by clear hA hN hO hL hI hcm hco; simp only [execOp]; go_simp) ⟨_, rfl, (fun h => by cases h), rfl, sameTa (by decide) hI, fun _ _ _ _ h => h⟩
    · intro ll bb w' hs hlf hN hO hf hI hL hA
      clear hi'
      have q10 : bb.tmps[10]? = some _ := hf.tmp (k := 5) rfl (by rw [ha]; decide) (hA 5 (by kernel_rfl))
      have e0 : w'.cell? ⟨X, 0, none⟩ = some (.int .i64 x.f) := (boxTa hX hI).cell 0
      exact Rg.op_value (o := ⟨some 11, Op.load 2 (Operand.tmp 10), _, _, _, _⟩) (x := .int .i64 x.f) rfl rfl (by clear hA hN hO hL hI hcm hco; simp only [execOp]; go_simp) ⟨_, rfl, (fun h => by cases h), rfl, sameTa (by decide) hI, fun _ _ _ _ h => h⟩
    · intro ll bb w' hs hlf hN hO hf hI hL hA
      clear hi'
      have q3 := hf.kept (s := 3) (by rw [sizeTa]; kernel_rfl) k3
      exact Rg.op_value (o := ⟨some 12, Op.fieldAddr 29 (Operand.tmp 3) 0, _, _, _, _⟩) (x := .pointer (some ⟨Y, 0, none⟩)) rfl rfl (by clear hA hN hO hL hI hcm hco; simp only [execOp]; go_simp) ⟨_, rfl, (fun h => by cases h), rfl, sameTa (by decide) hI, fun _ _ _ _ h => h⟩
    · intro ll bb w' hs hlf hN hO hf hI hL hA
      clear hi'
      have q12 : bb.tmps[12]? = some _ := hf.tmp (k := 7) rfl (by rw [ha]; decide) (hA 7 (by kernel_rfl))
      have e0 : w'.cell? ⟨Y, 0, none⟩ = some (.int .i64 y.f) := (boxTa hY hI).cell 0
      exact Rg.op_value (o := ⟨some 13, Op.load 2 (Operand.tmp 12), _, _, _, _⟩) (x := .int .i64 y.f) rfl rfl (by clear hA hN hO hL hI hcm hco; simp only [execOp]; go_simp) ⟨_, rfl, (fun h => by cases h), rfl, sameTa (by decide) hI, fun _ _ _ _ h => h⟩
    · intro ll bb w' hs hlf hN hO hf hI hL hA
      clear hi'
      have q11 : bb.tmps[11]? = some _ := hf.tmp (k := 6) rfl (by rw [ha]; decide) (hA 6 (by kernel_rfl))
      have q13 : bb.tmps[13]? = some _ := hf.tmp (k := 8) rfl (by rw [ha]; decide) (hA 8 (by kernel_rfl))
      refine Rg.op_call (o := ⟨some 14, Op.call { callee := Callee.value (Operand.func 56), args := #[Operand.tmp 11, Operand.tmp 13], argTypes := _ }, _, _, _, _⟩) rfl rfl (by clear hA hN hO hL hI hcm hco; simp only [execOp, resolve]; go_simp) (hcm x.f y.f w') ?_
      rintro e w2 ⟨rfl, hw2⟩
      have hw3 := hw2.symm
      clear hw2
      subst hw3
      exact ⟨_, rfl, _, rfl, (fun h => by cases h), rfl, sameTa (by decide) hI, fun _ _ _ _ h => h⟩
    · intro ll bb w' hs hlf hN hO hf hI hL hA
      clear hi'
      have q9 : bb.tmps[9]? = some _ := hf.tmp (k := 4) rfl (by rw [ha]; decide) (hA 4 (by kernel_rfl))
      have q14 : bb.tmps[14]? = some _ := hf.tmp (k := 9) rfl (by rw [ha]; decide) (hA 9 (by kernel_rfl))
      have hw : w' = w9.drew := hI.1 hlf
      subst hw
      exact Rg.op_value (o := ⟨some 15, Op.buildSlice 100 2 #[(0, Operand.tmp 9), (1, Operand.tmp 14)], _, _, _, _⟩) (x := .slice (some ⟨w9.heap.size, 0, none⟩) 2 2) (w' := w9.drew.alloc (.cells #[.int .i64 (cmpI x.s y.s), .int .i64 (cmpI x.f y.f)] 3)) rfl rfl (by clear hA hN hO hL hI hcm hco; simp only [execOp]; go_simp) ⟨_, rfl, (fun h => by cases h), rfl, ⟨fun h => (by rw [Rg.set_self hs (by rw [sizeTa]; decide)] at h; cases h), fun _ => rfl⟩, fun _ _ _ _ h => h⟩
    · intro ll bb w' hs hlf hN hO hf hI hL hA
      clear hi'
      have q15 : bb.tmps[15]? = some _ := hf.tmp (k := 10) rfl (by rw [ha]; decide) (hA 10 (by kernel_rfl))
      have hw : w' = w9.drew.alloc (.cells #[.int .i64 (cmpI x.s y.s), .int .i64 (cmpI x.f y.f)] 3) := hI.2 (hL 10 (by kernel_rfl))
      refine Rg.op_call (o := ⟨some 16, Op.call { callee := Callee.value (Operand.func 55), args := #[Operand.tmp 15], argTypes := _ }, _, _, _, _⟩) rfl rfl (by clear hA hN hO hL hI hcm hco; simp only [execOp, resolve]; go_simp) (hco w' (by rw [hw]; exact PB.new w9.drew _ _)) ?_
      rintro e w2 ⟨rfl, hw2⟩
      have hw3 := hw2.symm
      clear hw2
      subst hw3
      exact ⟨_, rfl, _, rfl, (fun h => by cases h), rfl, sameTa (by decide) hI, fun _ _ _ _ h => h⟩
    · intro ll bb w' hs hlf hN hO hf hI hL hA
      clear hi'
      have q16 : bb.tmps[16]? = some _ := hf.tmp (k := 11) rfl (by rw [ha]; decide) (hA 11 (by kernel_rfl))
      exact Rg.op_value (o := ⟨some 17, Op.binOp BinOp.gtr 3 (Operand.tmp 16) (Operand.const (Value.int IntKind.i64 0)) 3, _, _, _, _⟩) (x := .bool (decide (0 < orL [cmpI x.s y.s, cmpI x.f y.f]))) rfl rfl (by clear hA hN hO hL hI hcm hco; simp only [execOp]; go_simp) ⟨_, rfl, (fun h => by cases h), rfl, sameTa (by decide) hI, fun _ _ _ _ h => h⟩
    · intro ll bb w' hs hlf hN hO hf hI hL hA
      clear hi'
      have q17 : bb.tmps[17]? = some _ := hf.tmp (k := 12) rfl (by rw [ha]; decide) (hA 12 (by kernel_rfl))
      exact Rg.op_value (o := ⟨some 4, Op.assign (Operand.tmp 17), _, _, _, _⟩) (x := .bool (decide (0 < orL [cmpI x.s y.s, cmpI x.f y.f]))) rfl rfl (by clear hA hN hO hL hI hcm hco; simp only [execOp]; go_simp) ⟨_, rfl, (fun h => by cases h), rfl, sameTa (by decide) hI, fun _ _ _ _ h => h⟩

theorem dTa_0 : Rg.dstAt (Rg.opsOf Try.f39 1) 0 = some 5 := by kernel_rfl
theorem dTa_1 : Rg.dstAt (Rg.opsOf Try.f39 1) 1 = some 6 := by kernel_rfl
theorem dTa_2 : Rg.dstAt (Rg.opsOf Try.f39 1) 2 = some 7 := by kernel_rfl
theorem dTa_3 : Rg.dstAt (Rg.opsOf Try.f39 1) 3 = some 8 := by kernel_rfl
theorem dTa_4 : Rg.dstAt (Rg.opsOf Try.f39 1) 4 = some 9 := by kernel_rfl
theorem dTa_5 : Rg.dstAt (Rg.opsOf Try.f39 1) 5 = some 10 := by kernel_rfl
theorem dTa_6 : Rg.dstAt (Rg.opsOf Try.f39 1) 6 = some 11 := by kernel_rfl
theorem dTa_7 : Rg.dstAt (Rg.opsOf Try.f39 1) 7 = some 12 := by kernel_rfl
theorem dTa_8 : Rg.dstAt (Rg.opsOf Try.f39 1) 8 = some 13 := by kernel_rfl
theorem dTa_9 : Rg.dstAt (Rg.opsOf Try.f39 1) 9 = some 14 := by kernel_rfl
theorem dTa_10 : Rg.dstAt (Rg.opsOf Try.f39 1) 10 = some 15 := by kernel_rfl
theorem dTa_11 : Rg.dstAt (Rg.opsOf Try.f39 1) 11 = some 16 := by kernel_rfl
theorem dTa_12 : Rg.dstAt (Rg.opsOf Try.f39 1) 12 = some 17 := by kernel_rfl
theorem dTa_13 : Rg.dstAt (Rg.opsOf Try.f39 1) 13 = some 4 := by kernel_rfl
theorem layTa {a b : Act} (hf : Rg.Fr (Rg.opsOf Try.f39 1) a b) : b = (((((((((((((a.put (some 5) (Rg.out (Rg.opsOf Try.f39 1) b 0)).put (some 6) (Rg.out (Rg.opsOf Try.f39 1) b 1)).put (some 7) (Rg.out (Rg.opsOf Try.f39 1) b 2)).put (some 8) (Rg.out (Rg.opsOf Try.f39 1) b 3)).put (some 9) (Rg.out (Rg.opsOf Try.f39 1) b 4)).put (some 10) (Rg.out (Rg.opsOf Try.f39 1) b 5)).put (some 11) (Rg.out (Rg.opsOf Try.f39 1) b 6)).put (some 12) (Rg.out (Rg.opsOf Try.f39 1) b 7)).put (some 13) (Rg.out (Rg.opsOf Try.f39 1) b 8)).put (some 14) (Rg.out (Rg.opsOf Try.f39 1) b 9)).put (some 15) (Rg.out (Rg.opsOf Try.f39 1) b 10)).put (some 16) (Rg.out (Rg.opsOf Try.f39 1) b 11)).put (some 17) (Rg.out (Rg.opsOf Try.f39 1) b 12)).put (some 4) (Rg.out (Rg.opsOf Try.f39 1) b 13) := by
  have h := hf.chain
  rw [sizeTa, show List.range 14 = [0, 1, 2, 3, 4, 5, 6, 7, 8, 9, 10, 11, 12, 13] from by decide] at h
  simp only [List.foldl_cons, List.foldl_nil, dTa_0, dTa_1, dTa_2, dTa_3, dTa_4, dTa_5, dTa_6, dTa_7, dTa_8, dTa_9, dTa_10, dTa_11, dTa_12, dTa_13] at h
  exact h
theorem valTa (x y : Lt) : decide (0 < orL [cmpI x.s y.s, cmpI x.f y.f]) = lessB y x := by
  unfold orL orL orL lessB cmpI
  by_cases h1 : x.s = y.s
  · by_cases h3 : x.f < y.f
    · have : ¬ y.f < x.f := by omega
      simp [h1, h3, this]
    · by_cases h4 : y.f < x.f <;> simp [h1, h3, h4]
  · by_cases h3 : x.s < y.s
    · have : ¬ y.s < x.s := by omega
      simp [h1, h3, this]; omega
    · have h4 : y.s < x.s := by omega
      simp [h1, h3, h4]


set_option maxRecDepth 20000 in
set_option maxHeartbeats 2000000 in
theorem itells_any (x y : Lt) (W : World) : Calls Try.prog 39 #[aLt x, aLt y] W fun e w' => e = .returned (.bool (lessB y x)) ∧ Below W.heap.size W w' := by
  rw [← valTa x y]
  unfold aLt
  go_enter Try.func39, Try.ntmps39
  go_upto_region 1 with fail
  have hX := (PB.new W #[.int .i64 x.f, .int .i64 x.s, .int .i64 x.c, .int .i64 x.k, .int .i64 x.v] 29).alloc (.cells #[.int .i64 y.f, .int .i64 y.s, .int .i64 y.c, .int .i64 y.k, .int .i64 y.v] 29)
  have hY := PB.new (W.alloc (.cells #[.int .i64 x.f, .int .i64 x.s, .int .i64 x.c, .int .i64 x.k, .int .i64 x.v] 29)) #[.int .i64 y.f, .int .i64 y.s, .int .i64 y.c, .int .i64 y.k, .int .i64 y.v] 29
  have e9 : (W.alloc (.cells #[.int .i64 x.f, .int .i64 x.s, .int .i64 x.c, .int .i64 x.k, .int .i64 x.v] 29)).heap.size = W.heap.size + 1 := by simp
  rw [e9] at hY
  refine regTa (x := x) (y := y) rfl rfl rfl hX hY (fun a b W' => icmpM_any a b W') (fun W' hW => iorL_any [cmpI x.s y.s, cmpI x.f y.f] _ W' (by simp) (fun i d hd => ?_)) ?_
  · have := hW.cell i
    rw [this]
    match i, hd with
    | 0, hd => exact congrArg (fun z => some (Value.int .i64 z)) (Option.some.inj hd)
    | 1, hd => exact congrArg (fun z => some (Value.int .i64 z)) (Option.some.inj hd)
    | i + 2, hd => simp at hd
  intro b' w' hf hw hv
  rw [layTa hf, hv]
  clear hv hf hX hY e9
  subst hw
  generalize Rg.out (Rg.opsOf Try.f39 1) b' 0 = y0
  generalize Rg.out (Rg.opsOf Try.f39 1) b' 1 = y1
  generalize Rg.out (Rg.opsOf Try.f39 1) b' 2 = y2
  generalize Rg.out (Rg.opsOf Try.f39 1) b' 3 = y3
  generalize Rg.out (Rg.opsOf Try.f39 1) b' 4 = y4
  generalize Rg.out (Rg.opsOf Try.f39 1) b' 5 = y5
  generalize Rg.out (Rg.opsOf Try.f39 1) b' 6 = y6
  generalize Rg.out (Rg.opsOf Try.f39 1) b' 7 = y7
  generalize Rg.out (Rg.opsOf Try.f39 1) b' 8 = y8
  generalize Rg.out (Rg.opsOf Try.f39 1) b' 9 = y9
  generalize Rg.out (Rg.opsOf Try.f39 1) b' 10 = y10
  generalize Rg.out (Rg.opsOf Try.f39 1) b' 11 = y11
  generalize Rg.out (Rg.opsOf Try.f39 1) b' 12 = y12
  go_frame
  go_wp2_with fail
  go_ret
  exact ⟨rfl, by repeat (first | exact Below.refl _ _ | assumption | refine st_drew ?_ | refine st_drewN ?_ _ | refine Below.setCell ?_ (by first | omega | (simp; done) | (simp; omega)) _ | refine Below.alloc ?_ (by first | omega | (simp; done) | (simp; omega)) _)⟩
end Go.Proofs.Ytbabknhccapaoaa
