/-
  Merged: Pk12.
-/
import Derived.Test.YtgcpiinmcbdkmaaMh10
import Derived.Deep.CutBlock
import Derived.Deep.CutRange
namespace Go.Proofs.Ytgcpiinmcbdkmaa
open Go.RowKit Va Bl Pq
set_option linter.all false
set_option pp.deepTerms true
set_option pp.maxSteps 1000000
def FUq5 (G m c : Nat) (x y : UE) (nd : Nd) (sv : Value) (rr : Int) (i i1 lb : Nat) (i9 : Nat) (v : Value) (w : World) : Prop :=
  match i9 with
  | 0 => v = .int .i64 (i : Nat)
  | 1 => v = .int .i64 (lb : Nat)
  | 2 => v = .bool (decide ((i : Int) < (lb : Int)))
  | 3 => v = .bool (decide ((i : Int) < (lb : Int)))
  | 4 => v = cond (true && ((decide ((i : Int) < (lb : Int))) == true)) (.func (.func 47) #[.agg #[.int .i64 nd.p, .int .i64 nd.g, sv]] #[]) undef
  | 5 => v = cond (true && ((decide ((i : Int) < (lb : Int))) == true)) (.slice (some ⟨G, 0, none⟩) m c) undef
  | 6 => v = cond (true && ((decide ((i : Int) < (lb : Int))) == true)) (.int .i64 (i : Nat)) undef
  | 7 => v = cond (true && ((decide ((i : Int) < (lb : Int))) == true)) (.pointer (some ⟨G, (i) * 6, none⟩)) undef
  | 8 => v = cond (true && ((decide ((i : Int) < (lb : Int))) == true)) (.agg #[.int .i64 x.1.id, .int .i64 x.1.grp, x.2, .int .i64 x.1.til, .int .i64 x.1.st, .int .i64 x.1.fr]) undef
  | 9 => v = cond (true && ((decide ((i : Int) < (lb : Int))) == true)) (.slice (some ⟨G, 0, none⟩) m c) undef
  | 10 => v = cond (true && ((decide ((i : Int) < (lb : Int))) == true)) (.int .i64 (i : Nat)) undef
  | 11 => v = cond (true && ((decide ((i : Int) < (lb : Int))) == true)) (.int .i64 ((i1 : Nat))) undef
  | 12 => v = cond (true && ((decide ((i : Int) < (lb : Int))) == true)) (.pointer (some ⟨G, (i1) * 6, none⟩)) undef
  | 13 => v = cond (true && ((decide ((i : Int) < (lb : Int))) == true)) (.agg #[.int .i64 y.1.id, .int .i64 y.1.grp, y.2, .int .i64 y.1.til, .int .i64 y.1.st, .int .i64 y.1.fr]) undef
  | 14 => v = cond (true && ((decide ((i : Int) < (lb : Int))) == true)) (.int .i64 rr) undef
  | 15 => v = cond (true && ((decide ((i : Int) < (lb : Int))) == true)) (.bool (decide (rr < 0))) undef
  | 16 => v = cond (true && ((decide ((i : Int) < (lb : Int))) == true)) (.bool (!(decide (rr < 0)))) undef
  | 17 => v = .bool ((decide ((i : Int) < (lb : Int))) && (!(decide (rr < 0))))
  | _ => True
theorem sizeUq5 : (Rg.opsOf Try.f126 5).size = 18 := by kernel_rfl
set_option maxRecDepth 20000 in
set_option maxHeartbeats 8000000 in
theorem regUq5 {Q : Exit → Act → World → Prop} {a : Act} {w9 : World} {G m c : Nat} {x y : UE} {nd : Nd} {sv : Value} {rr : Int} {i i1 lb : Nat} (ha : a.tmps.size = 141)
    (k9 : a.tmps[9]? = some (.int .i64 (i : Nat))) (k2 : a.tmps[2]? = some (.int .i64 (lb : Nat))) (k3 : a.tmps[3]? = some (.func (.func 47) #[.agg #[.int .i64 nd.p, .int .i64 nd.g, sv]] #[])) (k0 : a.tmps[0]? = some (.slice (some ⟨G, 0, none⟩) m c)) (hGl : G < w9.heap.size) (hx : i < lb → UC w9 G ((i) * 6) x) (hy : i < lb → UC w9 G ((i1) * 6) y) (hm0 : i < lb → i < m) (hm1 : i < lb → i1 < m) (hmm : m ≤ 100000)  (hw30 : IntKind.i64.wrap ((i : Int) - 1) = (i1 : Int)) (HK : i < lb → ∀ W, Calls Try.prog 47 #[.agg #[.int .i64 nd.p, .int .i64 nd.g, sv], .agg #[.int .i64 x.1.id, .int .i64 x.1.grp, x.2, .int .i64 x.1.til, .int .i64 x.1.st, .int .i64 x.1.fr], .agg #[.int .i64 y.1.id, .int .i64 y.1.grp, y.2, .int .i64 y.1.til, .int .i64 y.1.st, .int .i64 y.1.fr]] W fun e w' => e = .returned (.int .i64 rr) ∧ Below W.heap.size W w')
    (hend : ∀ b' w', Rg.Fr (Rg.opsOf Try.f126 5) a b' → Below w9.heap.size w9 w' → Rg.out (Rg.opsOf Try.f126 5) b' 17 = .bool ((decide ((i : Int) < (lb : Int))) && (!(decide (rr < 0)))) → Q .normal b' w') :
    (Code.region 5 (Rg.opsOf Try.f126 5) true).wp Try.prog Q a w9 := by
  refine Rg.region_set3 (by kernel_rfl) (fun _ w' => Below w9.heap.size w9 w') (FUq5 G m c x y nd sv rr i i1 lb) (by rw [ha, sizeUq5]; kernel_rfl) (st_drew (Below.refl _ _)) ?_ ?_
  case refine_2 =>
    intro l b' w' hf hall hI hA
    rw [sizeUq5] at hA
    exact hend b' w' hf hI (hA 17 (by decide))
  case refine_1 =>
    clear hend
    have HS : ∀ {w w' : World}, Below w.heap.size w w' → ∀ k9 y9, FUq5 G m c x y nd sv rr i i1 lb k9 y9 w → FUq5 G m c x y nd sv rr i i1 lb k9 y9 w' := fun hb k9 y9 h => by
      unfold FUq5 at *
      split at h <;> exact h
    intro i' hi'
    rw [sizeUq5] at hi'
    rcases (show i' = 0 ∨ i' = 1 ∨ i' = 2 ∨ i' = 3 ∨ i' = 4 ∨ i' = 5 ∨ i' = 6 ∨ i' = 7 ∨ i' = 8 ∨ i' = 9 ∨ i' = 10 ∨ i' = 11 ∨ i' = 12 ∨ i' = 13 ∨ i' = 14 ∨ i' = 15 ∨ i' = 16 ∨ i' = 17 by omega) with rfl | rfl | rfl | rfl | rfl | rfl | rfl | rfl | rfl | rfl | rfl | rfl | rfl | rfl | rfl | rfl | rfl | rfl
    · intro ll bb w' hs hlf hN hO hf hI hA
      clear hi'
      have q0 := hf.kept (s := 9) (by rw [sizeUq5]; kernel_rfl) k9
      exact Rg.op_value (o := ⟨some 19, Op.move (Operand.tmp 9), _, _, _, _⟩) (x := .int .i64 (i : Nat)) rfl rfl (by clear hA HS hN hO HK hx hy hm0 hm1; simp only [execOp]; go_simp) ⟨_, rfl, (fun h => by cases h), rfl, hI, fun _ _ _ _ h => h⟩
    · intro ll bb w' hs hlf hN hO hf hI hA
      clear hi'
      have q0 := hf.kept (s := 2) (by rw [sizeUq5]; kernel_rfl) k2
      exact Rg.op_value (o := ⟨some 20, Op.move (Operand.tmp 2), _, _, _, _⟩) (x := .int .i64 (lb : Nat)) rfl rfl (by clear hA HS hN hO HK hx hy hm0 hm1; simp only [execOp]; go_simp) ⟨_, rfl, (fun h => by cases h), rfl, hI, fun _ _ _ _ h => h⟩
    · intro ll bb w' hs hlf hN hO hf hI hA
      clear hi'
      have q19 : bb.tmps[19]? = some _ := hf.tmp (k := 0) rfl (by rw [ha]; decide) (hA 0 (by kernel_rfl))
      have q20 : bb.tmps[20]? = some _ := hf.tmp (k := 1) rfl (by rw [ha]; decide) (hA 1 (by kernel_rfl))
      exact Rg.op_value (o := ⟨some 21, Op.binOp BinOp.lss 3 (Operand.tmp 19) (Operand.tmp 20) 3, _, _, _, _⟩) (x := .bool (decide ((i : Int) < (lb : Int)))) rfl rfl (by clear hA HS hN hO HK hx hy hm0 hm1; simp only [execOp]; go_simp) ⟨_, rfl, (fun h => by cases h), rfl, hI, fun _ _ _ _ h => h⟩
    · intro ll bb w' hs hlf hN hO hf hI hA
      clear hi'
      have q21 : bb.tmps[21]? = some _ := hf.tmp (k := 2) rfl (by rw [ha]; decide) (hA 2 (by kernel_rfl))
      exact Rg.op_value (o := ⟨some 22, Op.move (Operand.tmp 21), _, _, _, _⟩) (x := .bool (decide ((i : Int) < (lb : Int)))) rfl rfl (by clear hA HS hN hO HK hx hy hm0 hm1; simp only [execOp]; go_simp) ⟨_, rfl, (fun h => by cases h), rfl, hI, fun _ _ _ _ h => h⟩
    · intro ll bb w' hs hlf hN hO hf hI hA
      clear hi'
      have qg : bb.tmps[22]? = some (cond true (.bool (decide ((i : Int) < (lb : Int)))) undef) := hf.tmp (k := 3) rfl (by rw [ha]; decide) (hA 3 (by kernel_rfl))
      cases hP : (true && ((decide ((i : Int) < (lb : Int))) == true)) with
      | false => exact Rg.op_none (o := ⟨some 23, _, _, _, _, _⟩) rfl (Rg.unwanted_c (g := 3) rfl rfl qg hP) ⟨_, rfl, (fun h => by cases h), Rg.cond_f hP, hI, fun _ _ _ _ h => h⟩
      | true =>
        have hw := Rg.wanted_c (ops := (Rg.opsOf Try.f126 5)) (o := (Rg.opsOf Try.f126 5)[4]'(by rw [sizeUq5]; decide)) (g := 3) rfl rfl qg hP
        have g0 := Rg.pc_r hP
        have q0 := hf.kept (s := 3) (by rw [sizeUq5]; kernel_rfl) k3
        exact Rg.op_value (o := ⟨some 23, Op.move (Operand.tmp 3), _, _, _, _⟩) (x := .func (.func 47) #[.agg #[.int .i64 nd.p, .int .i64 nd.g, sv]] #[]) rfl hw (by clear hA HS hN hO HK hx hy hm0 hm1; simp only [execOp]; go_simp) ⟨_, rfl, (fun h => by cases h), (Rg.cond_t hP).symm, hI, fun _ _ _ _ h => h⟩
    · intro ll bb w' hs hlf hN hO hf hI hA
      clear hi'
      have qg : bb.tmps[22]? = some (cond true (.bool (decide ((i : Int) < (lb : Int)))) undef) := hf.tmp (k := 3) rfl (by rw [ha]; decide) (hA 3 (by kernel_rfl))
      cases hP : (true && ((decide ((i : Int) < (lb : Int))) == true)) with
      | false => exact Rg.op_none (o := ⟨some 24, _, _, _, _, _⟩) rfl (Rg.unwanted_c (g := 3) rfl rfl qg hP) ⟨_, rfl, (fun h => by cases h), Rg.cond_f hP, hI, fun _ _ _ _ h => h⟩
      | true =>
        have hw := Rg.wanted_c (ops := (Rg.opsOf Try.f126 5)) (o := (Rg.opsOf Try.f126 5)[5]'(by rw [sizeUq5]; decide)) (g := 3) rfl rfl qg hP
        have g0 := Rg.pc_r hP
        have q0 := hf.kept (s := 0) (by rw [sizeUq5]; kernel_rfl) k0
        exact Rg.op_value (o := ⟨some 24, Op.move (Operand.tmp 0), _, _, _, _⟩) (x := .slice (some ⟨G, 0, none⟩) m c) rfl hw (by clear hA HS hN hO HK hx hy hm0 hm1; simp only [execOp]; go_simp) ⟨_, rfl, (fun h => by cases h), (Rg.cond_t hP).symm, hI, fun _ _ _ _ h => h⟩
    · intro ll bb w' hs hlf hN hO hf hI hA
      clear hi'
      have qg : bb.tmps[22]? = some (cond true (.bool (decide ((i : Int) < (lb : Int)))) undef) := hf.tmp (k := 3) rfl (by rw [ha]; decide) (hA 3 (by kernel_rfl))
      cases hP : (true && ((decide ((i : Int) < (lb : Int))) == true)) with
      | false => exact Rg.op_none (o := ⟨some 25, _, _, _, _, _⟩) rfl (Rg.unwanted_c (g := 3) rfl rfl qg hP) ⟨_, rfl, (fun h => by cases h), Rg.cond_f hP, hI, fun _ _ _ _ h => h⟩
      | true =>
        have hw := Rg.wanted_c (ops := (Rg.opsOf Try.f126 5)) (o := (Rg.opsOf Try.f126 5)[6]'(by rw [sizeUq5]; decide)) (g := 3) rfl rfl qg hP
        have g0 := Rg.pc_r hP
        have q0 := hf.kept (s := 9) (by rw [sizeUq5]; kernel_rfl) k9
        exact Rg.op_value (o := ⟨some 25, Op.move (Operand.tmp 9), _, _, _, _⟩) (x := .int .i64 (i : Nat)) rfl hw (by clear hA HS hN hO HK hx hy hm0 hm1; simp only [execOp]; go_simp) ⟨_, rfl, (fun h => by cases h), (Rg.cond_t hP).symm, hI, fun _ _ _ _ h => h⟩
    · intro ll bb w' hs hlf hN hO hf hI hA
      clear hi'
      have qg : bb.tmps[22]? = some (cond true (.bool (decide ((i : Int) < (lb : Int)))) undef) := hf.tmp (k := 3) rfl (by rw [ha]; decide) (hA 3 (by kernel_rfl))
      cases hP : (true && ((decide ((i : Int) < (lb : Int))) == true)) with
      | false => exact Rg.op_none (o := ⟨some 26, _, _, _, _, _⟩) rfl (Rg.unwanted_c (g := 3) rfl rfl qg hP) ⟨_, rfl, (fun h => by cases h), Rg.cond_f hP, hI, fun _ _ _ _ h => h⟩
      | true =>
        have hw := Rg.wanted_c (ops := (Rg.opsOf Try.f126 5)) (o := (Rg.opsOf Try.f126 5)[7]'(by rw [sizeUq5]; decide)) (g := 3) rfl rfl qg hP
        have g0 := Rg.pc_r hP
        have q24 : bb.tmps[24]? = some (.slice (some ⟨G, 0, none⟩) m c) := hf.tmp (k := 5) rfl (by rw [ha]; decide) (Eq.trans (hA 5 (by kernel_rfl)) (Rg.cond_t hP))
        have q25 : bb.tmps[25]? = some (.int .i64 (i : Nat)) := hf.tmp (k := 6) rfl (by rw [ha]; decide) (Eq.trans (hA 6 (by kernel_rfl)) (Rg.cond_t hP))
        have hgp : i < lb := by have q1 := g0; simp at q1; omega
        have hi9 : (((i) : Nat) : Int) < (m : Int) := by have := hm0 hgp; omega
        exact Rg.op_value (o := ⟨some 26, Op.indexAddr 24 (Operand.tmp 24) (Operand.tmp 25), _, _, _, _⟩) (x := .pointer (some ⟨G, (i) * 6, none⟩)) rfl hw (by clear hA HS hN hO HK hx hy hm0 hm1; simp only [execOp]; go_simp) ⟨_, rfl, (fun h => by cases h), (Rg.cond_t hP).symm, hI, fun _ _ _ _ h => h⟩
    · intro ll bb w' hs hlf hN hO hf hI hA
      clear hi'
      have qg : bb.tmps[22]? = some (cond true (.bool (decide ((i : Int) < (lb : Int)))) undef) := hf.tmp (k := 3) rfl (by rw [ha]; decide) (hA 3 (by kernel_rfl))
      cases hP : (true && ((decide ((i : Int) < (lb : Int))) == true)) with
      | false => exact Rg.op_none (o := ⟨some 27, _, _, _, _, _⟩) rfl (Rg.unwanted_c (g := 3) rfl rfl qg hP) ⟨_, rfl, (fun h => by cases h), Rg.cond_f hP, hI, fun _ _ _ _ h => h⟩
      | true =>
        have hw := Rg.wanted_c (ops := (Rg.opsOf Try.f126 5)) (o := (Rg.opsOf Try.f126 5)[8]'(by rw [sizeUq5]; decide)) (g := 3) rfl rfl qg hP
        have g0 := Rg.pc_r hP
        have q26 : bb.tmps[26]? = some (.pointer (some ⟨G, (i) * 6, none⟩)) := hf.tmp (k := 7) rfl (by rw [ha]; decide) (Eq.trans (hA 7 (by kernel_rfl)) (Rg.cond_t hP))
        have hgp : i < lb := by have q1 := g0; simp at q1; omega
        have hx9 := (hx hgp).below hI hGl
        have e0 := hx9.c0
        have e1 := hx9.c1
        have e2 := hx9.c2
        have e3 := hx9.c3
        have e4 := hx9.c4
        have e5 := hx9.c5
        exact Rg.op_value (o := ⟨some 27, Op.load 81 (Operand.tmp 26), _, _, _, _⟩) (x := .agg #[.int .i64 x.1.id, .int .i64 x.1.grp, x.2, .int .i64 x.1.til, .int .i64 x.1.st, .int .i64 x.1.fr]) rfl hw (by clear hA HS hN hO HK hx hy hm0 hm1; simp only [execOp]; go_simp) ⟨_, rfl, (fun h => by cases h), (Rg.cond_t hP).symm, hI, fun _ _ _ _ h => h⟩
    · intro ll bb w' hs hlf hN hO hf hI hA
      clear hi'
      have qg : bb.tmps[22]? = some (cond true (.bool (decide ((i : Int) < (lb : Int)))) undef) := hf.tmp (k := 3) rfl (by rw [ha]; decide) (hA 3 (by kernel_rfl))
      cases hP : (true && ((decide ((i : Int) < (lb : Int))) == true)) with
      | false => exact Rg.op_none (o := ⟨some 28, _, _, _, _, _⟩) rfl (Rg.unwanted_c (g := 3) rfl rfl qg hP) ⟨_, rfl, (fun h => by cases h), Rg.cond_f hP, hI, fun _ _ _ _ h => h⟩
      | true =>
        have hw := Rg.wanted_c (ops := (Rg.opsOf Try.f126 5)) (o := (Rg.opsOf Try.f126 5)[9]'(by rw [sizeUq5]; decide)) (g := 3) rfl rfl qg hP
        have g0 := Rg.pc_r hP
        have q0 := hf.kept (s := 0) (by rw [sizeUq5]; kernel_rfl) k0
        exact Rg.op_value (o := ⟨some 28, Op.move (Operand.tmp 0), _, _, _, _⟩) (x := .slice (some ⟨G, 0, none⟩) m c) rfl hw (by clear hA HS hN hO HK hx hy hm0 hm1; simp only [execOp]; go_simp) ⟨_, rfl, (fun h => by cases h), (Rg.cond_t hP).symm, hI, fun _ _ _ _ h => h⟩
    · intro ll bb w' hs hlf hN hO hf hI hA
      clear hi'
      have qg : bb.tmps[22]? = some (cond true (.bool (decide ((i : Int) < (lb : Int)))) undef) := hf.tmp (k := 3) rfl (by rw [ha]; decide) (hA 3 (by kernel_rfl))
      cases hP : (true && ((decide ((i : Int) < (lb : Int))) == true)) with
      | false => exact Rg.op_none (o := ⟨some 29, _, _, _, _, _⟩) rfl (Rg.unwanted_c (g := 3) rfl rfl qg hP) ⟨_, rfl, (fun h => by cases h), Rg.cond_f hP, hI, fun _ _ _ _ h => h⟩
      | true =>
        have hw := Rg.wanted_c (ops := (Rg.opsOf Try.f126 5)) (o := (Rg.opsOf Try.f126 5)[10]'(by rw [sizeUq5]; decide)) (g := 3) rfl rfl qg hP
        have g0 := Rg.pc_r hP
        have q0 := hf.kept (s := 9) (by rw [sizeUq5]; kernel_rfl) k9
        exact Rg.op_value (o := ⟨some 29, Op.move (Operand.tmp 9), _, _, _, _⟩) (x := .int .i64 (i : Nat)) rfl hw (by clear hA HS hN hO HK hx hy hm0 hm1; simp only [execOp]; go_simp) ⟨_, rfl, (fun h => by cases h), (Rg.cond_t hP).symm, hI, fun _ _ _ _ h => h⟩
    · intro ll bb w' hs hlf hN hO hf hI hA
      clear hi'
      have qg : bb.tmps[22]? = some (cond true (.bool (decide ((i : Int) < (lb : Int)))) undef) := hf.tmp (k := 3) rfl (by rw [ha]; decide) (hA 3 (by kernel_rfl))
      cases hP : (true && ((decide ((i : Int) < (lb : Int))) == true)) with
      | false => exact Rg.op_none (o := ⟨some 30, _, _, _, _, _⟩) rfl (Rg.unwanted_c (g := 3) rfl rfl qg hP) ⟨_, rfl, (fun h => by cases h), Rg.cond_f hP, hI, fun _ _ _ _ h => h⟩
      | true =>
        have hw := Rg.wanted_c (ops := (Rg.opsOf Try.f126 5)) (o := (Rg.opsOf Try.f126 5)[11]'(by rw [sizeUq5]; decide)) (g := 3) rfl rfl qg hP
        have g0 := Rg.pc_r hP
        have q29 : bb.tmps[29]? = some (.int .i64 (i : Nat)) := hf.tmp (k := 10) rfl (by rw [ha]; decide) (Eq.trans (hA 10 (by kernel_rfl)) (Rg.cond_t hP))
        have hw9 := hw30
        exact Rg.op_value (o := ⟨some 30, Op.binOp BinOp.sub 3 (Operand.tmp 29) (Operand.const (Value.int .i64 1)) 3, _, _, _, _⟩) (x := .int .i64 ((i1 : Nat))) rfl hw (by clear hA HS hN hO HK hx hy hm0 hm1; simp only [execOp]; go_simp) ⟨_, rfl, (fun h => by cases h), (Rg.cond_t hP).symm, hI, fun _ _ _ _ h => h⟩
    · intro ll bb w' hs hlf hN hO hf hI hA
      clear hi'
      have qg : bb.tmps[22]? = some (cond true (.bool (decide ((i : Int) < (lb : Int)))) undef) := hf.tmp (k := 3) rfl (by rw [ha]; decide) (hA 3 (by kernel_rfl))
      cases hP : (true && ((decide ((i : Int) < (lb : Int))) == true)) with
      | false => exact Rg.op_none (o := ⟨some 31, _, _, _, _, _⟩) rfl (Rg.unwanted_c (g := 3) rfl rfl qg hP) ⟨_, rfl, (fun h => by cases h), Rg.cond_f hP, hI, fun _ _ _ _ h => h⟩
      | true =>
        have hw := Rg.wanted_c (ops := (Rg.opsOf Try.f126 5)) (o := (Rg.opsOf Try.f126 5)[12]'(by rw [sizeUq5]; decide)) (g := 3) rfl rfl qg hP
        have g0 := Rg.pc_r hP
        have q28 : bb.tmps[28]? = some (.slice (some ⟨G, 0, none⟩) m c) := hf.tmp (k := 9) rfl (by rw [ha]; decide) (Eq.trans (hA 9 (by kernel_rfl)) (Rg.cond_t hP))
        have q30 : bb.tmps[30]? = some (.int .i64 ((i1 : Nat))) := hf.tmp (k := 11) rfl (by rw [ha]; decide) (Eq.trans (hA 11 (by kernel_rfl)) (Rg.cond_t hP))
        have hgp : i < lb := by have q1 := g0; simp at q1; omega
        have hi9 : (((i1) : Nat) : Int) < (m : Int) := by have := hm1 hgp; omega
        exact Rg.op_value (o := ⟨some 31, Op.indexAddr 24 (Operand.tmp 28) (Operand.tmp 30), _, _, _, _⟩) (x := .pointer (some ⟨G, (i1) * 6, none⟩)) rfl hw (by clear hA HS hN hO HK hx hy hm0 hm1; simp only [execOp]; go_simp) ⟨_, rfl, (fun h => by cases h), (Rg.cond_t hP).symm, hI, fun _ _ _ _ h => h⟩
    · intro ll bb w' hs hlf hN hO hf hI hA
      clear hi'
      have qg : bb.tmps[22]? = some (cond true (.bool (decide ((i : Int) < (lb : Int)))) undef) := hf.tmp (k := 3) rfl (by rw [ha]; decide) (hA 3 (by kernel_rfl))
      cases hP : (true && ((decide ((i : Int) < (lb : Int))) == true)) with
      | false => exact Rg.op_none (o := ⟨some 32, _, _, _, _, _⟩) rfl (Rg.unwanted_c (g := 3) rfl rfl qg hP) ⟨_, rfl, (fun h => by cases h), Rg.cond_f hP, hI, fun _ _ _ _ h => h⟩
      | true =>
        have hw := Rg.wanted_c (ops := (Rg.opsOf Try.f126 5)) (o := (Rg.opsOf Try.f126 5)[13]'(by rw [sizeUq5]; decide)) (g := 3) rfl rfl qg hP
        have g0 := Rg.pc_r hP
        have q31 : bb.tmps[31]? = some (.pointer (some ⟨G, (i1) * 6, none⟩)) := hf.tmp (k := 12) rfl (by rw [ha]; decide) (Eq.trans (hA 12 (by kernel_rfl)) (Rg.cond_t hP))
        have hgp : i < lb := by have q1 := g0; simp at q1; omega
        have hx9 := (hy hgp).below hI hGl
        have e0 := hx9.c0
        have e1 := hx9.c1
        have e2 := hx9.c2
        have e3 := hx9.c3
        have e4 := hx9.c4
        have e5 := hx9.c5
        exact Rg.op_value (o := ⟨some 32, Op.load 81 (Operand.tmp 31), _, _, _, _⟩) (x := .agg #[.int .i64 y.1.id, .int .i64 y.1.grp, y.2, .int .i64 y.1.til, .int .i64 y.1.st, .int .i64 y.1.fr]) rfl hw (by clear hA HS hN hO HK hx hy hm0 hm1; simp only [execOp]; go_simp) ⟨_, rfl, (fun h => by cases h), (Rg.cond_t hP).symm, hI, fun _ _ _ _ h => h⟩
    · intro ll bb w' hs hlf hN hO hf hI hA
      clear hi'
      have qg : bb.tmps[22]? = some (cond true (.bool (decide ((i : Int) < (lb : Int)))) undef) := hf.tmp (k := 3) rfl (by rw [ha]; decide) (hA 3 (by kernel_rfl))
      cases hP : (true && ((decide ((i : Int) < (lb : Int))) == true)) with
      | false => exact Rg.op_none (o := ⟨some 33, _, _, _, _, _⟩) rfl (Rg.unwanted_c (g := 3) rfl rfl qg hP) ⟨_, rfl, (fun h => by cases h), Rg.cond_f hP, hI, fun _ _ _ _ h => h⟩
      | true =>
        have hw := Rg.wanted_c (ops := (Rg.opsOf Try.f126 5)) (o := (Rg.opsOf Try.f126 5)[14]'(by rw [sizeUq5]; decide)) (g := 3) rfl rfl qg hP
        have g0 := Rg.pc_r hP
        have q23 : bb.tmps[23]? = some (.func (.func 47) #[.agg #[.int .i64 nd.p, .int .i64 nd.g, sv]] #[]) := hf.tmp (k := 4) rfl (by rw [ha]; decide) (Eq.trans (hA 4 (by kernel_rfl)) (Rg.cond_t hP))
        have q27 : bb.tmps[27]? = some (.agg #[.int .i64 x.1.id, .int .i64 x.1.grp, x.2, .int .i64 x.1.til, .int .i64 x.1.st, .int .i64 x.1.fr]) := hf.tmp (k := 8) rfl (by rw [ha]; decide) (Eq.trans (hA 8 (by kernel_rfl)) (Rg.cond_t hP))
        have q32 : bb.tmps[32]? = some (.agg #[.int .i64 y.1.id, .int .i64 y.1.grp, y.2, .int .i64 y.1.til, .int .i64 y.1.st, .int .i64 y.1.fr]) := hf.tmp (k := 13) rfl (by rw [ha]; decide) (Eq.trans (hA 13 (by kernel_rfl)) (Rg.cond_t hP))
        have hgp : i < lb := by have q1 := g0; simp at q1; omega
        refine Rg.op_call (o := ⟨some 33, Op.call { callee := Callee.value (Operand.tmp 23), args := #[(Operand.tmp 27), (Operand.tmp 32)], argTypes := _ }, _, _, _, _⟩) rfl hw (by clear hA HS hN hO HK hx hy hm0 hm1; simp only [execOp, resolve]; go_simp) (HK hgp w') ?_
        rintro e w2 ⟨rfl, hb2⟩
        exact ⟨_, rfl, _, rfl, (fun h => by cases h), (Rg.cond_t hP).symm, onto hI hb2, fun k9 y9 _ _ h => HS hb2 k9 y9 h⟩
    · intro ll bb w' hs hlf hN hO hf hI hA
      clear hi'
      have qg : bb.tmps[22]? = some (cond true (.bool (decide ((i : Int) < (lb : Int)))) undef) := hf.tmp (k := 3) rfl (by rw [ha]; decide) (hA 3 (by kernel_rfl))
      cases hP : (true && ((decide ((i : Int) < (lb : Int))) == true)) with
      | false => exact Rg.op_none (o := ⟨some 34, _, _, _, _, _⟩) rfl (Rg.unwanted_c (g := 3) rfl rfl qg hP) ⟨_, rfl, (fun h => by cases h), Rg.cond_f hP, hI, fun _ _ _ _ h => h⟩
      | true =>
        have hw := Rg.wanted_c (ops := (Rg.opsOf Try.f126 5)) (o := (Rg.opsOf Try.f126 5)[15]'(by rw [sizeUq5]; decide)) (g := 3) rfl rfl qg hP
        have g0 := Rg.pc_r hP
        have q33 : bb.tmps[33]? = some (.int .i64 rr) := hf.tmp (k := 14) rfl (by rw [ha]; decide) (Eq.trans (hA 14 (by kernel_rfl)) (Rg.cond_t hP))
        exact Rg.op_value (o := ⟨some 34, Op.binOp BinOp.lss 3 (Operand.tmp 33) (Operand.const (Value.int .i64 0)) 3, _, _, _, _⟩) (x := .bool (decide (rr < 0))) rfl hw (by clear hA HS hN hO HK hx hy hm0 hm1; simp only [execOp]; go_simp) ⟨_, rfl, (fun h => by cases h), (Rg.cond_t hP).symm, hI, fun _ _ _ _ h => h⟩
    · intro ll bb w' hs hlf hN hO hf hI hA
      clear hi'
      have qg : bb.tmps[22]? = some (cond true (.bool (decide ((i : Int) < (lb : Int)))) undef) := hf.tmp (k := 3) rfl (by rw [ha]; decide) (hA 3 (by kernel_rfl))
      cases hP : (true && ((decide ((i : Int) < (lb : Int))) == true)) with
      | false => exact Rg.op_none (o := ⟨some 35, _, _, _, _, _⟩) rfl (Rg.unwanted_c (g := 3) rfl rfl qg hP) ⟨_, rfl, (fun h => by cases h), Rg.cond_f hP, hI, fun _ _ _ _ h => h⟩
      | true =>
        have hw := Rg.wanted_c (ops := (Rg.opsOf Try.f126 5)) (o := (Rg.opsOf Try.f126 5)[16]'(by rw [sizeUq5]; decide)) (g := 3) rfl rfl qg hP
        have g0 := Rg.pc_r hP
        have q34 : bb.tmps[34]? = some (.bool (decide (rr < 0))) := hf.tmp (k := 15) rfl (by rw [ha]; decide) (Eq.trans (hA 15 (by kernel_rfl)) (Rg.cond_t hP))
        exact Rg.op_value (o := ⟨some 35, Op.unOp UnOp.not 4 (Operand.tmp 34), _, _, _, _⟩) (x := .bool (!(decide (rr < 0)))) rfl hw (by clear hA HS hN hO HK hx hy hm0 hm1; simp only [execOp]; go_simp) ⟨_, rfl, (fun h => by cases h), (Rg.cond_t hP).symm, hI, fun _ _ _ _ h => h⟩
    · intro ll bb w' hs hlf hN hO hf hI hA
      clear hi'
      have q22 : bb.tmps[22]? = some _ := hf.tmp (k := 3) rfl (by rw [ha]; decide) (hA 3 (by kernel_rfl))
      cases hC : (decide ((i : Int) < (lb : Int))) with
      | false =>
        have hval : ((.bool ((decide ((i : Int) < (lb : Int))) && (!(decide (rr < 0)))) : Value)) = .bool false := by rw [hC]; rfl
        exact Rg.op_value (o := ⟨some 36, Op.pick (Operand.tmp 22) (Operand.tmp 35) (Operand.const (Value.bool false)), _, _, _, _⟩) (x := .bool false) rfl rfl (by rw [hC] at q22; clear hA HS hN hO HK hx hy hm0 hm1 hval; simp only [execOp]; go_simp) ⟨_, rfl, (fun h => by cases h), (by show ((.bool false : Value)) = _; first | exact hval.symm | rfl), hI, fun _ _ _ _ h => h⟩
      | true =>
        have hB : (true && ((decide ((i : Int) < (lb : Int))) == true)) = true := by rw [hC]; rfl
        have q35 : bb.tmps[35]? = some (.bool (!(decide (rr < 0)))) := hf.tmp (k := 16) rfl (by rw [ha]; decide) (Eq.trans (hA 16 (by kernel_rfl)) (Rg.cond_t hB))
        have hval : ((.bool ((decide ((i : Int) < (lb : Int))) && (!(decide (rr < 0)))) : Value)) = .bool (!(decide (rr < 0))) := by rw [hC]; rfl
        exact Rg.op_value (o := ⟨some 36, Op.pick (Operand.tmp 22) (Operand.tmp 35) (Operand.const (Value.bool false)), _, _, _, _⟩) (x := .bool (!(decide (rr < 0)))) rfl rfl (by rw [hC] at q22; clear hA HS hN hO HK hx hy hm0 hm1 hval; simp only [execOp]; go_simp) ⟨_, rfl, (fun h => by cases h), (by show ((.bool (!(decide (rr < 0))) : Value)) = _; first | exact hval.symm | rfl), hI, fun _ _ _ _ h => h⟩
theorem dUq5_0 : Rg.dstAt (Rg.opsOf Try.f126 5) 0 = some 19 := by kernel_rfl
theorem dUq5_1 : Rg.dstAt (Rg.opsOf Try.f126 5) 1 = some 20 := by kernel_rfl
theorem dUq5_2 : Rg.dstAt (Rg.opsOf Try.f126 5) 2 = some 21 := by kernel_rfl
theorem dUq5_3 : Rg.dstAt (Rg.opsOf Try.f126 5) 3 = some 22 := by kernel_rfl
theorem dUq5_4 : Rg.dstAt (Rg.opsOf Try.f126 5) 4 = some 23 := by kernel_rfl
theorem dUq5_5 : Rg.dstAt (Rg.opsOf Try.f126 5) 5 = some 24 := by kernel_rfl
theorem dUq5_6 : Rg.dstAt (Rg.opsOf Try.f126 5) 6 = some 25 := by kernel_rfl
theorem dUq5_7 : Rg.dstAt (Rg.opsOf Try.f126 5) 7 = some 26 := by kernel_rfl
theorem dUq5_8 : Rg.dstAt (Rg.opsOf Try.f126 5) 8 = some 27 := by kernel_rfl
theorem dUq5_9 : Rg.dstAt (Rg.opsOf Try.f126 5) 9 = some 28 := by kernel_rfl
theorem dUq5_10 : Rg.dstAt (Rg.opsOf Try.f126 5) 10 = some 29 := by kernel_rfl
theorem dUq5_11 : Rg.dstAt (Rg.opsOf Try.f126 5) 11 = some 30 := by kernel_rfl
theorem dUq5_12 : Rg.dstAt (Rg.opsOf Try.f126 5) 12 = some 31 := by kernel_rfl
theorem dUq5_13 : Rg.dstAt (Rg.opsOf Try.f126 5) 13 = some 32 := by kernel_rfl
theorem dUq5_14 : Rg.dstAt (Rg.opsOf Try.f126 5) 14 = some 33 := by kernel_rfl
theorem dUq5_15 : Rg.dstAt (Rg.opsOf Try.f126 5) 15 = some 34 := by kernel_rfl
theorem dUq5_16 : Rg.dstAt (Rg.opsOf Try.f126 5) 16 = some 35 := by kernel_rfl
theorem dUq5_17 : Rg.dstAt (Rg.opsOf Try.f126 5) 17 = some 36 := by kernel_rfl
theorem layUq5 {a b : Act} (hf : Rg.Fr (Rg.opsOf Try.f126 5) a b) : b = ((((((((((((((((((a.put (some 19) (Rg.out (Rg.opsOf Try.f126 5) b 0)).put (some 20) (Rg.out (Rg.opsOf Try.f126 5) b 1)).put (some 21) (Rg.out (Rg.opsOf Try.f126 5) b 2)).put (some 22) (Rg.out (Rg.opsOf Try.f126 5) b 3)).put (some 23) (Rg.out (Rg.opsOf Try.f126 5) b 4)).put (some 24) (Rg.out (Rg.opsOf Try.f126 5) b 5)).put (some 25) (Rg.out (Rg.opsOf Try.f126 5) b 6)).put (some 26) (Rg.out (Rg.opsOf Try.f126 5) b 7)).put (some 27) (Rg.out (Rg.opsOf Try.f126 5) b 8)).put (some 28) (Rg.out (Rg.opsOf Try.f126 5) b 9)).put (some 29) (Rg.out (Rg.opsOf Try.f126 5) b 10)).put (some 30) (Rg.out (Rg.opsOf Try.f126 5) b 11)).put (some 31) (Rg.out (Rg.opsOf Try.f126 5) b 12)).put (some 32) (Rg.out (Rg.opsOf Try.f126 5) b 13)).put (some 33) (Rg.out (Rg.opsOf Try.f126 5) b 14)).put (some 34) (Rg.out (Rg.opsOf Try.f126 5) b 15)).put (some 35) (Rg.out (Rg.opsOf Try.f126 5) b 16)).put (some 36) (Rg.out (Rg.opsOf Try.f126 5) b 17)) := by
  have h := hf.chain
  rw [sizeUq5, show List.range 18 = [0, 1, 2, 3, 4, 5, 6, 7, 8, 9, 10, 11, 12, 13, 14, 15, 16, 17] from by decide] at h
  simp only [List.foldl_cons, List.foldl_nil, dUq5_0, dUq5_1, dUq5_2, dUq5_3, dUq5_4, dUq5_5, dUq5_6, dUq5_7, dUq5_8, dUq5_9, dUq5_10, dUq5_11, dUq5_12, dUq5_13, dUq5_14, dUq5_15, dUq5_16, dUq5_17] at h
  exact h
def FUq16 (G m c : Nat) (x y : UE) (nd : Nd) (sv : Value) (rr : Int) (j j1 : Nat) (i9 : Nat) (v : Value) (w : World) : Prop :=
  match i9 with
  | 0 => v = .func (.func 47) #[.agg #[.int .i64 nd.p, .int .i64 nd.g, sv]] #[]
  | 1 => v = .slice (some ⟨G, 0, none⟩) m c
  | 2 => v = .int .i64 (j : Nat)
  | 3 => v = .pointer (some ⟨G, (j) * 6, none⟩)
  | 4 => v = .agg #[.int .i64 x.1.id, .int .i64 x.1.grp, x.2, .int .i64 x.1.til, .int .i64 x.1.st, .int .i64 x.1.fr]
  | 5 => v = .slice (some ⟨G, 0, none⟩) m c
  | 6 => v = .int .i64 (j : Nat)
  | 7 => v = .int .i64 ((j1 : Nat))
  | 8 => v = .pointer (some ⟨G, (j1) * 6, none⟩)
  | 9 => v = .agg #[.int .i64 y.1.id, .int .i64 y.1.grp, y.2, .int .i64 y.1.til, .int .i64 y.1.st, .int .i64 y.1.fr]
  | 10 => v = .int .i64 rr
  | 11 => v = .bool (decide (rr < 0))
  | 12 => v = .bool (!(decide (rr < 0)))
  | _ => True
theorem sizeUq16 : (Rg.opsOf Try.f126 16).size = 13 := by kernel_rfl
set_option maxRecDepth 20000 in
set_option maxHeartbeats 8000000 in
theorem regUq16 {Q : Exit → Act → World → Prop} {a : Act} {w9 : World} {G m c : Nat} {x y : UE} {nd : Nd} {sv : Value} {rr : Int} {j j1 : Nat} (ha : a.tmps.size = 141)
    (k11 : a.tmps[11]? = some (.int .i64 (j : Nat))) (k3 : a.tmps[3]? = some (.func (.func 47) #[.agg #[.int .i64 nd.p, .int .i64 nd.g, sv]] #[])) (k0 : a.tmps[0]? = some (.slice (some ⟨G, 0, none⟩) m c)) (hGl : G < w9.heap.size) (hx : UC w9 G ((j) * 6) x) (hy : UC w9 G ((j1) * 6) y) (hm0 : j < m) (hm1 : j1 < m) (hmm : m ≤ 100000)  (hw79 : IntKind.i64.wrap ((j : Int) - 1) = (j1 : Int)) (HK : ∀ W, Calls Try.prog 47 #[.agg #[.int .i64 nd.p, .int .i64 nd.g, sv], .agg #[.int .i64 x.1.id, .int .i64 x.1.grp, x.2, .int .i64 x.1.til, .int .i64 x.1.st, .int .i64 x.1.fr], .agg #[.int .i64 y.1.id, .int .i64 y.1.grp, y.2, .int .i64 y.1.til, .int .i64 y.1.st, .int .i64 y.1.fr]] W fun e w' => e = .returned (.int .i64 rr) ∧ Below W.heap.size W w')
    (hend : ∀ b' w', Rg.Fr (Rg.opsOf Try.f126 16) a b' → Below w9.heap.size w9 w' → Rg.out (Rg.opsOf Try.f126 16) b' 12 = .bool (!(decide (rr < 0))) → Q .normal b' w') :
    (Code.region 16 (Rg.opsOf Try.f126 16) true).wp Try.prog Q a w9 := by
  refine Rg.region_set3 (by kernel_rfl) (fun _ w' => Below w9.heap.size w9 w') (FUq16 G m c x y nd sv rr j j1) (by rw [ha, sizeUq16]; kernel_rfl) (st_drew (Below.refl _ _)) ?_ ?_
  case refine_2 =>
    intro l b' w' hf hall hI hA
    rw [sizeUq16] at hA
    exact hend b' w' hf hI (hA 12 (by decide))
  case refine_1 =>
    clear hend
    have HS : ∀ {w w' : World}, Below w.heap.size w w' → ∀ k9 y9, FUq16 G m c x y nd sv rr j j1 k9 y9 w → FUq16 G m c x y nd sv rr j j1 k9 y9 w' := fun hb k9 y9 h => by
      unfold FUq16 at *
      split at h <;> exact h
    intro i' hi'
    rw [sizeUq16] at hi'
    rcases (show i' = 0 ∨ i' = 1 ∨ i' = 2 ∨ i' = 3 ∨ i' = 4 ∨ i' = 5 ∨ i' = 6 ∨ i' = 7 ∨ i' = 8 ∨ i' = 9 ∨ i' = 10 ∨ i' = 11 ∨ i' = 12 by omega) with rfl | rfl | rfl | rfl | rfl | rfl | rfl | rfl | rfl | rfl | rfl | rfl | rfl
    · intro ll bb w' hs hlf hN hO hf hI hA
      clear hi'
      have q0 := hf.kept (s := 3) (by rw [sizeUq16]; kernel_rfl) k3
      exact Rg.op_value (o := ⟨some 72, Op.move (Operand.tmp 3), _, _, _, _⟩) (x := .func (.func 47) #[.agg #[.int .i64 nd.p, .int .i64 nd.g, sv]] #[]) rfl rfl (by clear hA HS hN hO HK; simp only [execOp]; go_simp) ⟨_, rfl, (fun h => by cases h), rfl, hI, fun _ _ _ _ h => h⟩
    · intro ll bb w' hs hlf hN hO hf hI hA
      clear hi'
      have q0 := hf.kept (s := 0) (by rw [sizeUq16]; kernel_rfl) k0
      exact Rg.op_value (o := ⟨some 73, Op.move (Operand.tmp 0), _, _, _, _⟩) (x := .slice (some ⟨G, 0, none⟩) m c) rfl rfl (by clear hA HS hN hO HK; simp only [execOp]; go_simp) ⟨_, rfl, (fun h => by cases h), rfl, hI, fun _ _ _ _ h => h⟩
    · intro ll bb w' hs hlf hN hO hf hI hA
      clear hi'
      have q0 := hf.kept (s := 11) (by rw [sizeUq16]; kernel_rfl) k11
      exact Rg.op_value (o := ⟨some 74, Op.move (Operand.tmp 11), _, _, _, _⟩) (x := .int .i64 (j : Nat)) rfl rfl (by clear hA HS hN hO HK; simp only [execOp]; go_simp) ⟨_, rfl, (fun h => by cases h), rfl, hI, fun _ _ _ _ h => h⟩
    · intro ll bb w' hs hlf hN hO hf hI hA
      clear hi'
      have q73 : bb.tmps[73]? = some _ := hf.tmp (k := 1) rfl (by rw [ha]; decide) (hA 1 (by kernel_rfl))
      have q74 : bb.tmps[74]? = some _ := hf.tmp (k := 2) rfl (by rw [ha]; decide) (hA 2 (by kernel_rfl))
      have hi9 : (((j) : Nat) : Int) < (m : Int) := by omega
      exact Rg.op_value (o := ⟨some 75, Op.indexAddr 24 (Operand.tmp 73) (Operand.tmp 74), _, _, _, _⟩) (x := .pointer (some ⟨G, (j) * 6, none⟩)) rfl rfl (by clear hA HS hN hO HK; simp only [execOp]; go_simp) ⟨_, rfl, (fun h => by cases h), rfl, hI, fun _ _ _ _ h => h⟩
    · intro ll bb w' hs hlf hN hO hf hI hA
      clear hi'
      have q75 : bb.tmps[75]? = some _ := hf.tmp (k := 3) rfl (by rw [ha]; decide) (hA 3 (by kernel_rfl))
      have hx9 := (hx).below hI hGl
      have e0 := hx9.c0
      have e1 := hx9.c1
      have e2 := hx9.c2
      have e3 := hx9.c3
      have e4 := hx9.c4
      have e5 := hx9.c5
      exact Rg.op_value (o := ⟨some 76, Op.load 81 (Operand.tmp 75), _, _, _, _⟩) (x := .agg #[.int .i64 x.1.id, .int .i64 x.1.grp, x.2, .int .i64 x.1.til, .int .i64 x.1.st, .int .i64 x.1.fr]) rfl rfl (by clear hA HS hN hO HK; simp only [execOp]; go_simp) ⟨_, rfl, (fun h => by cases h), rfl, hI, fun _ _ _ _ h => h⟩
    · intro ll bb w' hs hlf hN hO hf hI hA
      clear hi'
      have q0 := hf.kept (s := 0) (by rw [sizeUq16]; kernel_rfl) k0
      exact Rg.op_value (o := ⟨some 77, Op.move (Operand.tmp 0), _, _, _, _⟩) (x := .slice (some ⟨G, 0, none⟩) m c) rfl rfl (by clear hA HS hN hO HK; simp only [execOp]; go_simp) ⟨_, rfl, (fun h => by cases h), rfl, hI, fun _ _ _ _ h => h⟩
    · intro ll bb w' hs hlf hN hO hf hI hA
      clear hi'
      have q0 := hf.kept (s := 11) (by rw [sizeUq16]; kernel_rfl) k11
      exact Rg.op_value (o := ⟨some 78, Op.move (Operand.tmp 11), _, _, _, _⟩) (x := .int .i64 (j : Nat)) rfl rfl (by clear hA HS hN hO HK; simp only [execOp]; go_simp) ⟨_, rfl, (fun h => by cases h), rfl, hI, fun _ _ _ _ h => h⟩
    · intro ll bb w' hs hlf hN hO hf hI hA
      clear hi'
      have q78 : bb.tmps[78]? = some _ := hf.tmp (k := 6) rfl (by rw [ha]; decide) (hA 6 (by kernel_rfl))
      have hw9 := hw79
      exact Rg.op_value (o := ⟨some 79, Op.binOp BinOp.sub 3 (Operand.tmp 78) (Operand.const (Value.int .i64 1)) 3, _, _, _, _⟩) (x := .int .i64 ((j1 : Nat))) rfl rfl (by clear hA HS hN hO HK; simp only [execOp]; go_simp) ⟨_, rfl, (fun h => by cases h), rfl, hI, fun _ _ _ _ h => h⟩
    · intro ll bb w' hs hlf hN hO hf hI hA
      clear hi'
      have q77 : bb.tmps[77]? = some _ := hf.tmp (k := 5) rfl (by rw [ha]; decide) (hA 5 (by kernel_rfl))
      have q79 : bb.tmps[79]? = some _ := hf.tmp (k := 7) rfl (by rw [ha]; decide) (hA 7 (by kernel_rfl))
      have hi9 : (((j1) : Nat) : Int) < (m : Int) := by omega
      exact Rg.op_value (o := ⟨some 80, Op.indexAddr 24 (Operand.tmp 77) (Operand.tmp 79), _, _, _, _⟩) (x := .pointer (some ⟨G, (j1) * 6, none⟩)) rfl rfl (by clear hA HS hN hO HK; simp only [execOp]; go_simp) ⟨_, rfl, (fun h => by cases h), rfl, hI, fun _ _ _ _ h => h⟩
    · intro ll bb w' hs hlf hN hO hf hI hA
      clear hi'
      have q80 : bb.tmps[80]? = some _ := hf.tmp (k := 8) rfl (by rw [ha]; decide) (hA 8 (by kernel_rfl))
      have hx9 := (hy).below hI hGl
      have e0 := hx9.c0
      have e1 := hx9.c1
      have e2 := hx9.c2
      have e3 := hx9.c3
      have e4 := hx9.c4
      have e5 := hx9.c5
      exact Rg.op_value (o := ⟨some 81, Op.load 81 (Operand.tmp 80), _, _, _, _⟩) (x := .agg #[.int .i64 y.1.id, .int .i64 y.1.grp, y.2, .int .i64 y.1.til, .int .i64 y.1.st, .int .i64 y.1.fr]) rfl rfl (by clear hA HS hN hO HK; simp only [execOp]; go_simp) ⟨_, rfl, (fun h => by cases h), rfl, hI, fun _ _ _ _ h => h⟩
    · intro ll bb w' hs hlf hN hO hf hI hA
      clear hi'
      have q72 : bb.tmps[72]? = some _ := hf.tmp (k := 0) rfl (by rw [ha]; decide) (hA 0 (by kernel_rfl))
      have q76 : bb.tmps[76]? = some _ := hf.tmp (k := 4) rfl (by rw [ha]; decide) (hA 4 (by kernel_rfl))
      have q81 : bb.tmps[81]? = some _ := hf.tmp (k := 9) rfl (by rw [ha]; decide) (hA 9 (by kernel_rfl))
      refine Rg.op_call (o := ⟨some 82, Op.call { callee := Callee.value (Operand.tmp 72), args := #[(Operand.tmp 76), (Operand.tmp 81)], argTypes := _ }, _, _, _, _⟩) rfl rfl (by clear hA HS hN hO HK; simp only [execOp, resolve]; go_simp) (HK w') ?_
      rintro e w2 ⟨rfl, hb2⟩
      exact ⟨_, rfl, _, rfl, (fun h => by cases h), rfl, onto hI hb2, fun k9 y9 _ _ h => HS hb2 k9 y9 h⟩
    · intro ll bb w' hs hlf hN hO hf hI hA
      clear hi'
      have q82 : bb.tmps[82]? = some _ := hf.tmp (k := 10) rfl (by rw [ha]; decide) (hA 10 (by kernel_rfl))
      exact Rg.op_value (o := ⟨some 83, Op.binOp BinOp.lss 3 (Operand.tmp 82) (Operand.const (Value.int .i64 0)) 3, _, _, _, _⟩) (x := .bool (decide (rr < 0))) rfl rfl (by clear hA HS hN hO HK; simp only [execOp]; go_simp) ⟨_, rfl, (fun h => by cases h), rfl, hI, fun _ _ _ _ h => h⟩
    · intro ll bb w' hs hlf hN hO hf hI hA
      clear hi'
      have q83 : bb.tmps[83]? = some _ := hf.tmp (k := 11) rfl (by rw [ha]; decide) (hA 11 (by kernel_rfl))
      exact Rg.op_value (o := ⟨some 84, Op.unOp UnOp.not 4 (Operand.tmp 83), _, _, _, _⟩) (x := .bool (!(decide (rr < 0)))) rfl rfl (by clear hA HS hN hO HK; simp only [execOp]; go_simp) ⟨_, rfl, (fun h => by cases h), rfl, hI, fun _ _ _ _ h => h⟩
theorem dUq16_0 : Rg.dstAt (Rg.opsOf Try.f126 16) 0 = some 72 := by kernel_rfl
theorem dUq16_1 : Rg.dstAt (Rg.opsOf Try.f126 16) 1 = some 73 := by kernel_rfl
theorem dUq16_2 : Rg.dstAt (Rg.opsOf Try.f126 16) 2 = some 74 := by kernel_rfl
theorem dUq16_3 : Rg.dstAt (Rg.opsOf Try.f126 16) 3 = some 75 := by kernel_rfl
theorem dUq16_4 : Rg.dstAt (Rg.opsOf Try.f126 16) 4 = some 76 := by kernel_rfl
theorem dUq16_5 : Rg.dstAt (Rg.opsOf Try.f126 16) 5 = some 77 := by kernel_rfl
theorem dUq16_6 : Rg.dstAt (Rg.opsOf Try.f126 16) 6 = some 78 := by kernel_rfl
theorem dUq16_7 : Rg.dstAt (Rg.opsOf Try.f126 16) 7 = some 79 := by kernel_rfl
theorem dUq16_8 : Rg.dstAt (Rg.opsOf Try.f126 16) 8 = some 80 := by kernel_rfl
theorem dUq16_9 : Rg.dstAt (Rg.opsOf Try.f126 16) 9 = some 81 := by kernel_rfl
theorem dUq16_10 : Rg.dstAt (Rg.opsOf Try.f126 16) 10 = some 82 := by kernel_rfl
theorem dUq16_11 : Rg.dstAt (Rg.opsOf Try.f126 16) 11 = some 83 := by kernel_rfl
theorem dUq16_12 : Rg.dstAt (Rg.opsOf Try.f126 16) 12 = some 84 := by kernel_rfl
theorem layUq16 {a b : Act} (hf : Rg.Fr (Rg.opsOf Try.f126 16) a b) : b = (((((((((((((a.put (some 72) (Rg.out (Rg.opsOf Try.f126 16) b 0)).put (some 73) (Rg.out (Rg.opsOf Try.f126 16) b 1)).put (some 74) (Rg.out (Rg.opsOf Try.f126 16) b 2)).put (some 75) (Rg.out (Rg.opsOf Try.f126 16) b 3)).put (some 76) (Rg.out (Rg.opsOf Try.f126 16) b 4)).put (some 77) (Rg.out (Rg.opsOf Try.f126 16) b 5)).put (some 78) (Rg.out (Rg.opsOf Try.f126 16) b 6)).put (some 79) (Rg.out (Rg.opsOf Try.f126 16) b 7)).put (some 80) (Rg.out (Rg.opsOf Try.f126 16) b 8)).put (some 81) (Rg.out (Rg.opsOf Try.f126 16) b 9)).put (some 82) (Rg.out (Rg.opsOf Try.f126 16) b 10)).put (some 83) (Rg.out (Rg.opsOf Try.f126 16) b 11)).put (some 84) (Rg.out (Rg.opsOf Try.f126 16) b 12)) := by
  have h := hf.chain
  rw [sizeUq16, show List.range 13 = [0, 1, 2, 3, 4, 5, 6, 7, 8, 9, 10, 11, 12] from by decide] at h
  simp only [List.foldl_cons, List.foldl_nil, dUq16_0, dUq16_1, dUq16_2, dUq16_3, dUq16_4, dUq16_5, dUq16_6, dUq16_7, dUq16_8, dUq16_9, dUq16_10, dUq16_11, dUq16_12] at h
  exact h
def FUq22 (G m c : Nat) (x y : UE) (nd : Nd) (sv : Value) (rr : Int) (j j1 : Nat) (i9 : Nat) (v : Value) (w : World) : Prop :=
  match i9 with
  | 0 => v = .func (.func 47) #[.agg #[.int .i64 nd.p, .int .i64 nd.g, sv]] #[]
  | 1 => v = .slice (some ⟨G, 0, none⟩) m c
  | 2 => v = .int .i64 (j : Nat)
  | 3 => v = .pointer (some ⟨G, (j) * 6, none⟩)
  | 4 => v = .agg #[.int .i64 x.1.id, .int .i64 x.1.grp, x.2, .int .i64 x.1.til, .int .i64 x.1.st, .int .i64 x.1.fr]
  | 5 => v = .slice (some ⟨G, 0, none⟩) m c
  | 6 => v = .int .i64 (j : Nat)
  | 7 => v = .int .i64 ((j1 : Nat))
  | 8 => v = .pointer (some ⟨G, (j1) * 6, none⟩)
  | 9 => v = .agg #[.int .i64 y.1.id, .int .i64 y.1.grp, y.2, .int .i64 y.1.til, .int .i64 y.1.st, .int .i64 y.1.fr]
  | 10 => v = .int .i64 rr
  | 11 => v = .bool (decide (rr < 0))
  | 12 => v = .bool (!(decide (rr < 0)))
  | _ => True
theorem sizeUq22 : (Rg.opsOf Try.f126 22).size = 13 := by kernel_rfl
set_option maxRecDepth 20000 in
set_option maxHeartbeats 8000000 in
theorem regUq22 {Q : Exit → Act → World → Prop} {a : Act} {w9 : World} {G m c : Nat} {x y : UE} {nd : Nd} {sv : Value} {rr : Int} {j j1 : Nat} (ha : a.tmps.size = 141)
    (k12 : a.tmps[12]? = some (.int .i64 (j : Nat))) (k3 : a.tmps[3]? = some (.func (.func 47) #[.agg #[.int .i64 nd.p, .int .i64 nd.g, sv]] #[])) (k0 : a.tmps[0]? = some (.slice (some ⟨G, 0, none⟩) m c)) (hGl : G < w9.heap.size) (hx : UC w9 G ((j) * 6) x) (hy : UC w9 G ((j1) * 6) y) (hm0 : j < m) (hm1 : j1 < m) (hmm : m ≤ 100000)  (hw119 : IntKind.i64.wrap ((j : Int) - 1) = (j1 : Int)) (HK : ∀ W, Calls Try.prog 47 #[.agg #[.int .i64 nd.p, .int .i64 nd.g, sv], .agg #[.int .i64 x.1.id, .int .i64 x.1.grp, x.2, .int .i64 x.1.til, .int .i64 x.1.st, .int .i64 x.1.fr], .agg #[.int .i64 y.1.id, .int .i64 y.1.grp, y.2, .int .i64 y.1.til, .int .i64 y.1.st, .int .i64 y.1.fr]] W fun e w' => e = .returned (.int .i64 rr) ∧ Below W.heap.size W w')
    (hend : ∀ b' w', Rg.Fr (Rg.opsOf Try.f126 22) a b' → Below w9.heap.size w9 w' → Rg.out (Rg.opsOf Try.f126 22) b' 12 = .bool (!(decide (rr < 0))) → Q .normal b' w') :
    (Code.region 22 (Rg.opsOf Try.f126 22) true).wp Try.prog Q a w9 := by
  refine Rg.region_set3 (by kernel_rfl) (fun _ w' => Below w9.heap.size w9 w') (FUq22 G m c x y nd sv rr j j1) (by rw [ha, sizeUq22]; kernel_rfl) (st_drew (Below.refl _ _)) ?_ ?_
  case refine_2 =>
    intro l b' w' hf hall hI hA
    rw [sizeUq22] at hA
    exact hend b' w' hf hI (hA 12 (by decide))
  case refine_1 =>
    clear hend
    have HS : ∀ {w w' : World}, Below w.heap.size w w' → ∀ k9 y9, FUq22 G m c x y nd sv rr j j1 k9 y9 w → FUq22 G m c x y nd sv rr j j1 k9 y9 w' := fun hb k9 y9 h => by
      unfold FUq22 at *
      split at h <;> exact h
    intro i' hi'
    rw [sizeUq22] at hi'
    rcases (show i' = 0 ∨ i' = 1 ∨ i' = 2 ∨ i' = 3 ∨ i' = 4 ∨ i' = 5 ∨ i' = 6 ∨ i' = 7 ∨ i' = 8 ∨ i' = 9 ∨ i' = 10 ∨ i' = 11 ∨ i' = 12 by omega) with rfl | rfl | rfl | rfl | rfl | rfl | rfl | rfl | rfl | rfl | rfl | rfl | rfl
    · intro ll bb w' hs hlf hN hO hf hI hA
      clear hi'
      have q0 := hf.kept (s := 3) (by rw [sizeUq22]; kernel_rfl) k3
      exact Rg.op_value (o := ⟨some 112, Op.move (Operand.tmp 3), _, _, _, _⟩) (x := .func (.func 47) #[.agg #[.int .i64 nd.p, .int .i64 nd.g, sv]] #[]) rfl rfl (by clear hA HS hN hO HK; simp only [execOp]; go_simp) ⟨_, rfl, (fun h => by cases h), rfl, hI, fun _ _ _ _ h => h⟩
    · intro ll bb w' hs hlf hN hO hf hI hA
      clear hi'
      have q0 := hf.kept (s := 0) (by rw [sizeUq22]; kernel_rfl) k0
      exact Rg.op_value (o := ⟨some 113, Op.move (Operand.tmp 0), _, _, _, _⟩) (x := .slice (some ⟨G, 0, none⟩) m c) rfl rfl (by clear hA HS hN hO HK; simp only [execOp]; go_simp) ⟨_, rfl, (fun h => by cases h), rfl, hI, fun _ _ _ _ h => h⟩
    · intro ll bb w' hs hlf hN hO hf hI hA
      clear hi'
      have q0 := hf.kept (s := 12) (by rw [sizeUq22]; kernel_rfl) k12
      exact Rg.op_value (o := ⟨some 114, Op.move (Operand.tmp 12), _, _, _, _⟩) (x := .int .i64 (j : Nat)) rfl rfl (by clear hA HS hN hO HK; simp only [execOp]; go_simp) ⟨_, rfl, (fun h => by cases h), rfl, hI, fun _ _ _ _ h => h⟩
    · intro ll bb w' hs hlf hN hO hf hI hA
      clear hi'
      have q113 : bb.tmps[113]? = some _ := hf.tmp (k := 1) rfl (by rw [ha]; decide) (hA 1 (by kernel_rfl))
      have q114 : bb.tmps[114]? = some _ := hf.tmp (k := 2) rfl (by rw [ha]; decide) (hA 2 (by kernel_rfl))
      have hi9 : (((j) : Nat) : Int) < (m : Int) := by omega
      exact Rg.op_value (o := ⟨some 115, Op.indexAddr 24 (Operand.tmp 113) (Operand.tmp 114), _, _, _, _⟩) (x := .pointer (some ⟨G, (j) * 6, none⟩)) rfl rfl (by clear hA HS hN hO HK; simp only [execOp]; go_simp) ⟨_, rfl, (fun h => by cases h), rfl, hI, fun _ _ _ _ h => h⟩
    · intro ll bb w' hs hlf hN hO hf hI hA
      clear hi'
      have q115 : bb.tmps[115]? = some _ := hf.tmp (k := 3) rfl (by rw [ha]; decide) (hA 3 (by kernel_rfl))
      have hx9 := (hx).below hI hGl
      have e0 := hx9.c0
      have e1 := hx9.c1
      have e2 := hx9.c2
      have e3 := hx9.c3
      have e4 := hx9.c4
      have e5 := hx9.c5
      exact Rg.op_value (o := ⟨some 116, Op.load 81 (Operand.tmp 115), _, _, _, _⟩) (x := .agg #[.int .i64 x.1.id, .int .i64 x.1.grp, x.2, .int .i64 x.1.til, .int .i64 x.1.st, .int .i64 x.1.fr]) rfl rfl (by clear hA HS hN hO HK; simp only [execOp]; go_simp) ⟨_, rfl, (fun h => by cases h), rfl, hI, fun _ _ _ _ h => h⟩
    · intro ll bb w' hs hlf hN hO hf hI hA
      clear hi'
      have q0 := hf.kept (s := 0) (by rw [sizeUq22]; kernel_rfl) k0
      exact Rg.op_value (o := ⟨some 117, Op.move (Operand.tmp 0), _, _, _, _⟩) (x := .slice (some ⟨G, 0, none⟩) m c) rfl rfl (by clear hA HS hN hO HK; simp only [execOp]; go_simp) ⟨_, rfl, (fun h => by cases h), rfl, hI, fun _ _ _ _ h => h⟩
    · intro ll bb w' hs hlf hN hO hf hI hA
      clear hi'
      have q0 := hf.kept (s := 12) (by rw [sizeUq22]; kernel_rfl) k12
      exact Rg.op_value (o := ⟨some 118, Op.move (Operand.tmp 12), _, _, _, _⟩) (x := .int .i64 (j : Nat)) rfl rfl (by clear hA HS hN hO HK; simp only [execOp]; go_simp) ⟨_, rfl, (fun h => by cases h), rfl, hI, fun _ _ _ _ h => h⟩
    · intro ll bb w' hs hlf hN hO hf hI hA
      clear hi'
      have q118 : bb.tmps[118]? = some _ := hf.tmp (k := 6) rfl (by rw [ha]; decide) (hA 6 (by kernel_rfl))
      have hw9 := hw119
      exact Rg.op_value (o := ⟨some 119, Op.binOp BinOp.sub 3 (Operand.tmp 118) (Operand.const (Value.int .i64 1)) 3, _, _, _, _⟩) (x := .int .i64 ((j1 : Nat))) rfl rfl (by clear hA HS hN hO HK; simp only [execOp]; go_simp) ⟨_, rfl, (fun h => by cases h), rfl, hI, fun _ _ _ _ h => h⟩
    · intro ll bb w' hs hlf hN hO hf hI hA
      clear hi'
      have q117 : bb.tmps[117]? = some _ := hf.tmp (k := 5) rfl (by rw [ha]; decide) (hA 5 (by kernel_rfl))
      have q119 : bb.tmps[119]? = some _ := hf.tmp (k := 7) rfl (by rw [ha]; decide) (hA 7 (by kernel_rfl))
      have hi9 : (((j1) : Nat) : Int) < (m : Int) := by omega
      exact Rg.op_value (o := ⟨some 120, Op.indexAddr 24 (Operand.tmp 117) (Operand.tmp 119), _, _, _, _⟩) (x := .pointer (some ⟨G, (j1) * 6, none⟩)) rfl rfl (by clear hA HS hN hO HK; simp only [execOp]; go_simp) ⟨_, rfl, (fun h => by cases h), rfl, hI, fun _ _ _ _ h => h⟩
    · intro ll bb w' hs hlf hN hO hf hI hA
      clear hi'
      have q120 : bb.tmps[120]? = some _ := hf.tmp (k := 8) rfl (by rw [ha]; decide) (hA 8 (by kernel_rfl))
      have hx9 := (hy).below hI hGl
      have e0 := hx9.c0
      have e1 := hx9.c1
      have e2 := hx9.c2
      have e3 := hx9.c3
      have e4 := hx9.c4
      have e5 := hx9.c5
      exact Rg.op_value (o := ⟨some 121, Op.load 81 (Operand.tmp 120), _, _, _, _⟩) (x := .agg #[.int .i64 y.1.id, .int .i64 y.1.grp, y.2, .int .i64 y.1.til, .int .i64 y.1.st, .int .i64 y.1.fr]) rfl rfl (by clear hA HS hN hO HK; simp only [execOp]; go_simp) ⟨_, rfl, (fun h => by cases h), rfl, hI, fun _ _ _ _ h => h⟩
    · intro ll bb w' hs hlf hN hO hf hI hA
      clear hi'
      have q112 : bb.tmps[112]? = some _ := hf.tmp (k := 0) rfl (by rw [ha]; decide) (hA 0 (by kernel_rfl))
      have q116 : bb.tmps[116]? = some _ := hf.tmp (k := 4) rfl (by rw [ha]; decide) (hA 4 (by kernel_rfl))
      have q121 : bb.tmps[121]? = some _ := hf.tmp (k := 9) rfl (by rw [ha]; decide) (hA 9 (by kernel_rfl))
      refine Rg.op_call (o := ⟨some 122, Op.call { callee := Callee.value (Operand.tmp 112), args := #[(Operand.tmp 116), (Operand.tmp 121)], argTypes := _ }, _, _, _, _⟩) rfl rfl (by clear hA HS hN hO HK; simp only [execOp, resolve]; go_simp) (HK w') ?_
      rintro e w2 ⟨rfl, hb2⟩
      exact ⟨_, rfl, _, rfl, (fun h => by cases h), rfl, onto hI hb2, fun k9 y9 _ _ h => HS hb2 k9 y9 h⟩
    · intro ll bb w' hs hlf hN hO hf hI hA
      clear hi'
      have q122 : bb.tmps[122]? = some _ := hf.tmp (k := 10) rfl (by rw [ha]; decide) (hA 10 (by kernel_rfl))
      exact Rg.op_value (o := ⟨some 123, Op.binOp BinOp.lss 3 (Operand.tmp 122) (Operand.const (Value.int .i64 0)) 3, _, _, _, _⟩) (x := .bool (decide (rr < 0))) rfl rfl (by clear hA HS hN hO HK; simp only [execOp]; go_simp) ⟨_, rfl, (fun h => by cases h), rfl, hI, fun _ _ _ _ h => h⟩
    · intro ll bb w' hs hlf hN hO hf hI hA
      clear hi'
      have q123 : bb.tmps[123]? = some _ := hf.tmp (k := 11) rfl (by rw [ha]; decide) (hA 11 (by kernel_rfl))
      exact Rg.op_value (o := ⟨some 124, Op.unOp UnOp.not 4 (Operand.tmp 123), _, _, _, _⟩) (x := .bool (!(decide (rr < 0)))) rfl rfl (by clear hA HS hN hO HK; simp only [execOp]; go_simp) ⟨_, rfl, (fun h => by cases h), rfl, hI, fun _ _ _ _ h => h⟩
theorem dUq22_0 : Rg.dstAt (Rg.opsOf Try.f126 22) 0 = some 112 := by kernel_rfl
theorem dUq22_1 : Rg.dstAt (Rg.opsOf Try.f126 22) 1 = some 113 := by kernel_rfl
theorem dUq22_2 : Rg.dstAt (Rg.opsOf Try.f126 22) 2 = some 114 := by kernel_rfl
theorem dUq22_3 : Rg.dstAt (Rg.opsOf Try.f126 22) 3 = some 115 := by kernel_rfl
theorem dUq22_4 : Rg.dstAt (Rg.opsOf Try.f126 22) 4 = some 116 := by kernel_rfl
theorem dUq22_5 : Rg.dstAt (Rg.opsOf Try.f126 22) 5 = some 117 := by kernel_rfl
theorem dUq22_6 : Rg.dstAt (Rg.opsOf Try.f126 22) 6 = some 118 := by kernel_rfl
theorem dUq22_7 : Rg.dstAt (Rg.opsOf Try.f126 22) 7 = some 119 := by kernel_rfl
theorem dUq22_8 : Rg.dstAt (Rg.opsOf Try.f126 22) 8 = some 120 := by kernel_rfl
theorem dUq22_9 : Rg.dstAt (Rg.opsOf Try.f126 22) 9 = some 121 := by kernel_rfl
theorem dUq22_10 : Rg.dstAt (Rg.opsOf Try.f126 22) 10 = some 122 := by kernel_rfl
theorem dUq22_11 : Rg.dstAt (Rg.opsOf Try.f126 22) 11 = some 123 := by kernel_rfl
theorem dUq22_12 : Rg.dstAt (Rg.opsOf Try.f126 22) 12 = some 124 := by kernel_rfl
theorem layUq22 {a b : Act} (hf : Rg.Fr (Rg.opsOf Try.f126 22) a b) : b = (((((((((((((a.put (some 112) (Rg.out (Rg.opsOf Try.f126 22) b 0)).put (some 113) (Rg.out (Rg.opsOf Try.f126 22) b 1)).put (some 114) (Rg.out (Rg.opsOf Try.f126 22) b 2)).put (some 115) (Rg.out (Rg.opsOf Try.f126 22) b 3)).put (some 116) (Rg.out (Rg.opsOf Try.f126 22) b 4)).put (some 117) (Rg.out (Rg.opsOf Try.f126 22) b 5)).put (some 118) (Rg.out (Rg.opsOf Try.f126 22) b 6)).put (some 119) (Rg.out (Rg.opsOf Try.f126 22) b 7)).put (some 120) (Rg.out (Rg.opsOf Try.f126 22) b 8)).put (some 121) (Rg.out (Rg.opsOf Try.f126 22) b 9)).put (some 122) (Rg.out (Rg.opsOf Try.f126 22) b 10)).put (some 123) (Rg.out (Rg.opsOf Try.f126 22) b 11)).put (some 124) (Rg.out (Rg.opsOf Try.f126 22) b 12)) := by
  have h := hf.chain
  rw [sizeUq22, show List.range 13 = [0, 1, 2, 3, 4, 5, 6, 7, 8, 9, 10, 11, 12] from by decide] at h
  simp only [List.foldl_cons, List.foldl_nil, dUq22_0, dUq22_1, dUq22_2, dUq22_3, dUq22_4, dUq22_5, dUq22_6, dUq22_7, dUq22_8, dUq22_9, dUq22_10, dUq22_11, dUq22_12] at h
  exact h
set_option maxRecDepth 20000 in
set_option maxHeartbeats 32000000 in
theorem upartial_any (nd : Nd) (sv : Value) (D : UE → Prop) (G c m a b : Nat) (d : List UE) (w : World) (h : SU c w G d) (hm : d.length = m) (hmm : m ≤ 100000) (hab : a + 1 < b) (hb : b ≤ m) (hF : Fine (ltU nd) D d) (hK : LessU nd sv D) (hSl : SlU D) (hPr : Pred (ltU nd) a b d) :
    Calls Try.prog 126 #[.slice (some ⟨G, 0, none⟩) m c, .int .i64 a, .int .i64 b, (.func (.func 47) #[.agg #[.int .i64 nd.p, .int .i64 nd.g, sv]] #[])] w fun e w' => ∃ fl : Bool, e = .returned (.bool fl) ∧ ∃ d', SU c w' G d' ∧ PO a b d d' ∧ (fl = true → SO (ltU nd) a b d') ∧ Below G w w' := by
  have HF := hidden hF
  have HK := hidden hK
  have HM := hidden hm
  have HSl := hidden hSl
  have HH := hidden h
  have HPr := hidden hPr
  obtain ⟨L, hL⟩ : ∃ L, b - a = L := ⟨_, rfl⟩
  have hwl : IntKind.i64.wrap ((b : Int) - (a : Int)) = (L : Int) := by rw [IntKind.wrap_i64]; omega
  have hwa : IntKind.i64.wrap ((a : Int) + 1) = ((a + 1 : Nat) : Int) := by rw [IntKind.wrap_i64]; omega
  clear hF hK hSl h hm hPr hL
  go_enter Try.func126, Try.ntmps126
  go_wp2_with fail
  go_loopw [9, 10, 11, 12] (fun iv jv _ _ ws => ∃ (i n : Nat) (e : List UE), iv = .int .i64 i ∧ jv = .int .i64 n ∧ (a + 1 ≤ i ∧ i ≤ b) ∧ n ≤ 5 ∧ Hid (SO (ltU nd) a i e) ∧ Hid (SU c ws G e) ∧ Hid (PO a b d e) ∧ Below G w ws) (fun _ jv _ _ _ => 5 - (intOf jv).toNat)
  case atStart => exact ⟨a + 1, 0, d, by simp, rfl, by omega, by omega, SO.one _ _, HH, PO.refl _ _ _, Below.refl _ _⟩
  case round =>
    clear HH hwa
    obtain ⟨i, n, e, rfl, rfl, ⟨hi1, hi2⟩, hn5, hso, hs, hpo, hbw⟩ := hrel
    rename World => ws
    have hFe := HF.out.po hpo.out
    have hel : e.length = m := by rw [hpo.out.len]; exact HM.out
    by_cases hn : n < 5
    · have hni : (n : Int) < 5 := by omega
      go_wp2_with fail
      go_loopw [9] (fun iv ws => ∃ i' : Nat, iv = .int .i64 i' ∧ (i ≤ i' ∧ i' ≤ b) ∧ Hid (SO (ltU nd) a i' e) ∧ Hid (SU c ws G e) ∧ Below G w ws) (fun iv _ => b - (intOf iv).toNat)
      case atStart => exact ⟨i, rfl, by omega, hso, hs, hbw⟩
      case round =>
        clear hso hs hbw
        obtain ⟨i, rfl, ⟨hi3, hi4⟩, hso, hs, hbw⟩ := hrel
        rename World => ws
        obtain ⟨i1, hie⟩ : ∃ i1, i1 + 1 = i := ⟨i - 1, by omega⟩
        have hwi : IntKind.i64.wrap ((i : Int) - 1) = (i1 : Int) := by rw [IntKind.wrap_i64]; omega
        have hwu : IntKind.i64.wrap ((i : Int) + 1) = ((i + 1 : Nat) : Int) := by rw [IntKind.wrap_i64]; omega
        have HIE := hidden hie
        have hi1i : i1 < i := by omega
        have hGl := hs.out.lt
        have hx : i < b → UC ws G (i * 6) (at' e i) := fun q => hs.out.at (by omega)
        have hy : i < b → UC ws G (i1 * 6) (at' e i1) := fun q => hs.out.at (by omega)
        have hK2 : i < b → ∀ W, _ := fun q => HK.out (at' e i) (at' e i1) (hFe.all _ (at_mem (by omega))) (hFe.all _ (at_mem (by omega)))
        have HUP : Hid ((decide ((i : Int) < (b : Int)) && !decide (cmpU nd (at' e i) (at' e i1) < 0)) = true → i < b ∧ SO (ltU nd) a (i + 1) e) := fun q => by
          rw [Bool.and_eq_true, decide_eq_true_eq, Bool.not_eq_true', decide_eq_false_iff_not] at q
          refine ⟨by omega, down_end hFe (down_start hso.out (by omega)) (by omega) (Or.inr (fun z => q.2 ((cmpU_lt nd _ _).2 ?_)))⟩
          rw [show i - 1 = i1 from by omega] at z
          exact z
        have HNO : Hid ((decide ((i : Int) < (b : Int)) && !decide (cmpU nd (at' e i) (at' e i1) < 0)) = false → i < b → ltU nd (at' e i) (at' e i1)) := fun q hq => by
          rw [decide_eq_true (show (i : Int) < (b : Int) by omega), Bool.true_and, Bool.not_eq_false', decide_eq_true_eq] at q
          exact (cmpU_lt nd _ _).1 q
        have him : i < b → i < m := fun q => by omega
        have hi1m : i < b → i1 < m := fun q => by omega
        clear hie
        go_wp2_with fail
        skip
        refine regUq5 (G := G) (m := m) (c := c) (nd := nd) (sv := sv) (rr := cmpU nd (at' e i) (at' e i1)) (i := i) (i1 := i1) (lb := b) rfl rfl rfl rfl rfl hGl hx hy him hi1m hmm hwi hK2 ?_
        intro b' w6 hf hb6 hv
        rw [layUq5 hf, hv]
        clear hv hf
        generalize Rg.out (Rg.opsOf Try.f126 5) b' 0 = z0
        generalize Rg.out (Rg.opsOf Try.f126 5) b' 1 = z1
        generalize Rg.out (Rg.opsOf Try.f126 5) b' 2 = z2
        generalize Rg.out (Rg.opsOf Try.f126 5) b' 3 = z3
        generalize Rg.out (Rg.opsOf Try.f126 5) b' 4 = z4
        generalize Rg.out (Rg.opsOf Try.f126 5) b' 5 = z5
        generalize Rg.out (Rg.opsOf Try.f126 5) b' 6 = z6
        generalize Rg.out (Rg.opsOf Try.f126 5) b' 7 = z7
        generalize Rg.out (Rg.opsOf Try.f126 5) b' 8 = z8
        generalize Rg.out (Rg.opsOf Try.f126 5) b' 9 = z9
        generalize Rg.out (Rg.opsOf Try.f126 5) b' 10 = z10
        generalize Rg.out (Rg.opsOf Try.f126 5) b' 11 = z11
        generalize Rg.out (Rg.opsOf Try.f126 5) b' 12 = z12
        generalize Rg.out (Rg.opsOf Try.f126 5) b' 13 = z13
        generalize Rg.out (Rg.opsOf Try.f126 5) b' 14 = z14
        generalize Rg.out (Rg.opsOf Try.f126 5) b' 15 = z15
        generalize Rg.out (Rg.opsOf Try.f126 5) b' 16 = z16
        generalize (decide ((i : Int) < (b : Int)) && !decide (cmpU nd (at' e i) (at' e i1) < 0)) = TT at *
        have HS6 := hidden (hs.out.below hb6)
        have HB6 := hbw.trans (hb6.mono (Nat.le_of_lt hGl))
        clear hx hy hK2 hs hbw hb6 him hi1m
        have hs := HS6
        have hbw := HB6
        clear HS6 HB6
        go_frame
        cases TT with
        | true =>
          obtain ⟨q1, q2⟩ := HUP.out rfl
          have Q2 := hidden q2
          clear q2 HUP HNO hso
          go_wp2_with fail
          go_roundw
          case rel => exact ⟨i + 1, by simp, by omega, Q2, hs, hbw⟩
          case measure => simp [intOf]; omega
        | false =>
          have HI := hidden (HNO.out rfl)
          clear HUP HNO
          by_cases hib : i = b
          · subst hib
            have HV : Hid (SO (ltU nd) a i e) := hso
            clear hso HI
            go_wp2_with fail
            (try simp only [Exit.inBlock, Exit.then])
            refine bodyPost_ret (v := .bool true) (by simp [results, Try.results126, go_sem]) rfl ?_
            exact ⟨true, rfl, e, hs.out, hpo.out, (fun _ => HV.out), hbw⟩
          · have hibi : ¬ (i : Int) = (b : Int) := by omega
            have hil : i < b := by omega
            by_cases h50 : L < 50
            · have h50i : (L : Int) < 50 := by omega
              clear hso HI
              go_wp2_with fail
              (try simp only [Exit.inBlock, Exit.then])
              refine bodyPost_ret (v := .bool false) (by simp [results, Try.results126, go_sem]) rfl ?_
              exact ⟨false, rfl, e, hs.out, hpo.out, (fun z => by cases z), hbw⟩
            · have h50i : ¬ (L : Int) < 50 := by omega
              obtain ⟨ia, hia⟩ : ∃ ia, i - a = ia := ⟨_, rfl⟩
              have hwia : IntKind.i64.wrap ((i : Int) - (a : Int)) = (ia : Int) := by rw [IntKind.wrap_i64]; omega
              obtain ⟨bi, hbi⟩ : ∃ bi, b - i = bi := ⟨_, rfl⟩
              have hwbi : IntKind.i64.wrap ((b : Int) - (i : Int)) = (bi : Int) := by rw [IntKind.wrap_i64]; omega
              have HIA : Hid (i - a = ia ∧ b - i = bi) := ⟨hia, hbi⟩
              have HDN : Hid (Down (ltU nd) a i i1 (Pq.sw e i i1)) := by
                have h1 := down_start hso.out (show a ≤ i by omega)
                have h2 := HI.out hil
                have h3 := HIE.out
                subst h3
                exact down_step h1 (by omega) (by omega) h2
              have hai1 : a ≤ i1 := by have := HIE.out; omega
              have HPO : Hid (PO a b d (Pq.sw e i i1)) := hpo.out.trans (PO.sw (by omega) (by omega) (by omega) (by omega) (by omega))
              have hii : (i : Int) < (m : Int) := by omega
              have hi1i2 : (i1 : Int) < (m : Int) := by omega
              clear hia hbi hso HI
              have hGl := hs.out.lt
              have hxs := HSl.out (at' e (i)) (hFe.all _ (at_mem (by omega)))
              have hys := HSl.out (at' e (i1)) (hFe.all _ (at_mem (by omega)))
              have HSW := hidden (hs.out.sw (i := i) (j := i1) (by omega) (by omega))
              have HB := hidden (put6_below (put6_below hbw (Nat.le_refl _) (at' e (i1)) (o := (i) * 6)) (Nat.le_refl _) (at' e (i)) (o := (i1) * 6))
              obtain ⟨p0, p1, p2, p3, p4, p5, p6, p7, p8, p9, p10, p11⟩ := hs.out.at (i := i) (by omega)
              obtain ⟨q0, q1, q2, q3, q4, q5, q6, q7, q8, q9, q10, q11⟩ := hs.out.at (i := i1) (by omega)
              clear hs hFe hel hpo hbw
              generalize at' e (i) = x at *
              generalize at' e (i1) = y at *
              obtain ⟨xu, xv⟩ := x
              obtain ⟨yu, yv⟩ := y
              obtain ⟨xa, xn, xc, hx2⟩ := hxs
              obtain ⟨ya, yn, yc, hy2⟩ := hys
              dsimp only at hx2 hy2
              subst hx2 hy2
              dsimp only at p0 p1 p2 p3 p4 p5 q0 q1 q2 q3 q4 q5
              go_wp2_with fail
              go_region
              generalize Pq.sw e i i1 = e2 at *
              have HS2 := hidden (HSW.out.below (st_drew (Below.refl _ _)))
              have HB2 := hidden (st_drew HB.out)
              clear HSW HB
              go_upto_if 65 with fail
              go_cut [11] from 65 to 100 (fun jv wx => ∃ e3 : List UE, Hid (SU c wx G e3) ∧ Hid (PO a b d e3) ∧ Hid (SO (ltU nd) a i e3) ∧ Below G w wx)
              case first =>
                by_cases h2 : 2 ≤ ia
                · have h2i : (2 : Int) ≤ (ia : Int) := by omega
                  go_wp2_with fail
                  go_loopw [11] (fun jv ws => ∃ (j : Nat) (e : List UE), jv = .int .i64 j ∧ (a ≤ j ∧ j ≤ i1) ∧ Hid (SU c ws G e) ∧ Hid (PO a b d e) ∧ Hid (Down (ltU nd) a i j e) ∧ Below G w ws) (fun jv _ => (intOf jv).toNat)
                  case atStart => exact ⟨i1, e2, rfl, by omega, HS2, HPO, HDN, HB2.out⟩
                  case round =>
                    clear HS2 HPO HB2 HDN
                    obtain ⟨j, e, rfl, ⟨hj1, hj2⟩, hs, hpo, hdn, hbw⟩ := hrel
                    rename World => ws
                    have hFe := HF.out.po hpo.out
                    have hel : e.length = m := by rw [hpo.out.len]; exact HM.out
                    by_cases hz : 1 ≤ j
                    · have hzi : (1 : Int) ≤ (j : Int) := by omega
                      obtain ⟨j1, hje⟩ : ∃ j1, j1 + 1 = j := ⟨j - 1, by omega⟩
                      have hwj : IntKind.i64.wrap ((j : Int) - 1) = (j1 : Int) := by rw [IntKind.wrap_i64]; omega
                      have hjj : j1 < j := by omega
                      have hGl := hs.out.lt
                      have hx := hs.out.at (i := j) (by omega)
                      have hy := hs.out.at (i := j1) (by omega)
                      have hK2 := HK.out (at' e j) (at' e j1) (hFe.all _ (at_mem (by omega))) (hFe.all _ (at_mem (by omega)))
                      have hlt9 := cmpU_lt nd (at' e j) (at' e j1)
                      have hjm : j < m := by omega
                      have hj1m : j1 < m := by omega
                      have HPj : Hid (a = j → ¬ ltU nd (at' e j) (at' e j1)) := fun q z => by
                        rcases HPr.out.po hpo.out (by have := HM.out; omega) with h | h
                        · omega
                        · have h2 := h j (by omega) (by omega)
                          rw [show a - 1 = j1 from by omega] at h2
                          exact hFe.ord.asym _ _ h2 z
                      have HD : Hid (cmpU nd (at' e j) (at' e j1) < 0 → Down (ltU nd) a i j1 (Pq.sw e j j1) ∧ a < j) := fun q => by
                        have z := hlt9.1 q
                        have haj : a < j := by
                          rcases Nat.lt_or_ge a j with h | h
                          · exact h
                          · exact absurd z (HPj.out (by omega))
                        refine ⟨?_, haj⟩
                        subst hje
                        exact down_step hdn.out (by omega) (by omega) z
                      have HE : Hid (¬ cmpU nd (at' e j) (at' e j1) < 0 → SO (ltU nd) a i e) := fun q => by
                        have h := down_end hFe hdn.out (by omega) (Or.inr (fun z => q (hlt9.2 (by rw [show j - 1 = j1 from by omega] at z; exact z))))
                        exact fun p q h1 h2 h3 => h p q h1 h2 (by omega)
                      have HJE := hidden hje
                      clear hje
                      go_upto_region 16 with fail
                      refine regUq16 (G := G) (m := m) (c := c) (nd := nd) (sv := sv) (rr := cmpU nd (at' e j) (at' e j1)) (j := j) (j1 := j1) rfl rfl rfl rfl hGl hx hy hjm hj1m hmm hwj hK2 ?_
                      intro b' w6 hf hb6 hv
                      rw [layUq16 hf, hv]
                      clear hv hf
                      generalize Rg.out (Rg.opsOf Try.f126 16) b' 0 = z0
                      generalize Rg.out (Rg.opsOf Try.f126 16) b' 1 = z1
                      generalize Rg.out (Rg.opsOf Try.f126 16) b' 2 = z2
                      generalize Rg.out (Rg.opsOf Try.f126 16) b' 3 = z3
                      generalize Rg.out (Rg.opsOf Try.f126 16) b' 4 = z4
                      generalize Rg.out (Rg.opsOf Try.f126 16) b' 5 = z5
                      generalize Rg.out (Rg.opsOf Try.f126 16) b' 6 = z6
                      generalize Rg.out (Rg.opsOf Try.f126 16) b' 7 = z7
                      generalize Rg.out (Rg.opsOf Try.f126 16) b' 8 = z8
                      generalize Rg.out (Rg.opsOf Try.f126 16) b' 9 = z9
                      generalize Rg.out (Rg.opsOf Try.f126 16) b' 10 = z10
                      generalize Rg.out (Rg.opsOf Try.f126 16) b' 11 = z11
                      have HS6 := hidden (hs.out.below hb6)
                      have HB6 := hbw.trans (hb6.mono (Nat.le_of_lt hGl))
                      clear hx hy hK2 hs hbw hb6
                      have hs := HS6
                      have hbw := HB6
                      clear HS6 HB6
                      by_cases hr : cmpU nd (at' e j) (at' e j1) < 0
                      · rw [decide_eq_true hr]
                        obtain ⟨V, haj⟩ := HD.out hr
                        have HV := hidden V
                        clear V
                        have hji : (j : Int) < (m : Int) := by omega
                        have hj1i : (j1 : Int) < (m : Int) := by omega
                        have HPO : Hid (PO a b d (Pq.sw e j j1)) := by
                          have h9 := HJE.out
                          exact hpo.out.trans (PO.sw (by omega) (by omega) (by omega) (by omega) (by omega))
                        clear HD HE HPj hdn hlt9 hr
                        have hGl := hs.out.lt
                        have hxs := HSl.out (at' e (j)) (hFe.all _ (at_mem (by omega)))
                        have hys := HSl.out (at' e (j1)) (hFe.all _ (at_mem (by omega)))
                        have HSW := hidden (hs.out.sw (i := j) (j := j1) (by omega) (by omega))
                        have HB := hidden (put6_below (put6_below hbw (Nat.le_refl _) (at' e (j1)) (o := (j) * 6)) (Nat.le_refl _) (at' e (j)) (o := (j1) * 6))
                        obtain ⟨p0, p1, p2, p3, p4, p5, p6, p7, p8, p9, p10, p11⟩ := hs.out.at (i := j) (by omega)
                        obtain ⟨q0, q1, q2, q3, q4, q5, q6, q7, q8, q9, q10, q11⟩ := hs.out.at (i := j1) (by omega)
                        clear hs hFe hel hpo hbw
                        generalize at' e (j) = x at *
                        generalize at' e (j1) = y at *
                        obtain ⟨xu, xv⟩ := x
                        obtain ⟨yu, yv⟩ := y
                        obtain ⟨xa, xn, xc, hx2⟩ := hxs
                        obtain ⟨ya, yn, yc, hy2⟩ := hys
                        dsimp only at hx2 hy2
                        subst hx2 hy2
                        dsimp only at p0 p1 p2 p3 p4 p5 q0 q1 q2 q3 q4 q5
                        go_frame
                        go_wp2_with fail
                        go_region
                        all_goals go_wp2_with fail
                        all_goals go_roundw
                        case rel => exact ⟨j1, Pq.sw e j j1, rfl, by have := HJE.out; omega, HSW.out.below (st_drew (Below.refl _ _)), HPO, HV, st_drew HB.out⟩
                        case measure => simp [intOf]; omega
                      · rw [decide_eq_false hr]
                        have HE2 : Hid (SO (ltU nd) a i e) := (HE.out hr)
                        clear HD HE HPj hdn hlt9 hr hFe hel
                        go_frame
                        go_wp2_with fail
                        go_meet
                        case rel => exact ⟨e, hs, hpo, HE2, hbw⟩
                    · have hzi : ¬ (1 : Int) ≤ (j : Int) := by omega
                      have HE : Hid (SO (ltU nd) a i e) := by
                        have h := down_end hFe hdn.out (by omega) (Or.inl (by omega))
                        exact fun p q h1 h2 h3 => h p q h1 h2 (by omega)
                      clear hdn hFe hel
                      go_wp2_with fail
                      go_meet
                      case rel => exact ⟨e, hs, hpo, HE, hbw⟩
                · have h2i : ¬ (2 : Int) ≤ (ia : Int) := by omega
                  have HE : Hid (SO (ltU nd) a i e2) := by
                    have hF2 := HF.out.po HPO.out
                    have hl2 : e2.length = m := by rw [HPO.out.len]; exact HM.out
                    have h := down_end hF2 HDN.out (by omega) (Or.inl (by have := HIE.out; have := HIA.out; omega))
                    exact fun p q h1 h2 h3 => h p q h1 h2 (by omega)
                  go_wp2_with fail
                  go_meet
                  case rel => exact ⟨e2, HS2, HPO, HE, HB2.out⟩
              case rest =>
                clear HS2 HPO HDN HB2
                obtain ⟨e2, HS2, HPO, HSO, hb9⟩ := hcut
                have HB2 := hidden hb9
                clear hb9
                by_cases h2 : 2 ≤ bi
                · have h2i : (2 : Int) ≤ (bi : Int) := by omega
                  go_wp2_with fail
                  go_loopw [12] (fun jv ws => ∃ (j : Nat) (e : List UE), jv = .int .i64 j ∧ (i + 1 ≤ j ∧ j ≤ b) ∧ Hid (SU c ws G e) ∧ Hid (PO a b d e) ∧ Hid (SO (ltU nd) a i e) ∧ Below G w ws) (fun jv _ => b - (intOf jv).toNat)
                  case atStart => exact ⟨i + 1, e2, by first | rfl | simp, by omega, HS2, HPO, HSO, HB2.out⟩
                  case round =>
                    clear HS2 HPO HB2 HSO
                    obtain ⟨j, e, rfl, ⟨hj1, hj2⟩, hs, hpo, hdn, hbw⟩ := hrel
                    rename World => ws
                    have hFe := HF.out.po hpo.out
                    have hel : e.length = m := by rw [hpo.out.len]; exact HM.out
                    by_cases hz : j < b
                    · have hzi : (j : Int) < (b : Int) := by omega
                      obtain ⟨j1, hje⟩ : ∃ j1, j1 + 1 = j := ⟨j - 1, by omega⟩
                      have hwj : IntKind.i64.wrap ((j : Int) - 1) = (j1 : Int) := by rw [IntKind.wrap_i64]; omega
                      have hjj : j1 < j := by omega
                      have hGl := hs.out.lt
                      have hx := hs.out.at (i := j) (by omega)
                      have hy := hs.out.at (i := j1) (by omega)
                      have hK2 := HK.out (at' e j) (at' e j1) (hFe.all _ (at_mem (by omega))) (hFe.all _ (at_mem (by omega)))
                      have hlt9 := cmpU_lt nd (at' e j) (at' e j1)
                      have hjm : j < m := by omega
                      have hj1m : j1 < m := by omega
                      have hwju : IntKind.i64.wrap ((j : Int) + 1) = ((j + 1 : Nat) : Int) := by rw [IntKind.wrap_i64]; omega
                      have HE : Hid (SO (ltU nd) a i e) := hdn
                      have HV0 : Hid (SO (ltU nd) a i (Pq.sw e j j1)) := hdn.out.keep (PO.sw (a := i) (b := b) (by omega) (by omega) (by omega) (by omega) (by omega)) (Or.inl (Nat.le_refl _))
                      have HJE := hidden hje
                      clear hje
                      go_upto_region 22 with fail
                      refine regUq22 (G := G) (m := m) (c := c) (nd := nd) (sv := sv) (rr := cmpU nd (at' e j) (at' e j1)) (j := j) (j1 := j1) rfl rfl rfl rfl hGl hx hy hjm hj1m hmm hwj hK2 ?_
                      intro b' w6 hf hb6 hv
                      rw [layUq22 hf, hv]
                      clear hv hf
                      generalize Rg.out (Rg.opsOf Try.f126 22) b' 0 = z0
                      generalize Rg.out (Rg.opsOf Try.f126 22) b' 1 = z1
                      generalize Rg.out (Rg.opsOf Try.f126 22) b' 2 = z2
                      generalize Rg.out (Rg.opsOf Try.f126 22) b' 3 = z3
                      generalize Rg.out (Rg.opsOf Try.f126 22) b' 4 = z4
                      generalize Rg.out (Rg.opsOf Try.f126 22) b' 5 = z5
                      generalize Rg.out (Rg.opsOf Try.f126 22) b' 6 = z6
                      generalize Rg.out (Rg.opsOf Try.f126 22) b' 7 = z7
                      generalize Rg.out (Rg.opsOf Try.f126 22) b' 8 = z8
                      generalize Rg.out (Rg.opsOf Try.f126 22) b' 9 = z9
                      generalize Rg.out (Rg.opsOf Try.f126 22) b' 10 = z10
                      generalize Rg.out (Rg.opsOf Try.f126 22) b' 11 = z11
                      have HS6 := hidden (hs.out.below hb6)
                      have HB6 := hbw.trans (hb6.mono (Nat.le_of_lt hGl))
                      clear hx hy hK2 hs hbw hb6
                      have hs := HS6
                      have hbw := HB6
                      clear HS6 HB6
                      by_cases hr : cmpU nd (at' e j) (at' e j1) < 0
                      · rw [decide_eq_true hr]
                        have HV := HV0
                        have hji : (j : Int) < (m : Int) := by omega
                        have hj1i : (j1 : Int) < (m : Int) := by omega
                        have HPO : Hid (PO a b d (Pq.sw e j j1)) := by
                          have h9 := HJE.out
                          exact hpo.out.trans (PO.sw (by omega) (by omega) (by omega) (by omega) (by omega))
                        clear HV0 HE hdn hlt9 hr
                        have hGl := hs.out.lt
                        have hxs := HSl.out (at' e (j)) (hFe.all _ (at_mem (by omega)))
                        have hys := HSl.out (at' e (j1)) (hFe.all _ (at_mem (by omega)))
                        have HSW := hidden (hs.out.sw (i := j) (j := j1) (by omega) (by omega))
                        have HB := hidden (put6_below (put6_below hbw (Nat.le_refl _) (at' e (j1)) (o := (j) * 6)) (Nat.le_refl _) (at' e (j)) (o := (j1) * 6))
                        obtain ⟨p0, p1, p2, p3, p4, p5, p6, p7, p8, p9, p10, p11⟩ := hs.out.at (i := j) (by omega)
                        obtain ⟨q0, q1, q2, q3, q4, q5, q6, q7, q8, q9, q10, q11⟩ := hs.out.at (i := j1) (by omega)
                        clear hs hFe hel hpo hbw
                        generalize at' e (j) = x at *
                        generalize at' e (j1) = y at *
                        obtain ⟨xu, xv⟩ := x
                        obtain ⟨yu, yv⟩ := y
                        obtain ⟨xa, xn, xc, hx2⟩ := hxs
                        obtain ⟨ya, yn, yc, hy2⟩ := hys
                        dsimp only at hx2 hy2
                        subst hx2 hy2
                        dsimp only at p0 p1 p2 p3 p4 p5 q0 q1 q2 q3 q4 q5
                        go_frame
                        go_wp2_with fail
                        go_region
                        all_goals go_wp2_with fail
                        all_goals go_roundw
                        case rel => exact ⟨j + 1, Pq.sw e j j1, by first | rfl | simp, by have := HJE.out; omega, HSW.out.below (st_drew (Below.refl _ _)), HPO, HV, st_drew HB.out⟩
                        case measure => simp [intOf]; omega
                      · rw [decide_eq_false hr]
                        have HE2 : Hid (SO (ltU nd) a i e) := HE
                        clear HV0 HE hdn hlt9 hr hFe hel
                        go_frame
                        go_wp2_with fail
                        go_roundw
                        case rel => exact ⟨i, n + 1, e, rfl, by first | rfl | simp, by omega, by omega, HE2, hs, hpo, hbw⟩
                        case measure => simp [intOf]; omega
                    · have hzi : ¬ (j : Int) < (b : Int) := by omega
                      have HE : Hid (SO (ltU nd) a i e) := hdn
                      clear hdn hFe hel
                      go_wp2_with fail
                      go_roundw
                      case rel => exact ⟨i, n + 1, e, rfl, by first | rfl | simp, by omega, by omega, HE, hs, hpo, hbw⟩
                      case measure => simp [intOf]; omega
                · have h2i : ¬ (2 : Int) ≤ (bi : Int) := by omega
                  go_wp2_with fail
                  go_roundw
                  case rel => exact ⟨i, n + 1, e2, rfl, by first | rfl | simp, by omega, by omega, HSO, HS2, HPO, HB2.out⟩
                  case measure => simp [intOf]; omega
    · obtain rfl : n = 5 := by omega
      clear hso
      go_wp2_with fail
      (try simp only [Exit.inBlock, Exit.then])
      refine bodyPost_ret (v := .bool false) (by simp [results, Try.results126, go_sem]) rfl ?_
      exact ⟨false, rfl, e, hs.out, hpo.out, (fun z => by cases z), hbw⟩
end Go.Proofs.Ytgcpiinmcbdkmaa
