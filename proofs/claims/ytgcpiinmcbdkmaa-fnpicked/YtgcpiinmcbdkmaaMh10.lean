/-
  Merged: Pk5.
-/
import Derived.Test.YtgcpiinmcbdkmaaMh9
import Derived.BigRegion
import Derived.BigQuiet
namespace Go.Proofs.Ytgcpiinmcbdkmaa
open Go.RowKit Va Bl Pq
set_option linter.all false
theorem UC.below {w w' : World} {G o : Nat} {p : UE} (h : UC w G o p) (hb : Below w.heap.size w w') (hG : G < w.heap.size) : UC w' G o p :=
  ⟨(hb.cell (p := ⟨G, o, none⟩) hG).trans h.c0, (hb.cell (p := ⟨G, o + 1, none⟩) hG).trans h.c1, (hb.cell (p := ⟨G, o + 2, none⟩) hG).trans h.c2, (hb.cell (p := ⟨G, o + 3, none⟩) hG).trans h.c3, (hb.cell (p := ⟨G, o + 4, none⟩) hG).trans h.c4, (hb.cell (p := ⟨G, o + 5, none⟩) hG).trans h.c5,
   (hb.frozen (p := ⟨G, o, none⟩) hG).trans h.f0, (hb.frozen (p := ⟨G, o + 1, none⟩) hG).trans h.f1, (hb.frozen (p := ⟨G, o + 2, none⟩) hG).trans h.f2, (hb.frozen (p := ⟨G, o + 3, none⟩) hG).trans h.f3, (hb.frozen (p := ⟨G, o + 4, none⟩) hG).trans h.f4, (hb.frozen (p := ⟨G, o + 5, none⟩) hG).trans h.f5⟩
def ltU (nd : Nd) (x y : UE) : Prop := befB nd x.1 y.1 = true
def LessU (nd : Nd) (sv : Value) (D : UE → Prop) : Prop :=
  ∀ x y, D x → D y → ∀ W, Calls Try.prog 47 #[.agg #[.int .i64 nd.p, .int .i64 nd.g, sv], .agg #[.int .i64 x.1.id, .int .i64 x.1.grp, x.2, .int .i64 x.1.til, .int .i64 x.1.st, .int .i64 x.1.fr], .agg #[.int .i64 y.1.id, .int .i64 y.1.grp, y.2, .int .i64 y.1.til, .int .i64 y.1.st, .int .i64 y.1.fr]] W fun e w' => e = .returned (.int .i64 (cmpU nd x y)) ∧ Below W.heap.size W w'
def SlU (D : UE → Prop) : Prop := ∀ z, D z → ∃ (a : Option Addr) (n c : Nat), z.2 = .slice a n c
def FUi4 (G m c : Nat) (x y : UE) (nd : Nd) (sv : Value) (rr : Int) (la j : Nat) (i9 : Nat) (v : Value) (w : World) : Prop :=
  match i9 with
  | 0 => v = .int .i64 (j : Nat)
  | 1 => v = .int .i64 (la : Nat)
  | 2 => v = .bool (decide ((la : Int) < (j : Int)))
  | 3 => v = .bool (decide ((la : Int) < (j : Int)))
  | 4 => v = cond (true && ((decide ((la : Int) < (j : Int))) == true)) (.func (.func 47) #[.agg #[.int .i64 nd.p, .int .i64 nd.g, sv]] #[]) undef
  | 5 => v = cond (true && ((decide ((la : Int) < (j : Int))) == true)) (.slice (some ⟨G, 0, none⟩) m c) undef
  | 6 => v = cond (true && ((decide ((la : Int) < (j : Int))) == true)) (.int .i64 (j : Nat)) undef
  | 7 => v = cond (true && ((decide ((la : Int) < (j : Int))) == true)) (.pointer (some ⟨G, (j) * 6, none⟩)) undef
  | 8 => v = cond (true && ((decide ((la : Int) < (j : Int))) == true)) (.agg #[.int .i64 x.1.id, .int .i64 x.1.grp, x.2, .int .i64 x.1.til, .int .i64 x.1.st, .int .i64 x.1.fr]) undef
  | 9 => v = cond (true && ((decide ((la : Int) < (j : Int))) == true)) (.slice (some ⟨G, 0, none⟩) m c) undef
  | 10 => v = cond (true && ((decide ((la : Int) < (j : Int))) == true)) (.int .i64 (j : Nat)) undef
  | 11 => v = cond (true && ((decide ((la : Int) < (j : Int))) == true)) (.int .i64 ((j - 1 : Nat))) undef
  | 12 => v = cond (true && ((decide ((la : Int) < (j : Int))) == true)) (.pointer (some ⟨G, (j - 1) * 6, none⟩)) undef
  | 13 => v = cond (true && ((decide ((la : Int) < (j : Int))) == true)) (.agg #[.int .i64 y.1.id, .int .i64 y.1.grp, y.2, .int .i64 y.1.til, .int .i64 y.1.st, .int .i64 y.1.fr]) undef
  | 14 => v = cond (true && ((decide ((la : Int) < (j : Int))) == true)) (.int .i64 rr) undef
  | 15 => v = cond (true && ((decide ((la : Int) < (j : Int))) == true)) (.bool (decide (rr < 0))) undef
  | 16 => v = .bool ((decide ((la : Int) < (j : Int))) && (decide (rr < 0)))
  | _ => True
theorem sizeUi4 : (Rg.opsOf Try.f121 4).size = 17 := by kernel_rfl
set_option maxRecDepth 20000 in
set_option maxHeartbeats 8000000 in
theorem regUi4 {Q : Exit → Act → World → Prop} {a : Act} {w9 : World} {G m c : Nat} {x y : UE} {nd : Nd} {sv : Value} {rr : Int} {la j : Nat} (ha : a.tmps.size = 53)
    (k9 : a.tmps[9]? = some (.int .i64 (j : Nat))) (k1 : a.tmps[1]? = some (.int .i64 (la : Nat))) (k3 : a.tmps[3]? = some (.func (.func 47) #[.agg #[.int .i64 nd.p, .int .i64 nd.g, sv]] #[])) (k0 : a.tmps[0]? = some (.slice (some ⟨G, 0, none⟩) m c)) (hGl : G < w9.heap.size) (hx : UC w9 G ((j) * 6) x) (hy : UC w9 G ((j - 1) * 6) y) (hm0 : j < m) (hm1 : j - 1 < m) (hmm : m ≤ 100000) (hg : la < j) (hw29 : IntKind.i64.wrap ((j : Int) - 1) = ((j - 1 : Nat) : Int)) (HK : ∀ W, Calls Try.prog 47 #[.agg #[.int .i64 nd.p, .int .i64 nd.g, sv], .agg #[.int .i64 x.1.id, .int .i64 x.1.grp, x.2, .int .i64 x.1.til, .int .i64 x.1.st, .int .i64 x.1.fr], .agg #[.int .i64 y.1.id, .int .i64 y.1.grp, y.2, .int .i64 y.1.til, .int .i64 y.1.st, .int .i64 y.1.fr]] W fun e w' => e = .returned (.int .i64 rr) ∧ Below W.heap.size W w')
    (hend : ∀ b' w', Rg.Fr (Rg.opsOf Try.f121 4) a b' → Below w9.heap.size w9 w' → Rg.out (Rg.opsOf Try.f121 4) b' 16 = .bool ((decide ((la : Int) < (j : Int))) && (decide (rr < 0))) → Q .normal b' w') :
    (Code.region 4 (Rg.opsOf Try.f121 4) true).wp Try.prog Q a w9 := by
  refine Rg.region_set3 (by kernel_rfl) (fun _ w' => Below w9.heap.size w9 w') (FUi4 G m c x y nd sv rr la j) (by rw [ha, sizeUi4]; kernel_rfl) (st_drew (Below.refl _ _)) ?_ ?_
  case refine_2 =>
    intro l b' w' hf hall hI hA
    rw [sizeUi4] at hA
    exact hend b' w' hf hI (hA 16 (by decide))
  case refine_1 =>
    clear hend
    have HS : ∀ {w w' : World}, Below w.heap.size w w' → ∀ k9 y9, FUi4 G m c x y nd sv rr la j k9 y9 w → FUi4 G m c x y nd sv rr la j k9 y9 w' := fun hb k9 y9 h => by
      unfold FUi4 at *
      split at h <;> exact h
    intro i' hi'
    rw [sizeUi4] at hi'
    rcases (show i' = 0 ∨ i' = 1 ∨ i' = 2 ∨ i' = 3 ∨ i' = 4 ∨ i' = 5 ∨ i' = 6 ∨ i' = 7 ∨ i' = 8 ∨ i' = 9 ∨ i' = 10 ∨ i' = 11 ∨ i' = 12 ∨ i' = 13 ∨ i' = 14 ∨ i' = 15 ∨ i' = 16 by omega) with rfl | rfl | rfl | rfl | rfl | rfl | rfl | rfl | rfl | rfl | rfl | rfl | rfl | rfl | rfl | rfl | rfl
    · intro ll bb w' hs hlf hN hO hf hI hA
      clear hi'
      have q0 := hf.kept (s := 9) (by rw [sizeUi4]; kernel_rfl) k9
      exact Rg.op_value (o := ⟨some 18, Op.move (Operand.tmp 9), _, _, _, _⟩) (x := .int .i64 (j : Nat)) rfl rfl (by clear hA HS hN hO HK; simp only [execOp]; go_simp) ⟨_, rfl, (fun h => by cases h), rfl, hI, fun _ _ _ _ h => h⟩
    · intro ll bb w' hs hlf hN hO hf hI hA
      clear hi'
      have q0 := hf.kept (s := 1) (by rw [sizeUi4]; kernel_rfl) k1
      exact Rg.op_value (o := ⟨some 19, Op.move (Operand.tmp 1), _, _, _, _⟩) (x := .int .i64 (la : Nat)) rfl rfl (by clear hA HS hN hO HK; simp only [execOp]; go_simp) ⟨_, rfl, (fun h => by cases h), rfl, hI, fun _ _ _ _ h => h⟩
    · intro ll bb w' hs hlf hN hO hf hI hA
      clear hi'
      have q18 : bb.tmps[18]? = some _ := hf.tmp (k := 0) rfl (by rw [ha]; decide) (hA 0 (by kernel_rfl))
      have q19 : bb.tmps[19]? = some _ := hf.tmp (k := 1) rfl (by rw [ha]; decide) (hA 1 (by kernel_rfl))
      exact Rg.op_value (o := ⟨some 20, Op.binOp BinOp.gtr 3 (Operand.tmp 18) (Operand.tmp 19) 3, _, _, _, _⟩) (x := .bool (decide ((la : Int) < (j : Int)))) rfl rfl (by clear hA HS hN hO HK; simp only [execOp]; go_simp) ⟨_, rfl, (fun h => by cases h), rfl, hI, fun _ _ _ _ h => h⟩
    · intro ll bb w' hs hlf hN hO hf hI hA
      clear hi'
      have q20 : bb.tmps[20]? = some _ := hf.tmp (k := 2) rfl (by rw [ha]; decide) (hA 2 (by kernel_rfl))
      exact Rg.op_value (o := ⟨some 21, Op.move (Operand.tmp 20), _, _, _, _⟩) (x := .bool (decide ((la : Int) < (j : Int)))) rfl rfl (by clear hA HS hN hO HK; simp only [execOp]; go_simp) ⟨_, rfl, (fun h => by cases h), rfl, hI, fun _ _ _ _ h => h⟩
    · intro ll bb w' hs hlf hN hO hf hI hA
      clear hi'
      have qg : bb.tmps[21]? = some (cond true (.bool (decide ((la : Int) < (j : Int)))) undef) := hf.tmp (k := 3) rfl (by rw [ha]; decide) (hA 3 (by kernel_rfl))
      cases hP : (true && ((decide ((la : Int) < (j : Int))) == true)) with
      | false => exact Rg.op_none (o := ⟨some 22, _, _, _, _, _⟩) rfl (Rg.unwanted_c (g := 3) rfl rfl qg hP) ⟨_, rfl, (fun h => by cases h), Rg.cond_f hP, hI, fun _ _ _ _ h => h⟩
      | true =>
        have hw := Rg.wanted_c (ops := (Rg.opsOf Try.f121 4)) (o := (Rg.opsOf Try.f121 4)[4]'(by rw [sizeUi4]; decide)) (g := 3) rfl rfl qg hP
        have g0 := Rg.pc_r hP
        have q0 := hf.kept (s := 3) (by rw [sizeUi4]; kernel_rfl) k3
        exact Rg.op_value (o := ⟨some 22, Op.move (Operand.tmp 3), _, _, _, _⟩) (x := .func (.func 47) #[.agg #[.int .i64 nd.p, .int .i64 nd.g, sv]] #[]) rfl hw (by clear hA HS hN hO HK; simp only [execOp]; go_simp) ⟨_, rfl, (fun h => by cases h), (Rg.cond_t hP).symm, hI, fun _ _ _ _ h => h⟩
    · intro ll bb w' hs hlf hN hO hf hI hA
      clear hi'
      have qg : bb.tmps[21]? = some (cond true (.bool (decide ((la : Int) < (j : Int)))) undef) := hf.tmp (k := 3) rfl (by rw [ha]; decide) (hA 3 (by kernel_rfl))
      cases hP : (true && ((decide ((la : Int) < (j : Int))) == true)) with
      | false => exact Rg.op_none (o := ⟨some 23, _, _, _, _, _⟩) rfl (Rg.unwanted_c (g := 3) rfl rfl qg hP) ⟨_, rfl, (fun h => by cases h), Rg.cond_f hP, hI, fun _ _ _ _ h => h⟩
      | true =>
        have hw := Rg.wanted_c (ops := (Rg.opsOf Try.f121 4)) (o := (Rg.opsOf Try.f121 4)[5]'(by rw [sizeUi4]; decide)) (g := 3) rfl rfl qg hP
        have g0 := Rg.pc_r hP
        have q0 := hf.kept (s := 0) (by rw [sizeUi4]; kernel_rfl) k0
        exact Rg.op_value (o := ⟨some 23, Op.move (Operand.tmp 0), _, _, _, _⟩) (x := .slice (some ⟨G, 0, none⟩) m c) rfl hw (by clear hA HS hN hO HK; simp only [execOp]; go_simp) ⟨_, rfl, (fun h => by cases h), (Rg.cond_t hP).symm, hI, fun _ _ _ _ h => h⟩
    · intro ll bb w' hs hlf hN hO hf hI hA
      clear hi'
      have qg : bb.tmps[21]? = some (cond true (.bool (decide ((la : Int) < (j : Int)))) undef) := hf.tmp (k := 3) rfl (by rw [ha]; decide) (hA 3 (by kernel_rfl))
      cases hP : (true && ((decide ((la : Int) < (j : Int))) == true)) with
      | false => exact Rg.op_none (o := ⟨some 24, _, _, _, _, _⟩) rfl (Rg.unwanted_c (g := 3) rfl rfl qg hP) ⟨_, rfl, (fun h => by cases h), Rg.cond_f hP, hI, fun _ _ _ _ h => h⟩
      | true =>
        have hw := Rg.wanted_c (ops := (Rg.opsOf Try.f121 4)) (o := (Rg.opsOf Try.f121 4)[6]'(by rw [sizeUi4]; decide)) (g := 3) rfl rfl qg hP
        have g0 := Rg.pc_r hP
        have q0 := hf.kept (s := 9) (by rw [sizeUi4]; kernel_rfl) k9
        exact Rg.op_value (o := ⟨some 24, Op.move (Operand.tmp 9), _, _, _, _⟩) (x := .int .i64 (j : Nat)) rfl hw (by clear hA HS hN hO HK; simp only [execOp]; go_simp) ⟨_, rfl, (fun h => by cases h), (Rg.cond_t hP).symm, hI, fun _ _ _ _ h => h⟩
    · intro ll bb w' hs hlf hN hO hf hI hA
      clear hi'
      have qg : bb.tmps[21]? = some (cond true (.bool (decide ((la : Int) < (j : Int)))) undef) := hf.tmp (k := 3) rfl (by rw [ha]; decide) (hA 3 (by kernel_rfl))
      cases hP : (true && ((decide ((la : Int) < (j : Int))) == true)) with
      | false => exact Rg.op_none (o := ⟨some 25, _, _, _, _, _⟩) rfl (Rg.unwanted_c (g := 3) rfl rfl qg hP) ⟨_, rfl, (fun h => by cases h), Rg.cond_f hP, hI, fun _ _ _ _ h => h⟩
      | true =>
        have hw := Rg.wanted_c (ops := (Rg.opsOf Try.f121 4)) (o := (Rg.opsOf Try.f121 4)[7]'(by rw [sizeUi4]; decide)) (g := 3) rfl rfl qg hP
        have g0 := Rg.pc_r hP
        have q23 : bb.tmps[23]? = some (.slice (some ⟨G, 0, none⟩) m c) := hf.tmp (k := 5) rfl (by rw [ha]; decide) (Eq.trans (hA 5 (by kernel_rfl)) (Rg.cond_t hP))
        have q24 : bb.tmps[24]? = some (.int .i64 (j : Nat)) := hf.tmp (k := 6) rfl (by rw [ha]; decide) (Eq.trans (hA 6 (by kernel_rfl)) (Rg.cond_t hP))
        have hi9 : (((j) : Nat) : Int) < (m : Int) := by omega
        exact Rg.op_value (o := ⟨some 25, Op.indexAddr 24 (Operand.tmp 23) (Operand.tmp 24), _, _, _, _⟩) (x := .pointer (some ⟨G, (j) * 6, none⟩)) rfl hw (by clear hA HS hN hO HK; simp only [execOp]; go_simp) ⟨_, rfl, (fun h => by cases h), (Rg.cond_t hP).symm, hI, fun _ _ _ _ h => h⟩
    · intro ll bb w' hs hlf hN hO hf hI hA
      clear hi'
      have qg : bb.tmps[21]? = some (cond true (.bool (decide ((la : Int) < (j : Int)))) undef) := hf.tmp (k := 3) rfl (by rw [ha]; decide) (hA 3 (by kernel_rfl))
      cases hP : (true && ((decide ((la : Int) < (j : Int))) == true)) with
      | false => exact Rg.op_none (o := ⟨some 26, _, _, _, _, _⟩) rfl (Rg.unwanted_c (g := 3) rfl rfl qg hP) ⟨_, rfl, (fun h => by cases h), Rg.cond_f hP, hI, fun _ _ _ _ h => h⟩
      | true =>
        have hw := Rg.wanted_c (ops := (Rg.opsOf Try.f121 4)) (o := (Rg.opsOf Try.f121 4)[8]'(by rw [sizeUi4]; decide)) (g := 3) rfl rfl qg hP
        have g0 := Rg.pc_r hP
        have q25 : bb.tmps[25]? = some (.pointer (some ⟨G, (j) * 6, none⟩)) := hf.tmp (k := 7) rfl (by rw [ha]; decide) (Eq.trans (hA 7 (by kernel_rfl)) (Rg.cond_t hP))
        have hx9 := hx.below hI hGl
        have e0 := hx9.c0
        have e1 := hx9.c1
        have e2 := hx9.c2
        have e3 := hx9.c3
        have e4 := hx9.c4
        have e5 := hx9.c5
        exact Rg.op_value (o := ⟨some 26, Op.load 81 (Operand.tmp 25), _, _, _, _⟩) (x := .agg #[.int .i64 x.1.id, .int .i64 x.1.grp, x.2, .int .i64 x.1.til, .int .i64 x.1.st, .int .i64 x.1.fr]) rfl hw (by clear hA HS hN hO HK; simp only [execOp]; go_simp) ⟨_, rfl, (fun h => by cases h), (Rg.cond_t hP).symm, hI, fun _ _ _ _ h => h⟩
    · intro ll bb w' hs hlf hN hO hf hI hA
      clear hi'
      have qg : bb.tmps[21]? = some (cond true (.bool (decide ((la : Int) < (j : Int)))) undef) := hf.tmp (k := 3) rfl (by rw [ha]; decide) (hA 3 (by kernel_rfl))
      cases hP : (true && ((decide ((la : Int) < (j : Int))) == true)) with
      | false => exact Rg.op_none (o := ⟨some 27, _, _, _, _, _⟩) rfl (Rg.unwanted_c (g := 3) rfl rfl qg hP) ⟨_, rfl, (fun h => by cases h), Rg.cond_f hP, hI, fun _ _ _ _ h => h⟩
      | true =>
        have hw := Rg.wanted_c (ops := (Rg.opsOf Try.f121 4)) (o := (Rg.opsOf Try.f121 4)[9]'(by rw [sizeUi4]; decide)) (g := 3) rfl rfl qg hP
        have g0 := Rg.pc_r hP
        have q0 := hf.kept (s := 0) (by rw [sizeUi4]; kernel_rfl) k0
        exact Rg.op_value (o := ⟨some 27, Op.move (Operand.tmp 0), _, _, _, _⟩) (x := .slice (some ⟨G, 0, none⟩) m c) rfl hw (by clear hA HS hN hO HK; simp only [execOp]; go_simp) ⟨_, rfl, (fun h => by cases h), (Rg.cond_t hP).symm, hI, fun _ _ _ _ h => h⟩
    · intro ll bb w' hs hlf hN hO hf hI hA
      clear hi'
      have qg : bb.tmps[21]? = some (cond true (.bool (decide ((la : Int) < (j : Int)))) undef) := hf.tmp (k := 3) rfl (by rw [ha]; decide) (hA 3 (by kernel_rfl))
      cases hP : (true && ((decide ((la : Int) < (j : Int))) == true)) with
      | false => exact Rg.op_none (o := ⟨some 28, _, _, _, _, _⟩) rfl (Rg.unwanted_c (g := 3) rfl rfl qg hP) ⟨_, rfl, (fun h => by cases h), Rg.cond_f hP, hI, fun _ _ _ _ h => h⟩
      | true =>
        have hw := Rg.wanted_c (ops := (Rg.opsOf Try.f121 4)) (o := (Rg.opsOf Try.f121 4)[10]'(by rw [sizeUi4]; decide)) (g := 3) rfl rfl qg hP
        have g0 := Rg.pc_r hP
        have q0 := hf.kept (s := 9) (by rw [sizeUi4]; kernel_rfl) k9
        exact Rg.op_value (o := ⟨some 28, Op.move (Operand.tmp 9), _, _, _, _⟩) (x := .int .i64 (j : Nat)) rfl hw (by clear hA HS hN hO HK; simp only [execOp]; go_simp) ⟨_, rfl, (fun h => by cases h), (Rg.cond_t hP).symm, hI, fun _ _ _ _ h => h⟩
    · intro ll bb w' hs hlf hN hO hf hI hA
      clear hi'
      have qg : bb.tmps[21]? = some (cond true (.bool (decide ((la : Int) < (j : Int)))) undef) := hf.tmp (k := 3) rfl (by rw [ha]; decide) (hA 3 (by kernel_rfl))
      cases hP : (true && ((decide ((la : Int) < (j : Int))) == true)) with
      | false => exact Rg.op_none (o := ⟨some 29, _, _, _, _, _⟩) rfl (Rg.unwanted_c (g := 3) rfl rfl qg hP) ⟨_, rfl, (fun h => by cases h), Rg.cond_f hP, hI, fun _ _ _ _ h => h⟩
      | true =>
        have hw := Rg.wanted_c (ops := (Rg.opsOf Try.f121 4)) (o := (Rg.opsOf Try.f121 4)[11]'(by rw [sizeUi4]; decide)) (g := 3) rfl rfl qg hP
        have g0 := Rg.pc_r hP
        have q28 : bb.tmps[28]? = some (.int .i64 (j : Nat)) := hf.tmp (k := 10) rfl (by rw [ha]; decide) (Eq.trans (hA 10 (by kernel_rfl)) (Rg.cond_t hP))
        have hw9 := hw29
        exact Rg.op_value (o := ⟨some 29, Op.binOp BinOp.sub 3 (Operand.tmp 28) (Operand.const (Value.int .i64 1)) 3, _, _, _, _⟩) (x := .int .i64 ((j - 1 : Nat))) rfl hw (by clear hA HS hN hO HK; simp only [execOp]; go_simp) ⟨_, rfl, (fun h => by cases h), (Rg.cond_t hP).symm, hI, fun _ _ _ _ h => h⟩
    · intro ll bb w' hs hlf hN hO hf hI hA
      clear hi'
      have qg : bb.tmps[21]? = some (cond true (.bool (decide ((la : Int) < (j : Int)))) undef) := hf.tmp (k := 3) rfl (by rw [ha]; decide) (hA 3 (by kernel_rfl))
      cases hP : (true && ((decide ((la : Int) < (j : Int))) == true)) with
      | false => exact Rg.op_none (o := ⟨some 30, _, _, _, _, _⟩) rfl (Rg.unwanted_c (g := 3) rfl rfl qg hP) ⟨_, rfl, (fun h => by cases h), Rg.cond_f hP, hI, fun _ _ _ _ h => h⟩
      | true =>
        have hw := Rg.wanted_c (ops := (Rg.opsOf Try.f121 4)) (o := (Rg.opsOf Try.f121 4)[12]'(by rw [sizeUi4]; decide)) (g := 3) rfl rfl qg hP
        have g0 := Rg.pc_r hP
        have q27 : bb.tmps[27]? = some (.slice (some ⟨G, 0, none⟩) m c) := hf.tmp (k := 9) rfl (by rw [ha]; decide) (Eq.trans (hA 9 (by kernel_rfl)) (Rg.cond_t hP))
        have q29 : bb.tmps[29]? = some (.int .i64 ((j - 1 : Nat))) := hf.tmp (k := 11) rfl (by rw [ha]; decide) (Eq.trans (hA 11 (by kernel_rfl)) (Rg.cond_t hP))
        have hi9 : (((j - 1) : Nat) : Int) < (m : Int) := by omega
        exact Rg.op_value (o := ⟨some 30, Op.indexAddr 24 (Operand.tmp 27) (Operand.tmp 29), _, _, _, _⟩) (x := .pointer (some ⟨G, (j - 1) * 6, none⟩)) rfl hw (by clear hA HS hN hO HK; simp only [execOp]; go_simp) ⟨_, rfl, (fun h => by cases h), (Rg.cond_t hP).symm, hI, fun _ _ _ _ h => h⟩
    · intro ll bb w' hs hlf hN hO hf hI hA
      clear hi'
      have qg : bb.tmps[21]? = some (cond true (.bool (decide ((la : Int) < (j : Int)))) undef) := hf.tmp (k := 3) rfl (by rw [ha]; decide) (hA 3 (by kernel_rfl))
      cases hP : (true && ((decide ((la : Int) < (j : Int))) == true)) with
      | false => exact Rg.op_none (o := ⟨some 31, _, _, _, _, _⟩) rfl (Rg.unwanted_c (g := 3) rfl rfl qg hP) ⟨_, rfl, (fun h => by cases h), Rg.cond_f hP, hI, fun _ _ _ _ h => h⟩
      | true =>
        have hw := Rg.wanted_c (ops := (Rg.opsOf Try.f121 4)) (o := (Rg.opsOf Try.f121 4)[13]'(by rw [sizeUi4]; decide)) (g := 3) rfl rfl qg hP
        have g0 := Rg.pc_r hP
        have q30 : bb.tmps[30]? = some (.pointer (some ⟨G, (j - 1) * 6, none⟩)) := hf.tmp (k := 12) rfl (by rw [ha]; decide) (Eq.trans (hA 12 (by kernel_rfl)) (Rg.cond_t hP))
        have hx9 := hy.below hI hGl
        have e0 := hx9.c0
        have e1 := hx9.c1
        have e2 := hx9.c2
        have e3 := hx9.c3
        have e4 := hx9.c4
        have e5 := hx9.c5
        exact Rg.op_value (o := ⟨some 31, Op.load 81 (Operand.tmp 30), _, _, _, _⟩) (x := .agg #[.int .i64 y.1.id, .int .i64 y.1.grp, y.2, .int .i64 y.1.til, .int .i64 y.1.st, .int .i64 y.1.fr]) rfl hw (by clear hA HS hN hO HK; simp only [execOp]; go_simp) ⟨_, rfl, (fun h => by cases h), (Rg.cond_t hP).symm, hI, fun _ _ _ _ h => h⟩
    · intro ll bb w' hs hlf hN hO hf hI hA
      clear hi'
      have qg : bb.tmps[21]? = some (cond true (.bool (decide ((la : Int) < (j : Int)))) undef) := hf.tmp (k := 3) rfl (by rw [ha]; decide) (hA 3 (by kernel_rfl))
      cases hP : (true && ((decide ((la : Int) < (j : Int))) == true)) with
      | false => exact Rg.op_none (o := ⟨some 32, _, _, _, _, _⟩) rfl (Rg.unwanted_c (g := 3) rfl rfl qg hP) ⟨_, rfl, (fun h => by cases h), Rg.cond_f hP, hI, fun _ _ _ _ h => h⟩
      | true =>
        have hw := Rg.wanted_c (ops := (Rg.opsOf Try.f121 4)) (o := (Rg.opsOf Try.f121 4)[14]'(by rw [sizeUi4]; decide)) (g := 3) rfl rfl qg hP
        have g0 := Rg.pc_r hP
        have q22 : bb.tmps[22]? = some (.func (.func 47) #[.agg #[.int .i64 nd.p, .int .i64 nd.g, sv]] #[]) := hf.tmp (k := 4) rfl (by rw [ha]; decide) (Eq.trans (hA 4 (by kernel_rfl)) (Rg.cond_t hP))
        have q26 : bb.tmps[26]? = some (.agg #[.int .i64 x.1.id, .int .i64 x.1.grp, x.2, .int .i64 x.1.til, .int .i64 x.1.st, .int .i64 x.1.fr]) := hf.tmp (k := 8) rfl (by rw [ha]; decide) (Eq.trans (hA 8 (by kernel_rfl)) (Rg.cond_t hP))
        have q31 : bb.tmps[31]? = some (.agg #[.int .i64 y.1.id, .int .i64 y.1.grp, y.2, .int .i64 y.1.til, .int .i64 y.1.st, .int .i64 y.1.fr]) := hf.tmp (k := 13) rfl (by rw [ha]; decide) (Eq.trans (hA 13 (by kernel_rfl)) (Rg.cond_t hP))
        refine Rg.op_call (o := ⟨some 32, Op.call { callee := Callee.value (Operand.tmp 22), args := #[(Operand.tmp 26), (Operand.tmp 31)], argTypes := _ }, _, _, _, _⟩) rfl hw (by clear hA HS hN hO HK; simp only [execOp, resolve]; go_simp) (HK w') ?_
        rintro e w2 ⟨rfl, hb2⟩
        exact ⟨_, rfl, _, rfl, (fun h => by cases h), (Rg.cond_t hP).symm, onto hI hb2, fun k9 y9 _ _ h => HS hb2 k9 y9 h⟩
    · intro ll bb w' hs hlf hN hO hf hI hA
      clear hi'
      have qg : bb.tmps[21]? = some (cond true (.bool (decide ((la : Int) < (j : Int)))) undef) := hf.tmp (k := 3) rfl (by rw [ha]; decide) (hA 3 (by kernel_rfl))
      cases hP : (true && ((decide ((la : Int) < (j : Int))) == true)) with
      | false => exact Rg.op_none (o := ⟨some 33, _, _, _, _, _⟩) rfl (Rg.unwanted_c (g := 3) rfl rfl qg hP) ⟨_, rfl, (fun h => by cases h), Rg.cond_f hP, hI, fun _ _ _ _ h => h⟩
      | true =>
        have hw := Rg.wanted_c (ops := (Rg.opsOf Try.f121 4)) (o := (Rg.opsOf Try.f121 4)[15]'(by rw [sizeUi4]; decide)) (g := 3) rfl rfl qg hP
        have g0 := Rg.pc_r hP
        have q32 : bb.tmps[32]? = some (.int .i64 rr) := hf.tmp (k := 14) rfl (by rw [ha]; decide) (Eq.trans (hA 14 (by kernel_rfl)) (Rg.cond_t hP))
        exact Rg.op_value (o := ⟨some 33, Op.binOp BinOp.lss 3 (Operand.tmp 32) (Operand.const (Value.int .i64 0)) 3, _, _, _, _⟩) (x := .bool (decide (rr < 0))) rfl hw (by clear hA HS hN hO HK; simp only [execOp]; go_simp) ⟨_, rfl, (fun h => by cases h), (Rg.cond_t hP).symm, hI, fun _ _ _ _ h => h⟩
    · intro ll bb w' hs hlf hN hO hf hI hA
      clear hi'
      have q21 : bb.tmps[21]? = some _ := hf.tmp (k := 3) rfl (by rw [ha]; decide) (hA 3 (by kernel_rfl))
      cases hC : (decide ((la : Int) < (j : Int))) with
      | false =>
        have hval : ((.bool ((decide ((la : Int) < (j : Int))) && (decide (rr < 0))) : Value)) = .bool false := by rw [hC]; rfl
        exact Rg.op_value (o := ⟨some 34, Op.pick (Operand.tmp 21) (Operand.tmp 33) (Operand.const (Value.bool false)), _, _, _, _⟩) (x := .bool false) rfl rfl (by rw [hC] at q21; clear hA HS hN hO HK hval; simp only [execOp]; go_simp) ⟨_, rfl, (fun h => by cases h), (by show ((.bool false : Value)) = _; first | exact hval.symm | rfl), hI, fun _ _ _ _ h => h⟩
      | true =>
        have hB : (true && ((decide ((la : Int) < (j : Int))) == true)) = true := by rw [hC]; rfl
        have q33 : bb.tmps[33]? = some (.bool (decide (rr < 0))) := hf.tmp (k := 15) rfl (by rw [ha]; decide) (Eq.trans (hA 15 (by kernel_rfl)) (Rg.cond_t hB))
        have hval : ((.bool ((decide ((la : Int) < (j : Int))) && (decide (rr < 0))) : Value)) = .bool (decide (rr < 0)) := by rw [hC]; rfl
        exact Rg.op_value (o := ⟨some 34, Op.pick (Operand.tmp 21) (Operand.tmp 33) (Operand.const (Value.bool false)), _, _, _, _⟩) (x := .bool (decide (rr < 0))) rfl rfl (by rw [hC] at q21; clear hA HS hN hO HK hval; simp only [execOp]; go_simp) ⟨_, rfl, (fun h => by cases h), (by show ((.bool (decide (rr < 0)) : Value)) = _; first | exact hval.symm | rfl), hI, fun _ _ _ _ h => h⟩
theorem dUi4_0 : Rg.dstAt (Rg.opsOf Try.f121 4) 0 = some 18 := by kernel_rfl
theorem dUi4_1 : Rg.dstAt (Rg.opsOf Try.f121 4) 1 = some 19 := by kernel_rfl
theorem dUi4_2 : Rg.dstAt (Rg.opsOf Try.f121 4) 2 = some 20 := by kernel_rfl
theorem dUi4_3 : Rg.dstAt (Rg.opsOf Try.f121 4) 3 = some 21 := by kernel_rfl
theorem dUi4_4 : Rg.dstAt (Rg.opsOf Try.f121 4) 4 = some 22 := by kernel_rfl
theorem dUi4_5 : Rg.dstAt (Rg.opsOf Try.f121 4) 5 = some 23 := by kernel_rfl
theorem dUi4_6 : Rg.dstAt (Rg.opsOf Try.f121 4) 6 = some 24 := by kernel_rfl
theorem dUi4_7 : Rg.dstAt (Rg.opsOf Try.f121 4) 7 = some 25 := by kernel_rfl
theorem dUi4_8 : Rg.dstAt (Rg.opsOf Try.f121 4) 8 = some 26 := by kernel_rfl
theorem dUi4_9 : Rg.dstAt (Rg.opsOf Try.f121 4) 9 = some 27 := by kernel_rfl
theorem dUi4_10 : Rg.dstAt (Rg.opsOf Try.f121 4) 10 = some 28 := by kernel_rfl
theorem dUi4_11 : Rg.dstAt (Rg.opsOf Try.f121 4) 11 = some 29 := by kernel_rfl
theorem dUi4_12 : Rg.dstAt (Rg.opsOf Try.f121 4) 12 = some 30 := by kernel_rfl
theorem dUi4_13 : Rg.dstAt (Rg.opsOf Try.f121 4) 13 = some 31 := by kernel_rfl
theorem dUi4_14 : Rg.dstAt (Rg.opsOf Try.f121 4) 14 = some 32 := by kernel_rfl
theorem dUi4_15 : Rg.dstAt (Rg.opsOf Try.f121 4) 15 = some 33 := by kernel_rfl
theorem dUi4_16 : Rg.dstAt (Rg.opsOf Try.f121 4) 16 = some 34 := by kernel_rfl
theorem layUi4 {a b : Act} (hf : Rg.Fr (Rg.opsOf Try.f121 4) a b) : b = (((((((((((((((((a.put (some 18) (Rg.out (Rg.opsOf Try.f121 4) b 0)).put (some 19) (Rg.out (Rg.opsOf Try.f121 4) b 1)).put (some 20) (Rg.out (Rg.opsOf Try.f121 4) b 2)).put (some 21) (Rg.out (Rg.opsOf Try.f121 4) b 3)).put (some 22) (Rg.out (Rg.opsOf Try.f121 4) b 4)).put (some 23) (Rg.out (Rg.opsOf Try.f121 4) b 5)).put (some 24) (Rg.out (Rg.opsOf Try.f121 4) b 6)).put (some 25) (Rg.out (Rg.opsOf Try.f121 4) b 7)).put (some 26) (Rg.out (Rg.opsOf Try.f121 4) b 8)).put (some 27) (Rg.out (Rg.opsOf Try.f121 4) b 9)).put (some 28) (Rg.out (Rg.opsOf Try.f121 4) b 10)).put (some 29) (Rg.out (Rg.opsOf Try.f121 4) b 11)).put (some 30) (Rg.out (Rg.opsOf Try.f121 4) b 12)).put (some 31) (Rg.out (Rg.opsOf Try.f121 4) b 13)).put (some 32) (Rg.out (Rg.opsOf Try.f121 4) b 14)).put (some 33) (Rg.out (Rg.opsOf Try.f121 4) b 15)).put (some 34) (Rg.out (Rg.opsOf Try.f121 4) b 16)) := by
  have h := hf.chain
  rw [sizeUi4, show List.range 17 = [0, 1, 2, 3, 4, 5, 6, 7, 8, 9, 10, 11, 12, 13, 14, 15, 16] from by decide] at h
  simp only [List.foldl_cons, List.foldl_nil, dUi4_0, dUi4_1, dUi4_2, dUi4_3, dUi4_4, dUi4_5, dUi4_6, dUi4_7, dUi4_8, dUi4_9, dUi4_10, dUi4_11, dUi4_12, dUi4_13, dUi4_14, dUi4_15, dUi4_16] at h
  exact h
set_option maxRecDepth 20000 in
set_option maxHeartbeats 16000000 in
theorem uinsertion_any (nd : Nd) (sv : Value) (D : UE → Prop) (G c m a b : Nat) (d : List UE) (w : World) (h : SU c w G d) (hm : d.length = m) (hmm : m ≤ 100000) (hab : a ≤ b) (hb : b ≤ m) (hF : Fine (ltU nd) D d) (hK : LessU nd sv D) (hSl : SlU D) :
    Calls Try.prog 121 #[.slice (some ⟨G, 0, none⟩) m c, .int .i64 a, .int .i64 b, (.func (.func 47) #[.agg #[.int .i64 nd.p, .int .i64 nd.g, sv]] #[])] w fun e w' => e = .returned (.tuple #[]) ∧ ∃ d', SU c w' G d' ∧ PO a b d d' ∧ SO (ltU nd) a b d' ∧ Below G w w' := by
  have HH := hidden h
  have HF := hidden hF
  have HK := hidden hK
  have HM := hidden hm
  have HSl := hidden hSl
  clear h hm hF hK hSl
  go_enter Try.func121, Try.ntmps121
  go_wp2_with fail
  go_loopw [8, 9] (fun iv _ wr => ∃ (i : Nat) (d' : List UE), iv = .int .i64 i ∧ a + 1 ≤ i ∧ i ≤ b + 1 ∧ Hid (SU c wr G d') ∧ Hid (PO a b d d') ∧ Hid (SO (ltU nd) a i d') ∧ Below G w wr) (fun iv _ _ => b + 1 - (intOf iv).toNat)
  case atStart => exact ⟨a + 1, d, by simp, Nat.le_refl _, by omega, HH, PO.refl _ _ _, SO.one _ _, Below.refl _ _⟩
  case round =>
    obtain ⟨i, d', rfl, hi1, hi2, hs, hpo, hso, hbw⟩ := hrel
    by_cases hlt : i < b
    · have hlti : (i : Int) < (b : Int) := by omega
      have hdn : Hid (Down (ltU nd) a i i d') := down_start hso.out (by omega)
      clear hso
      go_wp2_with fail
      go_loopw [9] (fun jv ws => ∃ (j : Nat) (e : List UE), jv = .int .i64 j ∧ a ≤ j ∧ j ≤ i ∧ Hid (SU c ws G e) ∧ Hid (PO a b d e) ∧ Hid (Down (ltU nd) a i j e) ∧ Below G w ws) (fun jv _ => (intOf jv).toNat)
      case atStart => exact ⟨i, d', rfl, by omega, Nat.le_refl _, hs, hpo, hdn, hbw⟩
      case round =>
        clear hs hpo hdn hbw
        obtain ⟨j, e, rfl, hj1, hj2, hs, hpo, hdn, hbw⟩ := hrel
        rename World => ws
        have hFe := HF.out.po hpo.out
        have hel : e.length = m := by rw [hpo.out.len]; exact HM.out
        by_cases hz : a < j
        · obtain ⟨j', hj'⟩ : ∃ j', j' + 1 = j := ⟨j - 1, by omega⟩
          have hGl := hs.out.lt
          have hx := hs.out.at (i := j) (by omega)
          have hy := hs.out.at (i := j - 1) (by omega)
          have hw1 : IntKind.i64.wrap ((j : Int) - 1) = ((j - 1 : Nat) : Int) := by rw [IntKind.wrap_i64]; omega
          have hK2 := HK.out (at' e j) (at' e (j - 1)) (hFe.all _ (at_mem (by omega))) (hFe.all _ (at_mem (by omega)))
          have hxs := HSl.out (at' e j) (hFe.all _ (at_mem (by omega)))
          have hys := HSl.out (at' e (j - 1)) (hFe.all _ (at_mem (by omega)))
          have hkey := cmpU_lt nd (at' e j) (at' e (j - 1))
          have hup : cmpU nd (at' e j) (at' e (j - 1)) < 0 → Hid (Down (ltU nd) a i (j - 1) (Pq.sw e j (j - 1))) := fun q => by
            subst hj'
            exact down_step hdn.out (by omega) (by omega) (hkey.1 q)
          have hst : ¬ cmpU nd (at' e j) (at' e (j - 1)) < 0 → Hid (SO (ltU nd) a (i + 1) e) := fun q => down_end hFe hdn.out (by omega) (Or.inr (fun z => q (hkey.2 z)))
          have HU := hidden hup
          have HSt := hidden hst
          have HSW := hidden (fun W (hW : Below ws.heap.size ws W) => (hs.out.below hW).sw (i := j) (j := j - 1) (by omega) (by omega))
          have HPO : Hid (PO a b d (Pq.sw e j (j - 1))) := hpo.out.trans (PO.sw (by omega) (by omega) (by omega) (by omega) (by omega))
          have HX := hidden hx
          have HY := hidden hy
          clear hup hst hkey hj' hel hFe
          generalize cmpU nd (at' e j) (at' e (j - 1)) = rr at *
          generalize at' e j = x at *
          generalize at' e (j - 1) = y at *
          go_upto_region 4 with fail
          refine regUi4 (G := G) (m := m) (c := c) (x := x) (y := y) (nd := nd) (sv := sv) (rr := rr) (la := a) (j := j) rfl rfl rfl rfl rfl hGl hx hy (by omega) (by omega) hmm hz hw1 hK2 ?_
          intro b' w6 hf hb6 hv
          rw [layUi4 hf, hv]
          clear hv hf
          generalize Rg.out (Rg.opsOf Try.f121 4) b' 0 = z0
          generalize Rg.out (Rg.opsOf Try.f121 4) b' 1 = z1
          generalize Rg.out (Rg.opsOf Try.f121 4) b' 2 = z2
          generalize Rg.out (Rg.opsOf Try.f121 4) b' 3 = z3
          generalize Rg.out (Rg.opsOf Try.f121 4) b' 4 = z4
          generalize Rg.out (Rg.opsOf Try.f121 4) b' 5 = z5
          generalize Rg.out (Rg.opsOf Try.f121 4) b' 6 = z6
          generalize Rg.out (Rg.opsOf Try.f121 4) b' 7 = z7
          generalize Rg.out (Rg.opsOf Try.f121 4) b' 8 = z8
          generalize Rg.out (Rg.opsOf Try.f121 4) b' 9 = z9
          generalize Rg.out (Rg.opsOf Try.f121 4) b' 10 = z10
          generalize Rg.out (Rg.opsOf Try.f121 4) b' 11 = z11
          generalize Rg.out (Rg.opsOf Try.f121 4) b' 12 = z12
          generalize Rg.out (Rg.opsOf Try.f121 4) b' 13 = z13
          generalize Rg.out (Rg.opsOf Try.f121 4) b' 14 = z14
          generalize Rg.out (Rg.opsOf Try.f121 4) b' 15 = z15
          have hg : decide ((a : Int) < (j : Int)) = true := by simp; omega
          rw [hg, Bool.true_and]
          by_cases hr : rr < 0
          · have HV := HU.out hr
            rw [decide_eq_true hr]
            have HX6 := HX.out.below hb6 hGl
            have HY6 := HY.out.below hb6 hGl
            obtain ⟨p0, p1, p2, p3, p4, p5, p6, p7, p8, p9, p10, p11⟩ := HX6
            obtain ⟨q0, q1, q2, q3, q4, q5, q6, q7, q8, q9, q10, q11⟩ := HY6
            have hi1 : (j : Int) < (m : Int) := by omega
            have hi2 : ((j - 1 : Nat) : Int) < (m : Int) := by omega
            have HR := hidden (HSW.out w6 hb6)
            have HB := hidden (put6_below (put6_below (hbw.trans (hb6.mono (Nat.le_of_lt hGl))) (Nat.le_refl _) y (o := j * 6)) (Nat.le_refl _) x (o := (j - 1) * 6))
            clear HU HSt HX HY hx hy hK2 HSW hs hdn hbw hb6
            obtain ⟨xu, xv⟩ := x
            obtain ⟨yu, yv⟩ := y
            obtain ⟨xa, xn, xc, hx2⟩ := hxs
            obtain ⟨ya, yn, yc, hy2⟩ := hys
            dsimp only at hx2 hy2
            subst hx2 hy2
            dsimp only at p0 p1 p2 p3 p4 p5 q0 q1 q2 q3 q4 q5
            go_frame
            go_wp2_with fail
            go_region
            all_goals go_wp2_with fail
            all_goals go_roundw
            case rel => exact ⟨j - 1, Pq.sw e j (j - 1), by congr 1, by omega, by omega, HR.out.below (st_drew (Below.refl _ _)), HPO, HV, st_drew HB.out⟩
            case measure => simp [intOf]; omega
          · have HV := HSt.out hr
            rw [decide_eq_false hr]
            clear HU HSt HX HY hx hy hK2
            go_frame
            go_wp2_with fail
            go_roundw
            case rel => exact ⟨i + 1, e, by simp, by omega, by omega, hs.out.below hb6, hpo, HV, hbw.trans (hb6.mono (Nat.le_of_lt hGl))⟩
            case measure => simp [intOf]; omega
        · have hjn : j = a := by omega
          have HV : Hid (SO (ltU nd) a (i + 1) e) := down_end hFe hdn.out (by omega) (Or.inl hjn)
          have hg : decide ((a : Int) < (j : Int)) = false := by simp; omega
          clear hdn hjn hFe hel
          go_wp2_with fail
          go_quiet (fail)
          go_wp2_with fail
          go_roundw
          case rel => exact ⟨i + 1, e, by simp, by omega, by omega, hs.out.below (st_drewN (Below.refl _ _) _), hpo, HV, st_drewN hbw _⟩
          case measure => simp [intOf]; omega
    · have hlti : ¬ (i : Int) < (b : Int) := by omega
      have HV : Hid (SO (ltU nd) a b d') := fun p q h1 h2 h3 => hso.out p q h1 h2 (by omega)
      go_wp2_with fail
      go_end0
      exact ⟨rfl, d', hs.out, hpo.out, HV.out, hbw⟩
end Go.Proofs.Ytgcpiinmcbdkmaa
