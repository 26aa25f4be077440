/-
  Merged: Pk10.
-/
import Derived.Test.YtgcpiinmcbdkmaaMh12
namespace Go.Proofs.Ytgcpiinmcbdkmaa
open Go.RowKit Va Bl Pq
set_option linter.all false
def FUp3 (G m c : Nat) (x y : UE) (nd : Nd) (sv : Value) (rr : Int) (la i j : Nat) (i9 : Nat) (v : Value) (w : World) : Prop :=
  match i9 with
  | 0 => v = .int .i64 (i : Nat)
  | 1 => v = .int .i64 (j : Nat)
  | 2 => v = .bool (decide ((i : Int) ≤ (j : Int)))
  | 3 => v = .bool (decide ((i : Int) ≤ (j : Int)))
  | 4 => v = cond (true && ((decide ((i : Int) ≤ (j : Int))) == true)) (.func (.func 47) #[.agg #[.int .i64 nd.p, .int .i64 nd.g, sv]] #[]) undef
  | 5 => v = cond (true && ((decide ((i : Int) ≤ (j : Int))) == true)) (.slice (some ⟨G, 0, none⟩) m c) undef
  | 6 => v = cond (true && ((decide ((i : Int) ≤ (j : Int))) == true)) (.int .i64 (i : Nat)) undef
  | 7 => v = cond (true && ((decide ((i : Int) ≤ (j : Int))) == true)) (.pointer (some ⟨G, (i) * 6, none⟩)) undef
  | 8 => v = cond (true && ((decide ((i : Int) ≤ (j : Int))) == true)) (.agg #[.int .i64 x.1.id, .int .i64 x.1.grp, x.2, .int .i64 x.1.til, .int .i64 x.1.st, .int .i64 x.1.fr]) undef
  | 9 => v = cond (true && ((decide ((i : Int) ≤ (j : Int))) == true)) (.slice (some ⟨G, 0, none⟩) m c) undef
  | 10 => v = cond (true && ((decide ((i : Int) ≤ (j : Int))) == true)) (.int .i64 (la : Nat)) undef
  | 11 => v = cond (true && ((decide ((i : Int) ≤ (j : Int))) == true)) (.pointer (some ⟨G, (la) * 6, none⟩)) undef
  | 12 => v = cond (true && ((decide ((i : Int) ≤ (j : Int))) == true)) (.agg #[.int .i64 y.1.id, .int .i64 y.1.grp, y.2, .int .i64 y.1.til, .int .i64 y.1.st, .int .i64 y.1.fr]) undef
  | 13 => v = cond (true && ((decide ((i : Int) ≤ (j : Int))) == true)) (.int .i64 rr) undef
  | 14 => v = cond (true && ((decide ((i : Int) ≤ (j : Int))) == true)) (.bool (decide (rr < 0))) undef
  | 15 => v = .bool ((decide ((i : Int) ≤ (j : Int))) && (decide (rr < 0)))
  | _ => True
theorem sizeUp3 : (Rg.opsOf Try.f128 3).size = 16 := by kernel_rfl
set_option maxRecDepth 20000 in
set_option maxHeartbeats 8000000 in
theorem regUp3 {Q : Exit → Act → World → Prop} {a : Act} {w9 : World} {G m c : Nat} {x y : UE} {nd : Nd} {sv : Value} {rr : Int} {la i j : Nat} (ha : a.tmps.size = 178)
    (k12 : a.tmps[12]? = some (.int .i64 (i : Nat))) (k13 : a.tmps[13]? = some (.int .i64 (j : Nat))) (k1 : a.tmps[1]? = some (.int .i64 (la : Nat))) (k4 : a.tmps[4]? = some (.func (.func 47) #[.agg #[.int .i64 nd.p, .int .i64 nd.g, sv]] #[])) (k0 : a.tmps[0]? = some (.slice (some ⟨G, 0, none⟩) m c)) (hGl : G < w9.heap.size) (hx : i ≤ j → UC w9 G ((i) * 6) x) (hy : i ≤ j → UC w9 G ((la) * 6) y) (hm0 : i ≤ j → i < m) (hm1 : i ≤ j → la < m) (hmm : m ≤ 100000)   (HK : i ≤ j → ∀ W, Calls Try.prog 47 #[.agg #[.int .i64 nd.p, .int .i64 nd.g, sv], .agg #[.int .i64 x.1.id, .int .i64 x.1.grp, x.2, .int .i64 x.1.til, .int .i64 x.1.st, .int .i64 x.1.fr], .agg #[.int .i64 y.1.id, .int .i64 y.1.grp, y.2, .int .i64 y.1.til, .int .i64 y.1.st, .int .i64 y.1.fr]] W fun e w' => e = .returned (.int .i64 rr) ∧ Below W.heap.size W w')
    (hend : ∀ b' w', Rg.Fr (Rg.opsOf Try.f128 3) a b' → Below w9.heap.size w9 w' → Rg.out (Rg.opsOf Try.f128 3) b' 15 = .bool ((decide ((i : Int) ≤ (j : Int))) && (decide (rr < 0))) → Q .normal b' w') :
    (Code.region 3 (Rg.opsOf Try.f128 3) true).wp Try.prog Q a w9 := by
  refine Rg.region_set3 (by kernel_rfl) (fun _ w' => Below w9.heap.size w9 w') (FUp3 G m c x y nd sv rr la i j) (by rw [ha, sizeUp3]; kernel_rfl) (st_drew (Below.refl _ _)) ?_ ?_
  case refine_2 =>
    intro l b' w' hf hall hI hA
    rw [sizeUp3] at hA
    exact hend b' w' hf hI (hA 15 (by decide))
  case refine_1 =>
    clear hend
    have HS : ∀ {w w' : World}, Below w.heap.size w w' → ∀ k9 y9, FUp3 G m c x y nd sv rr la i j k9 y9 w → FUp3 G m c x y nd sv rr la i j k9 y9 w' := fun hb k9 y9 h => by
      unfold FUp3 at *
      split at h <;> exact h
    intro i' hi'
    rw [sizeUp3] at hi'
    rcases (show i' = 0 ∨ i' = 1 ∨ i' = 2 ∨ i' = 3 ∨ i' = 4 ∨ i' = 5 ∨ i' = 6 ∨ i' = 7 ∨ i' = 8 ∨ i' = 9 ∨ i' = 10 ∨ i' = 11 ∨ i' = 12 ∨ i' = 13 ∨ i' = 14 ∨ i' = 15 by omega) with rfl | rfl | rfl | rfl | rfl | rfl | rfl | rfl | rfl | rfl | rfl | rfl | rfl | rfl | rfl | rfl
    · intro ll bb w' hs hlf hN hO hf hI hA
      clear hi'
      have q0 := hf.kept (s := 12) (by rw [sizeUp3]; kernel_rfl) k12
      exact Rg.op_value (o := ⟨some 32, Op.move (Operand.tmp 12), _, _, _, _⟩) (x := .int .i64 (i : Nat)) rfl rfl (by clear hA HS hN hO HK hx hy hm0 hm1; simp only [execOp]; go_simp) ⟨_, rfl, (fun h => by cases h), rfl, hI, fun _ _ _ _ h => h⟩
    · intro ll bb w' hs hlf hN hO hf hI hA
      clear hi'
      have q0 := hf.kept (s := 13) (by rw [sizeUp3]; kernel_rfl) k13
      exact Rg.op_value (o := ⟨some 33, Op.move (Operand.tmp 13), _, _, _, _⟩) (x := .int .i64 (j : Nat)) rfl rfl (by clear hA HS hN hO HK hx hy hm0 hm1; simp only [execOp]; go_simp) ⟨_, rfl, (fun h => by cases h), rfl, hI, fun _ _ _ _ h => h⟩
    · intro ll bb w' hs hlf hN hO hf hI hA
      clear hi'
      have q32 : bb.tmps[32]? = some _ := hf.tmp (k := 0) rfl (by rw [ha]; decide) (hA 0 (by kernel_rfl))
      have q33 : bb.tmps[33]? = some _ := hf.tmp (k := 1) rfl (by rw [ha]; decide) (hA 1 (by kernel_rfl))
      exact Rg.op_value (o := ⟨some 34, Op.binOp BinOp.leq 3 (Operand.tmp 32) (Operand.tmp 33) 3, _, _, _, _⟩) (x := .bool (decide ((i : Int) ≤ (j : Int)))) rfl rfl (by clear hA HS hN hO HK hx hy hm0 hm1; simp only [execOp]; go_simp) ⟨_, rfl, (fun h => by cases h), rfl, hI, fun _ _ _ _ h => h⟩
    · intro ll bb w' hs hlf hN hO hf hI hA
      clear hi'
      have q34 : bb.tmps[34]? = some _ := hf.tmp (k := 2) rfl (by rw [ha]; decide) (hA 2 (by kernel_rfl))
      exact Rg.op_value (o := ⟨some 35, Op.move (Operand.tmp 34), _, _, _, _⟩) (x := .bool (decide ((i : Int) ≤ (j : Int)))) rfl rfl (by clear hA HS hN hO HK hx hy hm0 hm1; simp only [execOp]; go_simp) ⟨_, rfl, (fun h => by cases h), rfl, hI, fun _ _ _ _ h => h⟩
    · intro ll bb w' hs hlf hN hO hf hI hA
      clear hi'
      have qg : bb.tmps[35]? = some (cond true (.bool (decide ((i : Int) ≤ (j : Int)))) undef) := hf.tmp (k := 3) rfl (by rw [ha]; decide) (hA 3 (by kernel_rfl))
      cases hP : (true && ((decide ((i : Int) ≤ (j : Int))) == true)) with
      | false => exact Rg.op_none (o := ⟨some 36, _, _, _, _, _⟩) rfl (Rg.unwanted_c (g := 3) rfl rfl qg hP) ⟨_, rfl, (fun h => by cases h), Rg.cond_f hP, hI, fun _ _ _ _ h => h⟩
      | true =>
        have hw := Rg.wanted_c (ops := (Rg.opsOf Try.f128 3)) (o := (Rg.opsOf Try.f128 3)[4]'(by rw [sizeUp3]; decide)) (g := 3) rfl rfl qg hP
        have g0 := Rg.pc_r hP
        have q0 := hf.kept (s := 4) (by rw [sizeUp3]; kernel_rfl) k4
        exact Rg.op_value (o := ⟨some 36, Op.move (Operand.tmp 4), _, _, _, _⟩) (x := .func (.func 47) #[.agg #[.int .i64 nd.p, .int .i64 nd.g, sv]] #[]) rfl hw (by clear hA HS hN hO HK hx hy hm0 hm1; simp only [execOp]; go_simp) ⟨_, rfl, (fun h => by cases h), (Rg.cond_t hP).symm, hI, fun _ _ _ _ h => h⟩
    · intro ll bb w' hs hlf hN hO hf hI hA
      clear hi'
      have qg : bb.tmps[35]? = some (cond true (.bool (decide ((i : Int) ≤ (j : Int)))) undef) := hf.tmp (k := 3) rfl (by rw [ha]; decide) (hA 3 (by kernel_rfl))
      cases hP : (true && ((decide ((i : Int) ≤ (j : Int))) == true)) with
      | false => exact Rg.op_none (o := ⟨some 37, _, _, _, _, _⟩) rfl (Rg.unwanted_c (g := 3) rfl rfl qg hP) ⟨_, rfl, (fun h => by cases h), Rg.cond_f hP, hI, fun _ _ _ _ h => h⟩
      | true =>
        have hw := Rg.wanted_c (ops := (Rg.opsOf Try.f128 3)) (o := (Rg.opsOf Try.f128 3)[5]'(by rw [sizeUp3]; decide)) (g := 3) rfl rfl qg hP
        have g0 := Rg.pc_r hP
        have q0 := hf.kept (s := 0) (by rw [sizeUp3]; kernel_rfl) k0
        exact Rg.op_value (o := ⟨some 37, Op.move (Operand.tmp 0), _, _, _, _⟩) (x := .slice (some ⟨G, 0, none⟩) m c) rfl hw (by clear hA HS hN hO HK hx hy hm0 hm1; simp only [execOp]; go_simp) ⟨_, rfl, (fun h => by cases h), (Rg.cond_t hP).symm, hI, fun _ _ _ _ h => h⟩
    · intro ll bb w' hs hlf hN hO hf hI hA
      clear hi'
      have qg : bb.tmps[35]? = some (cond true (.bool (decide ((i : Int) ≤ (j : Int)))) undef) := hf.tmp (k := 3) rfl (by rw [ha]; decide) (hA 3 (by kernel_rfl))
      cases hP : (true && ((decide ((i : Int) ≤ (j : Int))) == true)) with
      | false => exact Rg.op_none (o := ⟨some 38, _, _, _, _, _⟩) rfl (Rg.unwanted_c (g := 3) rfl rfl qg hP) ⟨_, rfl, (fun h => by cases h), Rg.cond_f hP, hI, fun _ _ _ _ h => h⟩
      | true =>
        have hw := Rg.wanted_c (ops := (Rg.opsOf Try.f128 3)) (o := (Rg.opsOf Try.f128 3)[6]'(by rw [sizeUp3]; decide)) (g := 3) rfl rfl qg hP
        have g0 := Rg.pc_r hP
        have q0 := hf.kept (s := 12) (by rw [sizeUp3]; kernel_rfl) k12
        exact Rg.op_value (o := ⟨some 38, Op.move (Operand.tmp 12), _, _, _, _⟩) (x := .int .i64 (i : Nat)) rfl hw (by clear hA HS hN hO HK hx hy hm0 hm1; simp only [execOp]; go_simp) ⟨_, rfl, (fun h => by cases h), (Rg.cond_t hP).symm, hI, fun _ _ _ _ h => h⟩
    · intro ll bb w' hs hlf hN hO hf hI hA
      clear hi'
      have qg : bb.tmps[35]? = some (cond true (.bool (decide ((i : Int) ≤ (j : Int)))) undef) := hf.tmp (k := 3) rfl (by rw [ha]; decide) (hA 3 (by kernel_rfl))
      cases hP : (true && ((decide ((i : Int) ≤ (j : Int))) == true)) with
      | false => exact Rg.op_none (o := ⟨some 39, _, _, _, _, _⟩) rfl (Rg.unwanted_c (g := 3) rfl rfl qg hP) ⟨_, rfl, (fun h => by cases h), Rg.cond_f hP, hI, fun _ _ _ _ h => h⟩
      | true =>
        have hw := Rg.wanted_c (ops := (Rg.opsOf Try.f128 3)) (o := (Rg.opsOf Try.f128 3)[7]'(by rw [sizeUp3]; decide)) (g := 3) rfl rfl qg hP
        have g0 := Rg.pc_r hP
        have q37 : bb.tmps[37]? = some (.slice (some ⟨G, 0, none⟩) m c) := hf.tmp (k := 5) rfl (by rw [ha]; decide) (Eq.trans (hA 5 (by kernel_rfl)) (Rg.cond_t hP))
        have q38 : bb.tmps[38]? = some (.int .i64 (i : Nat)) := hf.tmp (k := 6) rfl (by rw [ha]; decide) (Eq.trans (hA 6 (by kernel_rfl)) (Rg.cond_t hP))
        have hgp : i ≤ j := by have q1 := g0; simp at q1; omega
        have hi9 : (((i) : Nat) : Int) < (m : Int) := by have := hm0 hgp; omega
        exact Rg.op_value (o := ⟨some 39, Op.indexAddr 24 (Operand.tmp 37) (Operand.tmp 38), _, _, _, _⟩) (x := .pointer (some ⟨G, (i) * 6, none⟩)) rfl hw (by clear hA HS hN hO HK hx hy hm0 hm1; simp only [execOp]; go_simp) ⟨_, rfl, (fun h => by cases h), (Rg.cond_t hP).symm, hI, fun _ _ _ _ h => h⟩
    · intro ll bb w' hs hlf hN hO hf hI hA
      clear hi'
      have qg : bb.tmps[35]? = some (cond true (.bool (decide ((i : Int) ≤ (j : Int)))) undef) := hf.tmp (k := 3) rfl (by rw [ha]; decide) (hA 3 (by kernel_rfl))
      cases hP : (true && ((decide ((i : Int) ≤ (j : Int))) == true)) with
      | false => exact Rg.op_none (o := ⟨some 40, _, _, _, _, _⟩) rfl (Rg.unwanted_c (g := 3) rfl rfl qg hP) ⟨_, rfl, (fun h => by cases h), Rg.cond_f hP, hI, fun _ _ _ _ h => h⟩
      | true =>
        have hw := Rg.wanted_c (ops := (Rg.opsOf Try.f128 3)) (o := (Rg.opsOf Try.f128 3)[8]'(by rw [sizeUp3]; decide)) (g := 3) rfl rfl qg hP
        have g0 := Rg.pc_r hP
        have q39 : bb.tmps[39]? = some (.pointer (some ⟨G, (i) * 6, none⟩)) := hf.tmp (k := 7) rfl (by rw [ha]; decide) (Eq.trans (hA 7 (by kernel_rfl)) (Rg.cond_t hP))
        have hgp : i ≤ j := by have q1 := g0; simp at q1; omega
        have hx9 := (hx hgp).below hI hGl
        have e0 := hx9.c0
        have e1 := hx9.c1
        have e2 := hx9.c2
        have e3 := hx9.c3
        have e4 := hx9.c4
        have e5 := hx9.c5
        exact Rg.op_value (o := ⟨some 40, Op.load 81 (Operand.tmp 39), _, _, _, _⟩) (x := .agg #[.int .i64 x.1.id, .int .i64 x.1.grp, x.2, .int .i64 x.1.til, .int .i64 x.1.st, .int .i64 x.1.fr]) rfl hw (by clear hA HS hN hO HK hx hy hm0 hm1; simp only [execOp]; go_simp) ⟨_, rfl, (fun h => by cases h), (Rg.cond_t hP).symm, hI, fun _ _ _ _ h => h⟩
    · intro ll bb w' hs hlf hN hO hf hI hA
      clear hi'
      have qg : bb.tmps[35]? = some (cond true (.bool (decide ((i : Int) ≤ (j : Int)))) undef) := hf.tmp (k := 3) rfl (by rw [ha]; decide) (hA 3 (by kernel_rfl))
      cases hP : (true && ((decide ((i : Int) ≤ (j : Int))) == true)) with
      | false => exact Rg.op_none (o := ⟨some 41, _, _, _, _, _⟩) rfl (Rg.unwanted_c (g := 3) rfl rfl qg hP) ⟨_, rfl, (fun h => by cases h), Rg.cond_f hP, hI, fun _ _ _ _ h => h⟩
      | true =>
        have hw := Rg.wanted_c (ops := (Rg.opsOf Try.f128 3)) (o := (Rg.opsOf Try.f128 3)[9]'(by rw [sizeUp3]; decide)) (g := 3) rfl rfl qg hP
        have g0 := Rg.pc_r hP
        have q0 := hf.kept (s := 0) (by rw [sizeUp3]; kernel_rfl) k0
        exact Rg.op_value (o := ⟨some 41, Op.move (Operand.tmp 0), _, _, _, _⟩) (x := .slice (some ⟨G, 0, none⟩) m c) rfl hw (by clear hA HS hN hO HK hx hy hm0 hm1; simp only [execOp]; go_simp) ⟨_, rfl, (fun h => by cases h), (Rg.cond_t hP).symm, hI, fun _ _ _ _ h => h⟩
    · intro ll bb w' hs hlf hN hO hf hI hA
      clear hi'
      have qg : bb.tmps[35]? = some (cond true (.bool (decide ((i : Int) ≤ (j : Int)))) undef) := hf.tmp (k := 3) rfl (by rw [ha]; decide) (hA 3 (by kernel_rfl))
      cases hP : (true && ((decide ((i : Int) ≤ (j : Int))) == true)) with
      | false => exact Rg.op_none (o := ⟨some 42, _, _, _, _, _⟩) rfl (Rg.unwanted_c (g := 3) rfl rfl qg hP) ⟨_, rfl, (fun h => by cases h), Rg.cond_f hP, hI, fun _ _ _ _ h => h⟩
      | true =>
        have hw := Rg.wanted_c (ops := (Rg.opsOf Try.f128 3)) (o := (Rg.opsOf Try.f128 3)[10]'(by rw [sizeUp3]; decide)) (g := 3) rfl rfl qg hP
        have g0 := Rg.pc_r hP
        have q0 := hf.kept (s := 1) (by rw [sizeUp3]; kernel_rfl) k1
        exact Rg.op_value (o := ⟨some 42, Op.move (Operand.tmp 1), _, _, _, _⟩) (x := .int .i64 (la : Nat)) rfl hw (by clear hA HS hN hO HK hx hy hm0 hm1; simp only [execOp]; go_simp) ⟨_, rfl, (fun h => by cases h), (Rg.cond_t hP).symm, hI, fun _ _ _ _ h => h⟩
    · intro ll bb w' hs hlf hN hO hf hI hA
      clear hi'
      have qg : bb.tmps[35]? = some (cond true (.bool (decide ((i : Int) ≤ (j : Int)))) undef) := hf.tmp (k := 3) rfl (by rw [ha]; decide) (hA 3 (by kernel_rfl))
      cases hP : (true && ((decide ((i : Int) ≤ (j : Int))) == true)) with
      | false => exact Rg.op_none (o := ⟨some 43, _, _, _, _, _⟩) rfl (Rg.unwanted_c (g := 3) rfl rfl qg hP) ⟨_, rfl, (fun h => by cases h), Rg.cond_f hP, hI, fun _ _ _ _ h => h⟩
      | true =>
        have hw := Rg.wanted_c (ops := (Rg.opsOf Try.f128 3)) (o := (Rg.opsOf Try.f128 3)[11]'(by rw [sizeUp3]; decide)) (g := 3) rfl rfl qg hP
        have g0 := Rg.pc_r hP
        have q41 : bb.tmps[41]? = some (.slice (some ⟨G, 0, none⟩) m c) := hf.tmp (k := 9) rfl (by rw [ha]; decide) (Eq.trans (hA 9 (by kernel_rfl)) (Rg.cond_t hP))
        have q42 : bb.tmps[42]? = some (.int .i64 (la : Nat)) := hf.tmp (k := 10) rfl (by rw [ha]; decide) (Eq.trans (hA 10 (by kernel_rfl)) (Rg.cond_t hP))
        have hgp : i ≤ j := by have q1 := g0; simp at q1; omega
        have hi9 : (((la) : Nat) : Int) < (m : Int) := by have := hm1 hgp; omega
        exact Rg.op_value (o := ⟨some 43, Op.indexAddr 24 (Operand.tmp 41) (Operand.tmp 42), _, _, _, _⟩) (x := .pointer (some ⟨G, (la) * 6, none⟩)) rfl hw (by clear hA HS hN hO HK hx hy hm0 hm1; simp only [execOp]; go_simp) ⟨_, rfl, (fun h => by cases h), (Rg.cond_t hP).symm, hI, fun _ _ _ _ h => h⟩
    · intro ll bb w' hs hlf hN hO hf hI hA
      clear hi'
      have qg : bb.tmps[35]? = some (cond true (.bool (decide ((i : Int) ≤ (j : Int)))) undef) := hf.tmp (k := 3) rfl (by rw [ha]; decide) (hA 3 (by kernel_rfl))
      cases hP : (true && ((decide ((i : Int) ≤ (j : Int))) == true)) with
      | false => exact Rg.op_none (o := ⟨some 44, _, _, _, _, _⟩) rfl (Rg.unwanted_c (g := 3) rfl rfl qg hP) ⟨_, rfl, (fun h => by cases h), Rg.cond_f hP, hI, fun _ _ _ _ h => h⟩
      | true =>
        have hw := Rg.wanted_c (ops := (Rg.opsOf Try.f128 3)) (o := (Rg.opsOf Try.f128 3)[12]'(by rw [sizeUp3]; decide)) (g := 3) rfl rfl qg hP
        have g0 := Rg.pc_r hP
        have q43 : bb.tmps[43]? = some (.pointer (some ⟨G, (la) * 6, none⟩)) := hf.tmp (k := 11) rfl (by rw [ha]; decide) (Eq.trans (hA 11 (by kernel_rfl)) (Rg.cond_t hP))
        have hgp : i ≤ j := by have q1 := g0; simp at q1; omega
        have hx9 := (hy hgp).below hI hGl
        have e0 := hx9.c0
        have e1 := hx9.c1
        have e2 := hx9.c2
        have e3 := hx9.c3
        have e4 := hx9.c4
        have e5 := hx9.c5
        exact Rg.op_value (o := ⟨some 44, Op.load 81 (Operand.tmp 43), _, _, _, _⟩) (x := .agg #[.int .i64 y.1.id, .int .i64 y.1.grp, y.2, .int .i64 y.1.til, .int .i64 y.1.st, .int .i64 y.1.fr]) rfl hw (by clear hA HS hN hO HK hx hy hm0 hm1; simp only [execOp]; go_simp) ⟨_, rfl, (fun h => by cases h), (Rg.cond_t hP).symm, hI, fun _ _ _ _ h => h⟩
    · intro ll bb w' hs hlf hN hO hf hI hA
      clear hi'
      have qg : bb.tmps[35]? = some (cond true (.bool (decide ((i : Int) ≤ (j : Int)))) undef) := hf.tmp (k := 3) rfl (by rw [ha]; decide) (hA 3 (by kernel_rfl))
      cases hP : (true && ((decide ((i : Int) ≤ (j : Int))) == true)) with
      | false => exact Rg.op_none (o := ⟨some 45, _, _, _, _, _⟩) rfl (Rg.unwanted_c (g := 3) rfl rfl qg hP) ⟨_, rfl, (fun h => by cases h), Rg.cond_f hP, hI, fun _ _ _ _ h => h⟩
      | true =>
        have hw := Rg.wanted_c (ops := (Rg.opsOf Try.f128 3)) (o := (Rg.opsOf Try.f128 3)[13]'(by rw [sizeUp3]; decide)) (g := 3) rfl rfl qg hP
        have g0 := Rg.pc_r hP
        have q36 : bb.tmps[36]? = some (.func (.func 47) #[.agg #[.int .i64 nd.p, .int .i64 nd.g, sv]] #[]) := hf.tmp (k := 4) rfl (by rw [ha]; decide) (Eq.trans (hA 4 (by kernel_rfl)) (Rg.cond_t hP))
        have q40 : bb.tmps[40]? = some (.agg #[.int .i64 x.1.id, .int .i64 x.1.grp, x.2, .int .i64 x.1.til, .int .i64 x.1.st, .int .i64 x.1.fr]) := hf.tmp (k := 8) rfl (by rw [ha]; decide) (Eq.trans (hA 8 (by kernel_rfl)) (Rg.cond_t hP))
        have q44 : bb.tmps[44]? = some (.agg #[.int .i64 y.1.id, .int .i64 y.1.grp, y.2, .int .i64 y.1.til, .int .i64 y.1.st, .int .i64 y.1.fr]) := hf.tmp (k := 12) rfl (by rw [ha]; decide) (Eq.trans (hA 12 (by kernel_rfl)) (Rg.cond_t hP))
        have hgp : i ≤ j := by have q1 := g0; simp at q1; omega
        refine Rg.op_call (o := ⟨some 45, Op.call { callee := Callee.value (Operand.tmp 36), args := #[(Operand.tmp 40), (Operand.tmp 44)], argTypes := _ }, _, _, _, _⟩) rfl hw (by clear hA HS hN hO HK hx hy hm0 hm1; simp only [execOp, resolve]; go_simp) (HK hgp w') ?_
        rintro e w2 ⟨rfl, hb2⟩
        exact ⟨_, rfl, _, rfl, (fun h => by cases h), (Rg.cond_t hP).symm, onto hI hb2, fun k9 y9 _ _ h => HS hb2 k9 y9 h⟩
    · intro ll bb w' hs hlf hN hO hf hI hA
      clear hi'
      have qg : bb.tmps[35]? = some (cond true (.bool (decide ((i : Int) ≤ (j : Int)))) undef) := hf.tmp (k := 3) rfl (by rw [ha]; decide) (hA 3 (by kernel_rfl))
      cases hP : (true && ((decide ((i : Int) ≤ (j : Int))) == true)) with
      | false => exact Rg.op_none (o := ⟨some 46, _, _, _, _, _⟩) rfl (Rg.unwanted_c (g := 3) rfl rfl qg hP) ⟨_, rfl, (fun h => by cases h), Rg.cond_f hP, hI, fun _ _ _ _ h => h⟩
      | true =>
        have hw := Rg.wanted_c (ops := (Rg.opsOf Try.f128 3)) (o := (Rg.opsOf Try.f128 3)[14]'(by rw [sizeUp3]; decide)) (g := 3) rfl rfl qg hP
        have g0 := Rg.pc_r hP
        have q45 : bb.tmps[45]? = some (.int .i64 rr) := hf.tmp (k := 13) rfl (by rw [ha]; decide) (Eq.trans (hA 13 (by kernel_rfl)) (Rg.cond_t hP))
        exact Rg.op_value (o := ⟨some 46, Op.binOp BinOp.lss 3 (Operand.tmp 45) (Operand.const (Value.int .i64 0)) 3, _, _, _, _⟩) (x := .bool (decide (rr < 0))) rfl hw (by clear hA HS hN hO HK hx hy hm0 hm1; simp only [execOp]; go_simp) ⟨_, rfl, (fun h => by cases h), (Rg.cond_t hP).symm, hI, fun _ _ _ _ h => h⟩
    · intro ll bb w' hs hlf hN hO hf hI hA
      clear hi'
      have q35 : bb.tmps[35]? = some _ := hf.tmp (k := 3) rfl (by rw [ha]; decide) (hA 3 (by kernel_rfl))
      cases hC : (decide ((i : Int) ≤ (j : Int))) with
      | false =>
        have hval : ((.bool ((decide ((i : Int) ≤ (j : Int))) && (decide (rr < 0))) : Value)) = .bool false := by rw [hC]; rfl
        exact Rg.op_value (o := ⟨some 47, Op.pick (Operand.tmp 35) (Operand.tmp 46) (Operand.const (Value.bool false)), _, _, _, _⟩) (x := .bool false) rfl rfl (by rw [hC] at q35; clear hA HS hN hO HK hx hy hm0 hm1 hval; simp only [execOp]; go_simp) ⟨_, rfl, (fun h => by cases h), (by show ((.bool false : Value)) = _; first | exact hval.symm | rfl), hI, fun _ _ _ _ h => h⟩
      | true =>
        have hB : (true && ((decide ((i : Int) ≤ (j : Int))) == true)) = true := by rw [hC]; rfl
        have q46 : bb.tmps[46]? = some (.bool (decide (rr < 0))) := hf.tmp (k := 14) rfl (by rw [ha]; decide) (Eq.trans (hA 14 (by kernel_rfl)) (Rg.cond_t hB))
        have hval : ((.bool ((decide ((i : Int) ≤ (j : Int))) && (decide (rr < 0))) : Value)) = .bool (decide (rr < 0)) := by rw [hC]; rfl
        exact Rg.op_value (o := ⟨some 47, Op.pick (Operand.tmp 35) (Operand.tmp 46) (Operand.const (Value.bool false)), _, _, _, _⟩) (x := .bool (decide (rr < 0))) rfl rfl (by rw [hC] at q35; clear hA HS hN hO HK hx hy hm0 hm1 hval; simp only [execOp]; go_simp) ⟨_, rfl, (fun h => by cases h), (by show ((.bool (decide (rr < 0)) : Value)) = _; first | exact hval.symm | rfl), hI, fun _ _ _ _ h => h⟩
theorem dUp3_0 : Rg.dstAt (Rg.opsOf Try.f128 3) 0 = some 32 := by kernel_rfl
theorem dUp3_1 : Rg.dstAt (Rg.opsOf Try.f128 3) 1 = some 33 := by kernel_rfl
theorem dUp3_2 : Rg.dstAt (Rg.opsOf Try.f128 3) 2 = some 34 := by kernel_rfl
theorem dUp3_3 : Rg.dstAt (Rg.opsOf Try.f128 3) 3 = some 35 := by kernel_rfl
theorem dUp3_4 : Rg.dstAt (Rg.opsOf Try.f128 3) 4 = some 36 := by kernel_rfl
theorem dUp3_5 : Rg.dstAt (Rg.opsOf Try.f128 3) 5 = some 37 := by kernel_rfl
theorem dUp3_6 : Rg.dstAt (Rg.opsOf Try.f128 3) 6 = some 38 := by kernel_rfl
theorem dUp3_7 : Rg.dstAt (Rg.opsOf Try.f128 3) 7 = some 39 := by kernel_rfl
theorem dUp3_8 : Rg.dstAt (Rg.opsOf Try.f128 3) 8 = some 40 := by kernel_rfl
theorem dUp3_9 : Rg.dstAt (Rg.opsOf Try.f128 3) 9 = some 41 := by kernel_rfl
theorem dUp3_10 : Rg.dstAt (Rg.opsOf Try.f128 3) 10 = some 42 := by kernel_rfl
theorem dUp3_11 : Rg.dstAt (Rg.opsOf Try.f128 3) 11 = some 43 := by kernel_rfl
theorem dUp3_12 : Rg.dstAt (Rg.opsOf Try.f128 3) 12 = some 44 := by kernel_rfl
theorem dUp3_13 : Rg.dstAt (Rg.opsOf Try.f128 3) 13 = some 45 := by kernel_rfl
theorem dUp3_14 : Rg.dstAt (Rg.opsOf Try.f128 3) 14 = some 46 := by kernel_rfl
theorem dUp3_15 : Rg.dstAt (Rg.opsOf Try.f128 3) 15 = some 47 := by kernel_rfl
theorem layUp3 {a b : Act} (hf : Rg.Fr (Rg.opsOf Try.f128 3) a b) : b = ((((((((((((((((a.put (some 32) (Rg.out (Rg.opsOf Try.f128 3) b 0)).put (some 33) (Rg.out (Rg.opsOf Try.f128 3) b 1)).put (some 34) (Rg.out (Rg.opsOf Try.f128 3) b 2)).put (some 35) (Rg.out (Rg.opsOf Try.f128 3) b 3)).put (some 36) (Rg.out (Rg.opsOf Try.f128 3) b 4)).put (some 37) (Rg.out (Rg.opsOf Try.f128 3) b 5)).put (some 38) (Rg.out (Rg.opsOf Try.f128 3) b 6)).put (some 39) (Rg.out (Rg.opsOf Try.f128 3) b 7)).put (some 40) (Rg.out (Rg.opsOf Try.f128 3) b 8)).put (some 41) (Rg.out (Rg.opsOf Try.f128 3) b 9)).put (some 42) (Rg.out (Rg.opsOf Try.f128 3) b 10)).put (some 43) (Rg.out (Rg.opsOf Try.f128 3) b 11)).put (some 44) (Rg.out (Rg.opsOf Try.f128 3) b 12)).put (some 45) (Rg.out (Rg.opsOf Try.f128 3) b 13)).put (some 46) (Rg.out (Rg.opsOf Try.f128 3) b 14)).put (some 47) (Rg.out (Rg.opsOf Try.f128 3) b 15)) := by
  have h := hf.chain
  rw [sizeUp3, show List.range 16 = [0, 1, 2, 3, 4, 5, 6, 7, 8, 9, 10, 11, 12, 13, 14, 15] from by decide] at h
  simp only [List.foldl_cons, List.foldl_nil, dUp3_0, dUp3_1, dUp3_2, dUp3_3, dUp3_4, dUp3_5, dUp3_6, dUp3_7, dUp3_8, dUp3_9, dUp3_10, dUp3_11, dUp3_12, dUp3_13, dUp3_14, dUp3_15] at h
  exact h
def FUp5 (G m c : Nat) (x y : UE) (nd : Nd) (sv : Value) (rr : Int) (la i j : Nat) (i9 : Nat) (v : Value) (w : World) : Prop :=
  match i9 with
  | 0 => v = .int .i64 (i : Nat)
  | 1 => v = .int .i64 (j : Nat)
  | 2 => v = .bool (decide ((i : Int) ≤ (j : Int)))
  | 3 => v = .bool (decide ((i : Int) ≤ (j : Int)))
  | 4 => v = cond (true && ((decide ((i : Int) ≤ (j : Int))) == true)) (.func (.func 47) #[.agg #[.int .i64 nd.p, .int .i64 nd.g, sv]] #[]) undef
  | 5 => v = cond (true && ((decide ((i : Int) ≤ (j : Int))) == true)) (.slice (some ⟨G, 0, none⟩) m c) undef
  | 6 => v = cond (true && ((decide ((i : Int) ≤ (j : Int))) == true)) (.int .i64 (j : Nat)) undef
  | 7 => v = cond (true && ((decide ((i : Int) ≤ (j : Int))) == true)) (.pointer (some ⟨G, (j) * 6, none⟩)) undef
  | 8 => v = cond (true && ((decide ((i : Int) ≤ (j : Int))) == true)) (.agg #[.int .i64 x.1.id, .int .i64 x.1.grp, x.2, .int .i64 x.1.til, .int .i64 x.1.st, .int .i64 x.1.fr]) undef
  | 9 => v = cond (true && ((decide ((i : Int) ≤ (j : Int))) == true)) (.slice (some ⟨G, 0, none⟩) m c) undef
  | 10 => v = cond (true && ((decide ((i : Int) ≤ (j : Int))) == true)) (.int .i64 (la : Nat)) undef
  | 11 => v = cond (true && ((decide ((i : Int) ≤ (j : Int))) == true)) (.pointer (some ⟨G, (la) * 6, none⟩)) undef
  | 12 => v = cond (true && ((decide ((i : Int) ≤ (j : Int))) == true)) (.agg #[.int .i64 y.1.id, .int .i64 y.1.grp, y.2, .int .i64 y.1.til, .int .i64 y.1.st, .int .i64 y.1.fr]) undef
  | 13 => v = cond (true && ((decide ((i : Int) ≤ (j : Int))) == true)) (.int .i64 rr) undef
  | 14 => v = cond (true && ((decide ((i : Int) ≤ (j : Int))) == true)) (.bool (decide (rr < 0))) undef
  | 15 => v = cond (true && ((decide ((i : Int) ≤ (j : Int))) == true)) (.bool (!(decide (rr < 0)))) undef
  | 16 => v = .bool ((decide ((i : Int) ≤ (j : Int))) && (!(decide (rr < 0))))
  | _ => True
theorem sizeUp5 : (Rg.opsOf Try.f128 5).size = 17 := by kernel_rfl
set_option maxRecDepth 20000 in
set_option maxHeartbeats 8000000 in
theorem regUp5 {Q : Exit → Act → World → Prop} {a : Act} {w9 : World} {G m c : Nat} {x y : UE} {nd : Nd} {sv : Value} {rr : Int} {la i j : Nat} (ha : a.tmps.size = 178)
    (k12 : a.tmps[12]? = some (.int .i64 (i : Nat))) (k13 : a.tmps[13]? = some (.int .i64 (j : Nat))) (k1 : a.tmps[1]? = some (.int .i64 (la : Nat))) (k4 : a.tmps[4]? = some (.func (.func 47) #[.agg #[.int .i64 nd.p, .int .i64 nd.g, sv]] #[])) (k0 : a.tmps[0]? = some (.slice (some ⟨G, 0, none⟩) m c)) (hGl : G < w9.heap.size) (hx : i ≤ j → UC w9 G ((j) * 6) x) (hy : i ≤ j → UC w9 G ((la) * 6) y) (hm0 : i ≤ j → j < m) (hm1 : i ≤ j → la < m) (hmm : m ≤ 100000)   (HK : i ≤ j → ∀ W, Calls Try.prog 47 #[.agg #[.int .i64 nd.p, .int .i64 nd.g, sv], .agg #[.int .i64 x.1.id, .int .i64 x.1.grp, x.2, .int .i64 x.1.til, .int .i64 x.1.st, .int .i64 x.1.fr], .agg #[.int .i64 y.1.id, .int .i64 y.1.grp, y.2, .int .i64 y.1.til, .int .i64 y.1.st, .int .i64 y.1.fr]] W fun e w' => e = .returned (.int .i64 rr) ∧ Below W.heap.size W w')
    (hend : ∀ b' w', Rg.Fr (Rg.opsOf Try.f128 5) a b' → Below w9.heap.size w9 w' → Rg.out (Rg.opsOf Try.f128 5) b' 16 = .bool ((decide ((i : Int) ≤ (j : Int))) && (!(decide (rr < 0)))) → Q .normal b' w') :
    (Code.region 5 (Rg.opsOf Try.f128 5) true).wp Try.prog Q a w9 := by
  refine Rg.region_set3 (by kernel_rfl) (fun _ w' => Below w9.heap.size w9 w') (FUp5 G m c x y nd sv rr la i j) (by rw [ha, sizeUp5]; kernel_rfl) (st_drew (Below.refl _ _)) ?_ ?_
  case refine_2 =>
    intro l b' w' hf hall hI hA
    rw [sizeUp5] at hA
    exact hend b' w' hf hI (hA 16 (by decide))
  case refine_1 =>
    clear hend
    have HS : ∀ {w w' : World}, Below w.heap.size w w' → ∀ k9 y9, FUp5 G m c x y nd sv rr la i j k9 y9 w → FUp5 G m c x y nd sv rr la i j k9 y9 w' := fun hb k9 y9 h => by
      unfold FUp5 at *
      split at h <;> exact h
    intro i' hi'
    rw [sizeUp5] at hi'
    rcases (show i' = 0 ∨ i' = 1 ∨ i' = 2 ∨ i' = 3 ∨ i' = 4 ∨ i' = 5 ∨ i' = 6 ∨ i' = 7 ∨ i' = 8 ∨ i' = 9 ∨ i' = 10 ∨ i' = 11 ∨ i' = 12 ∨ i' = 13 ∨ i' = 14 ∨ i' = 15 ∨ i' = 16 by omega) with rfl | rfl | rfl | rfl | rfl | rfl | rfl | rfl | rfl | rfl | rfl | rfl | rfl | rfl | rfl | rfl | rfl
    · intro ll bb w' hs hlf hN hO hf hI hA
      clear hi'
      have q0 := hf.kept (s := 12) (by rw [sizeUp5]; kernel_rfl) k12
      exact Rg.op_value (o := ⟨some 50, Op.move (Operand.tmp 12), _, _, _, _⟩) (x := .int .i64 (i : Nat)) rfl rfl (by clear hA HS hN hO HK hx hy hm0 hm1; simp only [execOp]; go_simp) ⟨_, rfl, (fun h => by cases h), rfl, hI, fun _ _ _ _ h => h⟩
    · intro ll bb w' hs hlf hN hO hf hI hA
      clear hi'
      have q0 := hf.kept (s := 13) (by rw [sizeUp5]; kernel_rfl) k13
      exact Rg.op_value (o := ⟨some 51, Op.move (Operand.tmp 13), _, _, _, _⟩) (x := .int .i64 (j : Nat)) rfl rfl (by clear hA HS hN hO HK hx hy hm0 hm1; simp only [execOp]; go_simp) ⟨_, rfl, (fun h => by cases h), rfl, hI, fun _ _ _ _ h => h⟩
    · intro ll bb w' hs hlf hN hO hf hI hA
      clear hi'
      have q50 : bb.tmps[50]? = some _ := hf.tmp (k := 0) rfl (by rw [ha]; decide) (hA 0 (by kernel_rfl))
      have q51 : bb.tmps[51]? = some _ := hf.tmp (k := 1) rfl (by rw [ha]; decide) (hA 1 (by kernel_rfl))
      exact Rg.op_value (o := ⟨some 52, Op.binOp BinOp.leq 3 (Operand.tmp 50) (Operand.tmp 51) 3, _, _, _, _⟩) (x := .bool (decide ((i : Int) ≤ (j : Int)))) rfl rfl (by clear hA HS hN hO HK hx hy hm0 hm1; simp only [execOp]; go_simp) ⟨_, rfl, (fun h => by cases h), rfl, hI, fun _ _ _ _ h => h⟩
    · intro ll bb w' hs hlf hN hO hf hI hA
      clear hi'
      have q52 : bb.tmps[52]? = some _ := hf.tmp (k := 2) rfl (by rw [ha]; decide) (hA 2 (by kernel_rfl))
      exact Rg.op_value (o := ⟨some 53, Op.move (Operand.tmp 52), _, _, _, _⟩) (x := .bool (decide ((i : Int) ≤ (j : Int)))) rfl rfl (by clear hA HS hN hO HK hx hy hm0 hm1; simp only [execOp]; go_simp) ⟨_, rfl, (fun h => by cases h), rfl, hI, fun _ _ _ _ h => h⟩
    · intro ll bb w' hs hlf hN hO hf hI hA
      clear hi'
      have qg : bb.tmps[53]? = some (cond true (.bool (decide ((i : Int) ≤ (j : Int)))) undef) := hf.tmp (k := 3) rfl (by rw [ha]; decide) (hA 3 (by kernel_rfl))
      cases hP : (true && ((decide ((i : Int) ≤ (j : Int))) == true)) with
      | false => exact Rg.op_none (o := ⟨some 54, _, _, _, _, _⟩) rfl (Rg.unwanted_c (g := 3) rfl rfl qg hP) ⟨_, rfl, (fun h => by cases h), Rg.cond_f hP, hI, fun _ _ _ _ h => h⟩
      | true =>
        have hw := Rg.wanted_c (ops := (Rg.opsOf Try.f128 5)) (o := (Rg.opsOf Try.f128 5)[4]'(by rw [sizeUp5]; decide)) (g := 3) rfl rfl qg hP
        have g0 := Rg.pc_r hP
        have q0 := hf.kept (s := 4) (by rw [sizeUp5]; kernel_rfl) k4
        exact Rg.op_value (o := ⟨some 54, Op.move (Operand.tmp 4), _, _, _, _⟩) (x := .func (.func 47) #[.agg #[.int .i64 nd.p, .int .i64 nd.g, sv]] #[]) rfl hw (by clear hA HS hN hO HK hx hy hm0 hm1; simp only [execOp]; go_simp) ⟨_, rfl, (fun h => by cases h), (Rg.cond_t hP).symm, hI, fun _ _ _ _ h => h⟩
    · intro ll bb w' hs hlf hN hO hf hI hA
      clear hi'
      have qg : bb.tmps[53]? = some (cond true (.bool (decide ((i : Int) ≤ (j : Int)))) undef) := hf.tmp (k := 3) rfl (by rw [ha]; decide) (hA 3 (by kernel_rfl))
      cases hP : (true && ((decide ((i : Int) ≤ (j : Int))) == true)) with
      | false => exact Rg.op_none (o := ⟨some 55, _, _, _, _, _⟩) rfl (Rg.unwanted_c (g := 3) rfl rfl qg hP) ⟨_, rfl, (fun h => by cases h), Rg.cond_f hP, hI, fun _ _ _ _ h => h⟩
      | true =>
        have hw := Rg.wanted_c (ops := (Rg.opsOf Try.f128 5)) (o := (Rg.opsOf Try.f128 5)[5]'(by rw [sizeUp5]; decide)) (g := 3) rfl rfl qg hP
        have g0 := Rg.pc_r hP
        have q0 := hf.kept (s := 0) (by rw [sizeUp5]; kernel_rfl) k0
        exact Rg.op_value (o := ⟨some 55, Op.move (Operand.tmp 0), _, _, _, _⟩) (x := .slice (some ⟨G, 0, none⟩) m c) rfl hw (by clear hA HS hN hO HK hx hy hm0 hm1; simp only [execOp]; go_simp) ⟨_, rfl, (fun h => by cases h), (Rg.cond_t hP).symm, hI, fun _ _ _ _ h => h⟩
    · intro ll bb w' hs hlf hN hO hf hI hA
      clear hi'
      have qg : bb.tmps[53]? = some (cond true (.bool (decide ((i : Int) ≤ (j : Int)))) undef) := hf.tmp (k := 3) rfl (by rw [ha]; decide) (hA 3 (by kernel_rfl))
      cases hP : (true && ((decide ((i : Int) ≤ (j : Int))) == true)) with
      | false => exact Rg.op_none (o := ⟨some 56, _, _, _, _, _⟩) rfl (Rg.unwanted_c (g := 3) rfl rfl qg hP) ⟨_, rfl, (fun h => by cases h), Rg.cond_f hP, hI, fun _ _ _ _ h => h⟩
      | true =>
        have hw := Rg.wanted_c (ops := (Rg.opsOf Try.f128 5)) (o := (Rg.opsOf Try.f128 5)[6]'(by rw [sizeUp5]; decide)) (g := 3) rfl rfl qg hP
        have g0 := Rg.pc_r hP
        have q0 := hf.kept (s := 13) (by rw [sizeUp5]; kernel_rfl) k13
        exact Rg.op_value (o := ⟨some 56, Op.move (Operand.tmp 13), _, _, _, _⟩) (x := .int .i64 (j : Nat)) rfl hw (by clear hA HS hN hO HK hx hy hm0 hm1; simp only [execOp]; go_simp) ⟨_, rfl, (fun h => by cases h), (Rg.cond_t hP).symm, hI, fun _ _ _ _ h => h⟩
    · intro ll bb w' hs hlf hN hO hf hI hA
      clear hi'
      have qg : bb.tmps[53]? = some (cond true (.bool (decide ((i : Int) ≤ (j : Int)))) undef) := hf.tmp (k := 3) rfl (by rw [ha]; decide) (hA 3 (by kernel_rfl))
      cases hP : (true && ((decide ((i : Int) ≤ (j : Int))) == true)) with
      | false => exact Rg.op_none (o := ⟨some 57, _, _, _, _, _⟩) rfl (Rg.unwanted_c (g := 3) rfl rfl qg hP) ⟨_, rfl, (fun h => by cases h), Rg.cond_f hP, hI, fun _ _ _ _ h => h⟩
      | true =>
        have hw := Rg.wanted_c (ops := (Rg.opsOf Try.f128 5)) (o := (Rg.opsOf Try.f128 5)[7]'(by rw [sizeUp5]; decide)) (g := 3) rfl rfl qg hP
        have g0 := Rg.pc_r hP
        have q55 : bb.tmps[55]? = some (.slice (some ⟨G, 0, none⟩) m c) := hf.tmp (k := 5) rfl (by rw [ha]; decide) (Eq.trans (hA 5 (by kernel_rfl)) (Rg.cond_t hP))
        have q56 : bb.tmps[56]? = some (.int .i64 (j : Nat)) := hf.tmp (k := 6) rfl (by rw [ha]; decide) (Eq.trans (hA 6 (by kernel_rfl)) (Rg.cond_t hP))
        have hgp : i ≤ j := by have q1 := g0; simp at q1; omega
        have hi9 : (((j) : Nat) : Int) < (m : Int) := by have := hm0 hgp; omega
        exact Rg.op_value (o := ⟨some 57, Op.indexAddr 24 (Operand.tmp 55) (Operand.tmp 56), _, _, _, _⟩) (x := .pointer (some ⟨G, (j) * 6, none⟩)) rfl hw (by clear hA HS hN hO HK hx hy hm0 hm1; simp only [execOp]; go_simp) ⟨_, rfl, (fun h => by cases h), (Rg.cond_t hP).symm, hI, fun _ _ _ _ h => h⟩
    · intro ll bb w' hs hlf hN hO hf hI hA
      clear hi'
      have qg : bb.tmps[53]? = some (cond true (.bool (decide ((i : Int) ≤ (j : Int)))) undef) := hf.tmp (k := 3) rfl (by rw [ha]; decide) (hA 3 (by kernel_rfl))
      cases hP : (true && ((decide ((i : Int) ≤ (j : Int))) == true)) with
      | false => exact Rg.op_none (o := ⟨some 58, _, _, _, _, _⟩) rfl (Rg.unwanted_c (g := 3) rfl rfl qg hP) ⟨_, rfl, (fun h => by cases h), Rg.cond_f hP, hI, fun _ _ _ _ h => h⟩
      | true =>
        have hw := Rg.wanted_c (ops := (Rg.opsOf Try.f128 5)) (o := (Rg.opsOf Try.f128 5)[8]'(by rw [sizeUp5]; decide)) (g := 3) rfl rfl qg hP
        have g0 := Rg.pc_r hP
        have q57 : bb.tmps[57]? = some (.pointer (some ⟨G, (j) * 6, none⟩)) := hf.tmp (k := 7) rfl (by rw [ha]; decide) (Eq.trans (hA 7 (by kernel_rfl)) (Rg.cond_t hP))
        have hgp : i ≤ j := by have q1 := g0; simp at q1; omega
        have hx9 := (hx hgp).below hI hGl
        have e0 := hx9.c0
        have e1 := hx9.c1
        have e2 := hx9.c2
        have e3 := hx9.c3
        have e4 := hx9.c4
        have e5 := hx9.c5
        exact Rg.op_value (o := ⟨some 58, Op.load 81 (Operand.tmp 57), _, _, _, _⟩) (x := .agg #[.int .i64 x.1.id, .int .i64 x.1.grp, x.2, .int .i64 x.1.til, .int .i64 x.1.st, .int .i64 x.1.fr]) rfl hw (by clear hA HS hN hO HK hx hy hm0 hm1; simp only [execOp]; go_simp) ⟨_, rfl, (fun h => by cases h), (Rg.cond_t hP).symm, hI, fun _ _ _ _ h => h⟩
    · intro ll bb w' hs hlf hN hO hf hI hA
      clear hi'
      have qg : bb.tmps[53]? = some (cond true (.bool (decide ((i : Int) ≤ (j : Int)))) undef) := hf.tmp (k := 3) rfl (by rw [ha]; decide) (hA 3 (by kernel_rfl))
      cases hP : (true && ((decide ((i : Int) ≤ (j : Int))) == true)) with
      | false => exact Rg.op_none (o := ⟨some 59, _, _, _, _, _⟩) rfl (Rg.unwanted_c (g := 3) rfl rfl qg hP) ⟨_, rfl, (fun h => by cases h), Rg.cond_f hP, hI, fun _ _ _ _ h => h⟩
      | true =>
        have hw := Rg.wanted_c (ops := (Rg.opsOf Try.f128 5)) (o := (Rg.opsOf Try.f128 5)[9]'(by rw [sizeUp5]; decide)) (g := 3) rfl rfl qg hP
        have g0 := Rg.pc_r hP
        have q0 := hf.kept (s := 0) (by rw [sizeUp5]; kernel_rfl) k0
        exact Rg.op_value (o := ⟨some 59, Op.move (Operand.tmp 0), _, _, _, _⟩) (x := .slice (some ⟨G, 0, none⟩) m c) rfl hw (by clear hA HS hN hO HK hx hy hm0 hm1; simp only [execOp]; go_simp) ⟨_, rfl, (fun h => by cases h), (Rg.cond_t hP).symm, hI, fun _ _ _ _ h => h⟩
    · intro ll bb w' hs hlf hN hO hf hI hA
      clear hi'
      have qg : bb.tmps[53]? = some (cond true (.bool (decide ((i : Int) ≤ (j : Int)))) undef) := hf.tmp (k := 3) rfl (by rw [ha]; decide) (hA 3 (by kernel_rfl))
      cases hP : (true && ((decide ((i : Int) ≤ (j : Int))) == true)) with
      | false => exact Rg.op_none (o := ⟨some 60, _, _, _, _, _⟩) rfl (Rg.unwanted_c (g := 3) rfl rfl qg hP) ⟨_, rfl, (fun h => by cases h), Rg.cond_f hP, hI, fun _ _ _ _ h => h⟩
      | true =>
        have hw := Rg.wanted_c (ops := (Rg.opsOf Try.f128 5)) (o := (Rg.opsOf Try.f128 5)[10]'(by rw [sizeUp5]; decide)) (g := 3) rfl rfl qg hP
        have g0 := Rg.pc_r hP
        have q0 := hf.kept (s := 1) (by rw [sizeUp5]; kernel_rfl) k1
        exact Rg.op_value (o := ⟨some 60, Op.move (Operand.tmp 1), _, _, _, _⟩) (x := .int .i64 (la : Nat)) rfl hw (by clear hA HS hN hO HK hx hy hm0 hm1; simp only [execOp]; go_simp) ⟨_, rfl, (fun h => by cases h), (Rg.cond_t hP).symm, hI, fun _ _ _ _ h => h⟩
    · intro ll bb w' hs hlf hN hO hf hI hA
      clear hi'
      have qg : bb.tmps[53]? = some (cond true (.bool (decide ((i : Int) ≤ (j : Int)))) undef) := hf.tmp (k := 3) rfl (by rw [ha]; decide) (hA 3 (by kernel_rfl))
      cases hP : (true && ((decide ((i : Int) ≤ (j : Int))) == true)) with
      | false => exact Rg.op_none (o := ⟨some 61, _, _, _, _, _⟩) rfl (Rg.unwanted_c (g := 3) rfl rfl qg hP) ⟨_, rfl, (fun h => by cases h), Rg.cond_f hP, hI, fun _ _ _ _ h => h⟩
      | true =>
        have hw := Rg.wanted_c (ops := (Rg.opsOf Try.f128 5)) (o := (Rg.opsOf Try.f128 5)[11]'(by rw [sizeUp5]; decide)) (g := 3) rfl rfl qg hP
        have g0 := Rg.pc_r hP
        have q59 : bb.tmps[59]? = some (.slice (some ⟨G, 0, none⟩) m c) := hf.tmp (k := 9) rfl (by rw [ha]; decide) (Eq.trans (hA 9 (by kernel_rfl)) (Rg.cond_t hP))
        have q60 : bb.tmps[60]? = some (.int .i64 (la : Nat)) := hf.tmp (k := 10) rfl (by rw [ha]; decide) (Eq.trans (hA 10 (by kernel_rfl)) (Rg.cond_t hP))
        have hgp : i ≤ j := by have q1 := g0; simp at q1; omega
        have hi9 : (((la) : Nat) : Int) < (m : Int) := by have := hm1 hgp; omega
        exact Rg.op_value (o := ⟨some 61, Op.indexAddr 24 (Operand.tmp 59) (Operand.tmp 60), _, _, _, _⟩) (x := .pointer (some ⟨G, (la) * 6, none⟩)) rfl hw (by clear hA HS hN hO HK hx hy hm0 hm1; simp only [execOp]; go_simp) ⟨_, rfl, (fun h => by cases h), (Rg.cond_t hP).symm, hI, fun _ _ _ _ h => h⟩
    · intro ll bb w' hs hlf hN hO hf hI hA
      clear hi'
      have qg : bb.tmps[53]? = some (cond true (.bool (decide ((i : Int) ≤ (j : Int)))) undef) := hf.tmp (k := 3) rfl (by rw [ha]; decide) (hA 3 (by kernel_rfl))
      cases hP : (true && ((decide ((i : Int) ≤ (j : Int))) == true)) with
      | false => exact Rg.op_none (o := ⟨some 62, _, _, _, _, _⟩) rfl (Rg.unwanted_c (g := 3) rfl rfl qg hP) ⟨_, rfl, (fun h => by cases h), Rg.cond_f hP, hI, fun _ _ _ _ h => h⟩
      | true =>
        have hw := Rg.wanted_c (ops := (Rg.opsOf Try.f128 5)) (o := (Rg.opsOf Try.f128 5)[12]'(by rw [sizeUp5]; decide)) (g := 3) rfl rfl qg hP
        have g0 := Rg.pc_r hP
        have q61 : bb.tmps[61]? = some (.pointer (some ⟨G, (la) * 6, none⟩)) := hf.tmp (k := 11) rfl (by rw [ha]; decide) (Eq.trans (hA 11 (by kernel_rfl)) (Rg.cond_t hP))
        have hgp : i ≤ j := by have q1 := g0; simp at q1; omega
        have hx9 := (hy hgp).below hI hGl
        have e0 := hx9.c0
        have e1 := hx9.c1
        have e2 := hx9.c2
        have e3 := hx9.c3
        have e4 := hx9.c4
        have e5 := hx9.c5
        exact Rg.op_value (o := ⟨some 62, Op.load 81 (Operand.tmp 61), _, _, _, _⟩) (x := .agg #[.int .i64 y.1.id, .int .i64 y.1.grp, y.2, .int .i64 y.1.til, .int .i64 y.1.st, .int .i64 y.1.fr]) rfl hw (by clear hA HS hN hO HK hx hy hm0 hm1; simp only [execOp]; go_simp) ⟨_, rfl, (fun h => by cases h), (Rg.cond_t hP).symm, hI, fun _ _ _ _ h => h⟩
    · intro ll bb w' hs hlf hN hO hf hI hA
      clear hi'
      have qg : bb.tmps[53]? = some (cond true (.bool (decide ((i : Int) ≤ (j : Int)))) undef) := hf.tmp (k := 3) rfl (by rw [ha]; decide) (hA 3 (by kernel_rfl))
      cases hP : (true && ((decide ((i : Int) ≤ (j : Int))) == true)) with
      | false => exact Rg.op_none (o := ⟨some 63, _, _, _, _, _⟩) rfl (Rg.unwanted_c (g := 3) rfl rfl qg hP) ⟨_, rfl, (fun h => by cases h), Rg.cond_f hP, hI, fun _ _ _ _ h => h⟩
      | true =>
        have hw := Rg.wanted_c (ops := (Rg.opsOf Try.f128 5)) (o := (Rg.opsOf Try.f128 5)[13]'(by rw [sizeUp5]; decide)) (g := 3) rfl rfl qg hP
        have g0 := Rg.pc_r hP
        have q54 : bb.tmps[54]? = some (.func (.func 47) #[.agg #[.int .i64 nd.p, .int .i64 nd.g, sv]] #[]) := hf.tmp (k := 4) rfl (by rw [ha]; decide) (Eq.trans (hA 4 (by kernel_rfl)) (Rg.cond_t hP))
        have q58 : bb.tmps[58]? = some (.agg #[.int .i64 x.1.id, .int .i64 x.1.grp, x.2, .int .i64 x.1.til, .int .i64 x.1.st, .int .i64 x.1.fr]) := hf.tmp (k := 8) rfl (by rw [ha]; decide) (Eq.trans (hA 8 (by kernel_rfl)) (Rg.cond_t hP))
        have q62 : bb.tmps[62]? = some (.agg #[.int .i64 y.1.id, .int .i64 y.1.grp, y.2, .int .i64 y.1.til, .int .i64 y.1.st, .int .i64 y.1.fr]) := hf.tmp (k := 12) rfl (by rw [ha]; decide) (Eq.trans (hA 12 (by kernel_rfl)) (Rg.cond_t hP))
        have hgp : i ≤ j := by have q1 := g0; simp at q1; omega
        refine Rg.op_call (o := ⟨some 63, Op.call { callee := Callee.value (Operand.tmp 54), args := #[(Operand.tmp 58), (Operand.tmp 62)], argTypes := _ }, _, _, _, _⟩) rfl hw (by clear hA HS hN hO HK hx hy hm0 hm1; simp only [execOp, resolve]; go_simp) (HK hgp w') ?_
        rintro e w2 ⟨rfl, hb2⟩
        exact ⟨_, rfl, _, rfl, (fun h => by cases h), (Rg.cond_t hP).symm, onto hI hb2, fun k9 y9 _ _ h => HS hb2 k9 y9 h⟩
    · intro ll bb w' hs hlf hN hO hf hI hA
      clear hi'
      have qg : bb.tmps[53]? = some (cond true (.bool (decide ((i : Int) ≤ (j : Int)))) undef) := hf.tmp (k := 3) rfl (by rw [ha]; decide) (hA 3 (by kernel_rfl))
      cases hP : (true && ((decide ((i : Int) ≤ (j : Int))) == true)) with
      | false => exact Rg.op_none (o := ⟨some 64, _, _, _, _, _⟩) rfl (Rg.unwanted_c (g := 3) rfl rfl qg hP) ⟨_, rfl, (fun h => by cases h), Rg.cond_f hP, hI, fun _ _ _ _ h => h⟩
      | true =>
        have hw := Rg.wanted_c (ops := (Rg.opsOf Try.f128 5)) (o := (Rg.opsOf Try.f128 5)[14]'(by rw [sizeUp5]; decide)) (g := 3) rfl rfl qg hP
        have g0 := Rg.pc_r hP
        have q63 : bb.tmps[63]? = some (.int .i64 rr) := hf.tmp (k := 13) rfl (by rw [ha]; decide) (Eq.trans (hA 13 (by kernel_rfl)) (Rg.cond_t hP))
        exact Rg.op_value (o := ⟨some 64, Op.binOp BinOp.lss 3 (Operand.tmp 63) (Operand.const (Value.int .i64 0)) 3, _, _, _, _⟩) (x := .bool (decide (rr < 0))) rfl hw (by clear hA HS hN hO HK hx hy hm0 hm1; simp only [execOp]; go_simp) ⟨_, rfl, (fun h => by cases h), (Rg.cond_t hP).symm, hI, fun _ _ _ _ h => h⟩
    · intro ll bb w' hs hlf hN hO hf hI hA
      clear hi'
      have qg : bb.tmps[53]? = some (cond true (.bool (decide ((i : Int) ≤ (j : Int)))) undef) := hf.tmp (k := 3) rfl (by rw [ha]; decide) (hA 3 (by kernel_rfl))
      cases hP : (true && ((decide ((i : Int) ≤ (j : Int))) == true)) with
      | false => exact Rg.op_none (o := ⟨some 65, _, _, _, _, _⟩) rfl (Rg.unwanted_c (g := 3) rfl rfl qg hP) ⟨_, rfl, (fun h => by cases h), Rg.cond_f hP, hI, fun _ _ _ _ h => h⟩
      | true =>
        have hw := Rg.wanted_c (ops := (Rg.opsOf Try.f128 5)) (o := (Rg.opsOf Try.f128 5)[15]'(by rw [sizeUp5]; decide)) (g := 3) rfl rfl qg hP
        have g0 := Rg.pc_r hP
        have q64 : bb.tmps[64]? = some (.bool (decide (rr < 0))) := hf.tmp (k := 14) rfl (by rw [ha]; decide) (Eq.trans (hA 14 (by kernel_rfl)) (Rg.cond_t hP))
        exact Rg.op_value (o := ⟨some 65, Op.unOp UnOp.not 4 (Operand.tmp 64), _, _, _, _⟩) (x := .bool (!(decide (rr < 0)))) rfl hw (by clear hA HS hN hO HK hx hy hm0 hm1; simp only [execOp]; go_simp) ⟨_, rfl, (fun h => by cases h), (Rg.cond_t hP).symm, hI, fun _ _ _ _ h => h⟩
    · intro ll bb w' hs hlf hN hO hf hI hA
      clear hi'
      have q53 : bb.tmps[53]? = some _ := hf.tmp (k := 3) rfl (by rw [ha]; decide) (hA 3 (by kernel_rfl))
      cases hC : (decide ((i : Int) ≤ (j : Int))) with
      | false =>
        have hval : ((.bool ((decide ((i : Int) ≤ (j : Int))) && (!(decide (rr < 0)))) : Value)) = .bool false := by rw [hC]; rfl
        exact Rg.op_value (o := ⟨some 66, Op.pick (Operand.tmp 53) (Operand.tmp 65) (Operand.const (Value.bool false)), _, _, _, _⟩) (x := .bool false) rfl rfl (by rw [hC] at q53; clear hA HS hN hO HK hx hy hm0 hm1 hval; simp only [execOp]; go_simp) ⟨_, rfl, (fun h => by cases h), (by show ((.bool false : Value)) = _; first | exact hval.symm | rfl), hI, fun _ _ _ _ h => h⟩
      | true =>
        have hB : (true && ((decide ((i : Int) ≤ (j : Int))) == true)) = true := by rw [hC]; rfl
        have q65 : bb.tmps[65]? = some (.bool (!(decide (rr < 0)))) := hf.tmp (k := 15) rfl (by rw [ha]; decide) (Eq.trans (hA 15 (by kernel_rfl)) (Rg.cond_t hB))
        have hval : ((.bool ((decide ((i : Int) ≤ (j : Int))) && (!(decide (rr < 0)))) : Value)) = .bool (!(decide (rr < 0))) := by rw [hC]; rfl
        exact Rg.op_value (o := ⟨some 66, Op.pick (Operand.tmp 53) (Operand.tmp 65) (Operand.const (Value.bool false)), _, _, _, _⟩) (x := .bool (!(decide (rr < 0)))) rfl rfl (by rw [hC] at q53; clear hA HS hN hO HK hx hy hm0 hm1 hval; simp only [execOp]; go_simp) ⟨_, rfl, (fun h => by cases h), (by show ((.bool (!(decide (rr < 0))) : Value)) = _; first | exact hval.symm | rfl), hI, fun _ _ _ _ h => h⟩
theorem dUp5_0 : Rg.dstAt (Rg.opsOf Try.f128 5) 0 = some 50 := by kernel_rfl
theorem dUp5_1 : Rg.dstAt (Rg.opsOf Try.f128 5) 1 = some 51 := by kernel_rfl
theorem dUp5_2 : Rg.dstAt (Rg.opsOf Try.f128 5) 2 = some 52 := by kernel_rfl
theorem dUp5_3 : Rg.dstAt (Rg.opsOf Try.f128 5) 3 = some 53 := by kernel_rfl
theorem dUp5_4 : Rg.dstAt (Rg.opsOf Try.f128 5) 4 = some 54 := by kernel_rfl
theorem dUp5_5 : Rg.dstAt (Rg.opsOf Try.f128 5) 5 = some 55 := by kernel_rfl
theorem dUp5_6 : Rg.dstAt (Rg.opsOf Try.f128 5) 6 = some 56 := by kernel_rfl
theorem dUp5_7 : Rg.dstAt (Rg.opsOf Try.f128 5) 7 = some 57 := by kernel_rfl
theorem dUp5_8 : Rg.dstAt (Rg.opsOf Try.f128 5) 8 = some 58 := by kernel_rfl
theorem dUp5_9 : Rg.dstAt (Rg.opsOf Try.f128 5) 9 = some 59 := by kernel_rfl
theorem dUp5_10 : Rg.dstAt (Rg.opsOf Try.f128 5) 10 = some 60 := by kernel_rfl
theorem dUp5_11 : Rg.dstAt (Rg.opsOf Try.f128 5) 11 = some 61 := by kernel_rfl
theorem dUp5_12 : Rg.dstAt (Rg.opsOf Try.f128 5) 12 = some 62 := by kernel_rfl
theorem dUp5_13 : Rg.dstAt (Rg.opsOf Try.f128 5) 13 = some 63 := by kernel_rfl
theorem dUp5_14 : Rg.dstAt (Rg.opsOf Try.f128 5) 14 = some 64 := by kernel_rfl
theorem dUp5_15 : Rg.dstAt (Rg.opsOf Try.f128 5) 15 = some 65 := by kernel_rfl
theorem dUp5_16 : Rg.dstAt (Rg.opsOf Try.f128 5) 16 = some 66 := by kernel_rfl
theorem layUp5 {a b : Act} (hf : Rg.Fr (Rg.opsOf Try.f128 5) a b) : b = (((((((((((((((((a.put (some 50) (Rg.out (Rg.opsOf Try.f128 5) b 0)).put (some 51) (Rg.out (Rg.opsOf Try.f128 5) b 1)).put (some 52) (Rg.out (Rg.opsOf Try.f128 5) b 2)).put (some 53) (Rg.out (Rg.opsOf Try.f128 5) b 3)).put (some 54) (Rg.out (Rg.opsOf Try.f128 5) b 4)).put (some 55) (Rg.out (Rg.opsOf Try.f128 5) b 5)).put (some 56) (Rg.out (Rg.opsOf Try.f128 5) b 6)).put (some 57) (Rg.out (Rg.opsOf Try.f128 5) b 7)).put (some 58) (Rg.out (Rg.opsOf Try.f128 5) b 8)).put (some 59) (Rg.out (Rg.opsOf Try.f128 5) b 9)).put (some 60) (Rg.out (Rg.opsOf Try.f128 5) b 10)).put (some 61) (Rg.out (Rg.opsOf Try.f128 5) b 11)).put (some 62) (Rg.out (Rg.opsOf Try.f128 5) b 12)).put (some 63) (Rg.out (Rg.opsOf Try.f128 5) b 13)).put (some 64) (Rg.out (Rg.opsOf Try.f128 5) b 14)).put (some 65) (Rg.out (Rg.opsOf Try.f128 5) b 15)).put (some 66) (Rg.out (Rg.opsOf Try.f128 5) b 16)) := by
  have h := hf.chain
  rw [sizeUp5, show List.range 17 = [0, 1, 2, 3, 4, 5, 6, 7, 8, 9, 10, 11, 12, 13, 14, 15, 16] from by decide] at h
  simp only [List.foldl_cons, List.foldl_nil, dUp5_0, dUp5_1, dUp5_2, dUp5_3, dUp5_4, dUp5_5, dUp5_6, dUp5_7, dUp5_8, dUp5_9, dUp5_10, dUp5_11, dUp5_12, dUp5_13, dUp5_14, dUp5_15, dUp5_16] at h
  exact h
def FUp13 (G m c : Nat) (x y : UE) (nd : Nd) (sv : Value) (rr : Int) (la i j : Nat) (i9 : Nat) (v : Value) (w : World) : Prop :=
  match i9 with
  | 0 => v = .int .i64 (i : Nat)
  | 1 => v = .int .i64 (j : Nat)
  | 2 => v = .bool (decide ((i : Int) ≤ (j : Int)))
  | 3 => v = .bool (decide ((i : Int) ≤ (j : Int)))
  | 4 => v = cond (true && ((decide ((i : Int) ≤ (j : Int))) == true)) (.func (.func 47) #[.agg #[.int .i64 nd.p, .int .i64 nd.g, sv]] #[]) undef
  | 5 => v = cond (true && ((decide ((i : Int) ≤ (j : Int))) == true)) (.slice (some ⟨G, 0, none⟩) m c) undef
  | 6 => v = cond (true && ((decide ((i : Int) ≤ (j : Int))) == true)) (.int .i64 (i : Nat)) undef
  | 7 => v = cond (true && ((decide ((i : Int) ≤ (j : Int))) == true)) (.pointer (some ⟨G, (i) * 6, none⟩)) undef
  | 8 => v = cond (true && ((decide ((i : Int) ≤ (j : Int))) == true)) (.agg #[.int .i64 x.1.id, .int .i64 x.1.grp, x.2, .int .i64 x.1.til, .int .i64 x.1.st, .int .i64 x.1.fr]) undef
  | 9 => v = cond (true && ((decide ((i : Int) ≤ (j : Int))) == true)) (.slice (some ⟨G, 0, none⟩) m c) undef
  | 10 => v = cond (true && ((decide ((i : Int) ≤ (j : Int))) == true)) (.int .i64 (la : Nat)) undef
  | 11 => v = cond (true && ((decide ((i : Int) ≤ (j : Int))) == true)) (.pointer (some ⟨G, (la) * 6, none⟩)) undef
  | 12 => v = cond (true && ((decide ((i : Int) ≤ (j : Int))) == true)) (.agg #[.int .i64 y.1.id, .int .i64 y.1.grp, y.2, .int .i64 y.1.til, .int .i64 y.1.st, .int .i64 y.1.fr]) undef
  | 13 => v = cond (true && ((decide ((i : Int) ≤ (j : Int))) == true)) (.int .i64 rr) undef
  | 14 => v = cond (true && ((decide ((i : Int) ≤ (j : Int))) == true)) (.bool (decide (rr < 0))) undef
  | 15 => v = .bool ((decide ((i : Int) ≤ (j : Int))) && (decide (rr < 0)))
  | _ => True
theorem sizeUp13 : (Rg.opsOf Try.f128 13).size = 16 := by kernel_rfl
set_option maxRecDepth 20000 in
set_option maxHeartbeats 8000000 in
theorem regUp13 {Q : Exit → Act → World → Prop} {a : Act} {w9 : World} {G m c : Nat} {x y : UE} {nd : Nd} {sv : Value} {rr : Int} {la i j : Nat} (ha : a.tmps.size = 178)
    (k12 : a.tmps[12]? = some (.int .i64 (i : Nat))) (k13 : a.tmps[13]? = some (.int .i64 (j : Nat))) (k1 : a.tmps[1]? = some (.int .i64 (la : Nat))) (k4 : a.tmps[4]? = some (.func (.func 47) #[.agg #[.int .i64 nd.p, .int .i64 nd.g, sv]] #[])) (k0 : a.tmps[0]? = some (.slice (some ⟨G, 0, none⟩) m c)) (hGl : G < w9.heap.size) (hx : i ≤ j → UC w9 G ((i) * 6) x) (hy : i ≤ j → UC w9 G ((la) * 6) y) (hm0 : i ≤ j → i < m) (hm1 : i ≤ j → la < m) (hmm : m ≤ 100000)   (HK : i ≤ j → ∀ W, Calls Try.prog 47 #[.agg #[.int .i64 nd.p, .int .i64 nd.g, sv], .agg #[.int .i64 x.1.id, .int .i64 x.1.grp, x.2, .int .i64 x.1.til, .int .i64 x.1.st, .int .i64 x.1.fr], .agg #[.int .i64 y.1.id, .int .i64 y.1.grp, y.2, .int .i64 y.1.til, .int .i64 y.1.st, .int .i64 y.1.fr]] W fun e w' => e = .returned (.int .i64 rr) ∧ Below W.heap.size W w')
    (hend : ∀ b' w', Rg.Fr (Rg.opsOf Try.f128 13) a b' → Below w9.heap.size w9 w' → Rg.out (Rg.opsOf Try.f128 13) b' 15 = .bool ((decide ((i : Int) ≤ (j : Int))) && (decide (rr < 0))) → Q .normal b' w') :
    (Code.region 13 (Rg.opsOf Try.f128 13) true).wp Try.prog Q a w9 := by
  refine Rg.region_set3 (by kernel_rfl) (fun _ w' => Below w9.heap.size w9 w') (FUp13 G m c x y nd sv rr la i j) (by rw [ha, sizeUp13]; kernel_rfl) (st_drew (Below.refl _ _)) ?_ ?_
  case refine_2 =>
    intro l b' w' hf hall hI hA
    rw [sizeUp13] at hA
    exact hend b' w' hf hI (hA 15 (by decide))
  case refine_1 =>
    clear hend
    have HS : ∀ {w w' : World}, Below w.heap.size w w' → ∀ k9 y9, FUp13 G m c x y nd sv rr la i j k9 y9 w → FUp13 G m c x y nd sv rr la i j k9 y9 w' := fun hb k9 y9 h => by
      unfold FUp13 at *
      split at h <;> exact h
    intro i' hi'
    rw [sizeUp13] at hi'
    rcases (show i' = 0 ∨ i' = 1 ∨ i' = 2 ∨ i' = 3 ∨ i' = 4 ∨ i' = 5 ∨ i' = 6 ∨ i' = 7 ∨ i' = 8 ∨ i' = 9 ∨ i' = 10 ∨ i' = 11 ∨ i' = 12 ∨ i' = 13 ∨ i' = 14 ∨ i' = 15 by omega) with rfl | rfl | rfl | rfl | rfl | rfl | rfl | rfl | rfl | rfl | rfl | rfl | rfl | rfl | rfl | rfl
    · intro ll bb w' hs hlf hN hO hf hI hA
      clear hi'
      have q0 := hf.kept (s := 12) (by rw [sizeUp13]; kernel_rfl) k12
      exact Rg.op_value (o := ⟨some 105, Op.move (Operand.tmp 12), _, _, _, _⟩) (x := .int .i64 (i : Nat)) rfl rfl (by clear hA HS hN hO HK hx hy hm0 hm1; simp only [execOp]; go_simp) ⟨_, rfl, (fun h => by cases h), rfl, hI, fun _ _ _ _ h => h⟩
    · intro ll bb w' hs hlf hN hO hf hI hA
      clear hi'
      have q0 := hf.kept (s := 13) (by rw [sizeUp13]; kernel_rfl) k13
      exact Rg.op_value (o := ⟨some 106, Op.move (Operand.tmp 13), _, _, _, _⟩) (x := .int .i64 (j : Nat)) rfl rfl (by clear hA HS hN hO HK hx hy hm0 hm1; simp only [execOp]; go_simp) ⟨_, rfl, (fun h => by cases h), rfl, hI, fun _ _ _ _ h => h⟩
    · intro ll bb w' hs hlf hN hO hf hI hA
      clear hi'
      have q105 : bb.tmps[105]? = some _ := hf.tmp (k := 0) rfl (by rw [ha]; decide) (hA 0 (by kernel_rfl))
      have q106 : bb.tmps[106]? = some _ := hf.tmp (k := 1) rfl (by rw [ha]; decide) (hA 1 (by kernel_rfl))
      exact Rg.op_value (o := ⟨some 107, Op.binOp BinOp.leq 3 (Operand.tmp 105) (Operand.tmp 106) 3, _, _, _, _⟩) (x := .bool (decide ((i : Int) ≤ (j : Int)))) rfl rfl (by clear hA HS hN hO HK hx hy hm0 hm1; simp only [execOp]; go_simp) ⟨_, rfl, (fun h => by cases h), rfl, hI, fun _ _ _ _ h => h⟩
    · intro ll bb w' hs hlf hN hO hf hI hA
      clear hi'
      have q107 : bb.tmps[107]? = some _ := hf.tmp (k := 2) rfl (by rw [ha]; decide) (hA 2 (by kernel_rfl))
      exact Rg.op_value (o := ⟨some 108, Op.move (Operand.tmp 107), _, _, _, _⟩) (x := .bool (decide ((i : Int) ≤ (j : Int)))) rfl rfl (by clear hA HS hN hO HK hx hy hm0 hm1; simp only [execOp]; go_simp) ⟨_, rfl, (fun h => by cases h), rfl, hI, fun _ _ _ _ h => h⟩
    · intro ll bb w' hs hlf hN hO hf hI hA
      clear hi'
      have qg : bb.tmps[108]? = some (cond true (.bool (decide ((i : Int) ≤ (j : Int)))) undef) := hf.tmp (k := 3) rfl (by rw [ha]; decide) (hA 3 (by kernel_rfl))
      cases hP : (true && ((decide ((i : Int) ≤ (j : Int))) == true)) with
      | false => exact Rg.op_none (o := ⟨some 109, _, _, _, _, _⟩) rfl (Rg.unwanted_c (g := 3) rfl rfl qg hP) ⟨_, rfl, (fun h => by cases h), Rg.cond_f hP, hI, fun _ _ _ _ h => h⟩
      | true =>
        have hw := Rg.wanted_c (ops := (Rg.opsOf Try.f128 13)) (o := (Rg.opsOf Try.f128 13)[4]'(by rw [sizeUp13]; decide)) (g := 3) rfl rfl qg hP
        have g0 := Rg.pc_r hP
        have q0 := hf.kept (s := 4) (by rw [sizeUp13]; kernel_rfl) k4
        exact Rg.op_value (o := ⟨some 109, Op.move (Operand.tmp 4), _, _, _, _⟩) (x := .func (.func 47) #[.agg #[.int .i64 nd.p, .int .i64 nd.g, sv]] #[]) rfl hw (by clear hA HS hN hO HK hx hy hm0 hm1; simp only [execOp]; go_simp) ⟨_, rfl, (fun h => by cases h), (Rg.cond_t hP).symm, hI, fun _ _ _ _ h => h⟩
    · intro ll bb w' hs hlf hN hO hf hI hA
      clear hi'
      have qg : bb.tmps[108]? = some (cond true (.bool (decide ((i : Int) ≤ (j : Int)))) undef) := hf.tmp (k := 3) rfl (by rw [ha]; decide) (hA 3 (by kernel_rfl))
      cases hP : (true && ((decide ((i : Int) ≤ (j : Int))) == true)) with
      | false => exact Rg.op_none (o := ⟨some 110, _, _, _, _, _⟩) rfl (Rg.unwanted_c (g := 3) rfl rfl qg hP) ⟨_, rfl, (fun h => by cases h), Rg.cond_f hP, hI, fun _ _ _ _ h => h⟩
      | true =>
        have hw := Rg.wanted_c (ops := (Rg.opsOf Try.f128 13)) (o := (Rg.opsOf Try.f128 13)[5]'(by rw [sizeUp13]; decide)) (g := 3) rfl rfl qg hP
        have g0 := Rg.pc_r hP
        have q0 := hf.kept (s := 0) (by rw [sizeUp13]; kernel_rfl) k0
        exact Rg.op_value (o := ⟨some 110, Op.move (Operand.tmp 0), _, _, _, _⟩) (x := .slice (some ⟨G, 0, none⟩) m c) rfl hw (by clear hA HS hN hO HK hx hy hm0 hm1; simp only [execOp]; go_simp) ⟨_, rfl, (fun h => by cases h), (Rg.cond_t hP).symm, hI, fun _ _ _ _ h => h⟩
    · intro ll bb w' hs hlf hN hO hf hI hA
      clear hi'
      have qg : bb.tmps[108]? = some (cond true (.bool (decide ((i : Int) ≤ (j : Int)))) undef) := hf.tmp (k := 3) rfl (by rw [ha]; decide) (hA 3 (by kernel_rfl))
      cases hP : (true && ((decide ((i : Int) ≤ (j : Int))) == true)) with
      | false => exact Rg.op_none (o := ⟨some 111, _, _, _, _, _⟩) rfl (Rg.unwanted_c (g := 3) rfl rfl qg hP) ⟨_, rfl, (fun h => by cases h), Rg.cond_f hP, hI, fun _ _ _ _ h => h⟩
      | true =>
        have hw := Rg.wanted_c (ops := (Rg.opsOf Try.f128 13)) (o := (Rg.opsOf Try.f128 13)[6]'(by rw [sizeUp13]; decide)) (g := 3) rfl rfl qg hP
        have g0 := Rg.pc_r hP
        have q0 := hf.kept (s := 12) (by rw [sizeUp13]; kernel_rfl) k12
        exact Rg.op_value (o := ⟨some 111, Op.move (Operand.tmp 12), _, _, _, _⟩) (x := .int .i64 (i : Nat)) rfl hw (by clear hA HS hN hO HK hx hy hm0 hm1; simp only [execOp]; go_simp) ⟨_, rfl, (fun h => by cases h), (Rg.cond_t hP).symm, hI, fun _ _ _ _ h => h⟩
    · intro ll bb w' hs hlf hN hO hf hI hA
      clear hi'
      have qg : bb.tmps[108]? = some (cond true (.bool (decide ((i : Int) ≤ (j : Int)))) undef) := hf.tmp (k := 3) rfl (by rw [ha]; decide) (hA 3 (by kernel_rfl))
      cases hP : (true && ((decide ((i : Int) ≤ (j : Int))) == true)) with
      | false => exact Rg.op_none (o := ⟨some 112, _, _, _, _, _⟩) rfl (Rg.unwanted_c (g := 3) rfl rfl qg hP) ⟨_, rfl, (fun h => by cases h), Rg.cond_f hP, hI, fun _ _ _ _ h => h⟩
      | true =>
        have hw := Rg.wanted_c (ops := (Rg.opsOf Try.f128 13)) (o := (Rg.opsOf Try.f128 13)[7]'(by rw [sizeUp13]; decide)) (g := 3) rfl rfl qg hP
        have g0 := Rg.pc_r hP
        have q110 : bb.tmps[110]? = some (.slice (some ⟨G, 0, none⟩) m c) := hf.tmp (k := 5) rfl (by rw [ha]; decide) (Eq.trans (hA 5 (by kernel_rfl)) (Rg.cond_t hP))
        have q111 : bb.tmps[111]? = some (.int .i64 (i : Nat)) := hf.tmp (k := 6) rfl (by rw [ha]; decide) (Eq.trans (hA 6 (by kernel_rfl)) (Rg.cond_t hP))
        have hgp : i ≤ j := by have q1 := g0; simp at q1; omega
        have hi9 : (((i) : Nat) : Int) < (m : Int) := by have := hm0 hgp; omega
        exact Rg.op_value (o := ⟨some 112, Op.indexAddr 24 (Operand.tmp 110) (Operand.tmp 111), _, _, _, _⟩) (x := .pointer (some ⟨G, (i) * 6, none⟩)) rfl hw (by clear hA HS hN hO HK hx hy hm0 hm1; simp only [execOp]; go_simp) ⟨_, rfl, (fun h => by cases h), (Rg.cond_t hP).symm, hI, fun _ _ _ _ h => h⟩
    · intro ll bb w' hs hlf hN hO hf hI hA
      clear hi'
      have qg : bb.tmps[108]? = some (cond true (.bool (decide ((i : Int) ≤ (j : Int)))) undef) := hf.tmp (k := 3) rfl (by rw [ha]; decide) (hA 3 (by kernel_rfl))
      cases hP : (true && ((decide ((i : Int) ≤ (j : Int))) == true)) with
      | false => exact Rg.op_none (o := ⟨some 113, _, _, _, _, _⟩) rfl (Rg.unwanted_c (g := 3) rfl rfl qg hP) ⟨_, rfl, (fun h => by cases h), Rg.cond_f hP, hI, fun _ _ _ _ h => h⟩
      | true =>
        have hw := Rg.wanted_c (ops := (Rg.opsOf Try.f128 13)) (o := (Rg.opsOf Try.f128 13)[8]'(by rw [sizeUp13]; decide)) (g := 3) rfl rfl qg hP
        have g0 := Rg.pc_r hP
        have q112 : bb.tmps[112]? = some (.pointer (some ⟨G, (i) * 6, none⟩)) := hf.tmp (k := 7) rfl (by rw [ha]; decide) (Eq.trans (hA 7 (by kernel_rfl)) (Rg.cond_t hP))
        have hgp : i ≤ j := by have q1 := g0; simp at q1; omega
        have hx9 := (hx hgp).below hI hGl
        have e0 := hx9.c0
        have e1 := hx9.c1
        have e2 := hx9.c2
        have e3 := hx9.c3
        have e4 := hx9.c4
        have e5 := hx9.c5
        exact Rg.op_value (o := ⟨some 113, Op.load 81 (Operand.tmp 112), _, _, _, _⟩) (x := .agg #[.int .i64 x.1.id, .int .i64 x.1.grp, x.2, .int .i64 x.1.til, .int .i64 x.1.st, .int .i64 x.1.fr]) rfl hw (by clear hA HS hN hO HK hx hy hm0 hm1; simp only [execOp]; go_simp) ⟨_, rfl, (fun h => by cases h), (Rg.cond_t hP).symm, hI, fun _ _ _ _ h => h⟩
    · intro ll bb w' hs hlf hN hO hf hI hA
      clear hi'
      have qg : bb.tmps[108]? = some (cond true (.bool (decide ((i : Int) ≤ (j : Int)))) undef) := hf.tmp (k := 3) rfl (by rw [ha]; decide) (hA 3 (by kernel_rfl))
      cases hP : (true && ((decide ((i : Int) ≤ (j : Int))) == true)) with
      | false => exact Rg.op_none (o := ⟨some 114, _, _, _, _, _⟩) rfl (Rg.unwanted_c (g := 3) rfl rfl qg hP) ⟨_, rfl, (fun h => by cases h), Rg.cond_f hP, hI, fun _ _ _ _ h => h⟩
      | true =>
        have hw := Rg.wanted_c (ops := (Rg.opsOf Try.f128 13)) (o := (Rg.opsOf Try.f128 13)[9]'(by rw [sizeUp13]; decide)) (g := 3) rfl rfl qg hP
        have g0 := Rg.pc_r hP
        have q0 := hf.kept (s := 0) (by rw [sizeUp13]; kernel_rfl) k0
        exact Rg.op_value (o := ⟨some 114, Op.move (Operand.tmp 0), _, _, _, _⟩) (x := .slice (some ⟨G, 0, none⟩) m c) rfl hw (by clear hA HS hN hO HK hx hy hm0 hm1; simp only [execOp]; go_simp) ⟨_, rfl, (fun h => by cases h), (Rg.cond_t hP).symm, hI, fun _ _ _ _ h => h⟩
    · intro ll bb w' hs hlf hN hO hf hI hA
      clear hi'
      have qg : bb.tmps[108]? = some (cond true (.bool (decide ((i : Int) ≤ (j : Int)))) undef) := hf.tmp (k := 3) rfl (by rw [ha]; decide) (hA 3 (by kernel_rfl))
      cases hP : (true && ((decide ((i : Int) ≤ (j : Int))) == true)) with
      | false => exact Rg.op_none (o := ⟨some 115, _, _, _, _, _⟩) rfl (Rg.unwanted_c (g := 3) rfl rfl qg hP) ⟨_, rfl, (fun h => by cases h), Rg.cond_f hP, hI, fun _ _ _ _ h => h⟩
      | true =>
        have hw := Rg.wanted_c (ops := (Rg.opsOf Try.f128 13)) (o := (Rg.opsOf Try.f128 13)[10]'(by rw [sizeUp13]; decide)) (g := 3) rfl rfl qg hP
        have g0 := Rg.pc_r hP
        have q0 := hf.kept (s := 1) (by rw [sizeUp13]; kernel_rfl) k1
        exact Rg.op_value (o := ⟨some 115, Op.move (Operand.tmp 1), _, _, _, _⟩) (x := .int .i64 (la : Nat)) rfl hw (by clear hA HS hN hO HK hx hy hm0 hm1; simp only [execOp]; go_simp) ⟨_, rfl, (fun h => by cases h), (Rg.cond_t hP).symm, hI, fun _ _ _ _ h => h⟩
    · intro ll bb w' hs hlf hN hO hf hI hA
      clear hi'
      have qg : bb.tmps[108]? = some (cond true (.bool (decide ((i : Int) ≤ (j : Int)))) undef) := hf.tmp (k := 3) rfl (by rw [ha]; decide) (hA 3 (by kernel_rfl))
      cases hP : (true && ((decide ((i : Int) ≤ (j : Int))) == true)) with
      | false => exact Rg.op_none (o := ⟨some 116, _, _, _, _, _⟩) rfl (Rg.unwanted_c (g := 3) rfl rfl qg hP) ⟨_, rfl, (fun h => by cases h), Rg.cond_f hP, hI, fun _ _ _ _ h => h⟩
      | true =>
        have hw := Rg.wanted_c (ops := (Rg.opsOf Try.f128 13)) (o := (Rg.opsOf Try.f128 13)[11]'(by rw [sizeUp13]; decide)) (g := 3) rfl rfl qg hP
        have g0 := Rg.pc_r hP
        have q114 : bb.tmps[114]? = some (.slice (some ⟨G, 0, none⟩) m c) := hf.tmp (k := 9) rfl (by rw [ha]; decide) (Eq.trans (hA 9 (by kernel_rfl)) (Rg.cond_t hP))
        have q115 : bb.tmps[115]? = some (.int .i64 (la : Nat)) := hf.tmp (k := 10) rfl (by rw [ha]; decide) (Eq.trans (hA 10 (by kernel_rfl)) (Rg.cond_t hP))
        have hgp : i ≤ j := by have q1 := g0; simp at q1; omega
        have hi9 : (((la) : Nat) : Int) < (m : Int) := by have := hm1 hgp; omega
        exact Rg.op_value (o := ⟨some 116, Op.indexAddr 24 (Operand.tmp 114) (Operand.tmp 115), _, _, _, _⟩) (x := .pointer (some ⟨G, (la) * 6, none⟩)) rfl hw (by clear hA HS hN hO HK hx hy hm0 hm1; simp only [execOp]; go_simp) ⟨_, rfl, (fun h => by cases h), (Rg.cond_t hP).symm, hI, fun _ _ _ _ h => h⟩
    · intro ll bb w' hs hlf hN hO hf hI hA
      clear hi'
      have qg : bb.tmps[108]? = some (cond true (.bool (decide ((i : Int) ≤ (j : Int)))) undef) := hf.tmp (k := 3) rfl (by rw [ha]; decide) (hA 3 (by kernel_rfl))
      cases hP : (true && ((decide ((i : Int) ≤ (j : Int))) == true)) with
      | false => exact Rg.op_none (o := ⟨some 117, _, _, _, _, _⟩) rfl (Rg.unwanted_c (g := 3) rfl rfl qg hP) ⟨_, rfl, (fun h => by cases h), Rg.cond_f hP, hI, fun _ _ _ _ h => h⟩
      | true =>
        have hw := Rg.wanted_c (ops := (Rg.opsOf Try.f128 13)) (o := (Rg.opsOf Try.f128 13)[12]'(by rw [sizeUp13]; decide)) (g := 3) rfl rfl qg hP
        have g0 := Rg.pc_r hP
        have q116 : bb.tmps[116]? = some (.pointer (some ⟨G, (la) * 6, none⟩)) := hf.tmp (k := 11) rfl (by rw [ha]; decide) (Eq.trans (hA 11 (by kernel_rfl)) (Rg.cond_t hP))
        have hgp : i ≤ j := by have q1 := g0; simp at q1; omega
        have hx9 := (hy hgp).below hI hGl
        have e0 := hx9.c0
        have e1 := hx9.c1
        have e2 := hx9.c2
        have e3 := hx9.c3
        have e4 := hx9.c4
        have e5 := hx9.c5
        exact Rg.op_value (o := ⟨some 117, Op.load 81 (Operand.tmp 116), _, _, _, _⟩) (x := .agg #[.int .i64 y.1.id, .int .i64 y.1.grp, y.2, .int .i64 y.1.til, .int .i64 y.1.st, .int .i64 y.1.fr]) rfl hw (by clear hA HS hN hO HK hx hy hm0 hm1; simp only [execOp]; go_simp) ⟨_, rfl, (fun h => by cases h), (Rg.cond_t hP).symm, hI, fun _ _ _ _ h => h⟩
    · intro ll bb w' hs hlf hN hO hf hI hA
      clear hi'
      have qg : bb.tmps[108]? = some (cond true (.bool (decide ((i : Int) ≤ (j : Int)))) undef) := hf.tmp (k := 3) rfl (by rw [ha]; decide) (hA 3 (by kernel_rfl))
      cases hP : (true && ((decide ((i : Int) ≤ (j : Int))) == true)) with
      | false => exact Rg.op_none (o := ⟨some 118, _, _, _, _, _⟩) rfl (Rg.unwanted_c (g := 3) rfl rfl qg hP) ⟨_, rfl, (fun h => by cases h), Rg.cond_f hP, hI, fun _ _ _ _ h => h⟩
      | true =>
        have hw := Rg.wanted_c (ops := (Rg.opsOf Try.f128 13)) (o := (Rg.opsOf Try.f128 13)[13]'(by rw [sizeUp13]; decide)) (g := 3) rfl rfl qg hP
        have g0 := Rg.pc_r hP
        have q109 : bb.tmps[109]? = some (.func (.func 47) #[.agg #[.int .i64 nd.p, .int .i64 nd.g, sv]] #[]) := hf.tmp (k := 4) rfl (by rw [ha]; decide) (Eq.trans (hA 4 (by kernel_rfl)) (Rg.cond_t hP))
        have q113 : bb.tmps[113]? = some (.agg #[.int .i64 x.1.id, .int .i64 x.1.grp, x.2, .int .i64 x.1.til, .int .i64 x.1.st, .int .i64 x.1.fr]) := hf.tmp (k := 8) rfl (by rw [ha]; decide) (Eq.trans (hA 8 (by kernel_rfl)) (Rg.cond_t hP))
        have q117 : bb.tmps[117]? = some (.agg #[.int .i64 y.1.id, .int .i64 y.1.grp, y.2, .int .i64 y.1.til, .int .i64 y.1.st, .int .i64 y.1.fr]) := hf.tmp (k := 12) rfl (by rw [ha]; decide) (Eq.trans (hA 12 (by kernel_rfl)) (Rg.cond_t hP))
        have hgp : i ≤ j := by have q1 := g0; simp at q1; omega
        refine Rg.op_call (o := ⟨some 118, Op.call { callee := Callee.value (Operand.tmp 109), args := #[(Operand.tmp 113), (Operand.tmp 117)], argTypes := _ }, _, _, _, _⟩) rfl hw (by clear hA HS hN hO HK hx hy hm0 hm1; simp only [execOp, resolve]; go_simp) (HK hgp w') ?_
        rintro e w2 ⟨rfl, hb2⟩
        exact ⟨_, rfl, _, rfl, (fun h => by cases h), (Rg.cond_t hP).symm, onto hI hb2, fun k9 y9 _ _ h => HS hb2 k9 y9 h⟩
    · intro ll bb w' hs hlf hN hO hf hI hA
      clear hi'
      have qg : bb.tmps[108]? = some (cond true (.bool (decide ((i : Int) ≤ (j : Int)))) undef) := hf.tmp (k := 3) rfl (by rw [ha]; decide) (hA 3 (by kernel_rfl))
      cases hP : (true && ((decide ((i : Int) ≤ (j : Int))) == true)) with
      | false => exact Rg.op_none (o := ⟨some 119, _, _, _, _, _⟩) rfl (Rg.unwanted_c (g := 3) rfl rfl qg hP) ⟨_, rfl, (fun h => by cases h), Rg.cond_f hP, hI, fun _ _ _ _ h => h⟩
      | true =>
        have hw := Rg.wanted_c (ops := (Rg.opsOf Try.f128 13)) (o := (Rg.opsOf Try.f128 13)[14]'(by rw [sizeUp13]; decide)) (g := 3) rfl rfl qg hP
        have g0 := Rg.pc_r hP
        have q118 : bb.tmps[118]? = some (.int .i64 rr) := hf.tmp (k := 13) rfl (by rw [ha]; decide) (Eq.trans (hA 13 (by kernel_rfl)) (Rg.cond_t hP))
        exact Rg.op_value (o := ⟨some 119, Op.binOp BinOp.lss 3 (Operand.tmp 118) (Operand.const (Value.int .i64 0)) 3, _, _, _, _⟩) (x := .bool (decide (rr < 0))) rfl hw (by clear hA HS hN hO HK hx hy hm0 hm1; simp only [execOp]; go_simp) ⟨_, rfl, (fun h => by cases h), (Rg.cond_t hP).symm, hI, fun _ _ _ _ h => h⟩
    · intro ll bb w' hs hlf hN hO hf hI hA
      clear hi'
      have q108 : bb.tmps[108]? = some _ := hf.tmp (k := 3) rfl (by rw [ha]; decide) (hA 3 (by kernel_rfl))
      cases hC : (decide ((i : Int) ≤ (j : Int))) with
      | false =>
        have hval : ((.bool ((decide ((i : Int) ≤ (j : Int))) && (decide (rr < 0))) : Value)) = .bool false := by rw [hC]; rfl
        exact Rg.op_value (o := ⟨some 120, Op.pick (Operand.tmp 108) (Operand.tmp 119) (Operand.const (Value.bool false)), _, _, _, _⟩) (x := .bool false) rfl rfl (by rw [hC] at q108; clear hA HS hN hO HK hx hy hm0 hm1 hval; simp only [execOp]; go_simp) ⟨_, rfl, (fun h => by cases h), (by show ((.bool false : Value)) = _; first | exact hval.symm | rfl), hI, fun _ _ _ _ h => h⟩
      | true =>
        have hB : (true && ((decide ((i : Int) ≤ (j : Int))) == true)) = true := by rw [hC]; rfl
        have q119 : bb.tmps[119]? = some (.bool (decide (rr < 0))) := hf.tmp (k := 14) rfl (by rw [ha]; decide) (Eq.trans (hA 14 (by kernel_rfl)) (Rg.cond_t hB))
        have hval : ((.bool ((decide ((i : Int) ≤ (j : Int))) && (decide (rr < 0))) : Value)) = .bool (decide (rr < 0)) := by rw [hC]; rfl
        exact Rg.op_value (o := ⟨some 120, Op.pick (Operand.tmp 108) (Operand.tmp 119) (Operand.const (Value.bool false)), _, _, _, _⟩) (x := .bool (decide (rr < 0))) rfl rfl (by rw [hC] at q108; clear hA HS hN hO HK hx hy hm0 hm1 hval; simp only [execOp]; go_simp) ⟨_, rfl, (fun h => by cases h), (by show ((.bool (decide (rr < 0)) : Value)) = _; first | exact hval.symm | rfl), hI, fun _ _ _ _ h => h⟩
theorem dUp13_0 : Rg.dstAt (Rg.opsOf Try.f128 13) 0 = some 105 := by kernel_rfl
theorem dUp13_1 : Rg.dstAt (Rg.opsOf Try.f128 13) 1 = some 106 := by kernel_rfl
theorem dUp13_2 : Rg.dstAt (Rg.opsOf Try.f128 13) 2 = some 107 := by kernel_rfl
theorem dUp13_3 : Rg.dstAt (Rg.opsOf Try.f128 13) 3 = some 108 := by kernel_rfl
theorem dUp13_4 : Rg.dstAt (Rg.opsOf Try.f128 13) 4 = some 109 := by kernel_rfl
theorem dUp13_5 : Rg.dstAt (Rg.opsOf Try.f128 13) 5 = some 110 := by kernel_rfl
theorem dUp13_6 : Rg.dstAt (Rg.opsOf Try.f128 13) 6 = some 111 := by kernel_rfl
theorem dUp13_7 : Rg.dstAt (Rg.opsOf Try.f128 13) 7 = some 112 := by kernel_rfl
theorem dUp13_8 : Rg.dstAt (Rg.opsOf Try.f128 13) 8 = some 113 := by kernel_rfl
theorem dUp13_9 : Rg.dstAt (Rg.opsOf Try.f128 13) 9 = some 114 := by kernel_rfl
theorem dUp13_10 : Rg.dstAt (Rg.opsOf Try.f128 13) 10 = some 115 := by kernel_rfl
theorem dUp13_11 : Rg.dstAt (Rg.opsOf Try.f128 13) 11 = some 116 := by kernel_rfl
theorem dUp13_12 : Rg.dstAt (Rg.opsOf Try.f128 13) 12 = some 117 := by kernel_rfl
theorem dUp13_13 : Rg.dstAt (Rg.opsOf Try.f128 13) 13 = some 118 := by kernel_rfl
theorem dUp13_14 : Rg.dstAt (Rg.opsOf Try.f128 13) 14 = some 119 := by kernel_rfl
theorem dUp13_15 : Rg.dstAt (Rg.opsOf Try.f128 13) 15 = some 120 := by kernel_rfl
theorem layUp13 {a b : Act} (hf : Rg.Fr (Rg.opsOf Try.f128 13) a b) : b = ((((((((((((((((a.put (some 105) (Rg.out (Rg.opsOf Try.f128 13) b 0)).put (some 106) (Rg.out (Rg.opsOf Try.f128 13) b 1)).put (some 107) (Rg.out (Rg.opsOf Try.f128 13) b 2)).put (some 108) (Rg.out (Rg.opsOf Try.f128 13) b 3)).put (some 109) (Rg.out (Rg.opsOf Try.f128 13) b 4)).put (some 110) (Rg.out (Rg.opsOf Try.f128 13) b 5)).put (some 111) (Rg.out (Rg.opsOf Try.f128 13) b 6)).put (some 112) (Rg.out (Rg.opsOf Try.f128 13) b 7)).put (some 113) (Rg.out (Rg.opsOf Try.f128 13) b 8)).put (some 114) (Rg.out (Rg.opsOf Try.f128 13) b 9)).put (some 115) (Rg.out (Rg.opsOf Try.f128 13) b 10)).put (some 116) (Rg.out (Rg.opsOf Try.f128 13) b 11)).put (some 117) (Rg.out (Rg.opsOf Try.f128 13) b 12)).put (some 118) (Rg.out (Rg.opsOf Try.f128 13) b 13)).put (some 119) (Rg.out (Rg.opsOf Try.f128 13) b 14)).put (some 120) (Rg.out (Rg.opsOf Try.f128 13) b 15)) := by
  have h := hf.chain
  rw [sizeUp13, show List.range 16 = [0, 1, 2, 3, 4, 5, 6, 7, 8, 9, 10, 11, 12, 13, 14, 15] from by decide] at h
  simp only [List.foldl_cons, List.foldl_nil, dUp13_0, dUp13_1, dUp13_2, dUp13_3, dUp13_4, dUp13_5, dUp13_6, dUp13_7, dUp13_8, dUp13_9, dUp13_10, dUp13_11, dUp13_12, dUp13_13, dUp13_14, dUp13_15] at h
  exact h
def FUp15 (G m c : Nat) (x y : UE) (nd : Nd) (sv : Value) (rr : Int) (la i j : Nat) (i9 : Nat) (v : Value) (w : World) : Prop :=
  match i9 with
  | 0 => v = .int .i64 (i : Nat)
  | 1 => v = .int .i64 (j : Nat)
  | 2 => v = .bool (decide ((i : Int) ≤ (j : Int)))
  | 3 => v = .bool (decide ((i : Int) ≤ (j : Int)))
  | 4 => v = cond (true && ((decide ((i : Int) ≤ (j : Int))) == true)) (.func (.func 47) #[.agg #[.int .i64 nd.p, .int .i64 nd.g, sv]] #[]) undef
  | 5 => v = cond (true && ((decide ((i : Int) ≤ (j : Int))) == true)) (.slice (some ⟨G, 0, none⟩) m c) undef
  | 6 => v = cond (true && ((decide ((i : Int) ≤ (j : Int))) == true)) (.int .i64 (j : Nat)) undef
  | 7 => v = cond (true && ((decide ((i : Int) ≤ (j : Int))) == true)) (.pointer (some ⟨G, (j) * 6, none⟩)) undef
  | 8 => v = cond (true && ((decide ((i : Int) ≤ (j : Int))) == true)) (.agg #[.int .i64 x.1.id, .int .i64 x.1.grp, x.2, .int .i64 x.1.til, .int .i64 x.1.st, .int .i64 x.1.fr]) undef
  | 9 => v = cond (true && ((decide ((i : Int) ≤ (j : Int))) == true)) (.slice (some ⟨G, 0, none⟩) m c) undef
  | 10 => v = cond (true && ((decide ((i : Int) ≤ (j : Int))) == true)) (.int .i64 (la : Nat)) undef
  | 11 => v = cond (true && ((decide ((i : Int) ≤ (j : Int))) == true)) (.pointer (some ⟨G, (la) * 6, none⟩)) undef
  | 12 => v = cond (true && ((decide ((i : Int) ≤ (j : Int))) == true)) (.agg #[.int .i64 y.1.id, .int .i64 y.1.grp, y.2, .int .i64 y.1.til, .int .i64 y.1.st, .int .i64 y.1.fr]) undef
  | 13 => v = cond (true && ((decide ((i : Int) ≤ (j : Int))) == true)) (.int .i64 rr) undef
  | 14 => v = cond (true && ((decide ((i : Int) ≤ (j : Int))) == true)) (.bool (decide (rr < 0))) undef
  | 15 => v = cond (true && ((decide ((i : Int) ≤ (j : Int))) == true)) (.bool (!(decide (rr < 0)))) undef
  | 16 => v = .bool ((decide ((i : Int) ≤ (j : Int))) && (!(decide (rr < 0))))
  | _ => True
theorem sizeUp15 : (Rg.opsOf Try.f128 15).size = 17 := by kernel_rfl
set_option maxRecDepth 20000 in
set_option maxHeartbeats 8000000 in
theorem regUp15 {Q : Exit → Act → World → Prop} {a : Act} {w9 : World} {G m c : Nat} {x y : UE} {nd : Nd} {sv : Value} {rr : Int} {la i j : Nat} (ha : a.tmps.size = 178)
    (k12 : a.tmps[12]? = some (.int .i64 (i : Nat))) (k13 : a.tmps[13]? = some (.int .i64 (j : Nat))) (k1 : a.tmps[1]? = some (.int .i64 (la : Nat))) (k4 : a.tmps[4]? = some (.func (.func 47) #[.agg #[.int .i64 nd.p, .int .i64 nd.g, sv]] #[])) (k0 : a.tmps[0]? = some (.slice (some ⟨G, 0, none⟩) m c)) (hGl : G < w9.heap.size) (hx : i ≤ j → UC w9 G ((j) * 6) x) (hy : i ≤ j → UC w9 G ((la) * 6) y) (hm0 : i ≤ j → j < m) (hm1 : i ≤ j → la < m) (hmm : m ≤ 100000)   (HK : i ≤ j → ∀ W, Calls Try.prog 47 #[.agg #[.int .i64 nd.p, .int .i64 nd.g, sv], .agg #[.int .i64 x.1.id, .int .i64 x.1.grp, x.2, .int .i64 x.1.til, .int .i64 x.1.st, .int .i64 x.1.fr], .agg #[.int .i64 y.1.id, .int .i64 y.1.grp, y.2, .int .i64 y.1.til, .int .i64 y.1.st, .int .i64 y.1.fr]] W fun e w' => e = .returned (.int .i64 rr) ∧ Below W.heap.size W w')
    (hend : ∀ b' w', Rg.Fr (Rg.opsOf Try.f128 15) a b' → Below w9.heap.size w9 w' → Rg.out (Rg.opsOf Try.f128 15) b' 16 = .bool ((decide ((i : Int) ≤ (j : Int))) && (!(decide (rr < 0)))) → Q .normal b' w') :
    (Code.region 15 (Rg.opsOf Try.f128 15) true).wp Try.prog Q a w9 := by
  refine Rg.region_set3 (by kernel_rfl) (fun _ w' => Below w9.heap.size w9 w') (FUp15 G m c x y nd sv rr la i j) (by rw [ha, sizeUp15]; kernel_rfl) (st_drew (Below.refl _ _)) ?_ ?_
  case refine_2 =>
    intro l b' w' hf hall hI hA
    rw [sizeUp15] at hA
    exact hend b' w' hf hI (hA 16 (by decide))
  case refine_1 =>
    clear hend
    have HS : ∀ {w w' : World}, Below w.heap.size w w' → ∀ k9 y9, FUp15 G m c x y nd sv rr la i j k9 y9 w → FUp15 G m c x y nd sv rr la i j k9 y9 w' := fun hb k9 y9 h => by
      unfold FUp15 at *
      split at h <;> exact h
    intro i' hi'
    rw [sizeUp15] at hi'
    rcases (show i' = 0 ∨ i' = 1 ∨ i' = 2 ∨ i' = 3 ∨ i' = 4 ∨ i' = 5 ∨ i' = 6 ∨ i' = 7 ∨ i' = 8 ∨ i' = 9 ∨ i' = 10 ∨ i' = 11 ∨ i' = 12 ∨ i' = 13 ∨ i' = 14 ∨ i' = 15 ∨ i' = 16 by omega) with rfl | rfl | rfl | rfl | rfl | rfl | rfl | rfl | rfl | rfl | rfl | rfl | rfl | rfl | rfl | rfl | rfl
    · intro ll bb w' hs hlf hN hO hf hI hA
      clear hi'
      have q0 := hf.kept (s := 12) (by rw [sizeUp15]; kernel_rfl) k12
      exact Rg.op_value (o := ⟨some 123, Op.move (Operand.tmp 12), _, _, _, _⟩) (x := .int .i64 (i : Nat)) rfl rfl (by clear hA HS hN hO HK hx hy hm0 hm1; simp only [execOp]; go_simp) ⟨_, rfl, (fun h => by cases h), rfl, hI, fun _ _ _ _ h => h⟩
    · intro ll bb w' hs hlf hN hO hf hI hA
      clear hi'
      have q0 := hf.kept (s := 13) (by rw [sizeUp15]; kernel_rfl) k13
      exact Rg.op_value (o := ⟨some 124, Op.move (Operand.tmp 13), _, _, _, _⟩) (x := .int .i64 (j : Nat)) rfl rfl (by clear hA HS hN hO HK hx hy hm0 hm1; simp only [execOp]; go_simp) ⟨_, rfl, (fun h => by cases h), rfl, hI, fun _ _ _ _ h => h⟩
    · intro ll bb w' hs hlf hN hO hf hI hA
      clear hi'
      have q123 : bb.tmps[123]? = some _ := hf.tmp (k := 0) rfl (by rw [ha]; decide) (hA 0 (by kernel_rfl))
      have q124 : bb.tmps[124]? = some _ := hf.tmp (k := 1) rfl (by rw [ha]; decide) (hA 1 (by kernel_rfl))
      exact Rg.op_value (o := ⟨some 125, Op.binOp BinOp.leq 3 (Operand.tmp 123) (Operand.tmp 124) 3, _, _, _, _⟩) (x := .bool (decide ((i : Int) ≤ (j : Int)))) rfl rfl (by clear hA HS hN hO HK hx hy hm0 hm1; simp only [execOp]; go_simp) ⟨_, rfl, (fun h => by cases h), rfl, hI, fun _ _ _ _ h => h⟩
    · intro ll bb w' hs hlf hN hO hf hI hA
      clear hi'
      have q125 : bb.tmps[125]? = some _ := hf.tmp (k := 2) rfl (by rw [ha]; decide) (hA 2 (by kernel_rfl))
      exact Rg.op_value (o := ⟨some 126, Op.move (Operand.tmp 125), _, _, _, _⟩) (x := .bool (decide ((i : Int) ≤ (j : Int)))) rfl rfl (by clear hA HS hN hO HK hx hy hm0 hm1; simp only [execOp]; go_simp) ⟨_, rfl, (fun h => by cases h), rfl, hI, fun _ _ _ _ h => h⟩
    · intro ll bb w' hs hlf hN hO hf hI hA
      clear hi'
      have qg : bb.tmps[126]? = some (cond true (.bool (decide ((i : Int) ≤ (j : Int)))) undef) := hf.tmp (k := 3) rfl (by rw [ha]; decide) (hA 3 (by kernel_rfl))
      cases hP : (true && ((decide ((i : Int) ≤ (j : Int))) == true)) with
      | false => exact Rg.op_none (o := ⟨some 127, _, _, _, _, _⟩) rfl (Rg.unwanted_c (g := 3) rfl rfl qg hP) ⟨_, rfl, (fun h => by cases h), Rg.cond_f hP, hI, fun _ _ _ _ h => h⟩
      | true =>
        have hw := Rg.wanted_c (ops := (Rg.opsOf Try.f128 15)) (o := (Rg.opsOf Try.f128 15)[4]'(by rw [sizeUp15]; decide)) (g := 3) rfl rfl qg hP
        have g0 := Rg.pc_r hP
        have q0 := hf.kept (s := 4) (by rw [sizeUp15]; kernel_rfl) k4
        exact Rg.op_value (o := ⟨some 127, Op.move (Operand.tmp 4), _, _, _, _⟩) (x := .func (.func 47) #[.agg #[.int .i64 nd.p, .int .i64 nd.g, sv]] #[]) rfl hw (by clear hA HS hN hO HK hx hy hm0 hm1; simp only [execOp]; go_simp) ⟨_, rfl, (fun h => by cases h), (Rg.cond_t hP).symm, hI, fun _ _ _ _ h => h⟩
    · intro ll bb w' hs hlf hN hO hf hI hA
      clear hi'
      have qg : bb.tmps[126]? = some (cond true (.bool (decide ((i : Int) ≤ (j : Int)))) undef) := hf.tmp (k := 3) rfl (by rw [ha]; decide) (hA 3 (by kernel_rfl))
      cases hP : (true && ((decide ((i : Int) ≤ (j : Int))) == true)) with
      | false => exact Rg.op_none (o := ⟨some 128, _, _, _, _, _⟩) rfl (Rg.unwanted_c (g := 3) rfl rfl qg hP) ⟨_, rfl, (fun h => by cases h), Rg.cond_f hP, hI, fun _ _ _ _ h => h⟩
      | true =>
        have hw := Rg.wanted_c (ops := (Rg.opsOf Try.f128 15)) (o := (Rg.opsOf Try.f128 15)[5]'(by rw [sizeUp15]; decide)) (g := 3) rfl rfl qg hP
        have g0 := Rg.pc_r hP
        have q0 := hf.kept (s := 0) (by rw [sizeUp15]; kernel_rfl) k0
        exact Rg.op_value (o := ⟨some 128, Op.move (Operand.tmp 0), _, _, _, _⟩) (x := .slice (some ⟨G, 0, none⟩) m c) rfl hw (by clear hA HS hN hO HK hx hy hm0 hm1; simp only [execOp]; go_simp) ⟨_, rfl, (fun h => by cases h), (Rg.cond_t hP).symm, hI, fun _ _ _ _ h => h⟩
    · intro ll bb w' hs hlf hN hO hf hI hA
      clear hi'
      have qg : bb.tmps[126]? = some (cond true (.bool (decide ((i : Int) ≤ (j : Int)))) undef) := hf.tmp (k := 3) rfl (by rw [ha]; decide) (hA 3 (by kernel_rfl))
      cases hP : (true && ((decide ((i : Int) ≤ (j : Int))) == true)) with
      | false => exact Rg.op_none (o := ⟨some 129, _, _, _, _, _⟩) rfl (Rg.unwanted_c (g := 3) rfl rfl qg hP) ⟨_, rfl, (fun h => by cases h), Rg.cond_f hP, hI, fun _ _ _ _ h => h⟩
      | true =>
        have hw := Rg.wanted_c (ops := (Rg.opsOf Try.f128 15)) (o := (Rg.opsOf Try.f128 15)[6]'(by rw [sizeUp15]; decide)) (g := 3) rfl rfl qg hP
        have g0 := Rg.pc_r hP
        have q0 := hf.kept (s := 13) (by rw [sizeUp15]; kernel_rfl) k13
        exact Rg.op_value (o := ⟨some 129, Op.move (Operand.tmp 13), _, _, _, _⟩) (x := .int .i64 (j : Nat)) rfl hw (by clear hA HS hN hO HK hx hy hm0 hm1; simp only [execOp]; go_simp) ⟨_, rfl, (fun h => by cases h), (Rg.cond_t hP).symm, hI, fun _ _ _ _ h => h⟩
    · intro ll bb w' hs hlf hN hO hf hI hA
      clear hi'
      have qg : bb.tmps[126]? = some (cond true (.bool (decide ((i : Int) ≤ (j : Int)))) undef) := hf.tmp (k := 3) rfl (by rw [ha]; decide) (hA 3 (by kernel_rfl))
      cases hP : (true && ((decide ((i : Int) ≤ (j : Int))) == true)) with
      | false => exact Rg.op_none (o := ⟨some 130, _, _, _, _, _⟩) rfl (Rg.unwanted_c (g := 3) rfl rfl qg hP) ⟨_, rfl, (fun h => by cases h), Rg.cond_f hP, hI, fun _ _ _ _ h => h⟩
      | true =>
        have hw := Rg.wanted_c (ops := (Rg.opsOf Try.f128 15)) (o := (Rg.opsOf Try.f128 15)[7]'(by rw [sizeUp15]; decide)) (g := 3) rfl rfl qg hP
        have g0 := Rg.pc_r hP
        have q128 : bb.tmps[128]? = some (.slice (some ⟨G, 0, none⟩) m c) := hf.tmp (k := 5) rfl (by rw [ha]; decide) (Eq.trans (hA 5 (by kernel_rfl)) (Rg.cond_t hP))
        have q129 : bb.tmps[129]? = some (.int .i64 (j : Nat)) := hf.tmp (k := 6) rfl (by rw [ha]; decide) (Eq.trans (hA 6 (by kernel_rfl)) (Rg.cond_t hP))
        have hgp : i ≤ j := by have q1 := g0; simp at q1; omega
        have hi9 : (((j) : Nat) : Int) < (m : Int) := by have := hm0 hgp; omega
        exact Rg.op_value (o := ⟨some 130, Op.indexAddr 24 (Operand.tmp 128) (Operand.tmp 129), _, _, _, _⟩) (x := .pointer (some ⟨G, (j) * 6, none⟩)) rfl hw (by clear hA HS hN hO HK hx hy hm0 hm1; simp only [execOp]; go_simp) ⟨_, rfl, (fun h => by cases h), (Rg.cond_t hP).symm, hI, fun _ _ _ _ h => h⟩
    · intro ll bb w' hs hlf hN hO hf hI hA
      clear hi'
      have qg : bb.tmps[126]? = some (cond true (.bool (decide ((i : Int) ≤ (j : Int)))) undef) := hf.tmp (k := 3) rfl (by rw [ha]; decide) (hA 3 (by kernel_rfl))
      cases hP : (true && ((decide ((i : Int) ≤ (j : Int))) == true)) with
      | false => exact Rg.op_none (o := ⟨some 131, _, _, _, _, _⟩) rfl (Rg.unwanted_c (g := 3) rfl rfl qg hP) ⟨_, rfl, (fun h => by cases h), Rg.cond_f hP, hI, fun _ _ _ _ h => h⟩
      | true =>
        have hw := Rg.wanted_c (ops := (Rg.opsOf Try.f128 15)) (o := (Rg.opsOf Try.f128 15)[8]'(by rw [sizeUp15]; decide)) (g := 3) rfl rfl qg hP
        have g0 := Rg.pc_r hP
        have q130 : bb.tmps[130]? = some (.pointer (some ⟨G, (j) * 6, none⟩)) := hf.tmp (k := 7) rfl (by rw [ha]; decide) (Eq.trans (hA 7 (by kernel_rfl)) (Rg.cond_t hP))
        have hgp : i ≤ j := by have q1 := g0; simp at q1; omega
        have hx9 := (hx hgp).below hI hGl
        have e0 := hx9.c0
        have e1 := hx9.c1
        have e2 := hx9.c2
        have e3 := hx9.c3
        have e4 := hx9.c4
        have e5 := hx9.c5
        exact Rg.op_value (o := ⟨some 131, Op.load 81 (Operand.tmp 130), _, _, _, _⟩) (x := .agg #[.int .i64 x.1.id, .int .i64 x.1.grp, x.2, .int .i64 x.1.til, .int .i64 x.1.st, .int .i64 x.1.fr]) rfl hw (by clear hA HS hN hO HK hx hy hm0 hm1; simp only [execOp]; go_simp) ⟨_, rfl, (fun h => by cases h), (Rg.cond_t hP).symm, hI, fun _ _ _ _ h => h⟩
    · intro ll bb w' hs hlf hN hO hf hI hA
      clear hi'
      have qg : bb.tmps[126]? = some (cond true (.bool (decide ((i : Int) ≤ (j : Int)))) undef) := hf.tmp (k := 3) rfl (by rw [ha]; decide) (hA 3 (by kernel_rfl))
      cases hP : (true && ((decide ((i : Int) ≤ (j : Int))) == true)) with
      | false => exact Rg.op_none (o := ⟨some 132, _, _, _, _, _⟩) rfl (Rg.unwanted_c (g := 3) rfl rfl qg hP) ⟨_, rfl, (fun h => by cases h), Rg.cond_f hP, hI, fun _ _ _ _ h => h⟩
      | true =>
        have hw := Rg.wanted_c (ops := (Rg.opsOf Try.f128 15)) (o := (Rg.opsOf Try.f128 15)[9]'(by rw [sizeUp15]; decide)) (g := 3) rfl rfl qg hP
        have g0 := Rg.pc_r hP
        have q0 := hf.kept (s := 0) (by rw [sizeUp15]; kernel_rfl) k0
        exact Rg.op_value (o := ⟨some 132, Op.move (Operand.tmp 0), _, _, _, _⟩) (x := .slice (some ⟨G, 0, none⟩) m c) rfl hw (by clear hA HS hN hO HK hx hy hm0 hm1; simp only [execOp]; go_simp) ⟨_, rfl, (fun h => by cases h), (Rg.cond_t hP).symm, hI, fun _ _ _ _ h => h⟩
    · intro ll bb w' hs hlf hN hO hf hI hA
      clear hi'
      have qg : bb.tmps[126]? = some (cond true (.bool (decide ((i : Int) ≤ (j : Int)))) undef) := hf.tmp (k := 3) rfl (by rw [ha]; decide) (hA 3 (by kernel_rfl))
      cases hP : (true && ((decide ((i : Int) ≤ (j : Int))) == true)) with
      | false => exact Rg.op_none (o := ⟨some 133, _, _, _, _, _⟩) rfl (Rg.unwanted_c (g := 3) rfl rfl qg hP) ⟨_, rfl, (fun h => by cases h), Rg.cond_f hP, hI, fun _ _ _ _ h => h⟩
      | true =>
        have hw := Rg.wanted_c (ops := (Rg.opsOf Try.f128 15)) (o := (Rg.opsOf Try.f128 15)[10]'(by rw [sizeUp15]; decide)) (g := 3) rfl rfl qg hP
        have g0 := Rg.pc_r hP
        have q0 := hf.kept (s := 1) (by rw [sizeUp15]; kernel_rfl) k1
        exact Rg.op_value (o := ⟨some 133, Op.move (Operand.tmp 1), _, _, _, _⟩) (x := .int .i64 (la : Nat)) rfl hw (by clear hA HS hN hO HK hx hy hm0 hm1; simp only [execOp]; go_simp) ⟨_, rfl, (fun h => by cases h), (Rg.cond_t hP).symm, hI, fun _ _ _ _ h => h⟩
    · intro ll bb w' hs hlf hN hO hf hI hA
      clear hi'
      have qg : bb.tmps[126]? = some (cond true (.bool (decide ((i : Int) ≤ (j : Int)))) undef) := hf.tmp (k := 3) rfl (by rw [ha]; decide) (hA 3 (by kernel_rfl))
      cases hP : (true && ((decide ((i : Int) ≤ (j : Int))) == true)) with
      | false => exact Rg.op_none (o := ⟨some 134, _, _, _, _, _⟩) rfl (Rg.unwanted_c (g := 3) rfl rfl qg hP) ⟨_, rfl, (fun h => by cases h), Rg.cond_f hP, hI, fun _ _ _ _ h => h⟩
      | true =>
        have hw := Rg.wanted_c (ops := (Rg.opsOf Try.f128 15)) (o := (Rg.opsOf Try.f128 15)[11]'(by rw [sizeUp15]; decide)) (g := 3) rfl rfl qg hP
        have g0 := Rg.pc_r hP
        have q132 : bb.tmps[132]? = some (.slice (some ⟨G, 0, none⟩) m c) := hf.tmp (k := 9) rfl (by rw [ha]; decide) (Eq.trans (hA 9 (by kernel_rfl)) (Rg.cond_t hP))
        have q133 : bb.tmps[133]? = some (.int .i64 (la : Nat)) := hf.tmp (k := 10) rfl (by rw [ha]; decide) (Eq.trans (hA 10 (by kernel_rfl)) (Rg.cond_t hP))
        have hgp : i ≤ j := by have q1 := g0; simp at q1; omega
        have hi9 : (((la) : Nat) : Int) < (m : Int) := by have := hm1 hgp; omega
        exact Rg.op_value (o := ⟨some 134, Op.indexAddr 24 (Operand.tmp 132) (Operand.tmp 133), _, _, _, _⟩) (x := .pointer (some ⟨G, (la) * 6, none⟩)) rfl hw (by clear hA HS hN hO HK hx hy hm0 hm1; simp only [execOp]; go_simp) ⟨_, rfl, (fun h => by cases h), (Rg.cond_t hP).symm, hI, fun _ _ _ _ h => h⟩
    · intro ll bb w' hs hlf hN hO hf hI hA
      clear hi'
      have qg : bb.tmps[126]? = some (cond true (.bool (decide ((i : Int) ≤ (j : Int)))) undef) := hf.tmp (k := 3) rfl (by rw [ha]; decide) (hA 3 (by kernel_rfl))
      cases hP : (true && ((decide ((i : Int) ≤ (j : Int))) == true)) with
      | false => exact Rg.op_none (o := ⟨some 135, _, _, _, _, _⟩) rfl (Rg.unwanted_c (g := 3) rfl rfl qg hP) ⟨_, rfl, (fun h => by cases h), Rg.cond_f hP, hI, fun _ _ _ _ h => h⟩
      | true =>
        have hw := Rg.wanted_c (ops := (Rg.opsOf Try.f128 15)) (o := (Rg.opsOf Try.f128 15)[12]'(by rw [sizeUp15]; decide)) (g := 3) rfl rfl qg hP
        have g0 := Rg.pc_r hP
        have q134 : bb.tmps[134]? = some (.pointer (some ⟨G, (la) * 6, none⟩)) := hf.tmp (k := 11) rfl (by rw [ha]; decide) (Eq.trans (hA 11 (by kernel_rfl)) (Rg.cond_t hP))
        have hgp : i ≤ j := by have q1 := g0; simp at q1; omega
        have hx9 := (hy hgp).below hI hGl
        have e0 := hx9.c0
        have e1 := hx9.c1
        have e2 := hx9.c2
        have e3 := hx9.c3
        have e4 := hx9.c4
        have e5 := hx9.c5
        exact Rg.op_value (o := ⟨some 135, Op.load 81 (Operand.tmp 134), _, _, _, _⟩) (x := .agg #[.int .i64 y.1.id, .int .i64 y.1.grp, y.2, .int .i64 y.1.til, .int .i64 y.1.st, .int .i64 y.1.fr]) rfl hw (by clear hA HS hN hO HK hx hy hm0 hm1; simp only [execOp]; go_simp) ⟨_, rfl, (fun h => by cases h), (Rg.cond_t hP).symm, hI, fun _ _ _ _ h => h⟩
    · intro ll bb w' hs hlf hN hO hf hI hA
      clear hi'
      have qg : bb.tmps[126]? = some (cond true (.bool (decide ((i : Int) ≤ (j : Int)))) undef) := hf.tmp (k := 3) rfl (by rw [ha]; decide) (hA 3 (by kernel_rfl))
      cases hP : (true && ((decide ((i : Int) ≤ (j : Int))) == true)) with
      | false => exact Rg.op_none (o := ⟨some 136, _, _, _, _, _⟩) rfl (Rg.unwanted_c (g := 3) rfl rfl qg hP) ⟨_, rfl, (fun h => by cases h), Rg.cond_f hP, hI, fun _ _ _ _ h => h⟩
      | true =>
        have hw := Rg.wanted_c (ops := (Rg.opsOf Try.f128 15)) (o := (Rg.opsOf Try.f128 15)[13]'(by rw [sizeUp15]; decide)) (g := 3) rfl rfl qg hP
        have g0 := Rg.pc_r hP
        have q127 : bb.tmps[127]? = some (.func (.func 47) #[.agg #[.int .i64 nd.p, .int .i64 nd.g, sv]] #[]) := hf.tmp (k := 4) rfl (by rw [ha]; decide) (Eq.trans (hA 4 (by kernel_rfl)) (Rg.cond_t hP))
        have q131 : bb.tmps[131]? = some (.agg #[.int .i64 x.1.id, .int .i64 x.1.grp, x.2, .int .i64 x.1.til, .int .i64 x.1.st, .int .i64 x.1.fr]) := hf.tmp (k := 8) rfl (by rw [ha]; decide) (Eq.trans (hA 8 (by kernel_rfl)) (Rg.cond_t hP))
        have q135 : bb.tmps[135]? = some (.agg #[.int .i64 y.1.id, .int .i64 y.1.grp, y.2, .int .i64 y.1.til, .int .i64 y.1.st, .int .i64 y.1.fr]) := hf.tmp (k := 12) rfl (by rw [ha]; decide) (Eq.trans (hA 12 (by kernel_rfl)) (Rg.cond_t hP))
        have hgp : i ≤ j := by have q1 := g0; simp at q1; omega
        refine Rg.op_call (o := ⟨some 136, Op.call { callee := Callee.value (Operand.tmp 127), args := #[(Operand.tmp 131), (Operand.tmp 135)], argTypes := _ }, _, _, _, _⟩) rfl hw (by clear hA HS hN hO HK hx hy hm0 hm1; simp only [execOp, resolve]; go_simp) (HK hgp w') ?_
        rintro e w2 ⟨rfl, hb2⟩
        exact ⟨_, rfl, _, rfl, (fun h => by cases h), (Rg.cond_t hP).symm, onto hI hb2, fun k9 y9 _ _ h => HS hb2 k9 y9 h⟩
    · intro ll bb w' hs hlf hN hO hf hI hA
      clear hi'
      have qg : bb.tmps[126]? = some (cond true (.bool (decide ((i : Int) ≤ (j : Int)))) undef) := hf.tmp (k := 3) rfl (by rw [ha]; decide) (hA 3 (by kernel_rfl))
      cases hP : (true && ((decide ((i : Int) ≤ (j : Int))) == true)) with
      | false => exact Rg.op_none (o := ⟨some 137, _, _, _, _, _⟩) rfl (Rg.unwanted_c (g := 3) rfl rfl qg hP) ⟨_, rfl, (fun h => by cases h), Rg.cond_f hP, hI, fun _ _ _ _ h => h⟩
      | true =>
        have hw := Rg.wanted_c (ops := (Rg.opsOf Try.f128 15)) (o := (Rg.opsOf Try.f128 15)[14]'(by rw [sizeUp15]; decide)) (g := 3) rfl rfl qg hP
        have g0 := Rg.pc_r hP
        have q136 : bb.tmps[136]? = some (.int .i64 rr) := hf.tmp (k := 13) rfl (by rw [ha]; decide) (Eq.trans (hA 13 (by kernel_rfl)) (Rg.cond_t hP))
        exact Rg.op_value (o := ⟨some 137, Op.binOp BinOp.lss 3 (Operand.tmp 136) (Operand.const (Value.int .i64 0)) 3, _, _, _, _⟩) (x := .bool (decide (rr < 0))) rfl hw (by clear hA HS hN hO HK hx hy hm0 hm1; simp only [execOp]; go_simp) ⟨_, rfl, (fun h => by cases h), (Rg.cond_t hP).symm, hI, fun _ _ _ _ h => h⟩
    · intro ll bb w' hs hlf hN hO hf hI hA
      clear hi'
      have qg : bb.tmps[126]? = some (cond true (.bool (decide ((i : Int) ≤ (j : Int)))) undef) := hf.tmp (k := 3) rfl (by rw [ha]; decide) (hA 3 (by kernel_rfl))
      cases hP : (true && ((decide ((i : Int) ≤ (j : Int))) == true)) with
      | false => exact Rg.op_none (o := ⟨some 138, _, _, _, _, _⟩) rfl (Rg.unwanted_c (g := 3) rfl rfl qg hP) ⟨_, rfl, (fun h => by cases h), Rg.cond_f hP, hI, fun _ _ _ _ h => h⟩
      | true =>
        have hw := Rg.wanted_c (ops := (Rg.opsOf Try.f128 15)) (o := (Rg.opsOf Try.f128 15)[15]'(by rw [sizeUp15]; decide)) (g := 3) rfl rfl qg hP
        have g0 := Rg.pc_r hP
        have q137 : bb.tmps[137]? = some (.bool (decide (rr < 0))) := hf.tmp (k := 14) rfl (by rw [ha]; decide) (Eq.trans (hA 14 (by kernel_rfl)) (Rg.cond_t hP))
        exact Rg.op_value (o := ⟨some 138, Op.unOp UnOp.not 4 (Operand.tmp 137), _, _, _, _⟩) (x := .bool (!(decide (rr < 0)))) rfl hw (by clear hA HS hN hO HK hx hy hm0 hm1; simp only [execOp]; go_simp) ⟨_, rfl, (fun h => by cases h), (Rg.cond_t hP).symm, hI, fun _ _ _ _ h => h⟩
    · intro ll bb w' hs hlf hN hO hf hI hA
      clear hi'
      have q126 : bb.tmps[126]? = some _ := hf.tmp (k := 3) rfl (by rw [ha]; decide) (hA 3 (by kernel_rfl))
      cases hC : (decide ((i : Int) ≤ (j : Int))) with
      | false =>
        have hval : ((.bool ((decide ((i : Int) ≤ (j : Int))) && (!(decide (rr < 0)))) : Value)) = .bool false := by rw [hC]; rfl
        exact Rg.op_value (o := ⟨some 139, Op.pick (Operand.tmp 126) (Operand.tmp 138) (Operand.const (Value.bool false)), _, _, _, _⟩) (x := .bool false) rfl rfl (by rw [hC] at q126; clear hA HS hN hO HK hx hy hm0 hm1 hval; simp only [execOp]; go_simp) ⟨_, rfl, (fun h => by cases h), (by show ((.bool false : Value)) = _; first | exact hval.symm | rfl), hI, fun _ _ _ _ h => h⟩
      | true =>
        have hB : (true && ((decide ((i : Int) ≤ (j : Int))) == true)) = true := by rw [hC]; rfl
        have q138 : bb.tmps[138]? = some (.bool (!(decide (rr < 0)))) := hf.tmp (k := 15) rfl (by rw [ha]; decide) (Eq.trans (hA 15 (by kernel_rfl)) (Rg.cond_t hB))
        have hval : ((.bool ((decide ((i : Int) ≤ (j : Int))) && (!(decide (rr < 0)))) : Value)) = .bool (!(decide (rr < 0))) := by rw [hC]; rfl
        exact Rg.op_value (o := ⟨some 139, Op.pick (Operand.tmp 126) (Operand.tmp 138) (Operand.const (Value.bool false)), _, _, _, _⟩) (x := .bool (!(decide (rr < 0)))) rfl rfl (by rw [hC] at q126; clear hA HS hN hO HK hx hy hm0 hm1 hval; simp only [execOp]; go_simp) ⟨_, rfl, (fun h => by cases h), (by show ((.bool (!(decide (rr < 0))) : Value)) = _; first | exact hval.symm | rfl), hI, fun _ _ _ _ h => h⟩
theorem dUp15_0 : Rg.dstAt (Rg.opsOf Try.f128 15) 0 = some 123 := by kernel_rfl
theorem dUp15_1 : Rg.dstAt (Rg.opsOf Try.f128 15) 1 = some 124 := by kernel_rfl
theorem dUp15_2 : Rg.dstAt (Rg.opsOf Try.f128 15) 2 = some 125 := by kernel_rfl
theorem dUp15_3 : Rg.dstAt (Rg.opsOf Try.f128 15) 3 = some 126 := by kernel_rfl
theorem dUp15_4 : Rg.dstAt (Rg.opsOf Try.f128 15) 4 = some 127 := by kernel_rfl
theorem dUp15_5 : Rg.dstAt (Rg.opsOf Try.f128 15) 5 = some 128 := by kernel_rfl
theorem dUp15_6 : Rg.dstAt (Rg.opsOf Try.f128 15) 6 = some 129 := by kernel_rfl
theorem dUp15_7 : Rg.dstAt (Rg.opsOf Try.f128 15) 7 = some 130 := by kernel_rfl
theorem dUp15_8 : Rg.dstAt (Rg.opsOf Try.f128 15) 8 = some 131 := by kernel_rfl
theorem dUp15_9 : Rg.dstAt (Rg.opsOf Try.f128 15) 9 = some 132 := by kernel_rfl
theorem dUp15_10 : Rg.dstAt (Rg.opsOf Try.f128 15) 10 = some 133 := by kernel_rfl
theorem dUp15_11 : Rg.dstAt (Rg.opsOf Try.f128 15) 11 = some 134 := by kernel_rfl
theorem dUp15_12 : Rg.dstAt (Rg.opsOf Try.f128 15) 12 = some 135 := by kernel_rfl
theorem dUp15_13 : Rg.dstAt (Rg.opsOf Try.f128 15) 13 = some 136 := by kernel_rfl
theorem dUp15_14 : Rg.dstAt (Rg.opsOf Try.f128 15) 14 = some 137 := by kernel_rfl
theorem dUp15_15 : Rg.dstAt (Rg.opsOf Try.f128 15) 15 = some 138 := by kernel_rfl
theorem dUp15_16 : Rg.dstAt (Rg.opsOf Try.f128 15) 16 = some 139 := by kernel_rfl
theorem layUp15 {a b : Act} (hf : Rg.Fr (Rg.opsOf Try.f128 15) a b) : b = (((((((((((((((((a.put (some 123) (Rg.out (Rg.opsOf Try.f128 15) b 0)).put (some 124) (Rg.out (Rg.opsOf Try.f128 15) b 1)).put (some 125) (Rg.out (Rg.opsOf Try.f128 15) b 2)).put (some 126) (Rg.out (Rg.opsOf Try.f128 15) b 3)).put (some 127) (Rg.out (Rg.opsOf Try.f128 15) b 4)).put (some 128) (Rg.out (Rg.opsOf Try.f128 15) b 5)).put (some 129) (Rg.out (Rg.opsOf Try.f128 15) b 6)).put (some 130) (Rg.out (Rg.opsOf Try.f128 15) b 7)).put (some 131) (Rg.out (Rg.opsOf Try.f128 15) b 8)).put (some 132) (Rg.out (Rg.opsOf Try.f128 15) b 9)).put (some 133) (Rg.out (Rg.opsOf Try.f128 15) b 10)).put (some 134) (Rg.out (Rg.opsOf Try.f128 15) b 11)).put (some 135) (Rg.out (Rg.opsOf Try.f128 15) b 12)).put (some 136) (Rg.out (Rg.opsOf Try.f128 15) b 13)).put (some 137) (Rg.out (Rg.opsOf Try.f128 15) b 14)).put (some 138) (Rg.out (Rg.opsOf Try.f128 15) b 15)).put (some 139) (Rg.out (Rg.opsOf Try.f128 15) b 16)) := by
  have h := hf.chain
  rw [sizeUp15, show List.range 17 = [0, 1, 2, 3, 4, 5, 6, 7, 8, 9, 10, 11, 12, 13, 14, 15, 16] from by decide] at h
  simp only [List.foldl_cons, List.foldl_nil, dUp15_0, dUp15_1, dUp15_2, dUp15_3, dUp15_4, dUp15_5, dUp15_6, dUp15_7, dUp15_8, dUp15_9, dUp15_10, dUp15_11, dUp15_12, dUp15_13, dUp15_14, dUp15_15, dUp15_16] at h
  exact h
set_option maxRecDepth 20000 in
set_option maxHeartbeats 32000000 in
theorem upartition_any (nd : Nd) (sv : Value) (D : UE → Prop) (G c m a b pv : Nat) (d : List UE) (w : World) (h : SU c w G d) (hm : d.length = m) (hmm : m ≤ 100000) (hap : a ≤ pv) (hpb : pv < b) (hab : a + 1 < b) (hb : b ≤ m) (hF : Fine (ltU nd) D d) (hK : LessU nd sv D) (hSl : SlU D) :
    Calls Try.prog 128 #[.slice (some ⟨G, 0, none⟩) m c, .int .i64 a, .int .i64 b, .int .i64 pv, (.func (.func 47) #[.agg #[.int .i64 nd.p, .int .i64 nd.g, sv]] #[])] w fun e w' => ∃ (p : Nat) (fl : Bool), e = .returned (.tuple #[.int .i64 p, .bool fl]) ∧ ∃ d', SU c w' G d' ∧ PO a b d d' ∧ Parted (ltU nd) a p b d' ∧ (a ≤ p ∧ p < b) ∧ Below G w w' := by
  have HF := hidden hF
  have HK := hidden hK
  have HM := hidden hm
  have HSl := hidden hSl
  have hs := hidden h
  have HP0 : Hid (PO a b d (Pq.sw d a pv)) := PO.sw (by omega) (by omega) (by omega) (by omega) (by omega)
  have hbw : Below G w w := Below.refl _ _
  have hw1 : IntKind.i64.wrap ((a : Int) + 1) = ((a + 1 : Nat) : Int) := by rw [IntKind.wrap_i64]; omega
  obtain ⟨b1, hb1⟩ : ∃ b1, b1 + 1 = b := ⟨b - 1, by omega⟩
  have hw2 : IntKind.i64.wrap ((b : Int) - 1) = (b1 : Int) := by rw [IntKind.wrap_i64]; omega
  have ham : (a : Int) < (m : Int) := by omega
  have hpm : (pv : Int) < (m : Int) := by omega
  have hmi : Hid (Mid (ltU nd) a b (a + 1) b1 (Pq.sw d a pv)) := by have h := mid_start (lt := ltU nd) hab (Pq.sw d a pv); rw [show b - 1 = b1 from by omega] at h; exact h
  clear hF hK hSl h
  go_enter Try.func128, Try.ntmps128
  go_wp2_with fail
  go_cut [] from 14 to 27 (fun wx => Hid (SU c wx G (Pq.sw d a pv)) ∧ Below G w wx)
  case first =>
    have hFe := HF.out
    have hel := hm
    by_cases hapv : a = pv
    · subst hapv
      have hGl := hs.out.lt
      have hxs := HSl.out (at' d (a)) (hFe.all _ (at_mem (by omega)))
      have hys := HSl.out (at' d (a)) (hFe.all _ (at_mem (by omega)))
      have HSW := hidden (hs.out.sw (i := a) (j := a) (by omega) (by omega))
      have HB := hidden (put6_below (put6_below hbw (Nat.le_refl _) (at' d (a)) (o := (a) * 6)) (Nat.le_refl _) (at' d (a)) (o := (a) * 6))
      obtain ⟨p0, p1, p2, p3, p4, p5, p6, p7, p8, p9, p10, p11⟩ := hs.out.at (i := a) (by omega)
      obtain ⟨q0, q1, q2, q3, q4, q5, q6, q7, q8, q9, q10, q11⟩ := hs.out.at (i := a) (by omega)
      clear hs hFe hel hbw
      generalize at' d a = x at *
      obtain ⟨xu, xv⟩ := x
      obtain ⟨xa, xn, xc, hx2⟩ := hxs
      dsimp only at hx2
      subst hx2
      clear hys q0 q1 q2 q3 q4 q5 q6 q7 q8 q9 q10 q11
      dsimp only at p0 p1 p2 p3 p4 p5
      go_wp2_with fail
      go_region
      all_goals go_wp2_with fail
      all_goals go_meet
      case rel => exact ⟨HSW.out.below (st_drew (Below.refl _ _)), st_drew HB.out⟩
    · have hapl : a < pv := by omega
      clear hapv hap
      have hGl := hs.out.lt
      have hxs := HSl.out (at' d (a)) (hFe.all _ (at_mem (by omega)))
      have hys := HSl.out (at' d (pv)) (hFe.all _ (at_mem (by omega)))
      have HSW := hidden (hs.out.sw (i := a) (j := pv) (by omega) (by omega))
      have HB := hidden (put6_below (put6_below hbw (Nat.le_refl _) (at' d (pv)) (o := (a) * 6)) (Nat.le_refl _) (at' d (a)) (o := (pv) * 6))
      obtain ⟨p0, p1, p2, p3, p4, p5, p6, p7, p8, p9, p10, p11⟩ := hs.out.at (i := a) (by omega)
      obtain ⟨q0, q1, q2, q3, q4, q5, q6, q7, q8, q9, q10, q11⟩ := hs.out.at (i := pv) (by omega)
      clear hs hFe hel hbw
      generalize at' d (a) = x at *
      generalize at' d (pv) = y at *
      obtain ⟨xu, xv⟩ := x
      obtain ⟨yu, yv⟩ := y
      obtain ⟨xa, xn, xc, hx2⟩ := hxs
      obtain ⟨ya, yn, yc, hy2⟩ := hys
      dsimp only at hx2 hy2
      subst hx2 hy2
      dsimp only at p0 p1 p2 p3 p4 p5 q0 q1 q2 q3 q4 q5
      go_wp2_with fail
      go_region
      all_goals go_wp2_with fail
      all_goals go_meet
      case rel => exact ⟨HSW.out.below (st_drew (Below.refl _ _)), st_drew HB.out⟩
  case rest =>
    obtain ⟨hs, hbw⟩ := hcut
    rename World => ws
    have hpo := HP0
    have HFe := hidden (HF.out.po hpo.out)
    have HEL : Hid ((Pq.sw d a pv).length = m) := by show _ = _; rw [hpo.out.len]; exact HM.out
    obtain ⟨i, hi⟩ : ∃ i, a + 1 = i := ⟨_, rfl⟩
    rw [hi] at hw1 hmi
    generalize Pq.sw d a pv = e at *
    obtain ⟨j, hj⟩ : ∃ j, b1 = j := ⟨_, rfl⟩
    rw [hj] at hw2 hmi
    clear HP0 hi hj hb1
    go_wp2_with fail
    go_loopw [12] (fun iv ws => ∃ i' : Nat, iv = .int .i64 i' ∧ (i ≤ i' ∧ i' ≤ j + 1) ∧ Hid (Mid (ltU nd) a b i' j e) ∧ Hid (SU c ws G e) ∧ Below G w ws) (fun iv _ => j + 1 - (intOf iv).toNat)
    case atStart => exact ⟨i, rfl, ⟨Nat.le_refl _, by have := hmi.out.ij; omega⟩, hmi, hs, hbw⟩
    case round =>
      clear hmi hs hbw
      rename_i i0 _ _
      obtain ⟨i, rfl, ⟨hii, hij9⟩, hmi, hs, hbw⟩ := hrel
      rename World => ws
      have hmj := hmi.out.jb
      have hma := hmi.out.ai
      have hmij := hmi.out.ij
      have hGl := hs.out.lt
      have hel : e.length = m := HEL.out
      have hx : i ≤ j → UC ws G (i * 6) (at' e i) := fun q => hs.out.at (by omega)
      have hy : i ≤ j → UC ws G (a * 6) (at' e a) := fun q => hs.out.at (by omega)
      have hK2 : i ≤ j → ∀ W, _ := fun q => HK.out (at' e i) (at' e a) (HFe.out.all _ (at_mem (by omega))) (HFe.out.all _ (at_mem (by omega)))
      have HUP : Hid ((decide ((i : Int) ≤ (j : Int)) && decide (cmpU nd (at' e i) (at' e a) < 0)) = true → i ≤ j ∧ Mid (ltU nd) a b (i + 1) j e) := fun q => by
        rw [Bool.and_eq_true, decide_eq_true_eq, decide_eq_true_eq] at q
        exact ⟨by omega, mid_up hmi.out (by omega) ((cmpU_lt nd _ _).1 q.2)⟩
      have HNO : Hid ((decide ((i : Int) ≤ (j : Int)) && decide (cmpU nd (at' e i) (at' e a) < 0)) = false → i ≤ j → ¬ ltU nd (at' e i) (at' e a)) := fun q hq z => by
        rw [decide_eq_true ((cmpU_lt nd _ _).2 z), decide_eq_true (by omega)] at q
        cases q
      have hwi : i ≤ j → IntKind.i64.wrap ((i : Int) + 1) = ((i + 1 : Nat) : Int) := fun q => by rw [IntKind.wrap_i64]; omega
      go_wp2_with fail
      skip
      refine regUp3 (G := G) (m := m) (c := c) (nd := nd) (sv := sv) (rr := cmpU nd (at' e i) (at' e a)) (la := a) (i := i) (j := j) rfl rfl rfl rfl rfl rfl hGl hx hy (fun q => by omega) (fun q => by omega) hmm hK2 ?_
      intro b' w6 hf hb6 hv
      rw [layUp3 hf, hv]
      clear hv hf
      generalize Rg.out (Rg.opsOf Try.f128 3) b' 0 = z0
      generalize Rg.out (Rg.opsOf Try.f128 3) b' 1 = z1
      generalize Rg.out (Rg.opsOf Try.f128 3) b' 2 = z2
      generalize Rg.out (Rg.opsOf Try.f128 3) b' 3 = z3
      generalize Rg.out (Rg.opsOf Try.f128 3) b' 4 = z4
      generalize Rg.out (Rg.opsOf Try.f128 3) b' 5 = z5
      generalize Rg.out (Rg.opsOf Try.f128 3) b' 6 = z6
      generalize Rg.out (Rg.opsOf Try.f128 3) b' 7 = z7
      generalize Rg.out (Rg.opsOf Try.f128 3) b' 8 = z8
      generalize Rg.out (Rg.opsOf Try.f128 3) b' 9 = z9
      generalize Rg.out (Rg.opsOf Try.f128 3) b' 10 = z10
      generalize Rg.out (Rg.opsOf Try.f128 3) b' 11 = z11
      generalize Rg.out (Rg.opsOf Try.f128 3) b' 12 = z12
      generalize Rg.out (Rg.opsOf Try.f128 3) b' 13 = z13
      generalize Rg.out (Rg.opsOf Try.f128 3) b' 14 = z14
      generalize (decide ((i : Int) ≤ (j : Int)) && decide (cmpU nd (at' e i) (at' e a) < 0)) = TT at *
      have HS6 := hidden (hs.out.below hb6)
      have HB6 := hidden (hbw.trans (hb6.mono (Nat.le_of_lt hGl)))
      clear hx hy hK2 hs hbw hb6 hmj hma hmij hel
      go_frame
      cases TT with
      | true =>
        obtain ⟨q1, q2⟩ := HUP.out rfl
        have hwi2 := hwi q1
        clear hwi
        have Q2 := hidden q2
        clear q2 HUP HNO hmi
        go_wp2_with fail
        go_roundw
        case rel => exact ⟨i + 1, by simp, ⟨by omega, by omega⟩, Q2, HS6, HB6.out⟩
        case measure => simp [intOf]; omega
      | false =>
        have HI := hidden (HNO.out rfl)
        have hs := HS6
        have hbw := HB6.out
        clear HUP HNO HS6 HB6 hwi
        have HI2 : Hid (∀ j', j' ≤ j → i ≤ j' → ¬ ltU nd (at' e i) (at' e a)) := fun j' h1 h2 => HI.out (by omega)
        clear HI
        go_wp2_with fail
        go_loopw [13] (fun jv ws => ∃ j' : Nat, jv = .int .i64 j' ∧ j' ≤ j ∧ Hid (i ≤ j' → ¬ ltU nd (at' e i) (at' e a)) ∧ Hid (Mid (ltU nd) a b i j' e) ∧ Hid (SU c ws G e) ∧ Below G w ws) (fun jv _ => (intOf jv).toNat)
        case atStart => exact ⟨j, rfl, Nat.le_refl _, fun h2 => HI2.out j (Nat.le_refl _) h2, hmi, hs, hbw⟩
        case round =>
          clear hmi hs hbw HI2
          rename_i j0 _ _
          obtain ⟨j, rfl, hjj, HI, hmi, hs, hbw⟩ := hrel
          rename World => ws
          have hmj := hmi.out.jb
          have hma := hmi.out.ai
          have hmij := hmi.out.ij
          have hGl := hs.out.lt
          have hel : e.length = m := HEL.out
          have hx : i ≤ j → UC ws G (j * 6) (at' e j) := fun q => hs.out.at (by omega)
          have hy : i ≤ j → UC ws G (a * 6) (at' e a) := fun q => hs.out.at (by omega)
          have hK2 : i ≤ j → ∀ W, _ := fun q => HK.out (at' e j) (at' e a) (HFe.out.all _ (at_mem (by omega))) (HFe.out.all _ (at_mem (by omega)))
          have hwj : i ≤ j → IntKind.i64.wrap ((j : Int) - 1) = ((j - 1 : Nat) : Int) := fun q => by rw [IntKind.wrap_i64]; omega
          have HDN : Hid ((decide ((i : Int) ≤ (j : Int)) && !decide (cmpU nd (at' e j) (at' e a) < 0)) = true → (i ≤ j ∧ 1 ≤ j) ∧ Mid (ltU nd) a b i (j - 1) e) := fun q => by
            rw [Bool.and_eq_true, decide_eq_true_eq, Bool.not_eq_true', decide_eq_false_iff_not] at q
            exact ⟨by omega, mid_down HFe.out (by have := HEL.out; omega) hmi.out (by omega) (fun z => q.2 ((cmpU_lt nd _ _).2 z))⟩
          have HNO : Hid ((decide ((i : Int) ≤ (j : Int)) && !decide (cmpU nd (at' e j) (at' e a) < 0)) = false → i ≤ j → ltU nd (at' e j) (at' e a)) := fun q hq => by
            rw [decide_eq_true (show (i : Int) ≤ (j : Int) by omega), Bool.true_and, Bool.not_eq_false', decide_eq_true_eq] at q
            exact (cmpU_lt nd _ _).1 q
          go_wp2_with fail
          skip
          refine regUp5 (G := G) (m := m) (c := c) (nd := nd) (sv := sv) (rr := cmpU nd (at' e j) (at' e a)) (la := a) (i := i) (j := j) rfl rfl rfl rfl rfl rfl hGl hx hy (fun q => by omega) (fun q => by omega) hmm hK2 ?_
          intro b' w6 hf hb6 hv
          rw [layUp5 hf, hv]
          clear hv hf
          generalize Rg.out (Rg.opsOf Try.f128 5) b' 0 = z0
          generalize Rg.out (Rg.opsOf Try.f128 5) b' 1 = z1
          generalize Rg.out (Rg.opsOf Try.f128 5) b' 2 = z2
          generalize Rg.out (Rg.opsOf Try.f128 5) b' 3 = z3
          generalize Rg.out (Rg.opsOf Try.f128 5) b' 4 = z4
          generalize Rg.out (Rg.opsOf Try.f128 5) b' 5 = z5
          generalize Rg.out (Rg.opsOf Try.f128 5) b' 6 = z6
          generalize Rg.out (Rg.opsOf Try.f128 5) b' 7 = z7
          generalize Rg.out (Rg.opsOf Try.f128 5) b' 8 = z8
          generalize Rg.out (Rg.opsOf Try.f128 5) b' 9 = z9
          generalize Rg.out (Rg.opsOf Try.f128 5) b' 10 = z10
          generalize Rg.out (Rg.opsOf Try.f128 5) b' 11 = z11
          generalize Rg.out (Rg.opsOf Try.f128 5) b' 12 = z12
          generalize Rg.out (Rg.opsOf Try.f128 5) b' 13 = z13
          generalize Rg.out (Rg.opsOf Try.f128 5) b' 14 = z14
          generalize Rg.out (Rg.opsOf Try.f128 5) b' 15 = z15
          generalize (decide ((i : Int) ≤ (j : Int)) && !decide (cmpU nd (at' e j) (at' e a) < 0)) = TT at *
          have HS6 := hidden (hs.out.below hb6)
          have HB6 := hidden (hbw.trans (hb6.mono (Nat.le_of_lt hGl)))
          clear hx hy hK2 hs hbw hb6 hmj hma hmij hel
          go_frame
          cases TT with
          | true =>
            obtain ⟨⟨q1, q3⟩, q2⟩ := HDN.out rfl
            have hwj2 := hwj q1
            have HI3 : Hid (i ≤ j - 1 → ¬ ltU nd (at' e i) (at' e a)) := fun h2 => HI.out (by omega)
            have Q2 := hidden q2
            clear q2 HDN HNO hmi hwj
            go_wp2_with fail
            go_roundw
            case rel => exact ⟨j - 1, rfl, by omega, HI3, Q2, HS6, HB6.out⟩
            case measure => simp [intOf]; omega
          | false =>
            have HJ := hidden (HNO.out rfl)
            have hs := HS6
            have hbw := HB6.out
            clear HDN HNO HS6 HB6 hwj
            by_cases hgt : j < i
            · clear HI HJ
              obtain ⟨e1, e2, e3⟩ := mid_end hmi.out (by have := HEL.out; omega) hgt
              have HPA := hidden e3
              have hmj := hmi.out.jb
              have hFe := HFe.out
              have hel := HEL.out
              have HPO : Hid (PO a b d (Pq.sw e j a)) := hpo.out.trans (PO.sw (by omega) (by omega) (by omega) (by omega) (by omega))
              have hgti : (j : Int) < (i : Int) := by omega
              have hjm : (j : Int) < (m : Int) := by omega
              have ham : (a : Int) < (m : Int) := by omega
              clear e3 hmi
              by_cases hja : a = j
              · subst hja
                have hGl := hs.out.lt
                have hxs := HSl.out (at' e (a)) (hFe.all _ (at_mem (by omega)))
                have hys := HSl.out (at' e (a)) (hFe.all _ (at_mem (by omega)))
                have HSW := hidden (hs.out.sw (i := a) (j := a) (by omega) (by omega))
                have HB := hidden (put6_below (put6_below hbw (Nat.le_refl _) (at' e (a)) (o := (a) * 6)) (Nat.le_refl _) (at' e (a)) (o := (a) * 6))
                obtain ⟨p0, p1, p2, p3, p4, p5, p6, p7, p8, p9, p10, p11⟩ := hs.out.at (i := a) (by omega)
                obtain ⟨q0, q1, q2, q3, q4, q5, q6, q7, q8, q9, q10, q11⟩ := hs.out.at (i := a) (by omega)
                clear hs hFe hel hpo hbw
                generalize at' e a = x at *
                obtain ⟨xu, xv⟩ := x
                obtain ⟨xa, xn, xc, hx2⟩ := hxs
                dsimp only at hx2
                subst hx2
                clear hys q0 q1 q2 q3 q4 q5 q6 q7 q8 q9 q10 q11
                dsimp only at p0 p1 p2 p3 p4 p5
                go_wp2_with fail
                go_region
                all_goals go_wp2_with fail
                all_goals (try simp only [Exit.inBlock, Exit.then])
                all_goals refine bodyPost_ret (v := .tuple #[.int .i64 a, .bool true]) (by simp [results, Try.results128, go_sem]) rfl ?_
                exact ⟨a, _, rfl, _, HSW.out.below (st_drew (Below.refl _ _)), HPO.out, HPA.out, ⟨by omega, by omega⟩, st_drew HB.out⟩
              · have haj : a < j := by omega
                clear hja e2
                have hGl := hs.out.lt
                have hxs := HSl.out (at' e (j)) (hFe.all _ (at_mem (by omega)))
                have hys := HSl.out (at' e (a)) (hFe.all _ (at_mem (by omega)))
                have HSW := hidden (hs.out.sw (i := j) (j := a) (by omega) (by omega))
                have HB := hidden (put6_below (put6_below hbw (Nat.le_refl _) (at' e (a)) (o := (j) * 6)) (Nat.le_refl _) (at' e (j)) (o := (a) * 6))
                obtain ⟨p0, p1, p2, p3, p4, p5, p6, p7, p8, p9, p10, p11⟩ := hs.out.at (i := j) (by omega)
                obtain ⟨q0, q1, q2, q3, q4, q5, q6, q7, q8, q9, q10, q11⟩ := hs.out.at (i := a) (by omega)
                clear hs hFe hel hpo hbw
                generalize at' e (j) = x at *
                generalize at' e (a) = y at *
                obtain ⟨xu, xv⟩ := x
                obtain ⟨yu, yv⟩ := y
                obtain ⟨xa, xn, xc, hx2⟩ := hxs
                obtain ⟨ya, yn, yc, hy2⟩ := hys
                dsimp only at hx2 hy2
                subst hx2 hy2
                dsimp only at p0 p1 p2 p3 p4 p5 q0 q1 q2 q3 q4 q5
                go_wp2_with fail
                go_region
                all_goals go_wp2_with fail
                all_goals (try simp only [Exit.inBlock, Exit.then])
                all_goals refine bodyPost_ret (v := .tuple #[.int .i64 j, .bool true]) (by simp [results, Try.results128, go_sem]) rfl ?_
                exact ⟨j, _, rfl, _, HSW.out.below (st_drew (Below.refl _ _)), HPO.out, HPA.out, ⟨by omega, by omega⟩, st_drew HB.out⟩
            · skip
              have hne : i ≠ j := fun z => by
                subst z
                exact HI.out (Nat.le_refl _) (HJ.out (Nat.le_refl _))
              have hmj := hmi.out.jb
              have hma := hmi.out.ai
              have hlt : i < j := by omega
              have HM2 := hidden (mid_swap HFe.out (by have := HEL.out; omega) hmi.out hlt (HI.out (by omega)) (HJ.out (by omega)))
              have hFe := HFe.out
              have hel := HEL.out
              have HPO : Hid (PO a b d (Pq.sw e i j)) := hpo.out.trans (PO.sw (by omega) (by omega) (by omega) (by omega) (by omega))
              have hgti : ¬ (j : Int) < (i : Int) := by omega
              have hjm : (j : Int) < (m : Int) := by omega
              have him : (i : Int) < (m : Int) := by omega
              have hwj : IntKind.i64.wrap ((j : Int) - 1) = ((j - 1 : Nat) : Int) := by rw [IntKind.wrap_i64]; omega
              clear hmi HI HJ hne
              have hGl := hs.out.lt
              have hxs := HSl.out (at' e (i)) (hFe.all _ (at_mem (by omega)))
              have hys := HSl.out (at' e (j)) (hFe.all _ (at_mem (by omega)))
              have HSW := hidden (hs.out.sw (i := i) (j := j) (by omega) (by omega))
              have HB := hidden (put6_below (put6_below hbw (Nat.le_refl _) (at' e (j)) (o := (i) * 6)) (Nat.le_refl _) (at' e (i)) (o := (j) * 6))
              obtain ⟨p0, p1, p2, p3, p4, p5, p6, p7, p8, p9, p10, p11⟩ := hs.out.at (i := i) (by omega)
              obtain ⟨q0, q1, q2, q3, q4, q5, q6, q7, q8, q9, q10, q11⟩ := hs.out.at (i := j) (by omega)
              clear hs hFe hel hpo hbw
              generalize at' e (i) = x at *
              generalize at' e (j) = y at *
              obtain ⟨xu, xv⟩ := x
              obtain ⟨yu, yv⟩ := y
              obtain ⟨xa, xn, xc, hx2⟩ := hxs
              obtain ⟨ya, yn, yc, hy2⟩ := hys
              dsimp only at hx2 hy2
              subst hx2 hy2
              dsimp only at p0 p1 p2 p3 p4 p5 q0 q1 q2 q3 q4 q5
              go_wp2_with fail
              go_region
              all_goals go_wp2_with fail
              generalize Pq.sw e i j = e3 at *
              have HS3 := hidden (HSW.out.below (st_drew (Below.refl _ _)))
              have HB3 := hidden (st_drew HB.out)
              clear HSW HB
              go_loopw [12, 13] (fun iv jv ws => ∃ (i j : Nat) (e : List UE), iv = .int .i64 i ∧ jv = .int .i64 j ∧ Hid (Mid (ltU nd) a b i j e) ∧ Hid (SU c ws G e) ∧ Hid (PO a b d e) ∧ Below G w ws) (fun iv jv _ => (intOf jv).toNat + 1 - (intOf iv).toNat)
              case atStart => exact ⟨i + 1, j - 1, e3, by simp, rfl, HM2, HS3, HPO, HB3.out⟩
              case round =>
                clear HM2 HS3 HPO HB3
                obtain ⟨i, j, e, rfl, rfl, hmi, hs, hpo, hbw⟩ := hrel
                rename World => ws
                have HFe := hidden (HF.out.po hpo.out)
                have HEL : Hid (e.length = m) := by show _ = _; rw [hpo.out.len]; exact HM.out
                go_wp2_with fail
                go_loopw [12] (fun iv ws => ∃ i' : Nat, iv = .int .i64 i' ∧ (i ≤ i' ∧ i' ≤ j + 1) ∧ Hid (Mid (ltU nd) a b i' j e) ∧ Hid (SU c ws G e) ∧ Below G w ws) (fun iv _ => j + 1 - (intOf iv).toNat)
                case atStart => exact ⟨i, rfl, ⟨Nat.le_refl _, by have := hmi.out.ij; omega⟩, hmi, hs, hbw⟩
                case round =>
                  clear hmi hs hbw
                  rename_i i0 _ _
                  obtain ⟨i, rfl, ⟨hii, hij9⟩, hmi, hs, hbw⟩ := hrel
                  rename World => ws
                  have hmj := hmi.out.jb
                  have hma := hmi.out.ai
                  have hmij := hmi.out.ij
                  have hGl := hs.out.lt
                  have hel : e.length = m := HEL.out
                  have hx : i ≤ j → UC ws G (i * 6) (at' e i) := fun q => hs.out.at (by omega)
                  have hy : i ≤ j → UC ws G (a * 6) (at' e a) := fun q => hs.out.at (by omega)
                  have hK2 : i ≤ j → ∀ W, _ := fun q => HK.out (at' e i) (at' e a) (HFe.out.all _ (at_mem (by omega))) (HFe.out.all _ (at_mem (by omega)))
                  have HUP : Hid ((decide ((i : Int) ≤ (j : Int)) && decide (cmpU nd (at' e i) (at' e a) < 0)) = true → i ≤ j ∧ Mid (ltU nd) a b (i + 1) j e) := fun q => by
                    rw [Bool.and_eq_true, decide_eq_true_eq, decide_eq_true_eq] at q
                    exact ⟨by omega, mid_up hmi.out (by omega) ((cmpU_lt nd _ _).1 q.2)⟩
                  have HNO : Hid ((decide ((i : Int) ≤ (j : Int)) && decide (cmpU nd (at' e i) (at' e a) < 0)) = false → i ≤ j → ¬ ltU nd (at' e i) (at' e a)) := fun q hq z => by
                    rw [decide_eq_true ((cmpU_lt nd _ _).2 z), decide_eq_true (by omega)] at q
                    cases q
                  have hwi : i ≤ j → IntKind.i64.wrap ((i : Int) + 1) = ((i + 1 : Nat) : Int) := fun q => by rw [IntKind.wrap_i64]; omega
                  go_wp2_with fail
                  skip
                  refine regUp13 (G := G) (m := m) (c := c) (nd := nd) (sv := sv) (rr := cmpU nd (at' e i) (at' e a)) (la := a) (i := i) (j := j) rfl rfl rfl rfl rfl rfl hGl hx hy (fun q => by omega) (fun q => by omega) hmm hK2 ?_
                  intro b' w6 hf hb6 hv
                  rw [layUp13 hf, hv]
                  clear hv hf
                  generalize Rg.out (Rg.opsOf Try.f128 13) b' 0 = z0
                  generalize Rg.out (Rg.opsOf Try.f128 13) b' 1 = z1
                  generalize Rg.out (Rg.opsOf Try.f128 13) b' 2 = z2
                  generalize Rg.out (Rg.opsOf Try.f128 13) b' 3 = z3
                  generalize Rg.out (Rg.opsOf Try.f128 13) b' 4 = z4
                  generalize Rg.out (Rg.opsOf Try.f128 13) b' 5 = z5
                  generalize Rg.out (Rg.opsOf Try.f128 13) b' 6 = z6
                  generalize Rg.out (Rg.opsOf Try.f128 13) b' 7 = z7
                  generalize Rg.out (Rg.opsOf Try.f128 13) b' 8 = z8
                  generalize Rg.out (Rg.opsOf Try.f128 13) b' 9 = z9
                  generalize Rg.out (Rg.opsOf Try.f128 13) b' 10 = z10
                  generalize Rg.out (Rg.opsOf Try.f128 13) b' 11 = z11
                  generalize Rg.out (Rg.opsOf Try.f128 13) b' 12 = z12
                  generalize Rg.out (Rg.opsOf Try.f128 13) b' 13 = z13
                  generalize Rg.out (Rg.opsOf Try.f128 13) b' 14 = z14
                  generalize (decide ((i : Int) ≤ (j : Int)) && decide (cmpU nd (at' e i) (at' e a) < 0)) = TT at *
                  have HS6 := hidden (hs.out.below hb6)
                  have HB6 := hidden (hbw.trans (hb6.mono (Nat.le_of_lt hGl)))
                  clear hx hy hK2 hs hbw hb6 hmj hma hmij hel
                  go_frame
                  cases TT with
                  | true =>
                    obtain ⟨q1, q2⟩ := HUP.out rfl
                    have hwi2 := hwi q1
                    clear hwi
                    have Q2 := hidden q2
                    clear q2 HUP HNO hmi
                    go_wp2_with fail
                    go_roundw
                    case rel => exact ⟨i + 1, by simp, ⟨by omega, by omega⟩, Q2, HS6, HB6.out⟩
                    case measure => simp [intOf]; omega
                  | false =>
                    have HI := hidden (HNO.out rfl)
                    have hs := HS6
                    have hbw := HB6.out
                    clear HUP HNO HS6 HB6 hwi
                    have HI2 : Hid (∀ j', j' ≤ j → i ≤ j' → ¬ ltU nd (at' e i) (at' e a)) := fun j' h1 h2 => HI.out (by omega)
                    clear HI
                    go_wp2_with fail
                    go_loopw [13] (fun jv ws => ∃ j' : Nat, jv = .int .i64 j' ∧ j' ≤ j ∧ Hid (i ≤ j' → ¬ ltU nd (at' e i) (at' e a)) ∧ Hid (Mid (ltU nd) a b i j' e) ∧ Hid (SU c ws G e) ∧ Below G w ws) (fun jv _ => (intOf jv).toNat)
                    case atStart => exact ⟨j, rfl, Nat.le_refl _, fun h2 => HI2.out j (Nat.le_refl _) h2, hmi, hs, hbw⟩
                    case round =>
                      clear hmi hs hbw HI2
                      rename_i j0 _ _
                      obtain ⟨j, rfl, hjj, HI, hmi, hs, hbw⟩ := hrel
                      rename World => ws
                      have hmj := hmi.out.jb
                      have hma := hmi.out.ai
                      have hmij := hmi.out.ij
                      have hGl := hs.out.lt
                      have hel : e.length = m := HEL.out
                      have hx : i ≤ j → UC ws G (j * 6) (at' e j) := fun q => hs.out.at (by omega)
                      have hy : i ≤ j → UC ws G (a * 6) (at' e a) := fun q => hs.out.at (by omega)
                      have hK2 : i ≤ j → ∀ W, _ := fun q => HK.out (at' e j) (at' e a) (HFe.out.all _ (at_mem (by omega))) (HFe.out.all _ (at_mem (by omega)))
                      have hwj : i ≤ j → IntKind.i64.wrap ((j : Int) - 1) = ((j - 1 : Nat) : Int) := fun q => by rw [IntKind.wrap_i64]; omega
                      have HDN : Hid ((decide ((i : Int) ≤ (j : Int)) && !decide (cmpU nd (at' e j) (at' e a) < 0)) = true → (i ≤ j ∧ 1 ≤ j) ∧ Mid (ltU nd) a b i (j - 1) e) := fun q => by
                        rw [Bool.and_eq_true, decide_eq_true_eq, Bool.not_eq_true', decide_eq_false_iff_not] at q
                        exact ⟨by omega, mid_down HFe.out (by have := HEL.out; omega) hmi.out (by omega) (fun z => q.2 ((cmpU_lt nd _ _).2 z))⟩
                      have HNO : Hid ((decide ((i : Int) ≤ (j : Int)) && !decide (cmpU nd (at' e j) (at' e a) < 0)) = false → i ≤ j → ltU nd (at' e j) (at' e a)) := fun q hq => by
                        rw [decide_eq_true (show (i : Int) ≤ (j : Int) by omega), Bool.true_and, Bool.not_eq_false', decide_eq_true_eq] at q
                        exact (cmpU_lt nd _ _).1 q
                      go_wp2_with fail
                      skip
                      refine regUp15 (G := G) (m := m) (c := c) (nd := nd) (sv := sv) (rr := cmpU nd (at' e j) (at' e a)) (la := a) (i := i) (j := j) rfl rfl rfl rfl rfl rfl hGl hx hy (fun q => by omega) (fun q => by omega) hmm hK2 ?_
                      intro b' w6 hf hb6 hv
                      rw [layUp15 hf, hv]
                      clear hv hf
                      generalize Rg.out (Rg.opsOf Try.f128 15) b' 0 = z0
                      generalize Rg.out (Rg.opsOf Try.f128 15) b' 1 = z1
                      generalize Rg.out (Rg.opsOf Try.f128 15) b' 2 = z2
                      generalize Rg.out (Rg.opsOf Try.f128 15) b' 3 = z3
                      generalize Rg.out (Rg.opsOf Try.f128 15) b' 4 = z4
                      generalize Rg.out (Rg.opsOf Try.f128 15) b' 5 = z5
                      generalize Rg.out (Rg.opsOf Try.f128 15) b' 6 = z6
                      generalize Rg.out (Rg.opsOf Try.f128 15) b' 7 = z7
                      generalize Rg.out (Rg.opsOf Try.f128 15) b' 8 = z8
                      generalize Rg.out (Rg.opsOf Try.f128 15) b' 9 = z9
                      generalize Rg.out (Rg.opsOf Try.f128 15) b' 10 = z10
                      generalize Rg.out (Rg.opsOf Try.f128 15) b' 11 = z11
                      generalize Rg.out (Rg.opsOf Try.f128 15) b' 12 = z12
                      generalize Rg.out (Rg.opsOf Try.f128 15) b' 13 = z13
                      generalize Rg.out (Rg.opsOf Try.f128 15) b' 14 = z14
                      generalize Rg.out (Rg.opsOf Try.f128 15) b' 15 = z15
                      generalize (decide ((i : Int) ≤ (j : Int)) && !decide (cmpU nd (at' e j) (at' e a) < 0)) = TT at *
                      have HS6 := hidden (hs.out.below hb6)
                      have HB6 := hidden (hbw.trans (hb6.mono (Nat.le_of_lt hGl)))
                      clear hx hy hK2 hs hbw hb6 hmj hma hmij hel
                      go_frame
                      cases TT with
                      | true =>
                        obtain ⟨⟨q1, q3⟩, q2⟩ := HDN.out rfl
                        have hwj2 := hwj q1
                        have HI3 : Hid (i ≤ j - 1 → ¬ ltU nd (at' e i) (at' e a)) := fun h2 => HI.out (by omega)
                        have Q2 := hidden q2
                        clear q2 HDN HNO hmi hwj
                        go_wp2_with fail
                        go_roundw
                        case rel => exact ⟨j - 1, rfl, by omega, HI3, Q2, HS6, HB6.out⟩
                        case measure => simp [intOf]; omega
                      | false =>
                        have HJ := hidden (HNO.out rfl)
                        have hs := HS6
                        have hbw := HB6.out
                        clear HDN HNO HS6 HB6 hwj
                        by_cases hgt : j < i
                        · clear HI HJ
                          obtain ⟨e1, e2, e3⟩ := mid_end hmi.out (by have := HEL.out; omega) hgt
                          have HPA := hidden e3
                          have hmj := hmi.out.jb
                          have hFe := HFe.out
                          have hel := HEL.out
                          have HPO : Hid (PO a b d (Pq.sw e j a)) := hpo.out.trans (PO.sw (by omega) (by omega) (by omega) (by omega) (by omega))
                          have hgti : (j : Int) < (i : Int) := by omega
                          have hjm : (j : Int) < (m : Int) := by omega
                          have ham : (a : Int) < (m : Int) := by omega
                          clear e3 hmi
                          by_cases hja : a = j
                          · subst hja
                            have hGl := hs.out.lt
                            have hxs := HSl.out (at' e (a)) (hFe.all _ (at_mem (by omega)))
                            have hys := HSl.out (at' e (a)) (hFe.all _ (at_mem (by omega)))
                            have HSW := hidden (hs.out.sw (i := a) (j := a) (by omega) (by omega))
                            have HB := hidden (put6_below (put6_below hbw (Nat.le_refl _) (at' e (a)) (o := (a) * 6)) (Nat.le_refl _) (at' e (a)) (o := (a) * 6))
                            obtain ⟨p0, p1, p2, p3, p4, p5, p6, p7, p8, p9, p10, p11⟩ := hs.out.at (i := a) (by omega)
                            obtain ⟨q0, q1, q2, q3, q4, q5, q6, q7, q8, q9, q10, q11⟩ := hs.out.at (i := a) (by omega)
                            clear hs hFe hel hpo hbw
                            generalize at' e a = x at *
                            obtain ⟨xu, xv⟩ := x
                            obtain ⟨xa, xn, xc, hx2⟩ := hxs
                            dsimp only at hx2
                            subst hx2
                            clear hys q0 q1 q2 q3 q4 q5 q6 q7 q8 q9 q10 q11
                            dsimp only at p0 p1 p2 p3 p4 p5
                            go_wp2_with fail
                            go_region
                            all_goals go_wp2_with fail
                            all_goals (try simp only [Exit.inBlock, Exit.then])
                            all_goals refine bodyPost_ret (v := .tuple #[.int .i64 a, .bool false]) (by simp [results, Try.results128, go_sem]) rfl ?_
                            exact ⟨a, _, rfl, _, HSW.out.below (st_drew (Below.refl _ _)), HPO.out, HPA.out, ⟨by omega, by omega⟩, st_drew HB.out⟩
                          · have haj : a < j := by omega
                            clear hja e2
                            have hGl := hs.out.lt
                            have hxs := HSl.out (at' e (j)) (hFe.all _ (at_mem (by omega)))
                            have hys := HSl.out (at' e (a)) (hFe.all _ (at_mem (by omega)))
                            have HSW := hidden (hs.out.sw (i := j) (j := a) (by omega) (by omega))
                            have HB := hidden (put6_below (put6_below hbw (Nat.le_refl _) (at' e (a)) (o := (j) * 6)) (Nat.le_refl _) (at' e (j)) (o := (a) * 6))
                            obtain ⟨p0, p1, p2, p3, p4, p5, p6, p7, p8, p9, p10, p11⟩ := hs.out.at (i := j) (by omega)
                            obtain ⟨q0, q1, q2, q3, q4, q5, q6, q7, q8, q9, q10, q11⟩ := hs.out.at (i := a) (by omega)
                            clear hs hFe hel hpo hbw
                            generalize at' e (j) = x at *
                            generalize at' e (a) = y at *
                            obtain ⟨xu, xv⟩ := x
                            obtain ⟨yu, yv⟩ := y
                            obtain ⟨xa, xn, xc, hx2⟩ := hxs
                            obtain ⟨ya, yn, yc, hy2⟩ := hys
                            dsimp only at hx2 hy2
                            subst hx2 hy2
                            dsimp only at p0 p1 p2 p3 p4 p5 q0 q1 q2 q3 q4 q5
                            go_wp2_with fail
                            go_region
                            all_goals go_wp2_with fail
                            all_goals (try simp only [Exit.inBlock, Exit.then])
                            all_goals refine bodyPost_ret (v := .tuple #[.int .i64 j, .bool false]) (by simp [results, Try.results128, go_sem]) rfl ?_
                            exact ⟨j, _, rfl, _, HSW.out.below (st_drew (Below.refl _ _)), HPO.out, HPA.out, ⟨by omega, by omega⟩, st_drew HB.out⟩
                        · skip
                          have hne : i ≠ j := fun z => by
                            subst z
                            exact HI.out (Nat.le_refl _) (HJ.out (Nat.le_refl _))
                          have hmj := hmi.out.jb
                          have hma := hmi.out.ai
                          have hlt : i < j := by omega
                          have HM2 := hidden (mid_swap HFe.out (by have := HEL.out; omega) hmi.out hlt (HI.out (by omega)) (HJ.out (by omega)))
                          have hFe := HFe.out
                          have hel := HEL.out
                          have HPO : Hid (PO a b d (Pq.sw e i j)) := hpo.out.trans (PO.sw (by omega) (by omega) (by omega) (by omega) (by omega))
                          have hgti : ¬ (j : Int) < (i : Int) := by omega
                          have hjm : (j : Int) < (m : Int) := by omega
                          have him : (i : Int) < (m : Int) := by omega
                          have hwj : IntKind.i64.wrap ((j : Int) - 1) = ((j - 1 : Nat) : Int) := by rw [IntKind.wrap_i64]; omega
                          clear hmi HI HJ hne
                          have hGl := hs.out.lt
                          have hxs := HSl.out (at' e (i)) (hFe.all _ (at_mem (by omega)))
                          have hys := HSl.out (at' e (j)) (hFe.all _ (at_mem (by omega)))
                          have HSW := hidden (hs.out.sw (i := i) (j := j) (by omega) (by omega))
                          have HB := hidden (put6_below (put6_below hbw (Nat.le_refl _) (at' e (j)) (o := (i) * 6)) (Nat.le_refl _) (at' e (i)) (o := (j) * 6))
                          obtain ⟨p0, p1, p2, p3, p4, p5, p6, p7, p8, p9, p10, p11⟩ := hs.out.at (i := i) (by omega)
                          obtain ⟨q0, q1, q2, q3, q4, q5, q6, q7, q8, q9, q10, q11⟩ := hs.out.at (i := j) (by omega)
                          clear hs hFe hel hpo hbw
                          generalize at' e (i) = x at *
                          generalize at' e (j) = y at *
                          obtain ⟨xu, xv⟩ := x
                          obtain ⟨yu, yv⟩ := y
                          obtain ⟨xa, xn, xc, hx2⟩ := hxs
                          obtain ⟨ya, yn, yc, hy2⟩ := hys
                          dsimp only at hx2 hy2
                          subst hx2 hy2
                          dsimp only at p0 p1 p2 p3 p4 p5 q0 q1 q2 q3 q4 q5
                          go_wp2_with fail
                          go_region
                          all_goals go_wp2_with fail
                          all_goals go_roundw
                          case rel => exact ⟨i + 1, j - 1, Pq.sw e i j, by simp, rfl, HM2, HSW.out.below (st_drew (Below.refl _ _)), HPO, st_drew HB.out⟩
                          case measure => simp [intOf]; omega
end Go.Proofs.Ytgcpiinmcbdkmaa
