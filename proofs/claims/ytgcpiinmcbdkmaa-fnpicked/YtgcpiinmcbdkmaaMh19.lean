/-
  Merged: Pk13.
-/
import Derived.Test.YtgcpiinmcbdkmaaMh13
import Derived.Test.YtgcpiinmcbdkmaaMh17
import Derived.Test.YtgcpiinmcbdkmaaMh18
namespace Go.Proofs.Ytgcpiinmcbdkmaa
open Go.RowKit Va Bl Pq
set_option linter.all false
def FUs17 (G m c : Nat) (x y : UE) (nd : Nd) (sv : Value) (rr : Int) (la pv a1 : Nat) (i9 : Nat) (v : Value) (w : World) : Prop :=
  match i9 with
  | 0 => v = .int .i64 (la : Nat)
  | 1 => v = .bool (decide (0 < (la : Int)))
  | 2 => v = .bool (decide (0 < (la : Int)))
  | 3 => v = cond (true && ((decide (0 < (la : Int))) == true)) (.func (.func 47) #[.agg #[.int .i64 nd.p, .int .i64 nd.g, sv]] #[]) undef
  | 4 => v = cond (true && ((decide (0 < (la : Int))) == true)) (.slice (some ⟨G, 0, none⟩) m c) undef
  | 5 => v = cond (true && ((decide (0 < (la : Int))) == true)) (.int .i64 (la : Nat)) undef
  | 6 => v = cond (true && ((decide (0 < (la : Int))) == true)) (.int .i64 ((a1 : Nat))) undef
  | 7 => v = cond (true && ((decide (0 < (la : Int))) == true)) (.pointer (some ⟨G, (a1) * 6, none⟩)) undef
  | 8 => v = cond (true && ((decide (0 < (la : Int))) == true)) (.agg #[.int .i64 x.1.id, .int .i64 x.1.grp, x.2, .int .i64 x.1.til, .int .i64 x.1.st, .int .i64 x.1.fr]) undef
  | 9 => v = cond (true && ((decide (0 < (la : Int))) == true)) (.slice (some ⟨G, 0, none⟩) m c) undef
  | 10 => v = cond (true && ((decide (0 < (la : Int))) == true)) (.int .i64 (pv : Nat)) undef
  | 11 => v = cond (true && ((decide (0 < (la : Int))) == true)) (.pointer (some ⟨G, (pv) * 6, none⟩)) undef
  | 12 => v = cond (true && ((decide (0 < (la : Int))) == true)) (.agg #[.int .i64 y.1.id, .int .i64 y.1.grp, y.2, .int .i64 y.1.til, .int .i64 y.1.st, .int .i64 y.1.fr]) undef
  | 13 => v = cond (true && ((decide (0 < (la : Int))) == true)) (.int .i64 rr) undef
  | 14 => v = cond (true && ((decide (0 < (la : Int))) == true)) (.bool (decide (rr < 0))) undef
  | 15 => v = cond (true && ((decide (0 < (la : Int))) == true)) (.bool (!(decide (rr < 0)))) undef
  | 16 => v = .bool ((decide (0 < (la : Int))) && (!(decide (rr < 0))))
  | _ => True
theorem sizeUs17 : (Rg.opsOf Try.f85 17).size = 17 := by kernel_rfl
set_option maxRecDepth 20000 in
set_option maxHeartbeats 8000000 in
theorem regUs17 {Q : Exit → Act → World → Prop} {a : Act} {w9 : World} {G m c : Nat} {x y : UE} {nd : Nd} {sv : Value} {rr : Int} {la pv a1 : Nat} (ha : a.tmps.size = 148)
    (k1 : a.tmps[1]? = some (.int .i64 (la : Nat))) (k13 : a.tmps[13]? = some (.int .i64 (pv : Nat))) (k4 : a.tmps[4]? = some (.func (.func 47) #[.agg #[.int .i64 nd.p, .int .i64 nd.g, sv]] #[])) (k0 : a.tmps[0]? = some (.slice (some ⟨G, 0, none⟩) m c)) (hGl : G < w9.heap.size) (hx : 0 < la → UC w9 G ((a1) * 6) x) (hy : 0 < la → UC w9 G ((pv) * 6) y) (hm0 : 0 < la → a1 < m) (hm1 : 0 < la → pv < m) (hmm : m ≤ 100000)  (hw87 : 0 < la → IntKind.i64.wrap ((la : Int) - 1) = (a1 : Int)) (HK : 0 < la → ∀ W, Calls Try.prog 47 #[.agg #[.int .i64 nd.p, .int .i64 nd.g, sv], .agg #[.int .i64 x.1.id, .int .i64 x.1.grp, x.2, .int .i64 x.1.til, .int .i64 x.1.st, .int .i64 x.1.fr], .agg #[.int .i64 y.1.id, .int .i64 y.1.grp, y.2, .int .i64 y.1.til, .int .i64 y.1.st, .int .i64 y.1.fr]] W fun e w' => e = .returned (.int .i64 rr) ∧ Below W.heap.size W w')
    (hend : ∀ b' w', Rg.Fr (Rg.opsOf Try.f85 17) a b' → Below w9.heap.size w9 w' → Rg.out (Rg.opsOf Try.f85 17) b' 16 = .bool ((decide (0 < (la : Int))) && (!(decide (rr < 0)))) → Q .normal b' w') :
    (Code.region 17 (Rg.opsOf Try.f85 17) true).wp Try.prog Q a w9 := by
  refine Rg.region_set3 (by kernel_rfl) (fun _ w' => Below w9.heap.size w9 w') (FUs17 G m c x y nd sv rr la pv a1) (by rw [ha, sizeUs17]; kernel_rfl) (st_drew (Below.refl _ _)) ?_ ?_
  case refine_2 =>
    intro l b' w' hf hall hI hA
    rw [sizeUs17] at hA
    exact hend b' w' hf hI (hA 16 (by decide))
  case refine_1 =>
    clear hend
    have HS : ∀ {w w' : World}, Below w.heap.size w w' → ∀ k9 y9, FUs17 G m c x y nd sv rr la pv a1 k9 y9 w → FUs17 G m c x y nd sv rr la pv a1 k9 y9 w' := fun hb k9 y9 h => by
      unfold FUs17 at *
      split at h <;> exact h
    intro i' hi'
    rw [sizeUs17] at hi'
    rcases (show i' = 0 ∨ i' = 1 ∨ i' = 2 ∨ i' = 3 ∨ i' = 4 ∨ i' = 5 ∨ i' = 6 ∨ i' = 7 ∨ i' = 8 ∨ i' = 9 ∨ i' = 10 ∨ i' = 11 ∨ i' = 12 ∨ i' = 13 ∨ i' = 14 ∨ i' = 15 ∨ i' = 16 by omega) with rfl | rfl | rfl | rfl | rfl | rfl | rfl | rfl | rfl | rfl | rfl | rfl | rfl | rfl | rfl | rfl | rfl
    · intro ll bb w' hs hlf hN hO hf hI hA
      clear hi'
      have q0 := hf.kept (s := 1) (by rw [sizeUs17]; kernel_rfl) k1
      exact Rg.op_value (o := ⟨some 81, Op.move (Operand.tmp 1), _, _, _, _⟩) (x := .int .i64 (la : Nat)) rfl rfl (by clear hA HS hN hO HK hx hy hm0 hm1; simp only [execOp]; go_simp) ⟨_, rfl, (fun h => by cases h), rfl, hI, fun _ _ _ _ h => h⟩
    · intro ll bb w' hs hlf hN hO hf hI hA
      clear hi'
      have q81 : bb.tmps[81]? = some _ := hf.tmp (k := 0) rfl (by rw [ha]; decide) (hA 0 (by kernel_rfl))
      exact Rg.op_value (o := ⟨some 82, Op.binOp BinOp.gtr 3 (Operand.tmp 81) (Operand.const (Value.int .i64 0)) 3, _, _, _, _⟩) (x := .bool (decide (0 < (la : Int)))) rfl rfl (by clear hA HS hN hO HK hx hy hm0 hm1; simp only [execOp]; go_simp) ⟨_, rfl, (fun h => by cases h), rfl, hI, fun _ _ _ _ h => h⟩
    · intro ll bb w' hs hlf hN hO hf hI hA
      clear hi'
      have q82 : bb.tmps[82]? = some _ := hf.tmp (k := 1) rfl (by rw [ha]; decide) (hA 1 (by kernel_rfl))
      exact Rg.op_value (o := ⟨some 83, Op.move (Operand.tmp 82), _, _, _, _⟩) (x := .bool (decide (0 < (la : Int)))) rfl rfl (by clear hA HS hN hO HK hx hy hm0 hm1; simp only [execOp]; go_simp) ⟨_, rfl, (fun h => by cases h), rfl, hI, fun _ _ _ _ h => h⟩
    · intro ll bb w' hs hlf hN hO hf hI hA
      clear hi'
      have qg : bb.tmps[83]? = some (cond true (.bool (decide (0 < (la : Int)))) undef) := hf.tmp (k := 2) rfl (by rw [ha]; decide) (hA 2 (by kernel_rfl))
      cases hP : (true && ((decide (0 < (la : Int))) == true)) with
      | false => exact Rg.op_none (o := ⟨some 84, _, _, _, _, _⟩) rfl (Rg.unwanted_c (g := 2) rfl rfl qg hP) ⟨_, rfl, (fun h => by cases h), Rg.cond_f hP, hI, fun _ _ _ _ h => h⟩
      | true =>
        have hw := Rg.wanted_c (ops := (Rg.opsOf Try.f85 17)) (o := (Rg.opsOf Try.f85 17)[3]'(by rw [sizeUs17]; decide)) (g := 2) rfl rfl qg hP
        have g0 := Rg.pc_r hP
        have q0 := hf.kept (s := 4) (by rw [sizeUs17]; kernel_rfl) k4
        exact Rg.op_value (o := ⟨some 84, Op.move (Operand.tmp 4), _, _, _, _⟩) (x := .func (.func 47) #[.agg #[.int .i64 nd.p, .int .i64 nd.g, sv]] #[]) rfl hw (by clear hA HS hN hO HK hx hy hm0 hm1; simp only [execOp]; go_simp) ⟨_, rfl, (fun h => by cases h), (Rg.cond_t hP).symm, hI, fun _ _ _ _ h => h⟩
    · intro ll bb w' hs hlf hN hO hf hI hA
      clear hi'
      have qg : bb.tmps[83]? = some (cond true (.bool (decide (0 < (la : Int)))) undef) := hf.tmp (k := 2) rfl (by rw [ha]; decide) (hA 2 (by kernel_rfl))
      cases hP : (true && ((decide (0 < (la : Int))) == true)) with
      | false => exact Rg.op_none (o := ⟨some 85, _, _, _, _, _⟩) rfl (Rg.unwanted_c (g := 2) rfl rfl qg hP) ⟨_, rfl, (fun h => by cases h), Rg.cond_f hP, hI, fun _ _ _ _ h => h⟩
      | true =>
        have hw := Rg.wanted_c (ops := (Rg.opsOf Try.f85 17)) (o := (Rg.opsOf Try.f85 17)[4]'(by rw [sizeUs17]; decide)) (g := 2) rfl rfl qg hP
        have g0 := Rg.pc_r hP
        have q0 := hf.kept (s := 0) (by rw [sizeUs17]; kernel_rfl) k0
        exact Rg.op_value (o := ⟨some 85, Op.move (Operand.tmp 0), _, _, _, _⟩) (x := .slice (some ⟨G, 0, none⟩) m c) rfl hw (by clear hA HS hN hO HK hx hy hm0 hm1; simp only [execOp]; go_simp) ⟨_, rfl, (fun h => by cases h), (Rg.cond_t hP).symm, hI, fun _ _ _ _ h => h⟩
    · intro ll bb w' hs hlf hN hO hf hI hA
      clear hi'
      have qg : bb.tmps[83]? = some (cond true (.bool (decide (0 < (la : Int)))) undef) := hf.tmp (k := 2) rfl (by rw [ha]; decide) (hA 2 (by kernel_rfl))
      cases hP : (true && ((decide (0 < (la : Int))) == true)) with
      | false => exact Rg.op_none (o := ⟨some 86, _, _, _, _, _⟩) rfl (Rg.unwanted_c (g := 2) rfl rfl qg hP) ⟨_, rfl, (fun h => by cases h), Rg.cond_f hP, hI, fun _ _ _ _ h => h⟩
      | true =>
        have hw := Rg.wanted_c (ops := (Rg.opsOf Try.f85 17)) (o := (Rg.opsOf Try.f85 17)[5]'(by rw [sizeUs17]; decide)) (g := 2) rfl rfl qg hP
        have g0 := Rg.pc_r hP
        have q0 := hf.kept (s := 1) (by rw [sizeUs17]; kernel_rfl) k1
        exact Rg.op_value (o := ⟨some 86, Op.move (Operand.tmp 1), _, _, _, _⟩) (x := .int .i64 (la : Nat)) rfl hw (by clear hA HS hN hO HK hx hy hm0 hm1; simp only [execOp]; go_simp) ⟨_, rfl, (fun h => by cases h), (Rg.cond_t hP).symm, hI, fun _ _ _ _ h => h⟩
    · intro ll bb w' hs hlf hN hO hf hI hA
      clear hi'
      have qg : bb.tmps[83]? = some (cond true (.bool (decide (0 < (la : Int)))) undef) := hf.tmp (k := 2) rfl (by rw [ha]; decide) (hA 2 (by kernel_rfl))
      cases hP : (true && ((decide (0 < (la : Int))) == true)) with
      | false => exact Rg.op_none (o := ⟨some 87, _, _, _, _, _⟩) rfl (Rg.unwanted_c (g := 2) rfl rfl qg hP) ⟨_, rfl, (fun h => by cases h), Rg.cond_f hP, hI, fun _ _ _ _ h => h⟩
      | true =>
        have hw := Rg.wanted_c (ops := (Rg.opsOf Try.f85 17)) (o := (Rg.opsOf Try.f85 17)[6]'(by rw [sizeUs17]; decide)) (g := 2) rfl rfl qg hP
        have g0 := Rg.pc_r hP
        have q86 : bb.tmps[86]? = some (.int .i64 (la : Nat)) := hf.tmp (k := 5) rfl (by rw [ha]; decide) (Eq.trans (hA 5 (by kernel_rfl)) (Rg.cond_t hP))
        have hgq : 0 < la := by have q1 := g0; simp at q1; omega
        have hw9 := hw87 hgq
        exact Rg.op_value (o := ⟨some 87, Op.binOp BinOp.sub 3 (Operand.tmp 86) (Operand.const (Value.int .i64 1)) 3, _, _, _, _⟩) (x := .int .i64 ((a1 : Nat))) rfl hw (by clear hA HS hN hO HK hx hy hm0 hm1; simp only [execOp]; go_simp) ⟨_, rfl, (fun h => by cases h), (Rg.cond_t hP).symm, hI, fun _ _ _ _ h => h⟩
    · intro ll bb w' hs hlf hN hO hf hI hA
      clear hi'
      have qg : bb.tmps[83]? = some (cond true (.bool (decide (0 < (la : Int)))) undef) := hf.tmp (k := 2) rfl (by rw [ha]; decide) (hA 2 (by kernel_rfl))
      cases hP : (true && ((decide (0 < (la : Int))) == true)) with
      | false => exact Rg.op_none (o := ⟨some 88, _, _, _, _, _⟩) rfl (Rg.unwanted_c (g := 2) rfl rfl qg hP) ⟨_, rfl, (fun h => by cases h), Rg.cond_f hP, hI, fun _ _ _ _ h => h⟩
      | true =>
        have hw := Rg.wanted_c (ops := (Rg.opsOf Try.f85 17)) (o := (Rg.opsOf Try.f85 17)[7]'(by rw [sizeUs17]; decide)) (g := 2) rfl rfl qg hP
        have g0 := Rg.pc_r hP
        have q85 : bb.tmps[85]? = some (.slice (some ⟨G, 0, none⟩) m c) := hf.tmp (k := 4) rfl (by rw [ha]; decide) (Eq.trans (hA 4 (by kernel_rfl)) (Rg.cond_t hP))
        have q87 : bb.tmps[87]? = some (.int .i64 ((a1 : Nat))) := hf.tmp (k := 6) rfl (by rw [ha]; decide) (Eq.trans (hA 6 (by kernel_rfl)) (Rg.cond_t hP))
        have hgp : 0 < la := by have q1 := g0; simp at q1; omega
        have hi9 : (((a1) : Nat) : Int) < (m : Int) := by have := hm0 hgp; omega
        exact Rg.op_value (o := ⟨some 88, Op.indexAddr 24 (Operand.tmp 85) (Operand.tmp 87), _, _, _, _⟩) (x := .pointer (some ⟨G, (a1) * 6, none⟩)) rfl hw (by clear hA HS hN hO HK hx hy hm0 hm1; simp only [execOp]; go_simp) ⟨_, rfl, (fun h => by cases h), (Rg.cond_t hP).symm, hI, fun _ _ _ _ h => h⟩
    · intro ll bb w' hs hlf hN hO hf hI hA
      clear hi'
      have qg : bb.tmps[83]? = some (cond true (.bool (decide (0 < (la : Int)))) undef) := hf.tmp (k := 2) rfl (by rw [ha]; decide) (hA 2 (by kernel_rfl))
      cases hP : (true && ((decide (0 < (la : Int))) == true)) with
      | false => exact Rg.op_none (o := ⟨some 89, _, _, _, _, _⟩) rfl (Rg.unwanted_c (g := 2) rfl rfl qg hP) ⟨_, rfl, (fun h => by cases h), Rg.cond_f hP, hI, fun _ _ _ _ h => h⟩
      | true =>
        have hw := Rg.wanted_c (ops := (Rg.opsOf Try.f85 17)) (o := (Rg.opsOf Try.f85 17)[8]'(by rw [sizeUs17]; decide)) (g := 2) rfl rfl qg hP
        have g0 := Rg.pc_r hP
        have q88 : bb.tmps[88]? = some (.pointer (some ⟨G, (a1) * 6, none⟩)) := hf.tmp (k := 7) rfl (by rw [ha]; decide) (Eq.trans (hA 7 (by kernel_rfl)) (Rg.cond_t hP))
        have hgp : 0 < la := by have q1 := g0; simp at q1; omega
        have hx9 := (hx hgp).below hI hGl
        have e0 := hx9.c0
        have e1 := hx9.c1
        have e2 := hx9.c2
        have e3 := hx9.c3
        have e4 := hx9.c4
        have e5 := hx9.c5
        exact Rg.op_value (o := ⟨some 89, Op.load 81 (Operand.tmp 88), _, _, _, _⟩) (x := .agg #[.int .i64 x.1.id, .int .i64 x.1.grp, x.2, .int .i64 x.1.til, .int .i64 x.1.st, .int .i64 x.1.fr]) rfl hw (by clear hA HS hN hO HK hx hy hm0 hm1; simp only [execOp]; go_simp) ⟨_, rfl, (fun h => by cases h), (Rg.cond_t hP).symm, hI, fun _ _ _ _ h => h⟩
    · intro ll bb w' hs hlf hN hO hf hI hA
      clear hi'
      have qg : bb.tmps[83]? = some (cond true (.bool (decide (0 < (la : Int)))) undef) := hf.tmp (k := 2) rfl (by rw [ha]; decide) (hA 2 (by kernel_rfl))
      cases hP : (true && ((decide (0 < (la : Int))) == true)) with
      | false => exact Rg.op_none (o := ⟨some 90, _, _, _, _, _⟩) rfl (Rg.unwanted_c (g := 2) rfl rfl qg hP) ⟨_, rfl, (fun h => by cases h), Rg.cond_f hP, hI, fun _ _ _ _ h => h⟩
      | true =>
        have hw := Rg.wanted_c (ops := (Rg.opsOf Try.f85 17)) (o := (Rg.opsOf Try.f85 17)[9]'(by rw [sizeUs17]; decide)) (g := 2) rfl rfl qg hP
        have g0 := Rg.pc_r hP
        have q0 := hf.kept (s := 0) (by rw [sizeUs17]; kernel_rfl) k0
        exact Rg.op_value (o := ⟨some 90, Op.move (Operand.tmp 0), _, _, _, _⟩) (x := .slice (some ⟨G, 0, none⟩) m c) rfl hw (by clear hA HS hN hO HK hx hy hm0 hm1; simp only [execOp]; go_simp) ⟨_, rfl, (fun h => by cases h), (Rg.cond_t hP).symm, hI, fun _ _ _ _ h => h⟩
    · intro ll bb w' hs hlf hN hO hf hI hA
      clear hi'
      have qg : bb.tmps[83]? = some (cond true (.bool (decide (0 < (la : Int)))) undef) := hf.tmp (k := 2) rfl (by rw [ha]; decide) (hA 2 (by kernel_rfl))
      cases hP : (true && ((decide (0 < (la : Int))) == true)) with
      | false => exact Rg.op_none (o := ⟨some 91, _, _, _, _, _⟩) rfl (Rg.unwanted_c (g := 2) rfl rfl qg hP) ⟨_, rfl, (fun h => by cases h), Rg.cond_f hP, hI, fun _ _ _ _ h => h⟩
      | true =>
        have hw := Rg.wanted_c (ops := (Rg.opsOf Try.f85 17)) (o := (Rg.opsOf Try.f85 17)[10]'(by rw [sizeUs17]; decide)) (g := 2) rfl rfl qg hP
        have g0 := Rg.pc_r hP
        have q0 := hf.kept (s := 13) (by rw [sizeUs17]; kernel_rfl) k13
        exact Rg.op_value (o := ⟨some 91, Op.move (Operand.tmp 13), _, _, _, _⟩) (x := .int .i64 (pv : Nat)) rfl hw (by clear hA HS hN hO HK hx hy hm0 hm1; simp only [execOp]; go_simp) ⟨_, rfl, (fun h => by cases h), (Rg.cond_t hP).symm, hI, fun _ _ _ _ h => h⟩
    · intro ll bb w' hs hlf hN hO hf hI hA
      clear hi'
      have qg : bb.tmps[83]? = some (cond true (.bool (decide (0 < (la : Int)))) undef) := hf.tmp (k := 2) rfl (by rw [ha]; decide) (hA 2 (by kernel_rfl))
      cases hP : (true && ((decide (0 < (la : Int))) == true)) with
      | false => exact Rg.op_none (o := ⟨some 92, _, _, _, _, _⟩) rfl (Rg.unwanted_c (g := 2) rfl rfl qg hP) ⟨_, rfl, (fun h => by cases h), Rg.cond_f hP, hI, fun _ _ _ _ h => h⟩
      | true =>
        have hw := Rg.wanted_c (ops := (Rg.opsOf Try.f85 17)) (o := (Rg.opsOf Try.f85 17)[11]'(by rw [sizeUs17]; decide)) (g := 2) rfl rfl qg hP
        have g0 := Rg.pc_r hP
        have q90 : bb.tmps[90]? = some (.slice (some ⟨G, 0, none⟩) m c) := hf.tmp (k := 9) rfl (by rw [ha]; decide) (Eq.trans (hA 9 (by kernel_rfl)) (Rg.cond_t hP))
        have q91 : bb.tmps[91]? = some (.int .i64 (pv : Nat)) := hf.tmp (k := 10) rfl (by rw [ha]; decide) (Eq.trans (hA 10 (by kernel_rfl)) (Rg.cond_t hP))
        have hgp : 0 < la := by have q1 := g0; simp at q1; omega
        have hi9 : (((pv) : Nat) : Int) < (m : Int) := by have := hm1 hgp; omega
        exact Rg.op_value (o := ⟨some 92, Op.indexAddr 24 (Operand.tmp 90) (Operand.tmp 91), _, _, _, _⟩) (x := .pointer (some ⟨G, (pv) * 6, none⟩)) rfl hw (by clear hA HS hN hO HK hx hy hm0 hm1; simp only [execOp]; go_simp) ⟨_, rfl, (fun h => by cases h), (Rg.cond_t hP).symm, hI, fun _ _ _ _ h => h⟩
    · intro ll bb w' hs hlf hN hO hf hI hA
      clear hi'
      have qg : bb.tmps[83]? = some (cond true (.bool (decide (0 < (la : Int)))) undef) := hf.tmp (k := 2) rfl (by rw [ha]; decide) (hA 2 (by kernel_rfl))
      cases hP : (true && ((decide (0 < (la : Int))) == true)) with
      | false => exact Rg.op_none (o := ⟨some 93, _, _, _, _, _⟩) rfl (Rg.unwanted_c (g := 2) rfl rfl qg hP) ⟨_, rfl, (fun h => by cases h), Rg.cond_f hP, hI, fun _ _ _ _ h => h⟩
      | true =>
        have hw := Rg.wanted_c (ops := (Rg.opsOf Try.f85 17)) (o := (Rg.opsOf Try.f85 17)[12]'(by rw [sizeUs17]; decide)) (g := 2) rfl rfl qg hP
        have g0 := Rg.pc_r hP
        have q92 : bb.tmps[92]? = some (.pointer (some ⟨G, (pv) * 6, none⟩)) := hf.tmp (k := 11) rfl (by rw [ha]; decide) (Eq.trans (hA 11 (by kernel_rfl)) (Rg.cond_t hP))
        have hgp : 0 < la := by have q1 := g0; simp at q1; omega
        have hx9 := (hy hgp).below hI hGl
        have e0 := hx9.c0
        have e1 := hx9.c1
        have e2 := hx9.c2
        have e3 := hx9.c3
        have e4 := hx9.c4
        have e5 := hx9.c5
        exact Rg.op_value (o := ⟨some 93, Op.load 81 (Operand.tmp 92), _, _, _, _⟩) (x := .agg #[.int .i64 y.1.id, .int .i64 y.1.grp, y.2, .int .i64 y.1.til, .int .i64 y.1.st, .int .i64 y.1.fr]) rfl hw (by clear hA HS hN hO HK hx hy hm0 hm1; simp only [execOp]; go_simp) ⟨_, rfl, (fun h => by cases h), (Rg.cond_t hP).symm, hI, fun _ _ _ _ h => h⟩
    · intro ll bb w' hs hlf hN hO hf hI hA
      clear hi'
      have qg : bb.tmps[83]? = some (cond true (.bool (decide (0 < (la : Int)))) undef) := hf.tmp (k := 2) rfl (by rw [ha]; decide) (hA 2 (by kernel_rfl))
      cases hP : (true && ((decide (0 < (la : Int))) == true)) with
      | false => exact Rg.op_none (o := ⟨some 94, _, _, _, _, _⟩) rfl (Rg.unwanted_c (g := 2) rfl rfl qg hP) ⟨_, rfl, (fun h => by cases h), Rg.cond_f hP, hI, fun _ _ _ _ h => h⟩
      | true =>
        have hw := Rg.wanted_c (ops := (Rg.opsOf Try.f85 17)) (o := (Rg.opsOf Try.f85 17)[13]'(by rw [sizeUs17]; decide)) (g := 2) rfl rfl qg hP
        have g0 := Rg.pc_r hP
        have q84 : bb.tmps[84]? = some (.func (.func 47) #[.agg #[.int .i64 nd.p, .int .i64 nd.g, sv]] #[]) := hf.tmp (k := 3) rfl (by rw [ha]; decide) (Eq.trans (hA 3 (by kernel_rfl)) (Rg.cond_t hP))
        have q89 : bb.tmps[89]? = some (.agg #[.int .i64 x.1.id, .int .i64 x.1.grp, x.2, .int .i64 x.1.til, .int .i64 x.1.st, .int .i64 x.1.fr]) := hf.tmp (k := 8) rfl (by rw [ha]; decide) (Eq.trans (hA 8 (by kernel_rfl)) (Rg.cond_t hP))
        have q93 : bb.tmps[93]? = some (.agg #[.int .i64 y.1.id, .int .i64 y.1.grp, y.2, .int .i64 y.1.til, .int .i64 y.1.st, .int .i64 y.1.fr]) := hf.tmp (k := 12) rfl (by rw [ha]; decide) (Eq.trans (hA 12 (by kernel_rfl)) (Rg.cond_t hP))
        have hgp : 0 < la := by have q1 := g0; simp at q1; omega
        refine Rg.op_call (o := ⟨some 94, Op.call { callee := Callee.value (Operand.tmp 84), args := #[(Operand.tmp 89), (Operand.tmp 93)], argTypes := _ }, _, _, _, _⟩) rfl hw (by clear hA HS hN hO HK hx hy hm0 hm1; simp only [execOp, resolve]; go_simp) (HK hgp w') ?_
        rintro e w2 ⟨rfl, hb2⟩
        exact ⟨_, rfl, _, rfl, (fun h => by cases h), (Rg.cond_t hP).symm, onto hI hb2, fun k9 y9 _ _ h => HS hb2 k9 y9 h⟩
    · intro ll bb w' hs hlf hN hO hf hI hA
      clear hi'
      have qg : bb.tmps[83]? = some (cond true (.bool (decide (0 < (la : Int)))) undef) := hf.tmp (k := 2) rfl (by rw [ha]; decide) (hA 2 (by kernel_rfl))
      cases hP : (true && ((decide (0 < (la : Int))) == true)) with
      | false => exact Rg.op_none (o := ⟨some 95, _, _, _, _, _⟩) rfl (Rg.unwanted_c (g := 2) rfl rfl qg hP) ⟨_, rfl, (fun h => by cases h), Rg.cond_f hP, hI, fun _ _ _ _ h => h⟩
      | true =>
        have hw := Rg.wanted_c (ops := (Rg.opsOf Try.f85 17)) (o := (Rg.opsOf Try.f85 17)[14]'(by rw [sizeUs17]; decide)) (g := 2) rfl rfl qg hP
        have g0 := Rg.pc_r hP
        have q94 : bb.tmps[94]? = some (.int .i64 rr) := hf.tmp (k := 13) rfl (by rw [ha]; decide) (Eq.trans (hA 13 (by kernel_rfl)) (Rg.cond_t hP))
        exact Rg.op_value (o := ⟨some 95, Op.binOp BinOp.lss 3 (Operand.tmp 94) (Operand.const (Value.int .i64 0)) 3, _, _, _, _⟩) (x := .bool (decide (rr < 0))) rfl hw (by clear hA HS hN hO HK hx hy hm0 hm1; simp only [execOp]; go_simp) ⟨_, rfl, (fun h => by cases h), (Rg.cond_t hP).symm, hI, fun _ _ _ _ h => h⟩
    · intro ll bb w' hs hlf hN hO hf hI hA
      clear hi'
      have qg : bb.tmps[83]? = some (cond true (.bool (decide (0 < (la : Int)))) undef) := hf.tmp (k := 2) rfl (by rw [ha]; decide) (hA 2 (by kernel_rfl))
      cases hP : (true && ((decide (0 < (la : Int))) == true)) with
      | false => exact Rg.op_none (o := ⟨some 96, _, _, _, _, _⟩) rfl (Rg.unwanted_c (g := 2) rfl rfl qg hP) ⟨_, rfl, (fun h => by cases h), Rg.cond_f hP, hI, fun _ _ _ _ h => h⟩
      | true =>
        have hw := Rg.wanted_c (ops := (Rg.opsOf Try.f85 17)) (o := (Rg.opsOf Try.f85 17)[15]'(by rw [sizeUs17]; decide)) (g := 2) rfl rfl qg hP
        have g0 := Rg.pc_r hP
        have q95 : bb.tmps[95]? = some (.bool (decide (rr < 0))) := hf.tmp (k := 14) rfl (by rw [ha]; decide) (Eq.trans (hA 14 (by kernel_rfl)) (Rg.cond_t hP))
        exact Rg.op_value (o := ⟨some 96, Op.unOp UnOp.not 4 (Operand.tmp 95), _, _, _, _⟩) (x := .bool (!(decide (rr < 0)))) rfl hw (by clear hA HS hN hO HK hx hy hm0 hm1; simp only [execOp]; go_simp) ⟨_, rfl, (fun h => by cases h), (Rg.cond_t hP).symm, hI, fun _ _ _ _ h => h⟩
    · intro ll bb w' hs hlf hN hO hf hI hA
      clear hi'
      have q83 : bb.tmps[83]? = some _ := hf.tmp (k := 2) rfl (by rw [ha]; decide) (hA 2 (by kernel_rfl))
      cases hC : (decide (0 < (la : Int))) with
      | false =>
        have hval : ((.bool ((decide (0 < (la : Int))) && (!(decide (rr < 0)))) : Value)) = .bool false := by rw [hC]; rfl
        exact Rg.op_value (o := ⟨some 97, Op.pick (Operand.tmp 83) (Operand.tmp 96) (Operand.const (Value.bool false)), _, _, _, _⟩) (x := .bool false) rfl rfl (by rw [hC] at q83; clear hA HS hN hO HK hx hy hm0 hm1 hval; simp only [execOp]; go_simp) ⟨_, rfl, (fun h => by cases h), (by show ((.bool false : Value)) = _; first | exact hval.symm | rfl), hI, fun _ _ _ _ h => h⟩
      | true =>
        have hB : (true && ((decide (0 < (la : Int))) == true)) = true := by rw [hC]; rfl
        have q96 : bb.tmps[96]? = some (.bool (!(decide (rr < 0)))) := hf.tmp (k := 15) rfl (by rw [ha]; decide) (Eq.trans (hA 15 (by kernel_rfl)) (Rg.cond_t hB))
        have hval : ((.bool ((decide (0 < (la : Int))) && (!(decide (rr < 0)))) : Value)) = .bool (!(decide (rr < 0))) := by rw [hC]; rfl
        exact Rg.op_value (o := ⟨some 97, Op.pick (Operand.tmp 83) (Operand.tmp 96) (Operand.const (Value.bool false)), _, _, _, _⟩) (x := .bool (!(decide (rr < 0)))) rfl rfl (by rw [hC] at q83; clear hA HS hN hO HK hx hy hm0 hm1 hval; simp only [execOp]; go_simp) ⟨_, rfl, (fun h => by cases h), (by show ((.bool (!(decide (rr < 0))) : Value)) = _; first | exact hval.symm | rfl), hI, fun _ _ _ _ h => h⟩
theorem dUs17_0 : Rg.dstAt (Rg.opsOf Try.f85 17) 0 = some 81 := by kernel_rfl
theorem dUs17_1 : Rg.dstAt (Rg.opsOf Try.f85 17) 1 = some 82 := by kernel_rfl
theorem dUs17_2 : Rg.dstAt (Rg.opsOf Try.f85 17) 2 = some 83 := by kernel_rfl
theorem dUs17_3 : Rg.dstAt (Rg.opsOf Try.f85 17) 3 = some 84 := by kernel_rfl
theorem dUs17_4 : Rg.dstAt (Rg.opsOf Try.f85 17) 4 = some 85 := by kernel_rfl
theorem dUs17_5 : Rg.dstAt (Rg.opsOf Try.f85 17) 5 = some 86 := by kernel_rfl
theorem dUs17_6 : Rg.dstAt (Rg.opsOf Try.f85 17) 6 = some 87 := by kernel_rfl
theorem dUs17_7 : Rg.dstAt (Rg.opsOf Try.f85 17) 7 = some 88 := by kernel_rfl
theorem dUs17_8 : Rg.dstAt (Rg.opsOf Try.f85 17) 8 = some 89 := by kernel_rfl
theorem dUs17_9 : Rg.dstAt (Rg.opsOf Try.f85 17) 9 = some 90 := by kernel_rfl
theorem dUs17_10 : Rg.dstAt (Rg.opsOf Try.f85 17) 10 = some 91 := by kernel_rfl
theorem dUs17_11 : Rg.dstAt (Rg.opsOf Try.f85 17) 11 = some 92 := by kernel_rfl
theorem dUs17_12 : Rg.dstAt (Rg.opsOf Try.f85 17) 12 = some 93 := by kernel_rfl
theorem dUs17_13 : Rg.dstAt (Rg.opsOf Try.f85 17) 13 = some 94 := by kernel_rfl
theorem dUs17_14 : Rg.dstAt (Rg.opsOf Try.f85 17) 14 = some 95 := by kernel_rfl
theorem dUs17_15 : Rg.dstAt (Rg.opsOf Try.f85 17) 15 = some 96 := by kernel_rfl
theorem dUs17_16 : Rg.dstAt (Rg.opsOf Try.f85 17) 16 = some 97 := by kernel_rfl
theorem layUs17 {a b : Act} (hf : Rg.Fr (Rg.opsOf Try.f85 17) a b) : b = (((((((((((((((((a.put (some 81) (Rg.out (Rg.opsOf Try.f85 17) b 0)).put (some 82) (Rg.out (Rg.opsOf Try.f85 17) b 1)).put (some 83) (Rg.out (Rg.opsOf Try.f85 17) b 2)).put (some 84) (Rg.out (Rg.opsOf Try.f85 17) b 3)).put (some 85) (Rg.out (Rg.opsOf Try.f85 17) b 4)).put (some 86) (Rg.out (Rg.opsOf Try.f85 17) b 5)).put (some 87) (Rg.out (Rg.opsOf Try.f85 17) b 6)).put (some 88) (Rg.out (Rg.opsOf Try.f85 17) b 7)).put (some 89) (Rg.out (Rg.opsOf Try.f85 17) b 8)).put (some 90) (Rg.out (Rg.opsOf Try.f85 17) b 9)).put (some 91) (Rg.out (Rg.opsOf Try.f85 17) b 10)).put (some 92) (Rg.out (Rg.opsOf Try.f85 17) b 11)).put (some 93) (Rg.out (Rg.opsOf Try.f85 17) b 12)).put (some 94) (Rg.out (Rg.opsOf Try.f85 17) b 13)).put (some 95) (Rg.out (Rg.opsOf Try.f85 17) b 14)).put (some 96) (Rg.out (Rg.opsOf Try.f85 17) b 15)).put (some 97) (Rg.out (Rg.opsOf Try.f85 17) b 16)) := by
  have h := hf.chain
  rw [sizeUs17, show List.range 17 = [0, 1, 2, 3, 4, 5, 6, 7, 8, 9, 10, 11, 12, 13, 14, 15, 16] from by decide] at h
  simp only [List.foldl_cons, List.foldl_nil, dUs17_0, dUs17_1, dUs17_2, dUs17_3, dUs17_4, dUs17_5, dUs17_6, dUs17_7, dUs17_8, dUs17_9, dUs17_10, dUs17_11, dUs17_12, dUs17_13, dUs17_14, dUs17_15, dUs17_16] at h
  exact h
set_option maxRecDepth 20000 in
set_option maxHeartbeats 32000000 in
theorem updq_any (nd : Nd) (sv : Value) (D : UE → Prop) (G c m : Nat) (hmm : m ≤ 100000) (hK : LessU nd sv D) (hSl : SlU D) : ∀ (N a b l : Nat) (d : List UE) (w : World), b - a < N → a ≤ b → b ≤ m → l ≤ 1000 → SU c w G d → d.length = m → Fine (ltU nd) D d → Pred (ltU nd) a b d →
    Calls Try.prog 85 #[.slice (some ⟨G, 0, none⟩) m c, .int .i64 a, .int .i64 b, .int .i64 l, (.func (.func 47) #[.agg #[.int .i64 nd.p, .int .i64 nd.g, sv]] #[])] w fun e w' => e = .returned (.tuple #[]) ∧ ∃ d', SU c w' G d' ∧ PO a b d d' ∧ SO (ltU nd) a b d' ∧ Below G w w' := by
  intro N
  induction N with
  | zero => intro a b l d w h1; omega
  | succ N ih =>
  intro a b l d w hN hab hb hl h hm hF hPr
  have HF := hidden hF
  have HM := hidden hm
  have HH := hidden h
  have HPr := hidden hPr
  have IH := hidden ih
  have CIns := hidden (fun (a b : Nat) (d : List UE) (w : World) (h : SU c w G d) (hm : d.length = m) (hab : a ≤ b) (hb : b ≤ m) (hF : Fine (ltU nd) D d) => uinsertion_any nd sv D G c m a b d w h hm hmm hab hb hF hK hSl)
  have CHeap := hidden (fun (a b : Nat) (d : List UE) (w : World) (h : SU c w G d) (hm : d.length = m) (hab : a < b) (hb : b ≤ m) (hF : Fine (ltU nd) D d) => uheap_any nd sv D G c m a b d w h hm hmm hab hb hF hK hSl)
  have CBrk := hidden (fun (a b : Nat) (d : List UE) (w : World) (h : SU c w G d) (hm : d.length = m) (hab : a + 8 ≤ b) (hb : b ≤ m) (hF : Fine (ltU nd) D d) => ubreak_any nd sv D G c m a b d w h hm hmm hab hb hF hSl)
  have CCho := hidden (fun (a b : Nat) (d : List UE) (w : World) (h : SU c w G d) (hm : d.length = m) (hab : a + 12 < b) (hb : b ≤ m) (hF : Fine (ltU nd) D d) => uchoose_any nd sv D G c m a b d w h hm hmm hF hK hab hb)
  have CRev := hidden (fun (a b : Nat) (d : List UE) (fv : Value) (w : World) (h : SU c w G d) (hm : d.length = m) (hab : a < b) (hb : b ≤ m) (hF : Fine (ltU nd) D d) => ureverse_any nd sv D G c m a b d fv w h hm hmm hab hb hF hSl)
  have CPar := hidden (fun (a b : Nat) (d : List UE) (w : World) (h : SU c w G d) (hm : d.length = m) (hab : a + 1 < b) (hb : b ≤ m) (hF : Fine (ltU nd) D d) (hp : Pred (ltU nd) a b d) => upartial_any nd sv D G c m a b d w h hm hmm hab hb hF hK hSl hp)
  have CPart := hidden (fun (a b pv : Nat) (d : List UE) (w : World) (h : SU c w G d) (hm : d.length = m) (hap : a ≤ pv) (hpb : pv < b) (hab : a + 1 < b) (hb : b ≤ m) (hF : Fine (ltU nd) D d) => upartition_any nd sv D G c m a b pv d w h hm hmm hap hpb hab hb hF hK hSl)
  have HK := hidden hK
  clear h hm hF hPr ih hK hSl
  go_enter Try.func85, Try.ntmps85
  go_wp2_with fail
  go_loopw [1, 2, 3, 10, 11, 12, 13, 14, 15, 16, 17, 18, 19, 20] (fun av bv lv wb wp _ _ _ _ _ _ _ _ _ ws => ∃ (a' b' n : Nat) (p q : Bool) (e : List UE), av = .int .i64 a' ∧ bv = .int .i64 b' ∧ lv = .int .i64 n ∧ wb = .bool p ∧ wp = .bool q ∧ (a ≤ a' ∧ a' ≤ b' ∧ b' ≤ b) ∧ n ≤ 1000 ∧ Hid (SU c ws G e) ∧ Hid (PO a b d e) ∧ Hid (Pred (ltU nd) a' b' e) ∧ Hid (∀ f, PO a' b' e f → SO (ltU nd) a' b' f → SO (ltU nd) a b f) ∧ Below G w ws) (fun av bv _ _ _ _ _ _ _ _ _ _ _ _ _ => (intOf bv).toNat - (intOf av).toNat)
  case atStart => exact ⟨a, b, l, true, true, d, rfl, rfl, rfl, rfl, rfl, by omega, hl, HH, PO.refl _ _ _, HPr, fun f _ h => h, Below.refl _ _⟩
  case round =>
    clear HH HPr
    obtain ⟨a', b', n, p, q, e, rfl, rfl, rfl, rfl, rfl, ⟨hb1, hb2, hb3⟩, hn, hs, hpo, hpr, hfin, hbw⟩ := hrel
    rename World => ws
    obtain ⟨L, hL⟩ : ∃ L, b' - a' = L := ⟨_, rfl⟩
    have hwl : IntKind.i64.wrap ((b' : Int) - (a' : Int)) = (L : Int) := by rw [IntKind.wrap_i64]; omega
    have HL := hidden hL
    have hel : Hid (e.length = m) := by show _ = _; rw [hpo.out.len]; exact HM.out
    have hFe := hidden (HF.out.po hpo.out)
    clear hL
    by_cases h12 : L ≤ 12
    · have h12i : (L : Int) ≤ 12 := by omega
      have hc := CIns.out a' b' e ws hs.out hel.out hb2 (by omega) hFe.out
      go_wp2_with (go_at_call 121; (with_reducible refine hc.mono ?_); rintro e9 w2 ⟨rfl, d2, hs2, hpo2, hso2, hbw2⟩; have HS2 := hidden hs2; have HP2 : Hid (PO a b d d2) := hpo.out.trans (hpo2.mono hb1 hb3); have HSO := hidden (hfin.out d2 hpo2 hso2); have HB2 := hidden (hbw.trans hbw2); clear hs2 hpo2 hso2 hbw2)
      (try simp only [Exit.inBlock, Exit.then])
      refine bodyPost_ret (results_none rfl _ _ _) rfl ?_
      exact ⟨rfl, d2, HS2.out, HP2.out, HSO.out, HB2.out⟩
    · have h12i : ¬ (L : Int) ≤ 12 := by omega
      have hLb : a' + 12 < b' := by have := HL.out; omega
      by_cases hn0 : n = 0
      · subst hn0
        have hc := CHeap.out a' b' e ws hs.out hel.out (by omega) (by omega) hFe.out
        go_wp2_with (go_at_call 122; (with_reducible refine hc.mono ?_); rintro e9 w2 ⟨rfl, d2, hs2, hpo2, hso2, hbw2⟩; have HS2 := hidden hs2; have HP2 : Hid (PO a b d d2) := hpo.out.trans (hpo2.mono hb1 hb3); have HSO := hidden (hfin.out d2 hpo2 hso2); have HB2 := hidden (hbw.trans hbw2); clear hs2 hpo2 hso2 hbw2)
        (try simp only [Exit.inBlock, Exit.then])
        refine bodyPost_ret (results_none rfl _ _ _) rfl ?_
        exact ⟨rfl, d2, HS2.out, HP2.out, HSO.out, HB2.out⟩
      · have hni : ¬ (n : Int) = 0 := by omega
        obtain ⟨n1, hn1⟩ : ∃ n1, n1 + 1 = n := ⟨n - 1, by omega⟩
        have hwn : IntKind.i64.wrap ((n : Int) - 1) = (n1 : Int) := by rw [IntKind.wrap_i64]; omega
        have hn1k : n1 ≤ 1000 := by omega
        clear hn1
        go_upto_if 39 with fail
        go_cut [3] from 32 to 46 (fun lv wx => ∃ (n' : Nat) (e2 : List UE), lv = .int .i64 n' ∧ n' ≤ 1000 ∧ Hid (SU c wx G e2) ∧ Hid (PO a' b' e e2) ∧ Below G w wx)
        case first =>
          cases p with
          | true =>
            go_wp2_with fail
            go_meet
            case rel => exact ⟨n, e, rfl, hn, hs, PO.refl _ _ _, hbw⟩
          | false =>
            have hc := CBrk.out a' b' e ws hs.out hel.out (by omega) (by omega) hFe.out
            go_wp2_with (go_at_call 123; (with_reducible refine hc.mono ?_); rintro e9 w2 ⟨rfl, d2, hs2, hpo2, hbw2⟩; have HS2 := hidden hs2; have HP2 := hidden hpo2; have HB2 := hidden (hbw.trans hbw2); clear hs2 hpo2 hbw2)
            go_meet
            case rel => exact ⟨n1, d2, rfl, hn1k, HS2, HP2, HB2.out⟩
        case rest =>
          obtain ⟨n', e2, rfl, hn', hs2, hpo2, hb9⟩ := hcut
          clear hs hbw hwn hn1k
          rename World => wx
          have hpr2 := hidden (hpr.out.po hpo2.out (by have := hel.out; omega))
          have hel2 : Hid (e2.length = m) := by show _ = _; rw [hpo2.out.len]; exact hel.out
          have hFe2 := hidden (hFe.out.po hpo2.out)
          have hc := CCho.out a' b' e2 wx hs2.out hel2.out hLb (by omega) hFe2.out
          have HB0 := hidden hb9
          have hpr0 := hpr
          have hel0 := hel
          have hFe0 := hFe
          clear hpr hel hFe hb9
          go_upto_if 56 with (go_at_call 124; (with_reducible refine hc.mono ?_); rintro e9 w3 ⟨pv, hint, rfl, ⟨hpv1, hpv2⟩, hs3, hb3⟩; have HS3 := hidden hs3; have HB3 := hidden (HB0.out.trans (hb3.mono (Nat.le_of_lt hs2.out.lt))); clear hs3 hb3 hs2 HB0)
          go_cut [13, 14] from 47 to 67 (fun pvv hv wx => ∃ (pv : Nat) (hint : Int) (e3 : List UE), pvv = .int .i64 pv ∧ hv = .int .i64 hint ∧ (a' ≤ pv ∧ pv < b') ∧ Hid (SU c wx G e3) ∧ Hid (PO a' b' e e3) ∧ Below G w wx)
          case first =>
            by_cases hh : hint = 2
            · subst hh
              have hc2 := CRev.out a' b' e2 (.func (.func 47) #[.agg #[.int .i64 nd.p, .int .i64 nd.g, sv]] #[]) w3 HS3.out hel2.out (by omega) (by omega) hFe2.out
              obtain ⟨pa, hpa⟩ : ∃ x, pv - a' = x := ⟨_, rfl⟩
              have hwpa : IntKind.i64.wrap ((pv : Int) - (a' : Int)) = (pa : Int) := by rw [IntKind.wrap_i64]; omega
              obtain ⟨bb, hbb⟩ : ∃ x, b' - 1 = x := ⟨_, rfl⟩
              have hwbb : IntKind.i64.wrap ((b' : Int) - 1) = (bb : Int) := by rw [IntKind.wrap_i64]; omega
              obtain ⟨p2, hp2⟩ : ∃ x, bb - pa = x := ⟨_, rfl⟩
              have hwp2 : IntKind.i64.wrap ((bb : Int) - (pa : Int)) = (p2 : Int) := by rw [IntKind.wrap_i64]; omega
              have hp2b : a' ≤ p2 ∧ p2 < b' := by omega
              clear hpa hbb hp2
              go_wp2_with (go_at_call 125; (with_reducible refine hc2.mono ?_); rintro e9 w4 ⟨rfl, d2, hs4, hpo4, hb4⟩; have HS4 := hidden hs4; have HP4 := hidden (hpo2.out.trans hpo4); have HB4 := hidden (HB3.out.trans hb4); clear hs4 hpo4 hb4)
              go_meet
              case rel => exact ⟨p2, 1, d2, rfl, rfl, hp2b, HS4, HP4, HB4.out⟩
            · go_wp2_with fail
              go_meet
              case rel => exact ⟨pv, hint, e2, rfl, rfl, ⟨hpv1, hpv2⟩, HS3, hpo2, HB3.out⟩
          case rest =>
            obtain ⟨pv, hint, e3, rfl, rfl, ⟨hpv1, hpv2⟩, hs3, hpo3, hb8⟩ := hcut
            rename World => wy
            clear hpr2 hel2 hFe2 hpo2
            have hpr3 := hidden (hpr0.out.po hpo3.out (by have := hel0.out; omega))
            have hel3 : Hid (e3.length = m) := by show _ = _; rw [hpo3.out.len]; exact hel0.out
            have hFe3 := hidden (hFe0.out.po hpo3.out)
            go_upto_region 15 with fail
            go_cut [75] from 68 to 74 (fun cv wx => wx = wy ∧ ∃ tb : Bool, cv = .bool tb)
            case first =>
              by_cases hh1 : hint = 1
              all_goals cases p
              all_goals cases q
              all_goals go_wp2_with fail
              all_goals go_meet
              all_goals exact ⟨rfl, _, rfl⟩
            case rest =>
            obtain ⟨hw9, tb, rfl⟩ := hcut
            obtain rfl := hw9.symm
            go_upto_if 75 with fail
            go_cut [] from 75 to 80 (fun wx => ∃ e4 : List UE, Hid (SU c wx G e4) ∧ Hid (PO a' b' e e4) ∧ Below G w wx)
            case first =>
              cases tb with
              | true =>
                have hc3 := CPar.out a' b' e3 wy hs3.out hel3.out (by omega) (by omega) hFe3.out hpr3.out
                go_wp2_with (go_at_call 126; (with_reducible refine hc3.mono ?_); rintro e9 w4 ⟨fl, rfl, d2, hs4, hpo4, hso4, hb4⟩; have HS4 := hidden hs4; have HP4 := hidden (hpo3.out.trans hpo4); have HSO := hidden hso4; have HB4 := hidden (hb8.trans hb4); clear hs4 hpo4 hb4 hso4)
                all_goals first
                  | (refine bodyPost_ret (results_none rfl _ _ _) rfl ?_; exact ⟨rfl, d2, HS4.out, hpo.out.trans (HP4.out.mono hb1 hb3), hfin.out d2 HP4.out (HSO.out (by assumption)), HB4.out⟩)
                  | (go_meet; exact ⟨d2, HS4, HP4, HB4.out⟩)
              | false =>
                go_wp2_with fail
                go_meet
                case rel => exact ⟨e3, hs3, hpo3, hb8⟩
            case rest =>
              obtain ⟨e4, hs4, hpo4, hb4⟩ := hcut
              rename World => wz
              have hpr4 := hidden (hpr0.out.po hpo4.out (by have := hel0.out; omega))
              have hel4 : Hid (e4.length = m) := by show _ = _; rw [hpo4.out.len]; exact hel0.out
              have hFe4 := hidden (hFe0.out.po hpo4.out)
              clear hs3 hpo3 hpr3 hel3 hFe3 hb8 hpr0 hFe0
              obtain ⟨a1, ha1⟩ : ∃ a1, a' - 1 = a1 := ⟨_, rfl⟩
              have hwa1 : 0 < a' → IntKind.i64.wrap ((a' : Int) - 1) = (a1 : Int) := fun q => by rw [IntKind.wrap_i64]; omega
              have hGl := hs4.out.lt
              have hle := hel4.out
              have hx : 0 < a' → UC wz G (a1 * 6) (at' e4 a1) := fun q => hs4.out.at (by omega)
              have hy : 0 < a' → UC wz G (pv * 6) (at' e4 pv) := fun q => hs4.out.at (by omega)
              have hK2 : 0 < a' → ∀ W, _ := fun q => HK.out (at' e4 a1) (at' e4 pv) (hFe4.out.all _ (at_mem (by omega))) (hFe4.out.all _ (at_mem (by omega)))
              have HNO : Hid ((decide (0 < (a' : Int)) && !decide (cmpU nd (at' e4 a1) (at' e4 pv) < 0)) = false) := by
                show _ = _
                rcases hpr4.out with q | q
                · subst q; rfl
                · have z := q pv hpv1 hpv2
                  rw [ha1] at z
                  rw [decide_eq_true ((cmpU_lt nd _ _).2 z), Bool.not_true, Bool.and_false]
              have h1m : 0 < a' → a1 < m := fun q => by omega
              have hpm : 0 < a' → pv < m := fun q => by omega
              clear hle ha1
              go_upto_region 17 with fail
              refine regUs17 (G := G) (m := m) (c := c) (nd := nd) (sv := sv) (rr := cmpU nd (at' e4 a1) (at' e4 pv)) (la := a') (pv := pv) (a1 := a1) rfl rfl rfl rfl rfl hGl hx hy h1m hpm hmm hwa1 hK2 ?_
              intro bx w6 hf hb6 hv
              rw [layUs17 hf, hv]
              clear hv hf
              generalize Rg.out (Rg.opsOf Try.f85 17) bx 0 = z0
              generalize Rg.out (Rg.opsOf Try.f85 17) bx 1 = z1
              generalize Rg.out (Rg.opsOf Try.f85 17) bx 2 = z2
              generalize Rg.out (Rg.opsOf Try.f85 17) bx 3 = z3
              generalize Rg.out (Rg.opsOf Try.f85 17) bx 4 = z4
              generalize Rg.out (Rg.opsOf Try.f85 17) bx 5 = z5
              generalize Rg.out (Rg.opsOf Try.f85 17) bx 6 = z6
              generalize Rg.out (Rg.opsOf Try.f85 17) bx 7 = z7
              generalize Rg.out (Rg.opsOf Try.f85 17) bx 8 = z8
              generalize Rg.out (Rg.opsOf Try.f85 17) bx 9 = z9
              generalize Rg.out (Rg.opsOf Try.f85 17) bx 10 = z10
              generalize Rg.out (Rg.opsOf Try.f85 17) bx 11 = z11
              generalize Rg.out (Rg.opsOf Try.f85 17) bx 12 = z12
              generalize Rg.out (Rg.opsOf Try.f85 17) bx 13 = z13
              generalize Rg.out (Rg.opsOf Try.f85 17) bx 14 = z14
              generalize Rg.out (Rg.opsOf Try.f85 17) bx 15 = z15
              rw [HNO.out]
              have hs7 := hidden (hs4.out.below hb6)
              have hb7 := hb4.trans (hb6.mono (Nat.le_of_lt hGl))
              clear hx hy hK2 HNO hwa1 h1m hpm hs4 hb4 hb6 hGl
              go_frame
              have hc4 := CPart.out a' b' pv e4 w6 hs7.out hel4.out hpv1 hpv2 (by omega) (by omega) hFe4.out
              obtain ⟨l8, hl8⟩ : ∃ x, L / 8 = x := ⟨_, rfl⟩
              have hq1 : (L : Int).tdiv 8 = (l8 : Int) := by rw [Int.tdiv_eq_ediv_of_nonneg (by omega)]; omega
              have hq2 : (L : Int) / 8 = (l8 : Int) := by omega
              have hq3 : IntKind.i64.wrap (l8 : Int) = (l8 : Int) := by have := HL.out; rw [IntKind.wrap_i64]; omega
              have HL2 : Hid (b' - a' = L ∧ b - a < N + 1) := ⟨HL.out, hN⟩
              clear hl8
              go_upto_if 125 with (go_at_call 128; (with_reducible refine hc4.mono ?_); rintro e9 w5 ⟨md, fl, rfl, e5, hs5', hpo5', hpt5', ⟨hm1, hm2⟩, hb5'⟩; have hs5 := hidden hs5'; have hpo5 := hidden (hpo4.out.trans hpo5'); have hpt5 := hidden hpt5'; have hpr5 := hidden (hpr4.out.po hpo5' (by have := hel4.out; omega)); have hel5 : Hid (e5.length = m) := (by show _ = _; rw [hpo5'.len]; exact hel4.out); have hFe5 := hidden (hFe4.out.po hpo5'); have hb5 := hb7.trans hb5'; obtain ⟨ll, hll⟩ : ∃ x, md - a' = x := ⟨_, rfl⟩; have hwll : IntKind.i64.wrap ((md : Int) - (a' : Int)) = (ll : Int) := (by rw [IntKind.wrap_i64]; omega); obtain ⟨rl, hrl⟩ : ∃ x, b' - md = x := ⟨_, rfl⟩; have hwrl : IntKind.i64.wrap ((b' : Int) - (md : Int)) = (rl : Int) := (by rw [IntKind.wrap_i64]; omega); have hwm : IntKind.i64.wrap ((md : Int) + 1) = ((md + 1 : Nat) : Int) := (by rw [IntKind.wrap_i64]; omega); have HRL := hidden hll; have HRR := hidden hrl; clear hs5' hpo5' hpt5' hb5' hll hrl)
              by_cases hlr : ll < rl
              · have hlri : (ll : Int) < (rl : Int) := by omega
                have hc5 := IH.out a' md n' e5 w5 (by have := HL2.out; omega) (by omega) (by omega) hn' hs5.out hel5.out hFe5.out (hpr5.out.less (by omega))
                go_wp2_with (go_at_call 85; (with_reducible refine hc5.mono ?_); rintro e9 w6 ⟨rfl, e6, hs6, hpo6, hso6, hb6⟩; have HS6 := hidden hs6; have HP6 := hidden hpo6; have HSO6 := hidden hso6; have HB6 := hidden (hb5.trans hb6); clear hs6 hpo6 hso6 hb6)
                go_roundw
                case rel => exact ⟨md + 1, b', n', _, _, e6, by first | rfl | simp, rfl, rfl, rfl, rfl, by omega, hn', HS6, hpo.out.trans ((hpo5.out.trans (HP6.out.mono (by omega) (by omega))).mono hb1 hb3), pred_right (parted_left hpt5.out HP6.out (by omega) (by have := hel5.out; omega) (by omega)), fun f k1 k2 => hfin.out f (hpo5.out.trans ((HP6.out.mono (by omega) (by omega)).trans (k1.mono (by omega) (by omega)))) (parted_join HF.out.ord (parted_right (parted_left hpt5.out HP6.out (by omega) (by have := hel5.out; omega) (by omega)) k1 (by omega) (by have := hel5.out; have := HP6.out.len; omega) (by omega)) (HSO6.out.keep k1 (Or.inl (by omega))) k2), HB6.out⟩
                case measure => simp [intOf]; omega
              · have hlri : ¬ (ll : Int) < (rl : Int) := by omega
                have hc5 := IH.out (md + 1) b' n' e5 w5 (by have := HL2.out; omega) (by omega) (by omega) hn' hs5.out hel5.out hFe5.out (pred_right hpt5.out)
                rw [show ((md + 1 : Nat) : Int) = (md : Int) + 1 from by omega] at hc5
                go_wp2_with (go_at_call 85; (with_reducible refine hc5.mono ?_); rintro e9 w6 ⟨rfl, e6, hs6, hpo6, hso6, hb6⟩; have HS6 := hidden hs6; have HP6 := hidden hpo6; have HSO6 := hidden hso6; have HB6 := hidden (hb5.trans hb6); clear hs6 hpo6 hso6 hb6)
                go_roundw
                case rel => exact ⟨a', md, n', _, _, e6, rfl, rfl, rfl, rfl, rfl, by omega, hn', HS6, hpo.out.trans ((hpo5.out.trans (HP6.out.mono (by omega) (by omega))).mono hb1 hb3), ((hpr5.out.po (HP6.out.mono (by omega) (by omega)) (by have := hel5.out; omega)).less (by omega)), fun f k1 k2 => hfin.out f (hpo5.out.trans ((HP6.out.mono (by omega) (by omega)).trans (k1.mono (by omega) (by omega)))) (parted_join HF.out.ord (parted_left (parted_right hpt5.out HP6.out (by omega) (by have := hel5.out; omega) (by omega)) k1 (by omega) (by have := hel5.out; have := HP6.out.len; omega) (by omega)) k2 (HSO6.out.keep k1 (Or.inr (by omega)))), HB6.out⟩
                case measure => simp [intOf]; omega
end Go.Proofs.Ytgcpiinmcbdkmaa
