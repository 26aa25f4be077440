/-
  Merged: Pk8.
-/
import Derived.Test.YtgcpiinmcbdkmaaMh10
import Derived.Deep.CutBlock
import Derived.Deep.CutRange
namespace Go.Proofs.Ytgcpiinmcbdkmaa
open Go.RowKit Va Bl Pq
set_option linter.all false
def FUs3 (G m c : Nat) (x y : UE) (nd : Nd) (sv : Value) (rr : Int) (f ch n i1 i2 c1 : Nat) (i9 : Nat) (v : Value) (w : World) : Prop :=
  match i9 with
  | 0 => v = .int .i64 (ch : Nat)
  | 1 => v = .int .i64 ((c1 : Nat))
  | 2 => v = .int .i64 (n : Nat)
  | 3 => v = .bool (decide ((c1 : Int) < (n : Int)))
  | 4 => v = .bool (decide ((c1 : Int) < (n : Int)))
  | 5 => v = cond (true && ((decide ((c1 : Int) < (n : Int))) == true)) (.func (.func 47) #[.agg #[.int .i64 nd.p, .int .i64 nd.g, sv]] #[]) undef
  | 6 => v = cond (true && ((decide ((c1 : Int) < (n : Int))) == true)) (.slice (some ⟨G, 0, none⟩) m c) undef
  | 7 => v = cond (true && ((decide ((c1 : Int) < (n : Int))) == true)) (.int .i64 (f : Nat)) undef
  | 8 => v = cond (true && ((decide ((c1 : Int) < (n : Int))) == true)) (.int .i64 (ch : Nat)) undef
  | 9 => v = cond (true && ((decide ((c1 : Int) < (n : Int))) == true)) (.int .i64 ((i1 : Nat))) undef
  | 10 => v = cond (true && ((decide ((c1 : Int) < (n : Int))) == true)) (.pointer (some ⟨G, (i1) * 6, none⟩)) undef
  | 11 => v = cond (true && ((decide ((c1 : Int) < (n : Int))) == true)) (.agg #[.int .i64 x.1.id, .int .i64 x.1.grp, x.2, .int .i64 x.1.til, .int .i64 x.1.st, .int .i64 x.1.fr]) undef
  | 12 => v = cond (true && ((decide ((c1 : Int) < (n : Int))) == true)) (.slice (some ⟨G, 0, none⟩) m c) undef
  | 13 => v = cond (true && ((decide ((c1 : Int) < (n : Int))) == true)) (.int .i64 (f : Nat)) undef
  | 14 => v = cond (true && ((decide ((c1 : Int) < (n : Int))) == true)) (.int .i64 (ch : Nat)) undef
  | 15 => v = cond (true && ((decide ((c1 : Int) < (n : Int))) == true)) (.int .i64 ((i1 : Nat))) undef
  | 16 => v = cond (true && ((decide ((c1 : Int) < (n : Int))) == true)) (.int .i64 ((i2 : Nat))) undef
  | 17 => v = cond (true && ((decide ((c1 : Int) < (n : Int))) == true)) (.pointer (some ⟨G, (i2) * 6, none⟩)) undef
  | 18 => v = cond (true && ((decide ((c1 : Int) < (n : Int))) == true)) (.agg #[.int .i64 y.1.id, .int .i64 y.1.grp, y.2, .int .i64 y.1.til, .int .i64 y.1.st, .int .i64 y.1.fr]) undef
  | 19 => v = cond (true && ((decide ((c1 : Int) < (n : Int))) == true)) (.int .i64 rr) undef
  | 20 => v = cond (true && ((decide ((c1 : Int) < (n : Int))) == true)) (.bool (decide (rr < 0))) undef
  | 21 => v = .bool ((decide ((c1 : Int) < (n : Int))) && (decide (rr < 0)))
  | _ => True
theorem sizeUs3 : (Rg.opsOf Try.f144 3).size = 22 := by kernel_rfl
set_option maxRecDepth 20000 in
set_option maxHeartbeats 8000000 in
theorem regUs3 {Q : Exit → Act → World → Prop} {a : Act} {w9 : World} {G m c : Nat} {x y : UE} {nd : Nd} {sv : Value} {rr : Int} {f ch n i1 i2 c1 : Nat} (ha : a.tmps.size = 82)
    (k11 : a.tmps[11]? = some (.int .i64 (ch : Nat))) (k2 : a.tmps[2]? = some (.int .i64 (n : Nat))) (k3 : a.tmps[3]? = some (.int .i64 (f : Nat))) (k4 : a.tmps[4]? = some (.func (.func 47) #[.agg #[.int .i64 nd.p, .int .i64 nd.g, sv]] #[])) (k0 : a.tmps[0]? = some (.slice (some ⟨G, 0, none⟩) m c)) (hGl : G < w9.heap.size) (hx : c1 < n → UC w9 G ((i1) * 6) x) (hy : c1 < n → UC w9 G ((i2) * 6) y) (hm0 : c1 < n → i1 < m) (hm1 : c1 < n → i2 < m) (hmm : m ≤ 100000)  (hw20 : IntKind.i64.wrap ((ch : Int) + 1) = (c1 : Int)) (hw28 : IntKind.i64.wrap ((f : Int) + (ch : Int)) = (i1 : Int)) (hw34 : IntKind.i64.wrap ((f : Int) + (ch : Int)) = (i1 : Int)) (hw35 : IntKind.i64.wrap ((i1 : Int) + 1) = (i2 : Int)) (HK : c1 < n → ∀ W, Calls Try.prog 47 #[.agg #[.int .i64 nd.p, .int .i64 nd.g, sv], .agg #[.int .i64 x.1.id, .int .i64 x.1.grp, x.2, .int .i64 x.1.til, .int .i64 x.1.st, .int .i64 x.1.fr], .agg #[.int .i64 y.1.id, .int .i64 y.1.grp, y.2, .int .i64 y.1.til, .int .i64 y.1.st, .int .i64 y.1.fr]] W fun e w' => e = .returned (.int .i64 rr) ∧ Below W.heap.size W w')
    (hend : ∀ b' w', Rg.Fr (Rg.opsOf Try.f144 3) a b' → Below w9.heap.size w9 w' → Rg.out (Rg.opsOf Try.f144 3) b' 21 = .bool ((decide ((c1 : Int) < (n : Int))) && (decide (rr < 0))) → Q .normal b' w') :
    (Code.region 3 (Rg.opsOf Try.f144 3) true).wp Try.prog Q a w9 := by
  refine Rg.region_set3 (by kernel_rfl) (fun _ w' => Below w9.heap.size w9 w') (FUs3 G m c x y nd sv rr f ch n i1 i2 c1) (by rw [ha, sizeUs3]; kernel_rfl) (st_drew (Below.refl _ _)) ?_ ?_
  case refine_2 =>
    intro l b' w' hf hall hI hA
    rw [sizeUs3] at hA
    exact hend b' w' hf hI (hA 21 (by decide))
  case refine_1 =>
    clear hend
    have HS : ∀ {w w' : World}, Below w.heap.size w w' → ∀ k9 y9, FUs3 G m c x y nd sv rr f ch n i1 i2 c1 k9 y9 w → FUs3 G m c x y nd sv rr f ch n i1 i2 c1 k9 y9 w' := fun hb k9 y9 h => by
      unfold FUs3 at *
      split at h <;> exact h
    intro i' hi'
    rw [sizeUs3] at hi'
    rcases (show i' = 0 ∨ i' = 1 ∨ i' = 2 ∨ i' = 3 ∨ i' = 4 ∨ i' = 5 ∨ i' = 6 ∨ i' = 7 ∨ i' = 8 ∨ i' = 9 ∨ i' = 10 ∨ i' = 11 ∨ i' = 12 ∨ i' = 13 ∨ i' = 14 ∨ i' = 15 ∨ i' = 16 ∨ i' = 17 ∨ i' = 18 ∨ i' = 19 ∨ i' = 20 ∨ i' = 21 by omega) with rfl | rfl | rfl | rfl | rfl | rfl | rfl | rfl | rfl | rfl | rfl | rfl | rfl | rfl | rfl | rfl | rfl | rfl | rfl | rfl | rfl | rfl
    · intro ll bb w' hs hlf hN hO hf hI hA
      clear hi'
      have q0 := hf.kept (s := 11) (by rw [sizeUs3]; kernel_rfl) k11
      exact Rg.op_value (o := ⟨some 19, Op.move (Operand.tmp 11), _, _, _, _⟩) (x := .int .i64 (ch : Nat)) rfl rfl (by clear hA HS hN hO HK hx hy hm0 hm1; simp only [execOp]; go_simp) ⟨_, rfl, (fun h => by cases h), rfl, hI, fun _ _ _ _ h => h⟩
    · intro ll bb w' hs hlf hN hO hf hI hA
      clear hi'
      have q19 : bb.tmps[19]? = some _ := hf.tmp (k := 0) rfl (by rw [ha]; decide) (hA 0 (by kernel_rfl))
      have hw9 := hw20
      exact Rg.op_value (o := ⟨some 20, Op.binOp BinOp.add 3 (Operand.tmp 19) (Operand.const (Value.int .i64 1)) 3, _, _, _, _⟩) (x := .int .i64 ((c1 : Nat))) rfl rfl (by clear hA HS hN hO HK hx hy hm0 hm1; simp only [execOp]; go_simp) ⟨_, rfl, (fun h => by cases h), rfl, hI, fun _ _ _ _ h => h⟩
    · intro ll bb w' hs hlf hN hO hf hI hA
      clear hi'
      have q0 := hf.kept (s := 2) (by rw [sizeUs3]; kernel_rfl) k2
      exact Rg.op_value (o := ⟨some 21, Op.move (Operand.tmp 2), _, _, _, _⟩) (x := .int .i64 (n : Nat)) rfl rfl (by clear hA HS hN hO HK hx hy hm0 hm1; simp only [execOp]; go_simp) ⟨_, rfl, (fun h => by cases h), rfl, hI, fun _ _ _ _ h => h⟩
    · intro ll bb w' hs hlf hN hO hf hI hA
      clear hi'
      have q20 : bb.tmps[20]? = some _ := hf.tmp (k := 1) rfl (by rw [ha]; decide) (hA 1 (by kernel_rfl))
      have q21 : bb.tmps[21]? = some _ := hf.tmp (k := 2) rfl (by rw [ha]; decide) (hA 2 (by kernel_rfl))
      exact Rg.op_value (o := ⟨some 22, Op.binOp BinOp.lss 3 (Operand.tmp 20) (Operand.tmp 21) 3, _, _, _, _⟩) (x := .bool (decide ((c1 : Int) < (n : Int)))) rfl rfl (by clear hA HS hN hO HK hx hy hm0 hm1; simp only [execOp]; go_simp) ⟨_, rfl, (fun h => by cases h), rfl, hI, fun _ _ _ _ h => h⟩
    · intro ll bb w' hs hlf hN hO hf hI hA
      clear hi'
      have q22 : bb.tmps[22]? = some _ := hf.tmp (k := 3) rfl (by rw [ha]; decide) (hA 3 (by kernel_rfl))
      exact Rg.op_value (o := ⟨some 23, Op.move (Operand.tmp 22), _, _, _, _⟩) (x := .bool (decide ((c1 : Int) < (n : Int)))) rfl rfl (by clear hA HS hN hO HK hx hy hm0 hm1; simp only [execOp]; go_simp) ⟨_, rfl, (fun h => by cases h), rfl, hI, fun _ _ _ _ h => h⟩
    · intro ll bb w' hs hlf hN hO hf hI hA
      clear hi'
      have qg : bb.tmps[23]? = some (cond true (.bool (decide ((c1 : Int) < (n : Int)))) undef) := hf.tmp (k := 4) rfl (by rw [ha]; decide) (hA 4 (by kernel_rfl))
      cases hP : (true && ((decide ((c1 : Int) < (n : Int))) == true)) with
      | false => exact Rg.op_none (o := ⟨some 24, _, _, _, _, _⟩) rfl (Rg.unwanted_c (g := 4) rfl rfl qg hP) ⟨_, rfl, (fun h => by cases h), Rg.cond_f hP, hI, fun _ _ _ _ h => h⟩
      | true =>
        have hw := Rg.wanted_c (ops := (Rg.opsOf Try.f144 3)) (o := (Rg.opsOf Try.f144 3)[5]'(by rw [sizeUs3]; decide)) (g := 4) rfl rfl qg hP
        have g0 := Rg.pc_r hP
        have q0 := hf.kept (s := 4) (by rw [sizeUs3]; kernel_rfl) k4
        exact Rg.op_value (o := ⟨some 24, Op.move (Operand.tmp 4), _, _, _, _⟩) (x := .func (.func 47) #[.agg #[.int .i64 nd.p, .int .i64 nd.g, sv]] #[]) rfl hw (by clear hA HS hN hO HK hx hy hm0 hm1; simp only [execOp]; go_simp) ⟨_, rfl, (fun h => by cases h), (Rg.cond_t hP).symm, hI, fun _ _ _ _ h => h⟩
    · intro ll bb w' hs hlf hN hO hf hI hA
      clear hi'
      have qg : bb.tmps[23]? = some (cond true (.bool (decide ((c1 : Int) < (n : Int)))) undef) := hf.tmp (k := 4) rfl (by rw [ha]; decide) (hA 4 (by kernel_rfl))
      cases hP : (true && ((decide ((c1 : Int) < (n : Int))) == true)) with
      | false => exact Rg.op_none (o := ⟨some 25, _, _, _, _, _⟩) rfl (Rg.unwanted_c (g := 4) rfl rfl qg hP) ⟨_, rfl, (fun h => by cases h), Rg.cond_f hP, hI, fun _ _ _ _ h => h⟩
      | true =>
        have hw := Rg.wanted_c (ops := (Rg.opsOf Try.f144 3)) (o := (Rg.opsOf Try.f144 3)[6]'(by rw [sizeUs3]; decide)) (g := 4) rfl rfl qg hP
        have g0 := Rg.pc_r hP
        have q0 := hf.kept (s := 0) (by rw [sizeUs3]; kernel_rfl) k0
        exact Rg.op_value (o := ⟨some 25, Op.move (Operand.tmp 0), _, _, _, _⟩) (x := .slice (some ⟨G, 0, none⟩) m c) rfl hw (by clear hA HS hN hO HK hx hy hm0 hm1; simp only [execOp]; go_simp) ⟨_, rfl, (fun h => by cases h), (Rg.cond_t hP).symm, hI, fun _ _ _ _ h => h⟩
    · intro ll bb w' hs hlf hN hO hf hI hA
      clear hi'
      have qg : bb.tmps[23]? = some (cond true (.bool (decide ((c1 : Int) < (n : Int)))) undef) := hf.tmp (k := 4) rfl (by rw [ha]; decide) (hA 4 (by kernel_rfl))
      cases hP : (true && ((decide ((c1 : Int) < (n : Int))) == true)) with
      | false => exact Rg.op_none (o := ⟨some 26, _, _, _, _, _⟩) rfl (Rg.unwanted_c (g := 4) rfl rfl qg hP) ⟨_, rfl, (fun h => by cases h), Rg.cond_f hP, hI, fun _ _ _ _ h => h⟩
      | true =>
        have hw := Rg.wanted_c (ops := (Rg.opsOf Try.f144 3)) (o := (Rg.opsOf Try.f144 3)[7]'(by rw [sizeUs3]; decide)) (g := 4) rfl rfl qg hP
        have g0 := Rg.pc_r hP
        have q0 := hf.kept (s := 3) (by rw [sizeUs3]; kernel_rfl) k3
        exact Rg.op_value (o := ⟨some 26, Op.move (Operand.tmp 3), _, _, _, _⟩) (x := .int .i64 (f : Nat)) rfl hw (by clear hA HS hN hO HK hx hy hm0 hm1; simp only [execOp]; go_simp) ⟨_, rfl, (fun h => by cases h), (Rg.cond_t hP).symm, hI, fun _ _ _ _ h => h⟩
    · intro ll bb w' hs hlf hN hO hf hI hA
      clear hi'
      have qg : bb.tmps[23]? = some (cond true (.bool (decide ((c1 : Int) < (n : Int)))) undef) := hf.tmp (k := 4) rfl (by rw [ha]; decide) (hA 4 (by kernel_rfl))
      cases hP : (true && ((decide ((c1 : Int) < (n : Int))) == true)) with
      | false => exact Rg.op_none (o := ⟨some 27, _, _, _, _, _⟩) rfl (Rg.unwanted_c (g := 4) rfl rfl qg hP) ⟨_, rfl, (fun h => by cases h), Rg.cond_f hP, hI, fun _ _ _ _ h => h⟩
      | true =>
        have hw := Rg.wanted_c (ops := (Rg.opsOf Try.f144 3)) (o := (Rg.opsOf Try.f144 3)[8]'(by rw [sizeUs3]; decide)) (g := 4) rfl rfl qg hP
        have g0 := Rg.pc_r hP
        have q0 := hf.kept (s := 11) (by rw [sizeUs3]; kernel_rfl) k11
        exact Rg.op_value (o := ⟨some 27, Op.move (Operand.tmp 11), _, _, _, _⟩) (x := .int .i64 (ch : Nat)) rfl hw (by clear hA HS hN hO HK hx hy hm0 hm1; simp only [execOp]; go_simp) ⟨_, rfl, (fun h => by cases h), (Rg.cond_t hP).symm, hI, fun _ _ _ _ h => h⟩
    · intro ll bb w' hs hlf hN hO hf hI hA
      clear hi'
      have qg : bb.tmps[23]? = some (cond true (.bool (decide ((c1 : Int) < (n : Int)))) undef) := hf.tmp (k := 4) rfl (by rw [ha]; decide) (hA 4 (by kernel_rfl))
      cases hP : (true && ((decide ((c1 : Int) < (n : Int))) == true)) with
      | false => exact Rg.op_none (o := ⟨some 28, _, _, _, _, _⟩) rfl (Rg.unwanted_c (g := 4) rfl rfl qg hP) ⟨_, rfl, (fun h => by cases h), Rg.cond_f hP, hI, fun _ _ _ _ h => h⟩
      | true =>
        have hw := Rg.wanted_c (ops := (Rg.opsOf Try.f144 3)) (o := (Rg.opsOf Try.f144 3)[9]'(by rw [sizeUs3]; decide)) (g := 4) rfl rfl qg hP
        have g0 := Rg.pc_r hP
        have q26 : bb.tmps[26]? = some (.int .i64 (f : Nat)) := hf.tmp (k := 7) rfl (by rw [ha]; decide) (Eq.trans (hA 7 (by kernel_rfl)) (Rg.cond_t hP))
        have q27 : bb.tmps[27]? = some (.int .i64 (ch : Nat)) := hf.tmp (k := 8) rfl (by rw [ha]; decide) (Eq.trans (hA 8 (by kernel_rfl)) (Rg.cond_t hP))
        have hw9 := hw28
        exact Rg.op_value (o := ⟨some 28, Op.binOp BinOp.add 3 (Operand.tmp 26) (Operand.tmp 27) 3, _, _, _, _⟩) (x := .int .i64 ((i1 : Nat))) rfl hw (by clear hA HS hN hO HK hx hy hm0 hm1; simp only [execOp]; go_simp) ⟨_, rfl, (fun h => by cases h), (Rg.cond_t hP).symm, hI, fun _ _ _ _ h => h⟩
    · intro ll bb w' hs hlf hN hO hf hI hA
      clear hi'
      have qg : bb.tmps[23]? = some (cond true (.bool (decide ((c1 : Int) < (n : Int)))) undef) := hf.tmp (k := 4) rfl (by rw [ha]; decide) (hA 4 (by kernel_rfl))
      cases hP : (true && ((decide ((c1 : Int) < (n : Int))) == true)) with
      | false => exact Rg.op_none (o := ⟨some 29, _, _, _, _, _⟩) rfl (Rg.unwanted_c (g := 4) rfl rfl qg hP) ⟨_, rfl, (fun h => by cases h), Rg.cond_f hP, hI, fun _ _ _ _ h => h⟩
      | true =>
        have hw := Rg.wanted_c (ops := (Rg.opsOf Try.f144 3)) (o := (Rg.opsOf Try.f144 3)[10]'(by rw [sizeUs3]; decide)) (g := 4) rfl rfl qg hP
        have g0 := Rg.pc_r hP
        have q25 : bb.tmps[25]? = some (.slice (some ⟨G, 0, none⟩) m c) := hf.tmp (k := 6) rfl (by rw [ha]; decide) (Eq.trans (hA 6 (by kernel_rfl)) (Rg.cond_t hP))
        have q28 : bb.tmps[28]? = some (.int .i64 ((i1 : Nat))) := hf.tmp (k := 9) rfl (by rw [ha]; decide) (Eq.trans (hA 9 (by kernel_rfl)) (Rg.cond_t hP))
        have hgp : c1 < n := by have q1 := g0; simp at q1; omega
        have hi9 : (((i1) : Nat) : Int) < (m : Int) := by have := hm0 hgp; omega
        exact Rg.op_value (o := ⟨some 29, Op.indexAddr 24 (Operand.tmp 25) (Operand.tmp 28), _, _, _, _⟩) (x := .pointer (some ⟨G, (i1) * 6, none⟩)) rfl hw (by clear hA HS hN hO HK hx hy hm0 hm1; simp only [execOp]; go_simp) ⟨_, rfl, (fun h => by cases h), (Rg.cond_t hP).symm, hI, fun _ _ _ _ h => h⟩
    · intro ll bb w' hs hlf hN hO hf hI hA
      clear hi'
      have qg : bb.tmps[23]? = some (cond true (.bool (decide ((c1 : Int) < (n : Int)))) undef) := hf.tmp (k := 4) rfl (by rw [ha]; decide) (hA 4 (by kernel_rfl))
      cases hP : (true && ((decide ((c1 : Int) < (n : Int))) == true)) with
      | false => exact Rg.op_none (o := ⟨some 30, _, _, _, _, _⟩) rfl (Rg.unwanted_c (g := 4) rfl rfl qg hP) ⟨_, rfl, (fun h => by cases h), Rg.cond_f hP, hI, fun _ _ _ _ h => h⟩
      | true =>
        have hw := Rg.wanted_c (ops := (Rg.opsOf Try.f144 3)) (o := (Rg.opsOf Try.f144 3)[11]'(by rw [sizeUs3]; decide)) (g := 4) rfl rfl qg hP
        have g0 := Rg.pc_r hP
        have q29 : bb.tmps[29]? = some (.pointer (some ⟨G, (i1) * 6, none⟩)) := hf.tmp (k := 10) rfl (by rw [ha]; decide) (Eq.trans (hA 10 (by kernel_rfl)) (Rg.cond_t hP))
        have hgp : c1 < n := by have q1 := g0; simp at q1; omega
        have hx9 := (hx hgp).below hI hGl
        have e0 := hx9.c0
        have e1 := hx9.c1
        have e2 := hx9.c2
        have e3 := hx9.c3
        have e4 := hx9.c4
        have e5 := hx9.c5
        exact Rg.op_value (o := ⟨some 30, Op.load 81 (Operand.tmp 29), _, _, _, _⟩) (x := .agg #[.int .i64 x.1.id, .int .i64 x.1.grp, x.2, .int .i64 x.1.til, .int .i64 x.1.st, .int .i64 x.1.fr]) rfl hw (by clear hA HS hN hO HK hx hy hm0 hm1; simp only [execOp]; go_simp) ⟨_, rfl, (fun h => by cases h), (Rg.cond_t hP).symm, hI, fun _ _ _ _ h => h⟩
    · intro ll bb w' hs hlf hN hO hf hI hA
      clear hi'
      have qg : bb.tmps[23]? = some (cond true (.bool (decide ((c1 : Int) < (n : Int)))) undef) := hf.tmp (k := 4) rfl (by rw [ha]; decide) (hA 4 (by kernel_rfl))
      cases hP : (true && ((decide ((c1 : Int) < (n : Int))) == true)) with
      | false => exact Rg.op_none (o := ⟨some 31, _, _, _, _, _⟩) rfl (Rg.unwanted_c (g := 4) rfl rfl qg hP) ⟨_, rfl, (fun h => by cases h), Rg.cond_f hP, hI, fun _ _ _ _ h => h⟩
      | true =>
        have hw := Rg.wanted_c (ops := (Rg.opsOf Try.f144 3)) (o := (Rg.opsOf Try.f144 3)[12]'(by rw [sizeUs3]; decide)) (g := 4) rfl rfl qg hP
        have g0 := Rg.pc_r hP
        have q0 := hf.kept (s := 0) (by rw [sizeUs3]; kernel_rfl) k0
        exact Rg.op_value (o := ⟨some 31, Op.move (Operand.tmp 0), _, _, _, _⟩) (x := .slice (some ⟨G, 0, none⟩) m c) rfl hw (by clear hA HS hN hO HK hx hy hm0 hm1; simp only [execOp]; go_simp) ⟨_, rfl, (fun h => by cases h), (Rg.cond_t hP).symm, hI, fun _ _ _ _ h => h⟩
    · intro ll bb w' hs hlf hN hO hf hI hA
      clear hi'
      have qg : bb.tmps[23]? = some (cond true (.bool (decide ((c1 : Int) < (n : Int)))) undef) := hf.tmp (k := 4) rfl (by rw [ha]; decide) (hA 4 (by kernel_rfl))
      cases hP : (true && ((decide ((c1 : Int) < (n : Int))) == true)) with
      | false => exact Rg.op_none (o := ⟨some 32, _, _, _, _, _⟩) rfl (Rg.unwanted_c (g := 4) rfl rfl qg hP) ⟨_, rfl, (fun h => by cases h), Rg.cond_f hP, hI, fun _ _ _ _ h => h⟩
      | true =>
        have hw := Rg.wanted_c (ops := (Rg.opsOf Try.f144 3)) (o := (Rg.opsOf Try.f144 3)[13]'(by rw [sizeUs3]; decide)) (g := 4) rfl rfl qg hP
        have g0 := Rg.pc_r hP
        have q0 := hf.kept (s := 3) (by rw [sizeUs3]; kernel_rfl) k3
        exact Rg.op_value (o := ⟨some 32, Op.move (Operand.tmp 3), _, _, _, _⟩) (x := .int .i64 (f : Nat)) rfl hw (by clear hA HS hN hO HK hx hy hm0 hm1; simp only [execOp]; go_simp) ⟨_, rfl, (fun h => by cases h), (Rg.cond_t hP).symm, hI, fun _ _ _ _ h => h⟩
    · intro ll bb w' hs hlf hN hO hf hI hA
      clear hi'
      have qg : bb.tmps[23]? = some (cond true (.bool (decide ((c1 : Int) < (n : Int)))) undef) := hf.tmp (k := 4) rfl (by rw [ha]; decide) (hA 4 (by kernel_rfl))
      cases hP : (true && ((decide ((c1 : Int) < (n : Int))) == true)) with
      | false => exact Rg.op_none (o := ⟨some 33, _, _, _, _, _⟩) rfl (Rg.unwanted_c (g := 4) rfl rfl qg hP) ⟨_, rfl, (fun h => by cases h), Rg.cond_f hP, hI, fun _ _ _ _ h => h⟩
      | true =>
        have hw := Rg.wanted_c (ops := (Rg.opsOf Try.f144 3)) (o := (Rg.opsOf Try.f144 3)[14]'(by rw [sizeUs3]; decide)) (g := 4) rfl rfl qg hP
        have g0 := Rg.pc_r hP
        have q0 := hf.kept (s := 11) (by rw [sizeUs3]; kernel_rfl) k11
        exact Rg.op_value (o := ⟨some 33, Op.move (Operand.tmp 11), _, _, _, _⟩) (x := .int .i64 (ch : Nat)) rfl hw (by clear hA HS hN hO HK hx hy hm0 hm1; simp only [execOp]; go_simp) ⟨_, rfl, (fun h => by cases h), (Rg.cond_t hP).symm, hI, fun _ _ _ _ h => h⟩
    · intro ll bb w' hs hlf hN hO hf hI hA
      clear hi'
      have qg : bb.tmps[23]? = some (cond true (.bool (decide ((c1 : Int) < (n : Int)))) undef) := hf.tmp (k := 4) rfl (by rw [ha]; decide) (hA 4 (by kernel_rfl))
      cases hP : (true && ((decide ((c1 : Int) < (n : Int))) == true)) with
      | false => exact Rg.op_none (o := ⟨some 34, _, _, _, _, _⟩) rfl (Rg.unwanted_c (g := 4) rfl rfl qg hP) ⟨_, rfl, (fun h => by cases h), Rg.cond_f hP, hI, fun _ _ _ _ h => h⟩
      | true =>
        have hw := Rg.wanted_c (ops := (Rg.opsOf Try.f144 3)) (o := (Rg.opsOf Try.f144 3)[15]'(by rw [sizeUs3]; decide)) (g := 4) rfl rfl qg hP
        have g0 := Rg.pc_r hP
        have q32 : bb.tmps[32]? = some (.int .i64 (f : Nat)) := hf.tmp (k := 13) rfl (by rw [ha]; decide) (Eq.trans (hA 13 (by kernel_rfl)) (Rg.cond_t hP))
        have q33 : bb.tmps[33]? = some (.int .i64 (ch : Nat)) := hf.tmp (k := 14) rfl (by rw [ha]; decide) (Eq.trans (hA 14 (by kernel_rfl)) (Rg.cond_t hP))
        have hw9 := hw34
        exact Rg.op_value (o := ⟨some 34, Op.binOp BinOp.add 3 (Operand.tmp 32) (Operand.tmp 33) 3, _, _, _, _⟩) (x := .int .i64 ((i1 : Nat))) rfl hw (by clear hA HS hN hO HK hx hy hm0 hm1; simp only [execOp]; go_simp) ⟨_, rfl, (fun h => by cases h), (Rg.cond_t hP).symm, hI, fun _ _ _ _ h => h⟩
    · intro ll bb w' hs hlf hN hO hf hI hA
      clear hi'
      have qg : bb.tmps[23]? = some (cond true (.bool (decide ((c1 : Int) < (n : Int)))) undef) := hf.tmp (k := 4) rfl (by rw [ha]; decide) (hA 4 (by kernel_rfl))
      cases hP : (true && ((decide ((c1 : Int) < (n : Int))) == true)) with
      | false => exact Rg.op_none (o := ⟨some 35, _, _, _, _, _⟩) rfl (Rg.unwanted_c (g := 4) rfl rfl qg hP) ⟨_, rfl, (fun h => by cases h), Rg.cond_f hP, hI, fun _ _ _ _ h => h⟩
      | true =>
        have hw := Rg.wanted_c (ops := (Rg.opsOf Try.f144 3)) (o := (Rg.opsOf Try.f144 3)[16]'(by rw [sizeUs3]; decide)) (g := 4) rfl rfl qg hP
        have g0 := Rg.pc_r hP
        have q34 : bb.tmps[34]? = some (.int .i64 ((i1 : Nat))) := hf.tmp (k := 15) rfl (by rw [ha]; decide) (Eq.trans (hA 15 (by kernel_rfl)) (Rg.cond_t hP))
        have hw9 := hw35
        exact Rg.op_value (o := ⟨some 35, Op.binOp BinOp.add 3 (Operand.tmp 34) (Operand.const (Value.int .i64 1)) 3, _, _, _, _⟩) (x := .int .i64 ((i2 : Nat))) rfl hw (by clear hA HS hN hO HK hx hy hm0 hm1; simp only [execOp]; go_simp) ⟨_, rfl, (fun h => by cases h), (Rg.cond_t hP).symm, hI, fun _ _ _ _ h => h⟩
    · intro ll bb w' hs hlf hN hO hf hI hA
      clear hi'
      have qg : bb.tmps[23]? = some (cond true (.bool (decide ((c1 : Int) < (n : Int)))) undef) := hf.tmp (k := 4) rfl (by rw [ha]; decide) (hA 4 (by kernel_rfl))
      cases hP : (true && ((decide ((c1 : Int) < (n : Int))) == true)) with
      | false => exact Rg.op_none (o := ⟨some 36, _, _, _, _, _⟩) rfl (Rg.unwanted_c (g := 4) rfl rfl qg hP) ⟨_, rfl, (fun h => by cases h), Rg.cond_f hP, hI, fun _ _ _ _ h => h⟩
      | true =>
        have hw := Rg.wanted_c (ops := (Rg.opsOf Try.f144 3)) (o := (Rg.opsOf Try.f144 3)[17]'(by rw [sizeUs3]; decide)) (g := 4) rfl rfl qg hP
        have g0 := Rg.pc_r hP
        have q31 : bb.tmps[31]? = some (.slice (some ⟨G, 0, none⟩) m c) := hf.tmp (k := 12) rfl (by rw [ha]; decide) (Eq.trans (hA 12 (by kernel_rfl)) (Rg.cond_t hP))
        have q35 : bb.tmps[35]? = some (.int .i64 ((i2 : Nat))) := hf.tmp (k := 16) rfl (by rw [ha]; decide) (Eq.trans (hA 16 (by kernel_rfl)) (Rg.cond_t hP))
        have hgp : c1 < n := by have q1 := g0; simp at q1; omega
        have hi9 : (((i2) : Nat) : Int) < (m : Int) := by have := hm1 hgp; omega
        exact Rg.op_value (o := ⟨some 36, Op.indexAddr 24 (Operand.tmp 31) (Operand.tmp 35), _, _, _, _⟩) (x := .pointer (some ⟨G, (i2) * 6, none⟩)) rfl hw (by clear hA HS hN hO HK hx hy hm0 hm1; simp only [execOp]; go_simp) ⟨_, rfl, (fun h => by cases h), (Rg.cond_t hP).symm, hI, fun _ _ _ _ h => h⟩
    · intro ll bb w' hs hlf hN hO hf hI hA
      clear hi'
      have qg : bb.tmps[23]? = some (cond true (.bool (decide ((c1 : Int) < (n : Int)))) undef) := hf.tmp (k := 4) rfl (by rw [ha]; decide) (hA 4 (by kernel_rfl))
      cases hP : (true && ((decide ((c1 : Int) < (n : Int))) == true)) with
      | false => exact Rg.op_none (o := ⟨some 37, _, _, _, _, _⟩) rfl (Rg.unwanted_c (g := 4) rfl rfl qg hP) ⟨_, rfl, (fun h => by cases h), Rg.cond_f hP, hI, fun _ _ _ _ h => h⟩
      | true =>
        have hw := Rg.wanted_c (ops := (Rg.opsOf Try.f144 3)) (o := (Rg.opsOf Try.f144 3)[18]'(by rw [sizeUs3]; decide)) (g := 4) rfl rfl qg hP
        have g0 := Rg.pc_r hP
        have q36 : bb.tmps[36]? = some (.pointer (some ⟨G, (i2) * 6, none⟩)) := hf.tmp (k := 17) rfl (by rw [ha]; decide) (Eq.trans (hA 17 (by kernel_rfl)) (Rg.cond_t hP))
        have hgp : c1 < n := by have q1 := g0; simp at q1; omega
        have hx9 := (hy hgp).below hI hGl
        have e0 := hx9.c0
        have e1 := hx9.c1
        have e2 := hx9.c2
        have e3 := hx9.c3
        have e4 := hx9.c4
        have e5 := hx9.c5
        exact Rg.op_value (o := ⟨some 37, Op.load 81 (Operand.tmp 36), _, _, _, _⟩) (x := .agg #[.int .i64 y.1.id, .int .i64 y.1.grp, y.2, .int .i64 y.1.til, .int .i64 y.1.st, .int .i64 y.1.fr]) rfl hw (by clear hA HS hN hO HK hx hy hm0 hm1; simp only [execOp]; go_simp) ⟨_, rfl, (fun h => by cases h), (Rg.cond_t hP).symm, hI, fun _ _ _ _ h => h⟩
    · intro ll bb w' hs hlf hN hO hf hI hA
      clear hi'
      have qg : bb.tmps[23]? = some (cond true (.bool (decide ((c1 : Int) < (n : Int)))) undef) := hf.tmp (k := 4) rfl (by rw [ha]; decide) (hA 4 (by kernel_rfl))
      cases hP : (true && ((decide ((c1 : Int) < (n : Int))) == true)) with
      | false => exact Rg.op_none (o := ⟨some 38, _, _, _, _, _⟩) rfl (Rg.unwanted_c (g := 4) rfl rfl qg hP) ⟨_, rfl, (fun h => by cases h), Rg.cond_f hP, hI, fun _ _ _ _ h => h⟩
      | true =>
        have hw := Rg.wanted_c (ops := (Rg.opsOf Try.f144 3)) (o := (Rg.opsOf Try.f144 3)[19]'(by rw [sizeUs3]; decide)) (g := 4) rfl rfl qg hP
        have g0 := Rg.pc_r hP
        have q24 : bb.tmps[24]? = some (.func (.func 47) #[.agg #[.int .i64 nd.p, .int .i64 nd.g, sv]] #[]) := hf.tmp (k := 5) rfl (by rw [ha]; decide) (Eq.trans (hA 5 (by kernel_rfl)) (Rg.cond_t hP))
        have q30 : bb.tmps[30]? = some (.agg #[.int .i64 x.1.id, .int .i64 x.1.grp, x.2, .int .i64 x.1.til, .int .i64 x.1.st, .int .i64 x.1.fr]) := hf.tmp (k := 11) rfl (by rw [ha]; decide) (Eq.trans (hA 11 (by kernel_rfl)) (Rg.cond_t hP))
        have q37 : bb.tmps[37]? = some (.agg #[.int .i64 y.1.id, .int .i64 y.1.grp, y.2, .int .i64 y.1.til, .int .i64 y.1.st, .int .i64 y.1.fr]) := hf.tmp (k := 18) rfl (by rw [ha]; decide) (Eq.trans (hA 18 (by kernel_rfl)) (Rg.cond_t hP))
        have hgp : c1 < n := by have q1 := g0; simp at q1; omega
        refine Rg.op_call (o := ⟨some 38, Op.call { callee := Callee.value (Operand.tmp 24), args := #[(Operand.tmp 30), (Operand.tmp 37)], argTypes := _ }, _, _, _, _⟩) rfl hw (by clear hA HS hN hO HK hx hy hm0 hm1; simp only [execOp, resolve]; go_simp) (HK hgp w') ?_
        rintro e w2 ⟨rfl, hb2⟩
        exact ⟨_, rfl, _, rfl, (fun h => by cases h), (Rg.cond_t hP).symm, onto hI hb2, fun k9 y9 _ _ h => HS hb2 k9 y9 h⟩
    · intro ll bb w' hs hlf hN hO hf hI hA
      clear hi'
      have qg : bb.tmps[23]? = some (cond true (.bool (decide ((c1 : Int) < (n : Int)))) undef) := hf.tmp (k := 4) rfl (by rw [ha]; decide) (hA 4 (by kernel_rfl))
      cases hP : (true && ((decide ((c1 : Int) < (n : Int))) == true)) with
      | false => exact Rg.op_none (o := ⟨some 39, _, _, _, _, _⟩) rfl (Rg.unwanted_c (g := 4) rfl rfl qg hP) ⟨_, rfl, (fun h => by cases h), Rg.cond_f hP, hI, fun _ _ _ _ h => h⟩
      | true =>
        have hw := Rg.wanted_c (ops := (Rg.opsOf Try.f144 3)) (o := (Rg.opsOf Try.f144 3)[20]'(by rw [sizeUs3]; decide)) (g := 4) rfl rfl qg hP
        have g0 := Rg.pc_r hP
        have q38 : bb.tmps[38]? = some (.int .i64 rr) := hf.tmp (k := 19) rfl (by rw [ha]; decide) (Eq.trans (hA 19 (by kernel_rfl)) (Rg.cond_t hP))
        exact Rg.op_value (o := ⟨some 39, Op.binOp BinOp.lss 3 (Operand.tmp 38) (Operand.const (Value.int .i64 0)) 3, _, _, _, _⟩) (x := .bool (decide (rr < 0))) rfl hw (by clear hA HS hN hO HK hx hy hm0 hm1; simp only [execOp]; go_simp) ⟨_, rfl, (fun h => by cases h), (Rg.cond_t hP).symm, hI, fun _ _ _ _ h => h⟩
    · intro ll bb w' hs hlf hN hO hf hI hA
      clear hi'
      have q23 : bb.tmps[23]? = some _ := hf.tmp (k := 4) rfl (by rw [ha]; decide) (hA 4 (by kernel_rfl))
      cases hC : (decide ((c1 : Int) < (n : Int))) with
      | false =>
        have hval : ((.bool ((decide ((c1 : Int) < (n : Int))) && (decide (rr < 0))) : Value)) = .bool false := by rw [hC]; rfl
        exact Rg.op_value (o := ⟨some 40, Op.pick (Operand.tmp 23) (Operand.tmp 39) (Operand.const (Value.bool false)), _, _, _, _⟩) (x := .bool false) rfl rfl (by rw [hC] at q23; clear hA HS hN hO HK hx hy hm0 hm1 hval; simp only [execOp]; go_simp) ⟨_, rfl, (fun h => by cases h), (by show ((.bool false : Value)) = _; first | exact hval.symm | rfl), hI, fun _ _ _ _ h => h⟩
      | true =>
        have hB : (true && ((decide ((c1 : Int) < (n : Int))) == true)) = true := by rw [hC]; rfl
        have q39 : bb.tmps[39]? = some (.bool (decide (rr < 0))) := hf.tmp (k := 20) rfl (by rw [ha]; decide) (Eq.trans (hA 20 (by kernel_rfl)) (Rg.cond_t hB))
        have hval : ((.bool ((decide ((c1 : Int) < (n : Int))) && (decide (rr < 0))) : Value)) = .bool (decide (rr < 0)) := by rw [hC]; rfl
        exact Rg.op_value (o := ⟨some 40, Op.pick (Operand.tmp 23) (Operand.tmp 39) (Operand.const (Value.bool false)), _, _, _, _⟩) (x := .bool (decide (rr < 0))) rfl rfl (by rw [hC] at q23; clear hA HS hN hO HK hx hy hm0 hm1 hval; simp only [execOp]; go_simp) ⟨_, rfl, (fun h => by cases h), (by show ((.bool (decide (rr < 0)) : Value)) = _; first | exact hval.symm | rfl), hI, fun _ _ _ _ h => h⟩
theorem dUs3_0 : Rg.dstAt (Rg.opsOf Try.f144 3) 0 = some 19 := by kernel_rfl
theorem dUs3_1 : Rg.dstAt (Rg.opsOf Try.f144 3) 1 = some 20 := by kernel_rfl
theorem dUs3_2 : Rg.dstAt (Rg.opsOf Try.f144 3) 2 = some 21 := by kernel_rfl
theorem dUs3_3 : Rg.dstAt (Rg.opsOf Try.f144 3) 3 = some 22 := by kernel_rfl
theorem dUs3_4 : Rg.dstAt (Rg.opsOf Try.f144 3) 4 = some 23 := by kernel_rfl
theorem dUs3_5 : Rg.dstAt (Rg.opsOf Try.f144 3) 5 = some 24 := by kernel_rfl
theorem dUs3_6 : Rg.dstAt (Rg.opsOf Try.f144 3) 6 = some 25 := by kernel_rfl
theorem dUs3_7 : Rg.dstAt (Rg.opsOf Try.f144 3) 7 = some 26 := by kernel_rfl
theorem dUs3_8 : Rg.dstAt (Rg.opsOf Try.f144 3) 8 = some 27 := by kernel_rfl
theorem dUs3_9 : Rg.dstAt (Rg.opsOf Try.f144 3) 9 = some 28 := by kernel_rfl
theorem dUs3_10 : Rg.dstAt (Rg.opsOf Try.f144 3) 10 = some 29 := by kernel_rfl
theorem dUs3_11 : Rg.dstAt (Rg.opsOf Try.f144 3) 11 = some 30 := by kernel_rfl
theorem dUs3_12 : Rg.dstAt (Rg.opsOf Try.f144 3) 12 = some 31 := by kernel_rfl
theorem dUs3_13 : Rg.dstAt (Rg.opsOf Try.f144 3) 13 = some 32 := by kernel_rfl
theorem dUs3_14 : Rg.dstAt (Rg.opsOf Try.f144 3) 14 = some 33 := by kernel_rfl
theorem dUs3_15 : Rg.dstAt (Rg.opsOf Try.f144 3) 15 = some 34 := by kernel_rfl
theorem dUs3_16 : Rg.dstAt (Rg.opsOf Try.f144 3) 16 = some 35 := by kernel_rfl
theorem dUs3_17 : Rg.dstAt (Rg.opsOf Try.f144 3) 17 = some 36 := by kernel_rfl
theorem dUs3_18 : Rg.dstAt (Rg.opsOf Try.f144 3) 18 = some 37 := by kernel_rfl
theorem dUs3_19 : Rg.dstAt (Rg.opsOf Try.f144 3) 19 = some 38 := by kernel_rfl
theorem dUs3_20 : Rg.dstAt (Rg.opsOf Try.f144 3) 20 = some 39 := by kernel_rfl
theorem dUs3_21 : Rg.dstAt (Rg.opsOf Try.f144 3) 21 = some 40 := by kernel_rfl
theorem layUs3 {a b : Act} (hf : Rg.Fr (Rg.opsOf Try.f144 3) a b) : b = ((((((((((((((((((((((a.put (some 19) (Rg.out (Rg.opsOf Try.f144 3) b 0)).put (some 20) (Rg.out (Rg.opsOf Try.f144 3) b 1)).put (some 21) (Rg.out (Rg.opsOf Try.f144 3) b 2)).put (some 22) (Rg.out (Rg.opsOf Try.f144 3) b 3)).put (some 23) (Rg.out (Rg.opsOf Try.f144 3) b 4)).put (some 24) (Rg.out (Rg.opsOf Try.f144 3) b 5)).put (some 25) (Rg.out (Rg.opsOf Try.f144 3) b 6)).put (some 26) (Rg.out (Rg.opsOf Try.f144 3) b 7)).put (some 27) (Rg.out (Rg.opsOf Try.f144 3) b 8)).put (some 28) (Rg.out (Rg.opsOf Try.f144 3) b 9)).put (some 29) (Rg.out (Rg.opsOf Try.f144 3) b 10)).put (some 30) (Rg.out (Rg.opsOf Try.f144 3) b 11)).put (some 31) (Rg.out (Rg.opsOf Try.f144 3) b 12)).put (some 32) (Rg.out (Rg.opsOf Try.f144 3) b 13)).put (some 33) (Rg.out (Rg.opsOf Try.f144 3) b 14)).put (some 34) (Rg.out (Rg.opsOf Try.f144 3) b 15)).put (some 35) (Rg.out (Rg.opsOf Try.f144 3) b 16)).put (some 36) (Rg.out (Rg.opsOf Try.f144 3) b 17)).put (some 37) (Rg.out (Rg.opsOf Try.f144 3) b 18)).put (some 38) (Rg.out (Rg.opsOf Try.f144 3) b 19)).put (some 39) (Rg.out (Rg.opsOf Try.f144 3) b 20)).put (some 40) (Rg.out (Rg.opsOf Try.f144 3) b 21)) := by
  have h := hf.chain
  rw [sizeUs3, show List.range 22 = [0, 1, 2, 3, 4, 5, 6, 7, 8, 9, 10, 11, 12, 13, 14, 15, 16, 17, 18, 19, 20, 21] from by decide] at h
  simp only [List.foldl_cons, List.foldl_nil, dUs3_0, dUs3_1, dUs3_2, dUs3_3, dUs3_4, dUs3_5, dUs3_6, dUs3_7, dUs3_8, dUs3_9, dUs3_10, dUs3_11, dUs3_12, dUs3_13, dUs3_14, dUs3_15, dUs3_16, dUs3_17, dUs3_18, dUs3_19, dUs3_20, dUs3_21] at h
  exact h
def FUs5 (G m c : Nat) (x y : UE) (nd : Nd) (sv : Value) (rr : Int) (f r cc i1 i2 : Nat) (i9 : Nat) (v : Value) (w : World) : Prop :=
  match i9 with
  | 0 => v = .func (.func 47) #[.agg #[.int .i64 nd.p, .int .i64 nd.g, sv]] #[]
  | 1 => v = .slice (some ⟨G, 0, none⟩) m c
  | 2 => v = .int .i64 (f : Nat)
  | 3 => v = .int .i64 (r : Nat)
  | 4 => v = .int .i64 ((i1 : Nat))
  | 5 => v = .pointer (some ⟨G, (i1) * 6, none⟩)
  | 6 => v = .agg #[.int .i64 x.1.id, .int .i64 x.1.grp, x.2, .int .i64 x.1.til, .int .i64 x.1.st, .int .i64 x.1.fr]
  | 7 => v = .slice (some ⟨G, 0, none⟩) m c
  | 8 => v = .int .i64 (f : Nat)
  | 9 => v = .int .i64 (cc : Nat)
  | 10 => v = .int .i64 ((i2 : Nat))
  | 11 => v = .pointer (some ⟨G, (i2) * 6, none⟩)
  | 12 => v = .agg #[.int .i64 y.1.id, .int .i64 y.1.grp, y.2, .int .i64 y.1.til, .int .i64 y.1.st, .int .i64 y.1.fr]
  | 13 => v = .int .i64 rr
  | 14 => v = .bool (decide (rr < 0))
  | 15 => v = .bool (!(decide (rr < 0)))
  | _ => True
theorem sizeUs5 : (Rg.opsOf Try.f144 5).size = 16 := by kernel_rfl
set_option maxRecDepth 20000 in
set_option maxHeartbeats 8000000 in
theorem regUs5 {Q : Exit → Act → World → Prop} {a : Act} {w9 : World} {G m c : Nat} {x y : UE} {nd : Nd} {sv : Value} {rr : Int} {f r cc i1 i2 : Nat} (ha : a.tmps.size = 82)
    (k10 : a.tmps[10]? = some (.int .i64 (r : Nat))) (k11 : a.tmps[11]? = some (.int .i64 (cc : Nat))) (k3 : a.tmps[3]? = some (.int .i64 (f : Nat))) (k4 : a.tmps[4]? = some (.func (.func 47) #[.agg #[.int .i64 nd.p, .int .i64 nd.g, sv]] #[])) (k0 : a.tmps[0]? = some (.slice (some ⟨G, 0, none⟩) m c)) (hGl : G < w9.heap.size) (hx : UC w9 G ((i1) * 6) x) (hy : UC w9 G ((i2) * 6) y) (hm0 : i1 < m) (hm1 : i2 < m) (hmm : m ≤ 100000)  (hw47 : IntKind.i64.wrap ((f : Int) + (r : Int)) = (i1 : Int)) (hw53 : IntKind.i64.wrap ((f : Int) + (cc : Int)) = (i2 : Int)) (HK : ∀ W, Calls Try.prog 47 #[.agg #[.int .i64 nd.p, .int .i64 nd.g, sv], .agg #[.int .i64 x.1.id, .int .i64 x.1.grp, x.2, .int .i64 x.1.til, .int .i64 x.1.st, .int .i64 x.1.fr], .agg #[.int .i64 y.1.id, .int .i64 y.1.grp, y.2, .int .i64 y.1.til, .int .i64 y.1.st, .int .i64 y.1.fr]] W fun e w' => e = .returned (.int .i64 rr) ∧ Below W.heap.size W w')
    (hend : ∀ b' w', Rg.Fr (Rg.opsOf Try.f144 5) a b' → Below w9.heap.size w9 w' → Rg.out (Rg.opsOf Try.f144 5) b' 15 = .bool (!(decide (rr < 0))) → Q .normal b' w') :
    (Code.region 5 (Rg.opsOf Try.f144 5) true).wp Try.prog Q a w9 := by
  refine Rg.region_set3 (by kernel_rfl) (fun _ w' => Below w9.heap.size w9 w') (FUs5 G m c x y nd sv rr f r cc i1 i2) (by rw [ha, sizeUs5]; kernel_rfl) (st_drew (Below.refl _ _)) ?_ ?_
  case refine_2 =>
    intro l b' w' hf hall hI hA
    rw [sizeUs5] at hA
    exact hend b' w' hf hI (hA 15 (by decide))
  case refine_1 =>
    clear hend
    have HS : ∀ {w w' : World}, Below w.heap.size w w' → ∀ k9 y9, FUs5 G m c x y nd sv rr f r cc i1 i2 k9 y9 w → FUs5 G m c x y nd sv rr f r cc i1 i2 k9 y9 w' := fun hb k9 y9 h => by
      unfold FUs5 at *
      split at h <;> exact h
    intro i' hi'
    rw [sizeUs5] at hi'
    rcases (show i' = 0 ∨ i' = 1 ∨ i' = 2 ∨ i' = 3 ∨ i' = 4 ∨ i' = 5 ∨ i' = 6 ∨ i' = 7 ∨ i' = 8 ∨ i' = 9 ∨ i' = 10 ∨ i' = 11 ∨ i' = 12 ∨ i' = 13 ∨ i' = 14 ∨ i' = 15 by omega) with rfl | rfl | rfl | rfl | rfl | rfl | rfl | rfl | rfl | rfl | rfl | rfl | rfl | rfl | rfl | rfl
    · intro ll bb w' hs hlf hN hO hf hI hA
      clear hi'
      have q0 := hf.kept (s := 4) (by rw [sizeUs5]; kernel_rfl) k4
      exact Rg.op_value (o := ⟨some 43, Op.move (Operand.tmp 4), _, _, _, _⟩) (x := .func (.func 47) #[.agg #[.int .i64 nd.p, .int .i64 nd.g, sv]] #[]) rfl rfl (by clear hA HS hN hO HK; simp only [execOp]; go_simp) ⟨_, rfl, (fun h => by cases h), rfl, hI, fun _ _ _ _ h => h⟩
    · intro ll bb w' hs hlf hN hO hf hI hA
      clear hi'
      have q0 := hf.kept (s := 0) (by rw [sizeUs5]; kernel_rfl) k0
      exact Rg.op_value (o := ⟨some 44, Op.move (Operand.tmp 0), _, _, _, _⟩) (x := .slice (some ⟨G, 0, none⟩) m c) rfl rfl (by clear hA HS hN hO HK; simp only [execOp]; go_simp) ⟨_, rfl, (fun h => by cases h), rfl, hI, fun _ _ _ _ h => h⟩
    · intro ll bb w' hs hlf hN hO hf hI hA
      clear hi'
      have q0 := hf.kept (s := 3) (by rw [sizeUs5]; kernel_rfl) k3
      exact Rg.op_value (o := ⟨some 45, Op.move (Operand.tmp 3), _, _, _, _⟩) (x := .int .i64 (f : Nat)) rfl rfl (by clear hA HS hN hO HK; simp only [execOp]; go_simp) ⟨_, rfl, (fun h => by cases h), rfl, hI, fun _ _ _ _ h => h⟩
    · intro ll bb w' hs hlf hN hO hf hI hA
      clear hi'
      have q0 := hf.kept (s := 10) (by rw [sizeUs5]; kernel_rfl) k10
      exact Rg.op_value (o := ⟨some 46, Op.move (Operand.tmp 10), _, _, _, _⟩) (x := .int .i64 (r : Nat)) rfl rfl (by clear hA HS hN hO HK; simp only [execOp]; go_simp) ⟨_, rfl, (fun h => by cases h), rfl, hI, fun _ _ _ _ h => h⟩
    · intro ll bb w' hs hlf hN hO hf hI hA
      clear hi'
      have q45 : bb.tmps[45]? = some _ := hf.tmp (k := 2) rfl (by rw [ha]; decide) (hA 2 (by kernel_rfl))
      have q46 : bb.tmps[46]? = some _ := hf.tmp (k := 3) rfl (by rw [ha]; decide) (hA 3 (by kernel_rfl))
      have hw9 := hw47
      exact Rg.op_value (o := ⟨some 47, Op.binOp BinOp.add 3 (Operand.tmp 45) (Operand.tmp 46) 3, _, _, _, _⟩) (x := .int .i64 ((i1 : Nat))) rfl rfl (by clear hA HS hN hO HK; simp only [execOp]; go_simp) ⟨_, rfl, (fun h => by cases h), rfl, hI, fun _ _ _ _ h => h⟩
    · intro ll bb w' hs hlf hN hO hf hI hA
      clear hi'
      have q44 : bb.tmps[44]? = some _ := hf.tmp (k := 1) rfl (by rw [ha]; decide) (hA 1 (by kernel_rfl))
      have q47 : bb.tmps[47]? = some _ := hf.tmp (k := 4) rfl (by rw [ha]; decide) (hA 4 (by kernel_rfl))
      have hi9 : (((i1) : Nat) : Int) < (m : Int) := by omega
      exact Rg.op_value (o := ⟨some 48, Op.indexAddr 24 (Operand.tmp 44) (Operand.tmp 47), _, _, _, _⟩) (x := .pointer (some ⟨G, (i1) * 6, none⟩)) rfl rfl (by clear hA HS hN hO HK; simp only [execOp]; go_simp) ⟨_, rfl, (fun h => by cases h), rfl, hI, fun _ _ _ _ h => h⟩
    · intro ll bb w' hs hlf hN hO hf hI hA
      clear hi'
      have q48 : bb.tmps[48]? = some _ := hf.tmp (k := 5) rfl (by rw [ha]; decide) (hA 5 (by kernel_rfl))
      have hx9 := (hx).below hI hGl
      have e0 := hx9.c0
      have e1 := hx9.c1
      have e2 := hx9.c2
      have e3 := hx9.c3
      have e4 := hx9.c4
      have e5 := hx9.c5
      exact Rg.op_value (o := ⟨some 49, Op.load 81 (Operand.tmp 48), _, _, _, _⟩) (x := .agg #[.int .i64 x.1.id, .int .i64 x.1.grp, x.2, .int .i64 x.1.til, .int .i64 x.1.st, .int .i64 x.1.fr]) rfl rfl (by clear hA HS hN hO HK; simp only [execOp]; go_simp) ⟨_, rfl, (fun h => by cases h), rfl, hI, fun _ _ _ _ h => h⟩
    · intro ll bb w' hs hlf hN hO hf hI hA
      clear hi'
      have q0 := hf.kept (s := 0) (by rw [sizeUs5]; kernel_rfl) k0
      exact Rg.op_value (o := ⟨some 50, Op.move (Operand.tmp 0), _, _, _, _⟩) (x := .slice (some ⟨G, 0, none⟩) m c) rfl rfl (by clear hA HS hN hO HK; simp only [execOp]; go_simp) ⟨_, rfl, (fun h => by cases h), rfl, hI, fun _ _ _ _ h => h⟩
    · intro ll bb w' hs hlf hN hO hf hI hA
      clear hi'
      have q0 := hf.kept (s := 3) (by rw [sizeUs5]; kernel_rfl) k3
      exact Rg.op_value (o := ⟨some 51, Op.move (Operand.tmp 3), _, _, _, _⟩) (x := .int .i64 (f : Nat)) rfl rfl (by clear hA HS hN hO HK; simp only [execOp]; go_simp) ⟨_, rfl, (fun h => by cases h), rfl, hI, fun _ _ _ _ h => h⟩
    · intro ll bb w' hs hlf hN hO hf hI hA
      clear hi'
      have q0 := hf.kept (s := 11) (by rw [sizeUs5]; kernel_rfl) k11
      exact Rg.op_value (o := ⟨some 52, Op.move (Operand.tmp 11), _, _, _, _⟩) (x := .int .i64 (cc : Nat)) rfl rfl (by clear hA HS hN hO HK; simp only [execOp]; go_simp) ⟨_, rfl, (fun h => by cases h), rfl, hI, fun _ _ _ _ h => h⟩
    · intro ll bb w' hs hlf hN hO hf hI hA
      clear hi'
      have q51 : bb.tmps[51]? = some _ := hf.tmp (k := 8) rfl (by rw [ha]; decide) (hA 8 (by kernel_rfl))
      have q52 : bb.tmps[52]? = some _ := hf.tmp (k := 9) rfl (by rw [ha]; decide) (hA 9 (by kernel_rfl))
      have hw9 := hw53
      exact Rg.op_value (o := ⟨some 53, Op.binOp BinOp.add 3 (Operand.tmp 51) (Operand.tmp 52) 3, _, _, _, _⟩) (x := .int .i64 ((i2 : Nat))) rfl rfl (by clear hA HS hN hO HK; simp only [execOp]; go_simp) ⟨_, rfl, (fun h => by cases h), rfl, hI, fun _ _ _ _ h => h⟩
    · intro ll bb w' hs hlf hN hO hf hI hA
      clear hi'
      have q50 : bb.tmps[50]? = some _ := hf.tmp (k := 7) rfl (by rw [ha]; decide) (hA 7 (by kernel_rfl))
      have q53 : bb.tmps[53]? = some _ := hf.tmp (k := 10) rfl (by rw [ha]; decide) (hA 10 (by kernel_rfl))
      have hi9 : (((i2) : Nat) : Int) < (m : Int) := by omega
      exact Rg.op_value (o := ⟨some 54, Op.indexAddr 24 (Operand.tmp 50) (Operand.tmp 53), _, _, _, _⟩) (x := .pointer (some ⟨G, (i2) * 6, none⟩)) rfl rfl (by clear hA HS hN hO HK; simp only [execOp]; go_simp) ⟨_, rfl, (fun h => by cases h), rfl, hI, fun _ _ _ _ h => h⟩
    · intro ll bb w' hs hlf hN hO hf hI hA
      clear hi'
      have q54 : bb.tmps[54]? = some _ := hf.tmp (k := 11) rfl (by rw [ha]; decide) (hA 11 (by kernel_rfl))
      have hx9 := (hy).below hI hGl
      have e0 := hx9.c0
      have e1 := hx9.c1
      have e2 := hx9.c2
      have e3 := hx9.c3
      have e4 := hx9.c4
      have e5 := hx9.c5
      exact Rg.op_value (o := ⟨some 55, Op.load 81 (Operand.tmp 54), _, _, _, _⟩) (x := .agg #[.int .i64 y.1.id, .int .i64 y.1.grp, y.2, .int .i64 y.1.til, .int .i64 y.1.st, .int .i64 y.1.fr]) rfl rfl (by clear hA HS hN hO HK; simp only [execOp]; go_simp) ⟨_, rfl, (fun h => by cases h), rfl, hI, fun _ _ _ _ h => h⟩
    · intro ll bb w' hs hlf hN hO hf hI hA
      clear hi'
      have q43 : bb.tmps[43]? = some _ := hf.tmp (k := 0) rfl (by rw [ha]; decide) (hA 0 (by kernel_rfl))
      have q49 : bb.tmps[49]? = some _ := hf.tmp (k := 6) rfl (by rw [ha]; decide) (hA 6 (by kernel_rfl))
      have q55 : bb.tmps[55]? = some _ := hf.tmp (k := 12) rfl (by rw [ha]; decide) (hA 12 (by kernel_rfl))
      refine Rg.op_call (o := ⟨some 56, Op.call { callee := Callee.value (Operand.tmp 43), args := #[(Operand.tmp 49), (Operand.tmp 55)], argTypes := _ }, _, _, _, _⟩) rfl rfl (by clear hA HS hN hO HK; simp only [execOp, resolve]; go_simp) (HK w') ?_
      rintro e w2 ⟨rfl, hb2⟩
      exact ⟨_, rfl, _, rfl, (fun h => by cases h), rfl, onto hI hb2, fun k9 y9 _ _ h => HS hb2 k9 y9 h⟩
    · intro ll bb w' hs hlf hN hO hf hI hA
      clear hi'
      have q56 : bb.tmps[56]? = some _ := hf.tmp (k := 13) rfl (by rw [ha]; decide) (hA 13 (by kernel_rfl))
      exact Rg.op_value (o := ⟨some 57, Op.binOp BinOp.lss 3 (Operand.tmp 56) (Operand.const (Value.int .i64 0)) 3, _, _, _, _⟩) (x := .bool (decide (rr < 0))) rfl rfl (by clear hA HS hN hO HK; simp only [execOp]; go_simp) ⟨_, rfl, (fun h => by cases h), rfl, hI, fun _ _ _ _ h => h⟩
    · intro ll bb w' hs hlf hN hO hf hI hA
      clear hi'
      have q57 : bb.tmps[57]? = some _ := hf.tmp (k := 14) rfl (by rw [ha]; decide) (hA 14 (by kernel_rfl))
      exact Rg.op_value (o := ⟨some 58, Op.unOp UnOp.not 4 (Operand.tmp 57), _, _, _, _⟩) (x := .bool (!(decide (rr < 0)))) rfl rfl (by clear hA HS hN hO HK; simp only [execOp]; go_simp) ⟨_, rfl, (fun h => by cases h), rfl, hI, fun _ _ _ _ h => h⟩
theorem dUs5_0 : Rg.dstAt (Rg.opsOf Try.f144 5) 0 = some 43 := by kernel_rfl
theorem dUs5_1 : Rg.dstAt (Rg.opsOf Try.f144 5) 1 = some 44 := by kernel_rfl
theorem dUs5_2 : Rg.dstAt (Rg.opsOf Try.f144 5) 2 = some 45 := by kernel_rfl
theorem dUs5_3 : Rg.dstAt (Rg.opsOf Try.f144 5) 3 = some 46 := by kernel_rfl
theorem dUs5_4 : Rg.dstAt (Rg.opsOf Try.f144 5) 4 = some 47 := by kernel_rfl
theorem dUs5_5 : Rg.dstAt (Rg.opsOf Try.f144 5) 5 = some 48 := by kernel_rfl
theorem dUs5_6 : Rg.dstAt (Rg.opsOf Try.f144 5) 6 = some 49 := by kernel_rfl
theorem dUs5_7 : Rg.dstAt (Rg.opsOf Try.f144 5) 7 = some 50 := by kernel_rfl
theorem dUs5_8 : Rg.dstAt (Rg.opsOf Try.f144 5) 8 = some 51 := by kernel_rfl
theorem dUs5_9 : Rg.dstAt (Rg.opsOf Try.f144 5) 9 = some 52 := by kernel_rfl
theorem dUs5_10 : Rg.dstAt (Rg.opsOf Try.f144 5) 10 = some 53 := by kernel_rfl
theorem dUs5_11 : Rg.dstAt (Rg.opsOf Try.f144 5) 11 = some 54 := by kernel_rfl
theorem dUs5_12 : Rg.dstAt (Rg.opsOf Try.f144 5) 12 = some 55 := by kernel_rfl
theorem dUs5_13 : Rg.dstAt (Rg.opsOf Try.f144 5) 13 = some 56 := by kernel_rfl
theorem dUs5_14 : Rg.dstAt (Rg.opsOf Try.f144 5) 14 = some 57 := by kernel_rfl
theorem dUs5_15 : Rg.dstAt (Rg.opsOf Try.f144 5) 15 = some 58 := by kernel_rfl
theorem layUs5 {a b : Act} (hf : Rg.Fr (Rg.opsOf Try.f144 5) a b) : b = ((((((((((((((((a.put (some 43) (Rg.out (Rg.opsOf Try.f144 5) b 0)).put (some 44) (Rg.out (Rg.opsOf Try.f144 5) b 1)).put (some 45) (Rg.out (Rg.opsOf Try.f144 5) b 2)).put (some 46) (Rg.out (Rg.opsOf Try.f144 5) b 3)).put (some 47) (Rg.out (Rg.opsOf Try.f144 5) b 4)).put (some 48) (Rg.out (Rg.opsOf Try.f144 5) b 5)).put (some 49) (Rg.out (Rg.opsOf Try.f144 5) b 6)).put (some 50) (Rg.out (Rg.opsOf Try.f144 5) b 7)).put (some 51) (Rg.out (Rg.opsOf Try.f144 5) b 8)).put (some 52) (Rg.out (Rg.opsOf Try.f144 5) b 9)).put (some 53) (Rg.out (Rg.opsOf Try.f144 5) b 10)).put (some 54) (Rg.out (Rg.opsOf Try.f144 5) b 11)).put (some 55) (Rg.out (Rg.opsOf Try.f144 5) b 12)).put (some 56) (Rg.out (Rg.opsOf Try.f144 5) b 13)).put (some 57) (Rg.out (Rg.opsOf Try.f144 5) b 14)).put (some 58) (Rg.out (Rg.opsOf Try.f144 5) b 15)) := by
  have h := hf.chain
  rw [sizeUs5, show List.range 16 = [0, 1, 2, 3, 4, 5, 6, 7, 8, 9, 10, 11, 12, 13, 14, 15] from by decide] at h
  simp only [List.foldl_cons, List.foldl_nil, dUs5_0, dUs5_1, dUs5_2, dUs5_3, dUs5_4, dUs5_5, dUs5_6, dUs5_7, dUs5_8, dUs5_9, dUs5_10, dUs5_11, dUs5_12, dUs5_13, dUs5_14, dUs5_15] at h
  exact h
set_option maxRecDepth 20000 in
set_option maxHeartbeats 16000000 in
theorem usift_any (nd : Nd) (sv : Value) (D : UE → Prop) (G c m f l n : Nat) (d : List UE) (w : World) (h : SU c w G d) (hm : d.length = m) (hmm : m ≤ 100000) (hn : f + n ≤ m) (hF : Fine (ltU nd) D d) (hK : LessU nd sv D) (hSl : SlU D) (hs0 : Sink (ltU nd) f l n l d) (hln : l ≤ n) :
    Calls Try.prog 144 #[.slice (some ⟨G, 0, none⟩) m c, .int .i64 l, .int .i64 n, .int .i64 f, (.func (.func 47) #[.agg #[.int .i64 nd.p, .int .i64 nd.g, sv]] #[])] w fun e w' => e = .returned (.tuple #[]) ∧ ∃ d', SU c w' G d' ∧ PO f (f + n) d d' ∧ PO (f + l) (f + n) d d' ∧ Heap (ltU nd) f l n d' ∧ Below G w w' := by
  have HH := hidden h
  have HF := hidden hF
  have HK := hidden hK
  have HM := hidden hm
  have HSl := hidden hSl
  have HS0 := hidden hs0
  clear h hm hF hK hSl hs0
  go_enter Try.func144, Try.ntmps144
  go_wp2_with fail
  go_loopw [10, 11] (fun rv _ ws => ∃ (r : Nat) (e : List UE), rv = .int .i64 r ∧ l ≤ r ∧ r ≤ n ∧ Hid (SU c ws G e) ∧ Hid (PO (f + l) (f + n) d e) ∧ Hid (Sink (ltU nd) f l n r e) ∧ Below G w ws) (fun rv _ _ => n - (intOf rv).toNat)
  case atStart => exact ⟨l, d, rfl, Nat.le_refl _, hln, HH, PO.refl _ _ _, HS0, Below.refl _ _⟩
  case round =>
    obtain ⟨r, e, rfl, hlr, hrn, hs, hpo, hsk, hbw⟩ := hrel
    rename World => ws
    have hFe := HF.out.po hpo.out
    have hel : e.length = m := by rw [hpo.out.len]; exact HM.out
    obtain ⟨ch, hch⟩ : ∃ ch, 2 * r + 1 = ch := ⟨_, rfl⟩
    have hw1 : IntKind.i64.wrap (2 * (r : Int)) = 2 * (r : Int) := by rw [IntKind.wrap_i64]; omega
    have hw2 : IntKind.i64.wrap (2 * (r : Int) + 1) = (ch : Int) := by rw [IntKind.wrap_i64]; omega
    have HCh := hidden hch
    by_cases hlt : ch < n
    · have hlti : ¬ (n : Int) ≤ (ch : Int) := by omega
      have hGl := hs.out.lt
      have hx : ch + 1 < n → UC ws G ((f + ch) * 6) (at' e (f + ch)) := fun q => hs.out.at (by omega)
      have hy : ch + 1 < n → UC ws G ((f + ch + 1) * 6) (at' e (f + ch + 1)) := fun q => hs.out.at (by omega)
      have hK2 : ch + 1 < n → ∀ W, _ := fun q => HK.out (at' e (f + ch)) (at' e (f + ch + 1)) (hFe.all _ (at_mem (by omega))) (hFe.all _ (at_mem (by omega)))
      have hw3 : IntKind.i64.wrap ((ch : Int) + 1) = ((ch + 1 : Nat) : Int) := by rw [IntKind.wrap_i64]; omega
      have hw4 : IntKind.i64.wrap ((f : Int) + (ch : Int)) = ((f + ch : Nat) : Int) := by rw [IntKind.wrap_i64]; omega
      have hw5 : IntKind.i64.wrap (((f + ch : Nat) : Int) + 1) = ((f + ch + 1 : Nat) : Int) := by rw [IntKind.wrap_i64]; omega
      have HT : Hid ((decide (((ch + 1 : Nat) : Int) < (n : Int)) && decide (cmpU nd (at' e (f + ch)) (at' e (f + ch + 1)) < 0)) = true → ch + 1 < n ∧ ∀ c', (c' = 2 * r + 1 ∨ c' = 2 * r + 2) → c' < n → ¬ ltU nd (at' e (f + (ch + 1))) (at' e (f + c'))) := fun q => by
        rw [Bool.and_eq_true, decide_eq_true_eq, decide_eq_true_eq] at q
        have h1 := (cmpU_lt nd _ _).1 q.2
        refine ⟨by omega, fun c' hc' hn' => ?_⟩
        rcases hc' with rfl | rfl
        · rw [hch]; exact hFe.ord.asym _ _ h1
        · rw [show f + (ch + 1) = f + (2 * r + 2) from by omega]; exact fun z => hFe.ord.asym _ _ z z
      have HF2 : Hid ((decide (((ch + 1 : Nat) : Int) < (n : Int)) && decide (cmpU nd (at' e (f + ch)) (at' e (f + ch + 1)) < 0)) = false → ∀ c', (c' = 2 * r + 1 ∨ c' = 2 * r + 2) → c' < n → ¬ ltU nd (at' e (f + ch)) (at' e (f + c'))) := fun q c' hc' hn' => by
        rcases hc' with rfl | rfl
        · rw [hch]; exact fun z => hFe.ord.asym _ _ z z
        · intro z
          have h1 := (cmpU_lt nd (at' e (f + ch)) (at' e (f + ch + 1))).2 (by rw [show f + ch + 1 = f + (2 * r + 2) from by omega]; exact z)
          rw [decide_eq_true h1, decide_eq_true (by omega)] at q
          cases q
      go_wp2_with fail
      skip
      refine regUs3 (G := G) (m := m) (c := c) (nd := nd) (sv := sv) (rr := cmpU nd (at' e (f + ch)) (at' e (f + ch + 1))) (f := f) (ch := ch) (n := n) (i1 := f + ch) (i2 := f + ch + 1) (c1 := ch + 1) rfl rfl rfl rfl rfl rfl hGl hx hy (fun q => by omega) (fun q => by omega) hmm hw3 hw4 hw4 hw5 hK2 ?_
      intro b' w6 hf hb6 hv
      rw [layUs3 hf, hv]
      clear hv hf
      generalize Rg.out (Rg.opsOf Try.f144 3) b' 0 = z0
      generalize Rg.out (Rg.opsOf Try.f144 3) b' 1 = z1
      generalize Rg.out (Rg.opsOf Try.f144 3) b' 2 = z2
      generalize Rg.out (Rg.opsOf Try.f144 3) b' 3 = z3
      generalize Rg.out (Rg.opsOf Try.f144 3) b' 4 = z4
      generalize Rg.out (Rg.opsOf Try.f144 3) b' 5 = z5
      generalize Rg.out (Rg.opsOf Try.f144 3) b' 6 = z6
      generalize Rg.out (Rg.opsOf Try.f144 3) b' 7 = z7
      generalize Rg.out (Rg.opsOf Try.f144 3) b' 8 = z8
      generalize Rg.out (Rg.opsOf Try.f144 3) b' 9 = z9
      generalize Rg.out (Rg.opsOf Try.f144 3) b' 10 = z10
      generalize Rg.out (Rg.opsOf Try.f144 3) b' 11 = z11
      generalize Rg.out (Rg.opsOf Try.f144 3) b' 12 = z12
      generalize Rg.out (Rg.opsOf Try.f144 3) b' 13 = z13
      generalize Rg.out (Rg.opsOf Try.f144 3) b' 14 = z14
      generalize Rg.out (Rg.opsOf Try.f144 3) b' 15 = z15
      generalize Rg.out (Rg.opsOf Try.f144 3) b' 16 = z16
      generalize Rg.out (Rg.opsOf Try.f144 3) b' 17 = z17
      generalize Rg.out (Rg.opsOf Try.f144 3) b' 18 = z18
      generalize Rg.out (Rg.opsOf Try.f144 3) b' 19 = z19
      generalize Rg.out (Rg.opsOf Try.f144 3) b' 20 = z20
      generalize (decide (((ch + 1 : Nat) : Int) < (n : Int)) && decide (cmpU nd (at' e (f + ch)) (at' e (f + ch + 1)) < 0)) = T at *
      have HS6 := hidden (hs.out.below hb6)
      have HB6 := hidden (hbw.trans (hb6.mono (Nat.le_of_lt hGl)))
      clear hx hy hK2 hw4 hw5 hs hbw hb6
      go_frame
      go_upto_if 40 with fail
      go_cut [11] from 41 to 42 (fun cv wx => wx = w6 ∧ ∃ cc : Nat, cv = .int .i64 cc ∧ (cc = 2 * r + 1 ∨ cc = 2 * r + 2) ∧ cc < n ∧ Hid (∀ c', (c' = 2 * r + 1 ∨ c' = 2 * r + 2) → c' < n → ¬ ltU nd (at' e (f + cc)) (at' e (f + c'))))
      case first =>
        cases T with
        | true =>
          obtain ⟨q1, q2⟩ := HT.out rfl
          have Q2 := hidden q2
          clear q2 HT HF2
          go_wp2_with fail
          go_meet
          case rel => exact ⟨rfl, ch + 1, rfl, by have := HCh.out; omega, by omega, Q2⟩
        | false =>
          have Q2 := hidden (HF2.out rfl)
          clear HT HF2
          go_wp2_with fail
          go_meet
          case rel => exact ⟨rfl, ch, rfl, by have := HCh.out; omega, hlt, Q2⟩
      case rest =>
        obtain ⟨hw9, cc, rfl, hcc, hcn, hgr⟩ := hcut
        obtain rfl := hw9.symm
        have hGl6 := HS6.out.lt
        have hwa : IntKind.i64.wrap ((f : Int) + (r : Int)) = ((f + r : Nat) : Int) := by rw [IntKind.wrap_i64]; omega
        have hwb : IntKind.i64.wrap ((f : Int) + (cc : Int)) = ((f + cc : Nat) : Int) := by rw [IntKind.wrap_i64]; omega
        have hx := HS6.out.at (i := f + r) (by omega)
        have hy := HS6.out.at (i := f + cc) (by omega)
        have hK2 := HK.out (at' e (f + r)) (at' e (f + cc)) (hFe.all _ (at_mem (by omega))) (hFe.all _ (at_mem (by omega)))
        have HY1 : Hid (cmpU nd (at' e (f + r)) (at' e (f + cc)) < 0 → Sink (ltU nd) f l n cc (Pq.sw e (f + r) (f + cc))) := fun q =>
          sink_step hFe (by omega) hsk.out hcc hcn hgr.out ((cmpU_lt nd _ _).1 q)
        have HN1 : Hid (¬ cmpU nd (at' e (f + r)) (at' e (f + cc)) < 0 → Heap (ltU nd) f l n e) := fun q => by
          refine sink_end hsk.out (fun c' h1 h2 => ?_)
          have hrc : ¬ ltU nd (at' e (f + r)) (at' e (f + cc)) := fun z => q ((cmpU_lt nd _ _).2 z)
          intro z
          have h3 := hFe.not (i := f + r) (j := f + cc) (by omega) (by omega) (by omega) hrc
          exact hgr.out c' h1 h2 (hFe.ord.trans _ _ _ h3 z)
        have HPO : Hid (PO (f + l) (f + n) d (Pq.sw e (f + r) (f + cc))) := hpo.out.trans (PO.sw (by omega) (by omega) (by omega) (by omega) (by omega))
        have hxs := HSl.out (at' e (f + r)) (hFe.all _ (at_mem (by omega)))
        have hys := HSl.out (at' e (f + cc)) (hFe.all _ (at_mem (by omega)))
        have HSW := hidden (fun W (hW : Below w6.heap.size w6 W) => (HS6.out.below hW).sw (i := f + r) (j := f + cc) (by omega) (by omega))
        have HX := hidden hx
        have HY := hidden hy
        clear hFe hel
        generalize cmpU nd (at' e (f + r)) (at' e (f + cc)) = rr at *
        generalize at' e (f + r) = x at *
        generalize at' e (f + cc) = y at *
        skip
        go_upto_region 5 with fail
        refine regUs5 (G := G) (m := m) (c := c) (x := x) (y := y) (nd := nd) (sv := sv) (rr := rr) (f := f) (r := r) (cc := cc) (i1 := f + r) (i2 := f + cc) rfl rfl rfl rfl rfl rfl hGl6 hx hy (by omega) (by omega) hmm hwa hwb hK2 ?_
        intro b' w7 hf hb6 hv
        rw [layUs5 hf, hv]
        clear hv hf
        generalize Rg.out (Rg.opsOf Try.f144 5) b' 0 = z0
        generalize Rg.out (Rg.opsOf Try.f144 5) b' 1 = z1
        generalize Rg.out (Rg.opsOf Try.f144 5) b' 2 = z2
        generalize Rg.out (Rg.opsOf Try.f144 5) b' 3 = z3
        generalize Rg.out (Rg.opsOf Try.f144 5) b' 4 = z4
        generalize Rg.out (Rg.opsOf Try.f144 5) b' 5 = z5
        generalize Rg.out (Rg.opsOf Try.f144 5) b' 6 = z6
        generalize Rg.out (Rg.opsOf Try.f144 5) b' 7 = z7
        generalize Rg.out (Rg.opsOf Try.f144 5) b' 8 = z8
        generalize Rg.out (Rg.opsOf Try.f144 5) b' 9 = z9
        generalize Rg.out (Rg.opsOf Try.f144 5) b' 10 = z10
        generalize Rg.out (Rg.opsOf Try.f144 5) b' 11 = z11
        generalize Rg.out (Rg.opsOf Try.f144 5) b' 12 = z12
        generalize Rg.out (Rg.opsOf Try.f144 5) b' 13 = z13
        generalize Rg.out (Rg.opsOf Try.f144 5) b' 14 = z14
        clear hx hy hK2
        by_cases hr : rr < 0
        · have HV := HY1.out hr
          rw [decide_eq_true hr]
          have HR := hidden (HSW.out w7 hb6)
          have HB := hidden (put6_below (put6_below (HB6.out.trans (hb6.mono (Nat.le_of_lt hGl6))) (Nat.le_refl _) y (o := (f + r) * 6)) (Nat.le_refl _) x (o := (f + cc) * 6))
          obtain ⟨p0, p1, p2, p3, p4, p5, p6, p7, p8, p9, p10, p11⟩ := HX.out.below hb6 hGl6
          obtain ⟨q0, q1, q2, q3, q4, q5, q6, q7, q8, q9, q10, q11⟩ := HY.out.below hb6 hGl6
          obtain ⟨i1, hi1⟩ : ∃ i1, f + r = i1 := ⟨_, rfl⟩
          obtain ⟨i2, hi2⟩ : ∃ i2, f + cc = i2 := ⟨_, rfl⟩
          have hin1 : (i1 : Int) < (m : Int) := by omega
          have hin2 : (i2 : Int) < (m : Int) := by omega
          have hi12 : i1 < i2 := by omega
          rw [hi1] at hwa
          rw [hi2] at hwb
          simp only [hi1, hi2] at HR HB HPO HV p0 p1 p2 p3 p4 p5 p6 p7 p8 p9 p10 p11 q0 q1 q2 q3 q4 q5 q6 q7 q8 q9 q10 q11
          clear HY1 HN1 HSW HX HY hb6 HS6 HB6 hi1 hi2 hpo hsk hgr
          obtain ⟨xu, xv⟩ := x
          obtain ⟨yu, yv⟩ := y
          obtain ⟨xa, xn, xc, hx2⟩ := hxs
          obtain ⟨ya, yn, yc, hy2⟩ := hys
          dsimp only at hx2 hy2
          subst hx2 hy2
          dsimp only at p0 p1 p2 p3 p4 p5 q0 q1 q2 q3 q4 q5
          go_frame
          go_wp2_with fail
          go_region
          all_goals go_wp2_with fail
          all_goals go_roundw
          case rel => exact ⟨cc, _, rfl, by omega, by omega, HR.out.below (st_drew (Below.refl _ _)), HPO, HV, st_drew HB.out⟩
          case measure => simp [intOf]; have := HCh.out; omega
        · have HV := HN1.out hr
          rw [decide_eq_false hr]
          have HSE := hidden (HS6.out.below hb6)
          have HBE := hidden (HB6.out.trans (hb6.mono (Nat.le_of_lt hGl6)))
          have HPE : Hid (PO f (f + n) d e) := hpo.out.mono (by omega) (Nat.le_refl _)
          clear HY1 HN1 HSW HX HY hb6 HS6 HB6 hsk hgr
          go_frame
          go_wp2_with fail
          (try simp only [Exit.inBlock, Exit.then])
          refine bodyPost_ret (results_none rfl _ _ _) rfl ?_
          exact ⟨rfl, e, HSE.out, HPE.out, hpo.out, HV, HBE.out⟩
    · have hlti : (n : Int) ≤ (ch : Int) := by omega
      have HV : Hid (Heap (ltU nd) f l n e) := sink_end hsk.out (fun c' h1 h2 => by omega)
      have HPO : Hid (PO f (f + n) d e) := hpo.out.mono (by omega) (Nat.le_refl _)
      clear hsk hch
      go_wp2_with fail
      go_end0
      exact ⟨rfl, e, hs.out, HPO.out, hpo.out, HV.out, hbw⟩
end Go.Proofs.Ytgcpiinmcbdkmaa
