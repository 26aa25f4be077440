/-
  Results that are right: the regions that draw their order.
-/
import Derived.Test.YtecljmpojninfaaT7
import Derived.Test.YtecljmpojninfaaGx
import Derived.Test.YtecljmpojninfaaRs
namespace Go.Proofs.Ytecljmpojninfaa
open Go.RowKit Va Lb
set_option linter.all false


def FRr7 (B g off n cap i : Nat) (x : Rs) (yt : Int) (i9 : Nat) (v : Value) (w : World) : Prop :=
  match i9 with
  | 0 => v = .pointer (some ⟨B, 0, none⟩)
  | 1 => v = .int .i64 x.v
  | 2 => v = .bool (vlB x.v)
  | 3 => v = .bool (!(vlB x.v))
  | 4 => v = .bool (!(vlB x.v))
  | 5 => v = cond (true && ((!(vlB x.v)) == false)) (.pointer (some ⟨B, 2, none⟩)) undef
  | 6 => v = cond (true && ((!(vlB x.v)) == false)) (.bool x.k) undef
  | 7 => v = cond (true && ((!(vlB x.v)) == false)) (.bool (!x.k)) undef
  | 8 => v = cond (true && ((!(vlB x.v)) == false)) (.bool (!x.k)) undef
  | 9 => v = cond ((true && ((!(vlB x.v)) == false)) && ((!x.k) == true)) (.pointer (some ⟨B, 0, none⟩)) undef
  | 10 => v = cond ((true && ((!(vlB x.v)) == false)) && ((!x.k) == true)) (.int .i64 x.v) undef
  | 11 => v = cond ((true && ((!(vlB x.v)) == false)) && ((!x.k) == true)) (.bool (x.v != 0)) undef
  | 12 => v = cond (true && ((!(vlB x.v)) == false)) (.bool ((!x.k) && (x.v != 0))) undef
  | 13 => v = .bool ((!(vlB x.v)) || ((!x.k) && (x.v != 0)))
  | 14 => v = .bool ((!(vlB x.v)) || ((!x.k) && (x.v != 0)))
  | 15 => v = cond (true && (((!(vlB x.v)) || ((!x.k) && (x.v != 0))) == false)) (.pointer (some ⟨B, 1, none⟩)) undef
  | 16 => v = cond (true && (((!(vlB x.v)) || ((!x.k) && (x.v != 0))) == false)) (.int .i64 x.t) undef
  | 17 => v = cond (true && (((!(vlB x.v)) || ((!x.k) && (x.v != 0))) == false)) (.bool (tmv x.t)) undef
  | 18 => v = cond (true && (((!(vlB x.v)) || ((!x.k) && (x.v != 0))) == false)) (.bool (!(tmv x.t))) undef
  | 19 => v = .bool (((!(vlB x.v)) || ((!x.k) && (x.v != 0))) || (!(tmv x.t)))
  | 20 => v = .bool (((!(vlB x.v)) || ((!x.k) && (x.v != 0))) || (!(tmv x.t)))
  | 21 => v = cond (true && ((((!(vlB x.v)) || ((!x.k) && (x.v != 0))) || (!(tmv x.t))) == false)) (.int .i64 (i : Nat)) undef
  | 22 => v = cond (true && ((((!(vlB x.v)) || ((!x.k) && (x.v != 0))) || (!(tmv x.t))) == false)) (.bool (decide ((0 : Int) < (i : Int)))) undef
  | 23 => v = cond (true && ((((!(vlB x.v)) || ((!x.k) && (x.v != 0))) || (!(tmv x.t))) == false)) (.bool (decide ((0 : Int) < (i : Int)))) undef
  | 24 => v = cond ((true && ((((!(vlB x.v)) || ((!x.k) && (x.v != 0))) || (!(tmv x.t))) == false)) && ((decide ((0 : Int) < (i : Int))) == true)) (.pointer (some ⟨B, 1, none⟩)) undef
  | 25 => v = cond ((true && ((((!(vlB x.v)) || ((!x.k) && (x.v != 0))) || (!(tmv x.t))) == false)) && ((decide ((0 : Int) < (i : Int))) == true)) (.int .i64 x.t) undef
  | 26 => v = cond ((true && ((((!(vlB x.v)) || ((!x.k) && (x.v != 0))) || (!(tmv x.t))) == false)) && ((decide ((0 : Int) < (i : Int))) == true)) (.slice (some ⟨g, off, none⟩) n cap) undef
  | 27 => v = cond ((true && ((((!(vlB x.v)) || ((!x.k) && (x.v != 0))) || (!(tmv x.t))) == false)) && ((decide ((0 : Int) < (i : Int))) == true)) (.int .i64 (i : Nat)) undef
  | 28 => v = cond ((true && ((((!(vlB x.v)) || ((!x.k) && (x.v != 0))) || (!(tmv x.t))) == false)) && ((decide ((0 : Int) < (i : Int))) == true)) (.int .i64 ((i - 1 : Nat) : Int)) undef
  | 29 => v = cond ((true && ((((!(vlB x.v)) || ((!x.k) && (x.v != 0))) || (!(tmv x.t))) == false)) && ((decide ((0 : Int) < (i : Int))) == true)) (.pointer (some ⟨g, off + (i - 1) * 3, none⟩)) undef
  | 30 => v = cond ((true && ((((!(vlB x.v)) || ((!x.k) && (x.v != 0))) || (!(tmv x.t))) == false)) && ((decide ((0 : Int) < (i : Int))) == true)) (.pointer (some ⟨g, off + (i - 1) * 3 + 1, none⟩)) undef
  | 31 => v = cond ((true && ((((!(vlB x.v)) || ((!x.k) && (x.v != 0))) || (!(tmv x.t))) == false)) && ((decide ((0 : Int) < (i : Int))) == true)) (.int .i64 yt) undef
  | 32 => v = cond ((true && ((((!(vlB x.v)) || ((!x.k) && (x.v != 0))) || (!(tmv x.t))) == false)) && ((decide ((0 : Int) < (i : Int))) == true)) (.bool (decide (x.t < yt))) undef
  | 33 => v = cond (true && ((((!(vlB x.v)) || ((!x.k) && (x.v != 0))) || (!(tmv x.t))) == false)) (.bool ((decide ((0 : Int) < (i : Int))) && (decide (x.t < yt)))) undef
  | 34 => v = .bool ((((!(vlB x.v)) || ((!x.k) && (x.v != 0))) || (!(tmv x.t))) || ((decide ((0 : Int) < (i : Int))) && (decide (x.t < yt))))
  | _ => True
theorem sizeRr7 : (Rg.opsOf Try.f55 7).size = 35 := by kernel_rfl

set_option maxRecDepth 20000 in
set_option maxHeartbeats 8000000 in
theorem regRr7 {Q : Exit → Act → World → Prop} {a : Act} {w9 : World} {B g off n cap i : Nat} {x : Rs} {yt : Int} (ha : a.tmps.size = 53)
    (k0 : a.tmps[0]? = some (.slice (some ⟨g, off, none⟩) n cap)) (k3 : a.tmps[3]? = some (.int .i64 (i : Nat))) (k4 : a.tmps[4]? = some (.pointer (some ⟨B, 0, none⟩))) (hX : PB w9 B #[.int .i64 x.v, .int .i64 x.t, .bool x.k] 46) (hin : i < n) (hil : i < 1000000) (hgl : g < w9.heap.size) (y0 : 0 < i → w9.cell? ⟨g, off + (i - 1) * 3 + 1, none⟩ = some (.int .i64 yt)) (hK1 : ∀ W, Calls Try.prog 41 #[.int .i64 x.v] W fun e W' => e = .returned (.bool (vlB x.v)) ∧ W' = W) (hK2 : ∀ W, Calls Try.prog 70 #[.int .i64 x.t] W fun e W' => e = .returned (.bool (tmv x.t)) ∧ W' = W)
    (hend : ∀ b' w', Rg.Fr (Rg.opsOf Try.f55 7) a b' → Below w9.heap.size w9 w' → Rg.out (Rg.opsOf Try.f55 7) b' 34 = .bool ((((!(vlB x.v)) || ((!x.k) && (x.v != 0))) || (!(tmv x.t))) || ((decide ((0 : Int) < (i : Int))) && (decide (x.t < yt)))) → Q .normal b' w') :
    (Code.region 7 (Rg.opsOf Try.f55 7) true).wp Try.prog Q a w9 := by
  refine Rg.region_set3 (by kernel_rfl) (fun _ w' => Below w9.heap.size w9 w') (FRr7 B g off n cap i x yt) (by rw [ha, sizeRr7]; kernel_rfl) (st_drew (Below.refl _ _)) ?_ ?_
  case refine_2 =>
    intro l b' w' hf hall hI hA
    rw [sizeRr7] at hA
    exact hend b' w' hf hI (hA 34 (by decide))
  case refine_1 =>
    clear hend
    have HS : ∀ {w w' : World}, Below w.heap.size w w' → ∀ k9 y9, FRr7 B g off n cap i x yt k9 y9 w → FRr7 B g off n cap i x yt k9 y9 w' := fun hb k9 y9 h => by
      unfold FRr7 at *
      split at h <;> exact h
    intro i' hi'
    rw [sizeRr7] at hi'
    rcases (show i' = 0 ∨ i' = 1 ∨ i' = 2 ∨ i' = 3 ∨ i' = 4 ∨ i' = 5 ∨ i' = 6 ∨ i' = 7 ∨ i' = 8 ∨ i' = 9 ∨ i' = 10 ∨ i' = 11 ∨ i' = 12 ∨ i' = 13 ∨ i' = 14 ∨ i' = 15 ∨ i' = 16 ∨ i' = 17 ∨ i' = 18 ∨ i' = 19 ∨ i' = 20 ∨ i' = 21 ∨ i' = 22 ∨ i' = 23 ∨ i' = 24 ∨ i' = 25 ∨ i' = 26 ∨ i' = 27 ∨ i' = 28 ∨ i' = 29 ∨ i' = 30 ∨ i' = 31 ∨ i' = 32 ∨ i' = 33 ∨ i' = 34 by omega) with rfl | rfl | rfl | rfl | rfl | rfl | rfl | rfl | rfl | rfl | rfl | rfl | rfl | rfl | rfl | rfl | rfl | rfl | rfl | rfl | rfl | rfl | rfl | rfl | rfl | rfl | rfl | rfl | rfl | rfl | rfl | rfl | rfl | rfl | rfl
    · intro ll bb w' hs hlf hN hO hf hI hA
      clear hi'
      have q4 := hf.kept (s := 4) (by rw [sizeRr7]; kernel_rfl) k4
      exact Rg.op_value (o := ⟨some 18, Op.fieldAddr 46 (Operand.tmp 4) 0, _, _, _, _⟩) (x := .pointer (some ⟨B, 0, none⟩)) rfl rfl (by clear hA HS hN hO hX hK1 hK2; simp only [execOp]; go_simp) ⟨_, rfl, (fun h => by cases h), rfl, hI, fun _ _ _ _ h => h⟩
    · intro ll bb w' hs hlf hN hO hf hI hA
      clear hi'
      have q18 : bb.tmps[18]? = some _ := hf.tmp (k := 0) rfl (by rw [ha]; decide) (hA 0 (by kernel_rfl))
      obtain ⟨b0, b1, b2⟩ := (hX.below hI).three
      exact Rg.op_value (o := ⟨some 19, Op.load 2 (Operand.tmp 18), _, _, _, _⟩) (x := .int .i64 x.v) rfl rfl (by clear hA HS hN hO hX hK1 hK2; simp only [execOp]; go_simp) ⟨_, rfl, (fun h => by cases h), rfl, hI, fun _ _ _ _ h => h⟩
    · intro ll bb w' hs hlf hN hO hf hI hA
      clear hi'
      have q19 : bb.tmps[19]? = some _ := hf.tmp (k := 1) rfl (by rw [ha]; decide) (hA 1 (by kernel_rfl))
      refine Rg.op_call (o := ⟨some 20, Op.call { callee := Callee.value (Operand.func 41), args := #[(Operand.tmp 19)], argTypes := _ }, _, _, _, _⟩) rfl rfl (by clear hA HS hN hO hX hK1 hK2; simp only [execOp, resolve]; go_simp) (hK1 w') ?_
      rintro e w2 ⟨rfl, rfl⟩
      exact ⟨_, rfl, _, rfl, (fun h => by cases h), rfl, hI, fun _ _ _ _ h => h⟩
    · intro ll bb w' hs hlf hN hO hf hI hA
      clear hi'
      have q20 : bb.tmps[20]? = some _ := hf.tmp (k := 2) rfl (by rw [ha]; decide) (hA 2 (by kernel_rfl))
      exact Rg.op_value (o := ⟨some 21, Op.unOp UnOp.not 4 (Operand.tmp 20), _, _, _, _⟩) (x := .bool (!(vlB x.v))) rfl rfl (by clear hA HS hN hO hX hK1 hK2; simp only [execOp]; go_simp) ⟨_, rfl, (fun h => by cases h), rfl, hI, fun _ _ _ _ h => h⟩
    · intro ll bb w' hs hlf hN hO hf hI hA
      clear hi'
      have q21 : bb.tmps[21]? = some _ := hf.tmp (k := 3) rfl (by rw [ha]; decide) (hA 3 (by kernel_rfl))
      exact Rg.op_value (o := ⟨some 22, Op.move (Operand.tmp 21), _, _, _, _⟩) (x := .bool (!(vlB x.v))) rfl rfl (by clear hA HS hN hO hX hK1 hK2; simp only [execOp]; go_simp) ⟨_, rfl, (fun h => by cases h), rfl, hI, fun _ _ _ _ h => h⟩
    · intro ll bb w' hs hlf hN hO hf hI hA
      clear hi'
      have qg : bb.tmps[22]? = some (cond true (.bool (!(vlB x.v))) undef) := hf.tmp (k := 4) rfl (by rw [ha]; decide) (hA 4 (by kernel_rfl))
      cases hP : (true && ((!(vlB x.v)) == false)) with
      | false => exact Rg.op_none (o := ⟨some 23, _, _, _, _, _⟩) rfl (Rg.unwanted_c (g := 4) rfl rfl qg hP) ⟨_, rfl, (fun h => by cases h), Rg.cond_f hP, hI, fun _ _ _ _ h => h⟩
      | true =>
        have hw := Rg.wanted_c (ops := (Rg.opsOf Try.f55 7)) (o := (Rg.opsOf Try.f55 7)[5]'(by rw [sizeRr7]; decide)) (g := 4) rfl rfl qg hP
        have g0 := Rg.pc_r hP
        have q4 := hf.kept (s := 4) (by rw [sizeRr7]; kernel_rfl) k4
        exact Rg.op_value (o := ⟨some 23, Op.fieldAddr 46 (Operand.tmp 4) 2, _, _, _, _⟩) (x := .pointer (some ⟨B, 2, none⟩)) rfl hw (by clear hA HS hN hO hX hK1 hK2; simp only [execOp]; go_simp) ⟨_, rfl, (fun h => by cases h), (Rg.cond_t hP).symm, hI, fun _ _ _ _ h => h⟩
    · intro ll bb w' hs hlf hN hO hf hI hA
      clear hi'
      have qg : bb.tmps[22]? = some (cond true (.bool (!(vlB x.v))) undef) := hf.tmp (k := 4) rfl (by rw [ha]; decide) (hA 4 (by kernel_rfl))
      cases hP : (true && ((!(vlB x.v)) == false)) with
      | false => exact Rg.op_none (o := ⟨some 24, _, _, _, _, _⟩) rfl (Rg.unwanted_c (g := 4) rfl rfl qg hP) ⟨_, rfl, (fun h => by cases h), Rg.cond_f hP, hI, fun _ _ _ _ h => h⟩
      | true =>
        have hw := Rg.wanted_c (ops := (Rg.opsOf Try.f55 7)) (o := (Rg.opsOf Try.f55 7)[6]'(by rw [sizeRr7]; decide)) (g := 4) rfl rfl qg hP
        have g0 := Rg.pc_r hP
        have q23 : bb.tmps[23]? = some (.pointer (some ⟨B, 2, none⟩)) := hf.tmp (k := 5) rfl (by rw [ha]; decide) (Eq.trans (hA 5 (by kernel_rfl)) (Rg.cond_t hP))
        obtain ⟨b0, b1, b2⟩ := (hX.below hI).three
        exact Rg.op_value (o := ⟨some 24, Op.load 4 (Operand.tmp 23), _, _, _, _⟩) (x := .bool x.k) rfl hw (by clear hA HS hN hO hX hK1 hK2; simp only [execOp]; go_simp) ⟨_, rfl, (fun h => by cases h), (Rg.cond_t hP).symm, hI, fun _ _ _ _ h => h⟩
    · intro ll bb w' hs hlf hN hO hf hI hA
      clear hi'
      have qg : bb.tmps[22]? = some (cond true (.bool (!(vlB x.v))) undef) := hf.tmp (k := 4) rfl (by rw [ha]; decide) (hA 4 (by kernel_rfl))
      cases hP : (true && ((!(vlB x.v)) == false)) with
      | false => exact Rg.op_none (o := ⟨some 25, _, _, _, _, _⟩) rfl (Rg.unwanted_c (g := 4) rfl rfl qg hP) ⟨_, rfl, (fun h => by cases h), Rg.cond_f hP, hI, fun _ _ _ _ h => h⟩
      | true =>
        have hw := Rg.wanted_c (ops := (Rg.opsOf Try.f55 7)) (o := (Rg.opsOf Try.f55 7)[7]'(by rw [sizeRr7]; decide)) (g := 4) rfl rfl qg hP
        have g0 := Rg.pc_r hP
        have q24 : bb.tmps[24]? = some (.bool x.k) := hf.tmp (k := 6) rfl (by rw [ha]; decide) (Eq.trans (hA 6 (by kernel_rfl)) (Rg.cond_t hP))
        exact Rg.op_value (o := ⟨some 25, Op.unOp UnOp.not 4 (Operand.tmp 24), _, _, _, _⟩) (x := .bool (!x.k)) rfl hw (by clear hA HS hN hO hX hK1 hK2; simp only [execOp]; go_simp) ⟨_, rfl, (fun h => by cases h), (Rg.cond_t hP).symm, hI, fun _ _ _ _ h => h⟩
    · intro ll bb w' hs hlf hN hO hf hI hA
      clear hi'
      have qg : bb.tmps[22]? = some (cond true (.bool (!(vlB x.v))) undef) := hf.tmp (k := 4) rfl (by rw [ha]; decide) (hA 4 (by kernel_rfl))
      cases hP : (true && ((!(vlB x.v)) == false)) with
      | false => exact Rg.op_none (o := ⟨some 26, _, _, _, _, _⟩) rfl (Rg.unwanted_c (g := 4) rfl rfl qg hP) ⟨_, rfl, (fun h => by cases h), Rg.cond_f hP, hI, fun _ _ _ _ h => h⟩
      | true =>
        have hw := Rg.wanted_c (ops := (Rg.opsOf Try.f55 7)) (o := (Rg.opsOf Try.f55 7)[8]'(by rw [sizeRr7]; decide)) (g := 4) rfl rfl qg hP
        have g0 := Rg.pc_r hP
        have q25 : bb.tmps[25]? = some (.bool (!x.k)) := hf.tmp (k := 7) rfl (by rw [ha]; decide) (Eq.trans (hA 7 (by kernel_rfl)) (Rg.cond_t hP))
        exact Rg.op_value (o := ⟨some 26, Op.move (Operand.tmp 25), _, _, _, _⟩) (x := .bool (!x.k)) rfl hw (by clear hA HS hN hO hX hK1 hK2; simp only [execOp]; go_simp) ⟨_, rfl, (fun h => by cases h), (Rg.cond_t hP).symm, hI, fun _ _ _ _ h => h⟩
    · intro ll bb w' hs hlf hN hO hf hI hA
      clear hi'
      have qg : bb.tmps[26]? = some (cond (true && ((!(vlB x.v)) == false)) (.bool (!x.k)) undef) := hf.tmp (k := 8) rfl (by rw [ha]; decide) (hA 8 (by kernel_rfl))
      cases hP : ((true && ((!(vlB x.v)) == false)) && ((!x.k) == true)) with
      | false => exact Rg.op_none (o := ⟨some 27, _, _, _, _, _⟩) rfl (Rg.unwanted_c (g := 8) rfl rfl qg hP) ⟨_, rfl, (fun h => by cases h), Rg.cond_f hP, hI, fun _ _ _ _ h => h⟩
      | true =>
        have hw := Rg.wanted_c (ops := (Rg.opsOf Try.f55 7)) (o := (Rg.opsOf Try.f55 7)[9]'(by rw [sizeRr7]; decide)) (g := 8) rfl rfl qg hP
        have g1 := Rg.pc_r hP
        have p1 := Rg.pc_l hP
        have g0 := Rg.pc_r p1
        have q4 := hf.kept (s := 4) (by rw [sizeRr7]; kernel_rfl) k4
        exact Rg.op_value (o := ⟨some 27, Op.fieldAddr 46 (Operand.tmp 4) 0, _, _, _, _⟩) (x := .pointer (some ⟨B, 0, none⟩)) rfl hw (by clear hA HS hN hO hX hK1 hK2; simp only [execOp]; go_simp) ⟨_, rfl, (fun h => by cases h), (Rg.cond_t hP).symm, hI, fun _ _ _ _ h => h⟩
    · intro ll bb w' hs hlf hN hO hf hI hA
      clear hi'
      have qg : bb.tmps[26]? = some (cond (true && ((!(vlB x.v)) == false)) (.bool (!x.k)) undef) := hf.tmp (k := 8) rfl (by rw [ha]; decide) (hA 8 (by kernel_rfl))
      cases hP : ((true && ((!(vlB x.v)) == false)) && ((!x.k) == true)) with
      | false => exact Rg.op_none (o := ⟨some 28, _, _, _, _, _⟩) rfl (Rg.unwanted_c (g := 8) rfl rfl qg hP) ⟨_, rfl, (fun h => by cases h), Rg.cond_f hP, hI, fun _ _ _ _ h => h⟩
      | true =>
        have hw := Rg.wanted_c (ops := (Rg.opsOf Try.f55 7)) (o := (Rg.opsOf Try.f55 7)[10]'(by rw [sizeRr7]; decide)) (g := 8) rfl rfl qg hP
        have g1 := Rg.pc_r hP
        have p1 := Rg.pc_l hP
        have g0 := Rg.pc_r p1
        have q27 : bb.tmps[27]? = some (.pointer (some ⟨B, 0, none⟩)) := hf.tmp (k := 9) rfl (by rw [ha]; decide) (Eq.trans (hA 9 (by kernel_rfl)) (Rg.cond_t hP))
        obtain ⟨b0, b1, b2⟩ := (hX.below hI).three
        exact Rg.op_value (o := ⟨some 28, Op.load 2 (Operand.tmp 27), _, _, _, _⟩) (x := .int .i64 x.v) rfl hw (by clear hA HS hN hO hX hK1 hK2; simp only [execOp]; go_simp) ⟨_, rfl, (fun h => by cases h), (Rg.cond_t hP).symm, hI, fun _ _ _ _ h => h⟩
    · intro ll bb w' hs hlf hN hO hf hI hA
      clear hi'
      have qg : bb.tmps[26]? = some (cond (true && ((!(vlB x.v)) == false)) (.bool (!x.k)) undef) := hf.tmp (k := 8) rfl (by rw [ha]; decide) (hA 8 (by kernel_rfl))
      cases hP : ((true && ((!(vlB x.v)) == false)) && ((!x.k) == true)) with
      | false => exact Rg.op_none (o := ⟨some 29, _, _, _, _, _⟩) rfl (Rg.unwanted_c (g := 8) rfl rfl qg hP) ⟨_, rfl, (fun h => by cases h), Rg.cond_f hP, hI, fun _ _ _ _ h => h⟩
      | true =>
        have hw := Rg.wanted_c (ops := (Rg.opsOf Try.f55 7)) (o := (Rg.opsOf Try.f55 7)[11]'(by rw [sizeRr7]; decide)) (g := 8) rfl rfl qg hP
        have g1 := Rg.pc_r hP
        have p1 := Rg.pc_l hP
        have g0 := Rg.pc_r p1
        have q28 : bb.tmps[28]? = some (.int .i64 x.v) := hf.tmp (k := 10) rfl (by rw [ha]; decide) (Eq.trans (hA 10 (by kernel_rfl)) (Rg.cond_t hP))
        exact Rg.op_value (o := ⟨some 29, Op.binOp BinOp.neq 2 (Operand.tmp 28) (Operand.const (Value.int .i64 0)) 2, _, _, _, _⟩) (x := .bool (x.v != 0)) rfl hw (by clear hA HS hN hO hX hK1 hK2; simp only [execOp]; go_simp) ⟨_, rfl, (fun h => by cases h), (Rg.cond_t hP).symm, hI, fun _ _ _ _ h => h⟩
    · intro ll bb w' hs hlf hN hO hf hI hA
      clear hi'
      have qg : bb.tmps[22]? = some (cond true (.bool (!(vlB x.v))) undef) := hf.tmp (k := 4) rfl (by rw [ha]; decide) (hA 4 (by kernel_rfl))
      cases hP : (true && ((!(vlB x.v)) == false)) with
      | false => exact Rg.op_none (o := ⟨some 30, _, _, _, _, _⟩) rfl (Rg.unwanted_c (g := 4) rfl rfl qg hP) ⟨_, rfl, (fun h => by cases h), Rg.cond_f hP, hI, fun _ _ _ _ h => h⟩
      | true =>
        have hw := Rg.wanted_c (ops := (Rg.opsOf Try.f55 7)) (o := (Rg.opsOf Try.f55 7)[12]'(by rw [sizeRr7]; decide)) (g := 4) rfl rfl qg hP
        have g0 := Rg.pc_r hP
        have q26 : bb.tmps[26]? = some (.bool (!x.k)) := hf.tmp (k := 8) rfl (by rw [ha]; decide) (Eq.trans (hA 8 (by kernel_rfl)) (Rg.cond_t hP))
        cases hC : (!x.k) with
        | false =>
          have hval : ((.bool ((!x.k) && (x.v != 0)) : Value)) = .bool false := by rw [hC]; rfl
          exact Rg.op_value (o := ⟨some 30, Op.pick (Operand.tmp 26) (Operand.tmp 29) (Operand.const (Value.bool false)), _, _, _, _⟩) (x := .bool false) rfl hw (by rw [hC] at q26; clear hA HS hN hO hX hK1 hK2 hval; simp only [execOp]; go_simp) ⟨_, rfl, (fun h => by cases h), (by show ((.bool false : Value)) = _; exact hval.symm.trans (Rg.cond_t hP).symm), hI, fun _ _ _ _ h => h⟩
        | true =>
          have hB : ((true && ((!(vlB x.v)) == false)) && ((!x.k) == true)) = true := by
            rw [hC]; first | rfl | (rw [hP]; rfl) | simp_all
          have q29 : bb.tmps[29]? = some (.bool (x.v != 0)) := hf.tmp (k := 11) rfl (by rw [ha]; decide) (Eq.trans (hA 11 (by kernel_rfl)) (Rg.cond_t hB))
          have hval : ((.bool ((!x.k) && (x.v != 0)) : Value)) = .bool (x.v != 0) := by rw [hC]; rfl
          exact Rg.op_value (o := ⟨some 30, Op.pick (Operand.tmp 26) (Operand.tmp 29) (Operand.const (Value.bool false)), _, _, _, _⟩) (x := .bool (x.v != 0)) rfl hw (by rw [hC] at q26; clear hA HS hN hO hX hK1 hK2 hval; simp only [execOp]; go_simp) ⟨_, rfl, (fun h => by cases h), (by show ((.bool (x.v != 0) : Value)) = _; exact hval.symm.trans (Rg.cond_t hP).symm), hI, fun _ _ _ _ h => h⟩
    · intro ll bb w' hs hlf hN hO hf hI hA
      clear hi'
      have q22 : bb.tmps[22]? = some _ := hf.tmp (k := 4) rfl (by rw [ha]; decide) (hA 4 (by kernel_rfl))
      cases hC : (!(vlB x.v)) with
      | false =>
        have hB : (true && ((!(vlB x.v)) == false)) = true := by rw [hC]; rfl
        have q30 : bb.tmps[30]? = some (.bool ((!x.k) && (x.v != 0))) := hf.tmp (k := 12) rfl (by rw [ha]; decide) (Eq.trans (hA 12 (by kernel_rfl)) (Rg.cond_t hB))
        have hval : ((.bool ((!(vlB x.v)) || ((!x.k) && (x.v != 0))) : Value)) = .bool ((!x.k) && (x.v != 0)) := by rw [hC]; rfl
        exact Rg.op_value (o := ⟨some 31, Op.pick (Operand.tmp 22) (Operand.const (Value.bool true)) (Operand.tmp 30), _, _, _, _⟩) (x := .bool ((!x.k) && (x.v != 0))) rfl rfl (by rw [hC] at q22; clear hA HS hN hO hX hK1 hK2 hval; simp only [execOp]; go_simp) ⟨_, rfl, (fun h => by cases h), (by show ((.bool ((!x.k) && (x.v != 0)) : Value)) = _; exact hval.symm), hI, fun _ _ _ _ h => h⟩
      | true =>
        have hval : ((.bool ((!(vlB x.v)) || ((!x.k) && (x.v != 0))) : Value)) = .bool true := by rw [hC]; rfl
        exact Rg.op_value (o := ⟨some 31, Op.pick (Operand.tmp 22) (Operand.const (Value.bool true)) (Operand.tmp 30), _, _, _, _⟩) (x := .bool true) rfl rfl (by rw [hC] at q22; clear hA HS hN hO hX hK1 hK2 hval; simp only [execOp]; go_simp) ⟨_, rfl, (fun h => by cases h), (by show ((.bool true : Value)) = _; exact hval.symm), hI, fun _ _ _ _ h => h⟩
    · intro ll bb w' hs hlf hN hO hf hI hA
      clear hi'
      have q31 : bb.tmps[31]? = some _ := hf.tmp (k := 13) rfl (by rw [ha]; decide) (hA 13 (by kernel_rfl))
      exact Rg.op_value (o := ⟨some 32, Op.move (Operand.tmp 31), _, _, _, _⟩) (x := .bool ((!(vlB x.v)) || ((!x.k) && (x.v != 0)))) rfl rfl (by clear hA HS hN hO hX hK1 hK2; simp only [execOp]; go_simp) ⟨_, rfl, (fun h => by cases h), rfl, hI, fun _ _ _ _ h => h⟩
    · intro ll bb w' hs hlf hN hO hf hI hA
      clear hi'
      have qg : bb.tmps[32]? = some (cond true (.bool ((!(vlB x.v)) || ((!x.k) && (x.v != 0)))) undef) := hf.tmp (k := 14) rfl (by rw [ha]; decide) (hA 14 (by kernel_rfl))
      cases hP : (true && (((!(vlB x.v)) || ((!x.k) && (x.v != 0))) == false)) with
      | false => exact Rg.op_none (o := ⟨some 33, _, _, _, _, _⟩) rfl (Rg.unwanted_c (g := 14) rfl rfl qg hP) ⟨_, rfl, (fun h => by cases h), Rg.cond_f hP, hI, fun _ _ _ _ h => h⟩
      | true =>
        have hw := Rg.wanted_c (ops := (Rg.opsOf Try.f55 7)) (o := (Rg.opsOf Try.f55 7)[15]'(by rw [sizeRr7]; decide)) (g := 14) rfl rfl qg hP
        have g0 := Rg.pc_r hP
        have q4 := hf.kept (s := 4) (by rw [sizeRr7]; kernel_rfl) k4
        exact Rg.op_value (o := ⟨some 33, Op.fieldAddr 46 (Operand.tmp 4) 1, _, _, _, _⟩) (x := .pointer (some ⟨B, 1, none⟩)) rfl hw (by clear hA HS hN hO hX hK1 hK2; simp only [execOp]; go_simp) ⟨_, rfl, (fun h => by cases h), (Rg.cond_t hP).symm, hI, fun _ _ _ _ h => h⟩
    · intro ll bb w' hs hlf hN hO hf hI hA
      clear hi'
      have qg : bb.tmps[32]? = some (cond true (.bool ((!(vlB x.v)) || ((!x.k) && (x.v != 0)))) undef) := hf.tmp (k := 14) rfl (by rw [ha]; decide) (hA 14 (by kernel_rfl))
      cases hP : (true && (((!(vlB x.v)) || ((!x.k) && (x.v != 0))) == false)) with
      | false => exact Rg.op_none (o := ⟨some 34, _, _, _, _, _⟩) rfl (Rg.unwanted_c (g := 14) rfl rfl qg hP) ⟨_, rfl, (fun h => by cases h), Rg.cond_f hP, hI, fun _ _ _ _ h => h⟩
      | true =>
        have hw := Rg.wanted_c (ops := (Rg.opsOf Try.f55 7)) (o := (Rg.opsOf Try.f55 7)[16]'(by rw [sizeRr7]; decide)) (g := 14) rfl rfl qg hP
        have g0 := Rg.pc_r hP
        have q33 : bb.tmps[33]? = some (.pointer (some ⟨B, 1, none⟩)) := hf.tmp (k := 15) rfl (by rw [ha]; decide) (Eq.trans (hA 15 (by kernel_rfl)) (Rg.cond_t hP))
        obtain ⟨b0, b1, b2⟩ := (hX.below hI).three
        exact Rg.op_value (o := ⟨some 34, Op.load 2 (Operand.tmp 33), _, _, _, _⟩) (x := .int .i64 x.t) rfl hw (by clear hA HS hN hO hX hK1 hK2; simp only [execOp]; go_simp) ⟨_, rfl, (fun h => by cases h), (Rg.cond_t hP).symm, hI, fun _ _ _ _ h => h⟩
    · intro ll bb w' hs hlf hN hO hf hI hA
      clear hi'
      have qg : bb.tmps[32]? = some (cond true (.bool ((!(vlB x.v)) || ((!x.k) && (x.v != 0)))) undef) := hf.tmp (k := 14) rfl (by rw [ha]; decide) (hA 14 (by kernel_rfl))
      cases hP : (true && (((!(vlB x.v)) || ((!x.k) && (x.v != 0))) == false)) with
      | false => exact Rg.op_none (o := ⟨some 35, _, _, _, _, _⟩) rfl (Rg.unwanted_c (g := 14) rfl rfl qg hP) ⟨_, rfl, (fun h => by cases h), Rg.cond_f hP, hI, fun _ _ _ _ h => h⟩
      | true =>
        have hw := Rg.wanted_c (ops := (Rg.opsOf Try.f55 7)) (o := (Rg.opsOf Try.f55 7)[17]'(by rw [sizeRr7]; decide)) (g := 14) rfl rfl qg hP
        have g0 := Rg.pc_r hP
        have q34 : bb.tmps[34]? = some (.int .i64 x.t) := hf.tmp (k := 16) rfl (by rw [ha]; decide) (Eq.trans (hA 16 (by kernel_rfl)) (Rg.cond_t hP))
        refine Rg.op_call (o := ⟨some 35, Op.call { callee := Callee.value (Operand.func 70), args := #[(Operand.tmp 34)], argTypes := _ }, _, _, _, _⟩) rfl hw (by clear hA HS hN hO hX hK1 hK2; simp only [execOp, resolve]; go_simp) (hK2 w') ?_
        rintro e w2 ⟨rfl, rfl⟩
        exact ⟨_, rfl, _, rfl, (fun h => by cases h), (Rg.cond_t hP).symm, hI, fun _ _ _ _ h => h⟩
    · intro ll bb w' hs hlf hN hO hf hI hA
      clear hi'
      have qg : bb.tmps[32]? = some (cond true (.bool ((!(vlB x.v)) || ((!x.k) && (x.v != 0)))) undef) := hf.tmp (k := 14) rfl (by rw [ha]; decide) (hA 14 (by kernel_rfl))
      cases hP : (true && (((!(vlB x.v)) || ((!x.k) && (x.v != 0))) == false)) with
      | false => exact Rg.op_none (o := ⟨some 36, _, _, _, _, _⟩) rfl (Rg.unwanted_c (g := 14) rfl rfl qg hP) ⟨_, rfl, (fun h => by cases h), Rg.cond_f hP, hI, fun _ _ _ _ h => h⟩
      | true =>
        have hw := Rg.wanted_c (ops := (Rg.opsOf Try.f55 7)) (o := (Rg.opsOf Try.f55 7)[18]'(by rw [sizeRr7]; decide)) (g := 14) rfl rfl qg hP
        have g0 := Rg.pc_r hP
        have q35 : bb.tmps[35]? = some (.bool (tmv x.t)) := hf.tmp (k := 17) rfl (by rw [ha]; decide) (Eq.trans (hA 17 (by kernel_rfl)) (Rg.cond_t hP))
        exact Rg.op_value (o := ⟨some 36, Op.unOp UnOp.not 4 (Operand.tmp 35), _, _, _, _⟩) (x := .bool (!(tmv x.t))) rfl hw (by clear hA HS hN hO hX hK1 hK2; simp only [execOp]; go_simp) ⟨_, rfl, (fun h => by cases h), (Rg.cond_t hP).symm, hI, fun _ _ _ _ h => h⟩
    · intro ll bb w' hs hlf hN hO hf hI hA
      clear hi'
      have q32 : bb.tmps[32]? = some _ := hf.tmp (k := 14) rfl (by rw [ha]; decide) (hA 14 (by kernel_rfl))
      cases hC : ((!(vlB x.v)) || ((!x.k) && (x.v != 0))) with
      | false =>
        have hB : (true && (((!(vlB x.v)) || ((!x.k) && (x.v != 0))) == false)) = true := by rw [hC]; rfl
        have q36 : bb.tmps[36]? = some (.bool (!(tmv x.t))) := hf.tmp (k := 18) rfl (by rw [ha]; decide) (Eq.trans (hA 18 (by kernel_rfl)) (Rg.cond_t hB))
        have hval : ((.bool (((!(vlB x.v)) || ((!x.k) && (x.v != 0))) || (!(tmv x.t))) : Value)) = .bool (!(tmv x.t)) := by rw [hC]; rfl
        exact Rg.op_value (o := ⟨some 37, Op.pick (Operand.tmp 32) (Operand.const (Value.bool true)) (Operand.tmp 36), _, _, _, _⟩) (x := .bool (!(tmv x.t))) rfl rfl (by rw [hC] at q32; clear hA HS hN hO hX hK1 hK2 hval; simp only [execOp]; go_simp) ⟨_, rfl, (fun h => by cases h), (by show ((.bool (!(tmv x.t)) : Value)) = _; exact hval.symm), hI, fun _ _ _ _ h => h⟩
      | true =>
        have hval : ((.bool (((!(vlB x.v)) || ((!x.k) && (x.v != 0))) || (!(tmv x.t))) : Value)) = .bool true := by rw [hC]; rfl
        exact Rg.op_value (o := ⟨some 37, Op.pick (Operand.tmp 32) (Operand.const (Value.bool true)) (Operand.tmp 36), _, _, _, _⟩) (x := .bool true) rfl rfl (by rw [hC] at q32; clear hA HS hN hO hX hK1 hK2 hval; simp only [execOp]; go_simp) ⟨_, rfl, (fun h => by cases h), (by show ((.bool true : Value)) = _; exact hval.symm), hI, fun _ _ _ _ h => h⟩
    · intro ll bb w' hs hlf hN hO hf hI hA
      clear hi'
      have q37 : bb.tmps[37]? = some _ := hf.tmp (k := 19) rfl (by rw [ha]; decide) (hA 19 (by kernel_rfl))
      exact Rg.op_value (o := ⟨some 38, Op.move (Operand.tmp 37), _, _, _, _⟩) (x := .bool (((!(vlB x.v)) || ((!x.k) && (x.v != 0))) || (!(tmv x.t)))) rfl rfl (by clear hA HS hN hO hX hK1 hK2; simp only [execOp]; go_simp) ⟨_, rfl, (fun h => by cases h), rfl, hI, fun _ _ _ _ h => h⟩
    · intro ll bb w' hs hlf hN hO hf hI hA
      clear hi'
      have qg : bb.tmps[38]? = some (cond true (.bool (((!(vlB x.v)) || ((!x.k) && (x.v != 0))) || (!(tmv x.t)))) undef) := hf.tmp (k := 20) rfl (by rw [ha]; decide) (hA 20 (by kernel_rfl))
      cases hP : (true && ((((!(vlB x.v)) || ((!x.k) && (x.v != 0))) || (!(tmv x.t))) == false)) with
      | false => exact Rg.op_none (o := ⟨some 39, _, _, _, _, _⟩) rfl (Rg.unwanted_c (g := 20) rfl rfl qg hP) ⟨_, rfl, (fun h => by cases h), Rg.cond_f hP, hI, fun _ _ _ _ h => h⟩
      | true =>
        have hw := Rg.wanted_c (ops := (Rg.opsOf Try.f55 7)) (o := (Rg.opsOf Try.f55 7)[21]'(by rw [sizeRr7]; decide)) (g := 20) rfl rfl qg hP
        have g0 := Rg.pc_r hP
        have q0 := hf.kept (s := 3) (by rw [sizeRr7]; kernel_rfl) k3
        exact Rg.op_value (o := ⟨some 39, Op.move (Operand.tmp 3), _, _, _, _⟩) (x := .int .i64 (i : Nat)) rfl hw (by clear hA HS hN hO hX hK1 hK2; simp only [execOp]; go_simp) ⟨_, rfl, (fun h => by cases h), (Rg.cond_t hP).symm, hI, fun _ _ _ _ h => h⟩
    · intro ll bb w' hs hlf hN hO hf hI hA
      clear hi'
      have qg : bb.tmps[38]? = some (cond true (.bool (((!(vlB x.v)) || ((!x.k) && (x.v != 0))) || (!(tmv x.t)))) undef) := hf.tmp (k := 20) rfl (by rw [ha]; decide) (hA 20 (by kernel_rfl))
      cases hP : (true && ((((!(vlB x.v)) || ((!x.k) && (x.v != 0))) || (!(tmv x.t))) == false)) with
      | false => exact Rg.op_none (o := ⟨some 40, _, _, _, _, _⟩) rfl (Rg.unwanted_c (g := 20) rfl rfl qg hP) ⟨_, rfl, (fun h => by cases h), Rg.cond_f hP, hI, fun _ _ _ _ h => h⟩
      | true =>
        have hw := Rg.wanted_c (ops := (Rg.opsOf Try.f55 7)) (o := (Rg.opsOf Try.f55 7)[22]'(by rw [sizeRr7]; decide)) (g := 20) rfl rfl qg hP
        have g0 := Rg.pc_r hP
        have q39 : bb.tmps[39]? = some (.int .i64 (i : Nat)) := hf.tmp (k := 21) rfl (by rw [ha]; decide) (Eq.trans (hA 21 (by kernel_rfl)) (Rg.cond_t hP))
        exact Rg.op_value (o := ⟨some 40, Op.binOp BinOp.gtr 3 (Operand.tmp 39) (Operand.const (Value.int .i64 0)) 3, _, _, _, _⟩) (x := .bool (decide ((0 : Int) < (i : Int)))) rfl hw (by clear hA HS hN hO hX hK1 hK2; simp only [execOp]; go_simp) ⟨_, rfl, (fun h => by cases h), (Rg.cond_t hP).symm, hI, fun _ _ _ _ h => h⟩
    · intro ll bb w' hs hlf hN hO hf hI hA
      clear hi'
      have qg : bb.tmps[38]? = some (cond true (.bool (((!(vlB x.v)) || ((!x.k) && (x.v != 0))) || (!(tmv x.t)))) undef) := hf.tmp (k := 20) rfl (by rw [ha]; decide) (hA 20 (by kernel_rfl))
      cases hP : (true && ((((!(vlB x.v)) || ((!x.k) && (x.v != 0))) || (!(tmv x.t))) == false)) with
      | false => exact Rg.op_none (o := ⟨some 41, _, _, _, _, _⟩) rfl (Rg.unwanted_c (g := 20) rfl rfl qg hP) ⟨_, rfl, (fun h => by cases h), Rg.cond_f hP, hI, fun _ _ _ _ h => h⟩
      | true =>
        have hw := Rg.wanted_c (ops := (Rg.opsOf Try.f55 7)) (o := (Rg.opsOf Try.f55 7)[23]'(by rw [sizeRr7]; decide)) (g := 20) rfl rfl qg hP
        have g0 := Rg.pc_r hP
        have q40 : bb.tmps[40]? = some (.bool (decide ((0 : Int) < (i : Int)))) := hf.tmp (k := 22) rfl (by rw [ha]; decide) (Eq.trans (hA 22 (by kernel_rfl)) (Rg.cond_t hP))
        exact Rg.op_value (o := ⟨some 41, Op.move (Operand.tmp 40), _, _, _, _⟩) (x := .bool (decide ((0 : Int) < (i : Int)))) rfl hw (by clear hA HS hN hO hX hK1 hK2; simp only [execOp]; go_simp) ⟨_, rfl, (fun h => by cases h), (Rg.cond_t hP).symm, hI, fun _ _ _ _ h => h⟩
    · intro ll bb w' hs hlf hN hO hf hI hA
      clear hi'
      have qg : bb.tmps[41]? = some (cond (true && ((((!(vlB x.v)) || ((!x.k) && (x.v != 0))) || (!(tmv x.t))) == false)) (.bool (decide ((0 : Int) < (i : Int)))) undef) := hf.tmp (k := 23) rfl (by rw [ha]; decide) (hA 23 (by kernel_rfl))
      cases hP : ((true && ((((!(vlB x.v)) || ((!x.k) && (x.v != 0))) || (!(tmv x.t))) == false)) && ((decide ((0 : Int) < (i : Int))) == true)) with
      | false => exact Rg.op_none (o := ⟨some 42, _, _, _, _, _⟩) rfl (Rg.unwanted_c (g := 23) rfl rfl qg hP) ⟨_, rfl, (fun h => by cases h), Rg.cond_f hP, hI, fun _ _ _ _ h => h⟩
      | true =>
        have hw := Rg.wanted_c (ops := (Rg.opsOf Try.f55 7)) (o := (Rg.opsOf Try.f55 7)[24]'(by rw [sizeRr7]; decide)) (g := 23) rfl rfl qg hP
        have g1 := Rg.pc_r hP
        have p1 := Rg.pc_l hP
        have g0 := Rg.pc_r p1
        have q4 := hf.kept (s := 4) (by rw [sizeRr7]; kernel_rfl) k4
        exact Rg.op_value (o := ⟨some 42, Op.fieldAddr 46 (Operand.tmp 4) 1, _, _, _, _⟩) (x := .pointer (some ⟨B, 1, none⟩)) rfl hw (by clear hA HS hN hO hX hK1 hK2; simp only [execOp]; go_simp) ⟨_, rfl, (fun h => by cases h), (Rg.cond_t hP).symm, hI, fun _ _ _ _ h => h⟩
    · intro ll bb w' hs hlf hN hO hf hI hA
      clear hi'
      have qg : bb.tmps[41]? = some (cond (true && ((((!(vlB x.v)) || ((!x.k) && (x.v != 0))) || (!(tmv x.t))) == false)) (.bool (decide ((0 : Int) < (i : Int)))) undef) := hf.tmp (k := 23) rfl (by rw [ha]; decide) (hA 23 (by kernel_rfl))
      cases hP : ((true && ((((!(vlB x.v)) || ((!x.k) && (x.v != 0))) || (!(tmv x.t))) == false)) && ((decide ((0 : Int) < (i : Int))) == true)) with
      | false => exact Rg.op_none (o := ⟨some 43, _, _, _, _, _⟩) rfl (Rg.unwanted_c (g := 23) rfl rfl qg hP) ⟨_, rfl, (fun h => by cases h), Rg.cond_f hP, hI, fun _ _ _ _ h => h⟩
      | true =>
        have hw := Rg.wanted_c (ops := (Rg.opsOf Try.f55 7)) (o := (Rg.opsOf Try.f55 7)[25]'(by rw [sizeRr7]; decide)) (g := 23) rfl rfl qg hP
        have g1 := Rg.pc_r hP
        have p1 := Rg.pc_l hP
        have g0 := Rg.pc_r p1
        have q42 : bb.tmps[42]? = some (.pointer (some ⟨B, 1, none⟩)) := hf.tmp (k := 24) rfl (by rw [ha]; decide) (Eq.trans (hA 24 (by kernel_rfl)) (Rg.cond_t hP))
        obtain ⟨b0, b1, b2⟩ := (hX.below hI).three
        exact Rg.op_value (o := ⟨some 43, Op.load 2 (Operand.tmp 42), _, _, _, _⟩) (x := .int .i64 x.t) rfl hw (by clear hA HS hN hO hX hK1 hK2; simp only [execOp]; go_simp) ⟨_, rfl, (fun h => by cases h), (Rg.cond_t hP).symm, hI, fun _ _ _ _ h => h⟩
    · intro ll bb w' hs hlf hN hO hf hI hA
      clear hi'
      have qg : bb.tmps[41]? = some (cond (true && ((((!(vlB x.v)) || ((!x.k) && (x.v != 0))) || (!(tmv x.t))) == false)) (.bool (decide ((0 : Int) < (i : Int)))) undef) := hf.tmp (k := 23) rfl (by rw [ha]; decide) (hA 23 (by kernel_rfl))
      cases hP : ((true && ((((!(vlB x.v)) || ((!x.k) && (x.v != 0))) || (!(tmv x.t))) == false)) && ((decide ((0 : Int) < (i : Int))) == true)) with
      | false => exact Rg.op_none (o := ⟨some 44, _, _, _, _, _⟩) rfl (Rg.unwanted_c (g := 23) rfl rfl qg hP) ⟨_, rfl, (fun h => by cases h), Rg.cond_f hP, hI, fun _ _ _ _ h => h⟩
      | true =>
        have hw := Rg.wanted_c (ops := (Rg.opsOf Try.f55 7)) (o := (Rg.opsOf Try.f55 7)[26]'(by rw [sizeRr7]; decide)) (g := 23) rfl rfl qg hP
        have g1 := Rg.pc_r hP
        have p1 := Rg.pc_l hP
        have g0 := Rg.pc_r p1
        have q0 := hf.kept (s := 0) (by rw [sizeRr7]; kernel_rfl) k0
        exact Rg.op_value (o := ⟨some 44, Op.move (Operand.tmp 0), _, _, _, _⟩) (x := .slice (some ⟨g, off, none⟩) n cap) rfl hw (by clear hA HS hN hO hX hK1 hK2; simp only [execOp]; go_simp) ⟨_, rfl, (fun h => by cases h), (Rg.cond_t hP).symm, hI, fun _ _ _ _ h => h⟩
    · intro ll bb w' hs hlf hN hO hf hI hA
      clear hi'
      have qg : bb.tmps[41]? = some (cond (true && ((((!(vlB x.v)) || ((!x.k) && (x.v != 0))) || (!(tmv x.t))) == false)) (.bool (decide ((0 : Int) < (i : Int)))) undef) := hf.tmp (k := 23) rfl (by rw [ha]; decide) (hA 23 (by kernel_rfl))
      cases hP : ((true && ((((!(vlB x.v)) || ((!x.k) && (x.v != 0))) || (!(tmv x.t))) == false)) && ((decide ((0 : Int) < (i : Int))) == true)) with
      | false => exact Rg.op_none (o := ⟨some 45, _, _, _, _, _⟩) rfl (Rg.unwanted_c (g := 23) rfl rfl qg hP) ⟨_, rfl, (fun h => by cases h), Rg.cond_f hP, hI, fun _ _ _ _ h => h⟩
      | true =>
        have hw := Rg.wanted_c (ops := (Rg.opsOf Try.f55 7)) (o := (Rg.opsOf Try.f55 7)[27]'(by rw [sizeRr7]; decide)) (g := 23) rfl rfl qg hP
        have g1 := Rg.pc_r hP
        have p1 := Rg.pc_l hP
        have g0 := Rg.pc_r p1
        have q0 := hf.kept (s := 3) (by rw [sizeRr7]; kernel_rfl) k3
        exact Rg.op_value (o := ⟨some 45, Op.move (Operand.tmp 3), _, _, _, _⟩) (x := .int .i64 (i : Nat)) rfl hw (by clear hA HS hN hO hX hK1 hK2; simp only [execOp]; go_simp) ⟨_, rfl, (fun h => by cases h), (Rg.cond_t hP).symm, hI, fun _ _ _ _ h => h⟩
    · intro ll bb w' hs hlf hN hO hf hI hA
      clear hi'
      have qg : bb.tmps[41]? = some (cond (true && ((((!(vlB x.v)) || ((!x.k) && (x.v != 0))) || (!(tmv x.t))) == false)) (.bool (decide ((0 : Int) < (i : Int)))) undef) := hf.tmp (k := 23) rfl (by rw [ha]; decide) (hA 23 (by kernel_rfl))
      cases hP : ((true && ((((!(vlB x.v)) || ((!x.k) && (x.v != 0))) || (!(tmv x.t))) == false)) && ((decide ((0 : Int) < (i : Int))) == true)) with
      | false => exact Rg.op_none (o := ⟨some 46, _, _, _, _, _⟩) rfl (Rg.unwanted_c (g := 23) rfl rfl qg hP) ⟨_, rfl, (fun h => by cases h), Rg.cond_f hP, hI, fun _ _ _ _ h => h⟩
      | true =>
        have hw := Rg.wanted_c (ops := (Rg.opsOf Try.f55 7)) (o := (Rg.opsOf Try.f55 7)[28]'(by rw [sizeRr7]; decide)) (g := 23) rfl rfl qg hP
        have g1 := Rg.pc_r hP
        have p1 := Rg.pc_l hP
        have g0 := Rg.pc_r p1
        have q45 : bb.tmps[45]? = some (.int .i64 (i : Nat)) := hf.tmp (k := 27) rfl (by rw [ha]; decide) (Eq.trans (hA 27 (by kernel_rfl)) (Rg.cond_t hP))
        have hi0 : 0 < i := by have := g1; simp at this; omega
        have hwr : IntKind.i64.wrap ((i : Int) - 1) = ((i - 1 : Nat) : Int) := by rw [IntKind.wrap_i64]; omega
        exact Rg.op_value (o := ⟨some 46, Op.binOp BinOp.sub 3 (Operand.tmp 45) (Operand.const (Value.int .i64 1)) 3, _, _, _, _⟩) (x := .int .i64 ((i - 1 : Nat) : Int)) rfl hw (by clear hA HS hN hO hX hK1 hK2; simp only [execOp]; go_simp) ⟨_, rfl, (fun h => by cases h), (Rg.cond_t hP).symm, hI, fun _ _ _ _ h => h⟩
    · intro ll bb w' hs hlf hN hO hf hI hA
      clear hi'
      have qg : bb.tmps[41]? = some (cond (true && ((((!(vlB x.v)) || ((!x.k) && (x.v != 0))) || (!(tmv x.t))) == false)) (.bool (decide ((0 : Int) < (i : Int)))) undef) := hf.tmp (k := 23) rfl (by rw [ha]; decide) (hA 23 (by kernel_rfl))
      cases hP : ((true && ((((!(vlB x.v)) || ((!x.k) && (x.v != 0))) || (!(tmv x.t))) == false)) && ((decide ((0 : Int) < (i : Int))) == true)) with
      | false => exact Rg.op_none (o := ⟨some 47, _, _, _, _, _⟩) rfl (Rg.unwanted_c (g := 23) rfl rfl qg hP) ⟨_, rfl, (fun h => by cases h), Rg.cond_f hP, hI, fun _ _ _ _ h => h⟩
      | true =>
        have hw := Rg.wanted_c (ops := (Rg.opsOf Try.f55 7)) (o := (Rg.opsOf Try.f55 7)[29]'(by rw [sizeRr7]; decide)) (g := 23) rfl rfl qg hP
        have g1 := Rg.pc_r hP
        have p1 := Rg.pc_l hP
        have g0 := Rg.pc_r p1
        have q44 : bb.tmps[44]? = some (.slice (some ⟨g, off, none⟩) n cap) := hf.tmp (k := 26) rfl (by rw [ha]; decide) (Eq.trans (hA 26 (by kernel_rfl)) (Rg.cond_t hP))
        have q46 : bb.tmps[46]? = some (.int .i64 ((i - 1 : Nat) : Int)) := hf.tmp (k := 28) rfl (by rw [ha]; decide) (Eq.trans (hA 28 (by kernel_rfl)) (Rg.cond_t hP))
        have hi0 : 0 < i := by have := g1; simp at this; omega
        have hi3 : ((i - 1 : Nat) : Int) < (n : Int) := by omega
        have hi4 : i - 1 < n := by omega
        exact Rg.op_value (o := ⟨some 47, Op.indexAddr 41 (Operand.tmp 44) (Operand.tmp 46), _, _, _, _⟩) (x := .pointer (some ⟨g, off + (i - 1) * 3, none⟩)) rfl hw (by clear hA HS hN hO hX hK1 hK2; simp only [execOp]; go_simp) ⟨_, rfl, (fun h => by cases h), (Rg.cond_t hP).symm, hI, fun _ _ _ _ h => h⟩
    · intro ll bb w' hs hlf hN hO hf hI hA
      clear hi'
      have qg : bb.tmps[41]? = some (cond (true && ((((!(vlB x.v)) || ((!x.k) && (x.v != 0))) || (!(tmv x.t))) == false)) (.bool (decide ((0 : Int) < (i : Int)))) undef) := hf.tmp (k := 23) rfl (by rw [ha]; decide) (hA 23 (by kernel_rfl))
      cases hP : ((true && ((((!(vlB x.v)) || ((!x.k) && (x.v != 0))) || (!(tmv x.t))) == false)) && ((decide ((0 : Int) < (i : Int))) == true)) with
      | false => exact Rg.op_none (o := ⟨some 48, _, _, _, _, _⟩) rfl (Rg.unwanted_c (g := 23) rfl rfl qg hP) ⟨_, rfl, (fun h => by cases h), Rg.cond_f hP, hI, fun _ _ _ _ h => h⟩
      | true =>
        have hw := Rg.wanted_c (ops := (Rg.opsOf Try.f55 7)) (o := (Rg.opsOf Try.f55 7)[30]'(by rw [sizeRr7]; decide)) (g := 23) rfl rfl qg hP
        have g1 := Rg.pc_r hP
        have p1 := Rg.pc_l hP
        have g0 := Rg.pc_r p1
        have q47 : bb.tmps[47]? = some (.pointer (some ⟨g, off + (i - 1) * 3, none⟩)) := hf.tmp (k := 29) rfl (by rw [ha]; decide) (Eq.trans (hA 29 (by kernel_rfl)) (Rg.cond_t hP))
        exact Rg.op_value (o := ⟨some 48, Op.fieldAddr 46 (Operand.tmp 47) 1, _, _, _, _⟩) (x := .pointer (some ⟨g, off + (i - 1) * 3 + 1, none⟩)) rfl hw (by clear hA HS hN hO hX hK1 hK2; simp only [execOp]; go_simp) ⟨_, rfl, (fun h => by cases h), (Rg.cond_t hP).symm, hI, fun _ _ _ _ h => h⟩
    · intro ll bb w' hs hlf hN hO hf hI hA
      clear hi'
      have qg : bb.tmps[41]? = some (cond (true && ((((!(vlB x.v)) || ((!x.k) && (x.v != 0))) || (!(tmv x.t))) == false)) (.bool (decide ((0 : Int) < (i : Int)))) undef) := hf.tmp (k := 23) rfl (by rw [ha]; decide) (hA 23 (by kernel_rfl))
      cases hP : ((true && ((((!(vlB x.v)) || ((!x.k) && (x.v != 0))) || (!(tmv x.t))) == false)) && ((decide ((0 : Int) < (i : Int))) == true)) with
      | false => exact Rg.op_none (o := ⟨some 49, _, _, _, _, _⟩) rfl (Rg.unwanted_c (g := 23) rfl rfl qg hP) ⟨_, rfl, (fun h => by cases h), Rg.cond_f hP, hI, fun _ _ _ _ h => h⟩
      | true =>
        have hw := Rg.wanted_c (ops := (Rg.opsOf Try.f55 7)) (o := (Rg.opsOf Try.f55 7)[31]'(by rw [sizeRr7]; decide)) (g := 23) rfl rfl qg hP
        have g1 := Rg.pc_r hP
        have p1 := Rg.pc_l hP
        have g0 := Rg.pc_r p1
        have q48 : bb.tmps[48]? = some (.pointer (some ⟨g, off + (i - 1) * 3 + 1, none⟩)) := hf.tmp (k := 30) rfl (by rw [ha]; decide) (Eq.trans (hA 30 (by kernel_rfl)) (Rg.cond_t hP))
        have hi0 : 0 < i := by have := g1; simp at this; omega
        have e9 := (hI.cell (p := ⟨g, off + (i - 1) * 3 + 1, none⟩) hgl).trans (y0 hi0)
        exact Rg.op_value (o := ⟨some 49, Op.load 2 (Operand.tmp 48), _, _, _, _⟩) (x := .int .i64 yt) rfl hw (by clear hA HS hN hO hX hK1 hK2; simp only [execOp]; go_simp) ⟨_, rfl, (fun h => by cases h), (Rg.cond_t hP).symm, hI, fun _ _ _ _ h => h⟩
    · intro ll bb w' hs hlf hN hO hf hI hA
      clear hi'
      have qg : bb.tmps[41]? = some (cond (true && ((((!(vlB x.v)) || ((!x.k) && (x.v != 0))) || (!(tmv x.t))) == false)) (.bool (decide ((0 : Int) < (i : Int)))) undef) := hf.tmp (k := 23) rfl (by rw [ha]; decide) (hA 23 (by kernel_rfl))
      cases hP : ((true && ((((!(vlB x.v)) || ((!x.k) && (x.v != 0))) || (!(tmv x.t))) == false)) && ((decide ((0 : Int) < (i : Int))) == true)) with
      | false => exact Rg.op_none (o := ⟨some 50, _, _, _, _, _⟩) rfl (Rg.unwanted_c (g := 23) rfl rfl qg hP) ⟨_, rfl, (fun h => by cases h), Rg.cond_f hP, hI, fun _ _ _ _ h => h⟩
      | true =>
        have hw := Rg.wanted_c (ops := (Rg.opsOf Try.f55 7)) (o := (Rg.opsOf Try.f55 7)[32]'(by rw [sizeRr7]; decide)) (g := 23) rfl rfl qg hP
        have g1 := Rg.pc_r hP
        have p1 := Rg.pc_l hP
        have g0 := Rg.pc_r p1
        have q43 : bb.tmps[43]? = some (.int .i64 x.t) := hf.tmp (k := 25) rfl (by rw [ha]; decide) (Eq.trans (hA 25 (by kernel_rfl)) (Rg.cond_t hP))
        have q49 : bb.tmps[49]? = some (.int .i64 yt) := hf.tmp (k := 31) rfl (by rw [ha]; decide) (Eq.trans (hA 31 (by kernel_rfl)) (Rg.cond_t hP))
        exact Rg.op_value (o := ⟨some 50, Op.binOp BinOp.lss 2 (Operand.tmp 43) (Operand.tmp 49) 2, _, _, _, _⟩) (x := .bool (decide (x.t < yt))) rfl hw (by clear hA HS hN hO hX hK1 hK2; simp only [execOp]; go_simp) ⟨_, rfl, (fun h => by cases h), (Rg.cond_t hP).symm, hI, fun _ _ _ _ h => h⟩
    · intro ll bb w' hs hlf hN hO hf hI hA
      clear hi'
      have qg : bb.tmps[38]? = some (cond true (.bool (((!(vlB x.v)) || ((!x.k) && (x.v != 0))) || (!(tmv x.t)))) undef) := hf.tmp (k := 20) rfl (by rw [ha]; decide) (hA 20 (by kernel_rfl))
      cases hP : (true && ((((!(vlB x.v)) || ((!x.k) && (x.v != 0))) || (!(tmv x.t))) == false)) with
      | false => exact Rg.op_none (o := ⟨some 51, _, _, _, _, _⟩) rfl (Rg.unwanted_c (g := 20) rfl rfl qg hP) ⟨_, rfl, (fun h => by cases h), Rg.cond_f hP, hI, fun _ _ _ _ h => h⟩
      | true =>
        have hw := Rg.wanted_c (ops := (Rg.opsOf Try.f55 7)) (o := (Rg.opsOf Try.f55 7)[33]'(by rw [sizeRr7]; decide)) (g := 20) rfl rfl qg hP
        have g0 := Rg.pc_r hP
        have q41 : bb.tmps[41]? = some (.bool (decide ((0 : Int) < (i : Int)))) := hf.tmp (k := 23) rfl (by rw [ha]; decide) (Eq.trans (hA 23 (by kernel_rfl)) (Rg.cond_t hP))
        cases hC : (decide ((0 : Int) < (i : Int))) with
        | false =>
          have hval : ((.bool ((decide ((0 : Int) < (i : Int))) && (decide (x.t < yt))) : Value)) = .bool false := by rw [hC]; rfl
          exact Rg.op_value (o := ⟨some 51, Op.pick (Operand.tmp 41) (Operand.tmp 50) (Operand.const (Value.bool false)), _, _, _, _⟩) (x := .bool false) rfl hw (by rw [hC] at q41; clear hA HS hN hO hX hK1 hK2 hval; simp only [execOp]; go_simp) ⟨_, rfl, (fun h => by cases h), (by show ((.bool false : Value)) = _; exact hval.symm.trans (Rg.cond_t hP).symm), hI, fun _ _ _ _ h => h⟩
        | true =>
          have hB : ((true && ((((!(vlB x.v)) || ((!x.k) && (x.v != 0))) || (!(tmv x.t))) == false)) && ((decide ((0 : Int) < (i : Int))) == true)) = true := by
            rw [hC]; first | rfl | (rw [hP]; rfl) | simp_all
          have q50 : bb.tmps[50]? = some (.bool (decide (x.t < yt))) := hf.tmp (k := 32) rfl (by rw [ha]; decide) (Eq.trans (hA 32 (by kernel_rfl)) (Rg.cond_t hB))
          have hval : ((.bool ((decide ((0 : Int) < (i : Int))) && (decide (x.t < yt))) : Value)) = .bool (decide (x.t < yt)) := by rw [hC]; rfl
          exact Rg.op_value (o := ⟨some 51, Op.pick (Operand.tmp 41) (Operand.tmp 50) (Operand.const (Value.bool false)), _, _, _, _⟩) (x := .bool (decide (x.t < yt))) rfl hw (by rw [hC] at q41; clear hA HS hN hO hX hK1 hK2 hval; simp only [execOp]; go_simp) ⟨_, rfl, (fun h => by cases h), (by show ((.bool (decide (x.t < yt)) : Value)) = _; exact hval.symm.trans (Rg.cond_t hP).symm), hI, fun _ _ _ _ h => h⟩
    · intro ll bb w' hs hlf hN hO hf hI hA
      clear hi'
      have q38 : bb.tmps[38]? = some _ := hf.tmp (k := 20) rfl (by rw [ha]; decide) (hA 20 (by kernel_rfl))
      cases hC : (((!(vlB x.v)) || ((!x.k) && (x.v != 0))) || (!(tmv x.t))) with
      | false =>
        have hB : (true && ((((!(vlB x.v)) || ((!x.k) && (x.v != 0))) || (!(tmv x.t))) == false)) = true := by rw [hC]; rfl
        have q51 : bb.tmps[51]? = some (.bool ((decide ((0 : Int) < (i : Int))) && (decide (x.t < yt)))) := hf.tmp (k := 33) rfl (by rw [ha]; decide) (Eq.trans (hA 33 (by kernel_rfl)) (Rg.cond_t hB))
        have hval : ((.bool ((((!(vlB x.v)) || ((!x.k) && (x.v != 0))) || (!(tmv x.t))) || ((decide ((0 : Int) < (i : Int))) && (decide (x.t < yt)))) : Value)) = .bool ((decide ((0 : Int) < (i : Int))) && (decide (x.t < yt))) := by rw [hC]; rfl
        exact Rg.op_value (o := ⟨some 52, Op.pick (Operand.tmp 38) (Operand.const (Value.bool true)) (Operand.tmp 51), _, _, _, _⟩) (x := .bool ((decide ((0 : Int) < (i : Int))) && (decide (x.t < yt)))) rfl rfl (by rw [hC] at q38; clear hA HS hN hO hX hK1 hK2 hval; simp only [execOp]; go_simp) ⟨_, rfl, (fun h => by cases h), (by show ((.bool ((decide ((0 : Int) < (i : Int))) && (decide (x.t < yt))) : Value)) = _; exact hval.symm), hI, fun _ _ _ _ h => h⟩
      | true =>
        have hval : ((.bool ((((!(vlB x.v)) || ((!x.k) && (x.v != 0))) || (!(tmv x.t))) || ((decide ((0 : Int) < (i : Int))) && (decide (x.t < yt)))) : Value)) = .bool true := by rw [hC]; rfl
        exact Rg.op_value (o := ⟨some 52, Op.pick (Operand.tmp 38) (Operand.const (Value.bool true)) (Operand.tmp 51), _, _, _, _⟩) (x := .bool true) rfl rfl (by rw [hC] at q38; clear hA HS hN hO hX hK1 hK2 hval; simp only [execOp]; go_simp) ⟨_, rfl, (fun h => by cases h), (by show ((.bool true : Value)) = _; exact hval.symm), hI, fun _ _ _ _ h => h⟩

theorem dRr7_0 : Rg.dstAt (Rg.opsOf Try.f55 7) 0 = some 18 := by kernel_rfl
theorem dRr7_1 : Rg.dstAt (Rg.opsOf Try.f55 7) 1 = some 19 := by kernel_rfl
theorem dRr7_2 : Rg.dstAt (Rg.opsOf Try.f55 7) 2 = some 20 := by kernel_rfl
theorem dRr7_3 : Rg.dstAt (Rg.opsOf Try.f55 7) 3 = some 21 := by kernel_rfl
theorem dRr7_4 : Rg.dstAt (Rg.opsOf Try.f55 7) 4 = some 22 := by kernel_rfl
theorem dRr7_5 : Rg.dstAt (Rg.opsOf Try.f55 7) 5 = some 23 := by kernel_rfl
theorem dRr7_6 : Rg.dstAt (Rg.opsOf Try.f55 7) 6 = some 24 := by kernel_rfl
theorem dRr7_7 : Rg.dstAt (Rg.opsOf Try.f55 7) 7 = some 25 := by kernel_rfl
theorem dRr7_8 : Rg.dstAt (Rg.opsOf Try.f55 7) 8 = some 26 := by kernel_rfl
theorem dRr7_9 : Rg.dstAt (Rg.opsOf Try.f55 7) 9 = some 27 := by kernel_rfl
theorem dRr7_10 : Rg.dstAt (Rg.opsOf Try.f55 7) 10 = some 28 := by kernel_rfl
theorem dRr7_11 : Rg.dstAt (Rg.opsOf Try.f55 7) 11 = some 29 := by kernel_rfl
theorem dRr7_12 : Rg.dstAt (Rg.opsOf Try.f55 7) 12 = some 30 := by kernel_rfl
theorem dRr7_13 : Rg.dstAt (Rg.opsOf Try.f55 7) 13 = some 31 := by kernel_rfl
theorem dRr7_14 : Rg.dstAt (Rg.opsOf Try.f55 7) 14 = some 32 := by kernel_rfl
theorem dRr7_15 : Rg.dstAt (Rg.opsOf Try.f55 7) 15 = some 33 := by kernel_rfl
theorem dRr7_16 : Rg.dstAt (Rg.opsOf Try.f55 7) 16 = some 34 := by kernel_rfl
theorem dRr7_17 : Rg.dstAt (Rg.opsOf Try.f55 7) 17 = some 35 := by kernel_rfl
theorem dRr7_18 : Rg.dstAt (Rg.opsOf Try.f55 7) 18 = some 36 := by kernel_rfl
theorem dRr7_19 : Rg.dstAt (Rg.opsOf Try.f55 7) 19 = some 37 := by kernel_rfl
theorem dRr7_20 : Rg.dstAt (Rg.opsOf Try.f55 7) 20 = some 38 := by kernel_rfl
theorem dRr7_21 : Rg.dstAt (Rg.opsOf Try.f55 7) 21 = some 39 := by kernel_rfl
theorem dRr7_22 : Rg.dstAt (Rg.opsOf Try.f55 7) 22 = some 40 := by kernel_rfl
theorem dRr7_23 : Rg.dstAt (Rg.opsOf Try.f55 7) 23 = some 41 := by kernel_rfl
theorem dRr7_24 : Rg.dstAt (Rg.opsOf Try.f55 7) 24 = some 42 := by kernel_rfl
theorem dRr7_25 : Rg.dstAt (Rg.opsOf Try.f55 7) 25 = some 43 := by kernel_rfl
theorem dRr7_26 : Rg.dstAt (Rg.opsOf Try.f55 7) 26 = some 44 := by kernel_rfl
theorem dRr7_27 : Rg.dstAt (Rg.opsOf Try.f55 7) 27 = some 45 := by kernel_rfl
theorem dRr7_28 : Rg.dstAt (Rg.opsOf Try.f55 7) 28 = some 46 := by kernel_rfl
theorem dRr7_29 : Rg.dstAt (Rg.opsOf Try.f55 7) 29 = some 47 := by kernel_rfl
theorem dRr7_30 : Rg.dstAt (Rg.opsOf Try.f55 7) 30 = some 48 := by kernel_rfl
theorem dRr7_31 : Rg.dstAt (Rg.opsOf Try.f55 7) 31 = some 49 := by kernel_rfl
theorem dRr7_32 : Rg.dstAt (Rg.opsOf Try.f55 7) 32 = some 50 := by kernel_rfl
theorem dRr7_33 : Rg.dstAt (Rg.opsOf Try.f55 7) 33 = some 51 := by kernel_rfl
theorem dRr7_34 : Rg.dstAt (Rg.opsOf Try.f55 7) 34 = some 52 := by kernel_rfl
theorem layRr7 {a b : Act} (hf : Rg.Fr (Rg.opsOf Try.f55 7) a b) : b = (((((((((((((((((((((((((((((((((((a.put (some 18) (Rg.out (Rg.opsOf Try.f55 7) b 0)).put (some 19) (Rg.out (Rg.opsOf Try.f55 7) b 1)).put (some 20) (Rg.out (Rg.opsOf Try.f55 7) b 2)).put (some 21) (Rg.out (Rg.opsOf Try.f55 7) b 3)).put (some 22) (Rg.out (Rg.opsOf Try.f55 7) b 4)).put (some 23) (Rg.out (Rg.opsOf Try.f55 7) b 5)).put (some 24) (Rg.out (Rg.opsOf Try.f55 7) b 6)).put (some 25) (Rg.out (Rg.opsOf Try.f55 7) b 7)).put (some 26) (Rg.out (Rg.opsOf Try.f55 7) b 8)).put (some 27) (Rg.out (Rg.opsOf Try.f55 7) b 9)).put (some 28) (Rg.out (Rg.opsOf Try.f55 7) b 10)).put (some 29) (Rg.out (Rg.opsOf Try.f55 7) b 11)).put (some 30) (Rg.out (Rg.opsOf Try.f55 7) b 12)).put (some 31) (Rg.out (Rg.opsOf Try.f55 7) b 13)).put (some 32) (Rg.out (Rg.opsOf Try.f55 7) b 14)).put (some 33) (Rg.out (Rg.opsOf Try.f55 7) b 15)).put (some 34) (Rg.out (Rg.opsOf Try.f55 7) b 16)).put (some 35) (Rg.out (Rg.opsOf Try.f55 7) b 17)).put (some 36) (Rg.out (Rg.opsOf Try.f55 7) b 18)).put (some 37) (Rg.out (Rg.opsOf Try.f55 7) b 19)).put (some 38) (Rg.out (Rg.opsOf Try.f55 7) b 20)).put (some 39) (Rg.out (Rg.opsOf Try.f55 7) b 21)).put (some 40) (Rg.out (Rg.opsOf Try.f55 7) b 22)).put (some 41) (Rg.out (Rg.opsOf Try.f55 7) b 23)).put (some 42) (Rg.out (Rg.opsOf Try.f55 7) b 24)).put (some 43) (Rg.out (Rg.opsOf Try.f55 7) b 25)).put (some 44) (Rg.out (Rg.opsOf Try.f55 7) b 26)).put (some 45) (Rg.out (Rg.opsOf Try.f55 7) b 27)).put (some 46) (Rg.out (Rg.opsOf Try.f55 7) b 28)).put (some 47) (Rg.out (Rg.opsOf Try.f55 7) b 29)).put (some 48) (Rg.out (Rg.opsOf Try.f55 7) b 30)).put (some 49) (Rg.out (Rg.opsOf Try.f55 7) b 31)).put (some 50) (Rg.out (Rg.opsOf Try.f55 7) b 32)).put (some 51) (Rg.out (Rg.opsOf Try.f55 7) b 33)).put (some 52) (Rg.out (Rg.opsOf Try.f55 7) b 34)) := by
  have h := hf.chain
  rw [sizeRr7, show List.range 35 = [0, 1, 2, 3, 4, 5, 6, 7, 8, 9, 10, 11, 12, 13, 14, 15, 16, 17, 18, 19, 20, 21, 22, 23, 24, 25, 26, 27, 28, 29, 30, 31, 32, 33, 34] from by decide] at h
  simp only [List.foldl_cons, List.foldl_nil, dRr7_0, dRr7_1, dRr7_2, dRr7_3, dRr7_4, dRr7_5, dRr7_6, dRr7_7, dRr7_8, dRr7_9, dRr7_10, dRr7_11, dRr7_12, dRr7_13, dRr7_14, dRr7_15, dRr7_16, dRr7_17, dRr7_18, dRr7_19, dRr7_20, dRr7_21, dRr7_22, dRr7_23, dRr7_24, dRr7_25, dRr7_26, dRr7_27, dRr7_28, dRr7_29, dRr7_30, dRr7_31, dRr7_32, dRr7_33, dRr7_34] at h
  exact h

def FRi6 (B g off n cap i : Nat) (x : Rs) (yt : Int) (i9 : Nat) (v : Value) (w : World) : Prop :=
  match i9 with
  | 0 => v = .agg #[.int .i64 x.v, .int .i64 x.t, .bool x.k]
  | 1 => v = .bool (resB x)
  | 2 => v = .bool (!(resB x))
  | 3 => v = .bool (!(resB x))
  | 4 => v = cond (true && ((!(resB x)) == false)) (.int .i64 (i : Nat)) undef
  | 5 => v = cond (true && ((!(resB x)) == false)) (.bool (decide ((0 : Int) < (i : Int)))) undef
  | 6 => v = cond (true && ((!(resB x)) == false)) (.bool (decide ((0 : Int) < (i : Int)))) undef
  | 7 => v = cond ((true && ((!(resB x)) == false)) && ((decide ((0 : Int) < (i : Int))) == true)) (.pointer (some ⟨B, 1, none⟩)) undef
  | 8 => v = cond ((true && ((!(resB x)) == false)) && ((decide ((0 : Int) < (i : Int))) == true)) (.int .i64 x.t) undef
  | 9 => v = cond ((true && ((!(resB x)) == false)) && ((decide ((0 : Int) < (i : Int))) == true)) (.slice (some ⟨g, off, none⟩) n cap) undef
  | 10 => v = cond ((true && ((!(resB x)) == false)) && ((decide ((0 : Int) < (i : Int))) == true)) (.int .i64 (i : Nat)) undef
  | 11 => v = cond ((true && ((!(resB x)) == false)) && ((decide ((0 : Int) < (i : Int))) == true)) (.int .i64 ((i - 1 : Nat) : Int)) undef
  | 12 => v = cond ((true && ((!(resB x)) == false)) && ((decide ((0 : Int) < (i : Int))) == true)) (.pointer (some ⟨g, off + (i - 1) * 3, none⟩)) undef
  | 13 => v = cond ((true && ((!(resB x)) == false)) && ((decide ((0 : Int) < (i : Int))) == true)) (.pointer (some ⟨g, off + (i - 1) * 3 + 1, none⟩)) undef
  | 14 => v = cond ((true && ((!(resB x)) == false)) && ((decide ((0 : Int) < (i : Int))) == true)) (.int .i64 yt) undef
  | 15 => v = cond ((true && ((!(resB x)) == false)) && ((decide ((0 : Int) < (i : Int))) == true)) (.bool (decide (x.t < yt))) undef
  | 16 => v = cond (true && ((!(resB x)) == false)) (.bool ((decide ((0 : Int) < (i : Int))) && (decide (x.t < yt)))) undef
  | 17 => v = .bool ((!(resB x)) || ((decide ((0 : Int) < (i : Int))) && (decide (x.t < yt))))
  | _ => True
theorem sizeRi6 : (Rg.opsOf Try.f53 6).size = 18 := by kernel_rfl

set_option maxRecDepth 20000 in
set_option maxHeartbeats 8000000 in
theorem regRi6 {Q : Exit → Act → World → Prop} {a : Act} {w9 : World} {B g off n cap i : Nat} {x : Rs} {yt : Int} (ha : a.tmps.size = 34)
    (k0 : a.tmps[0]? = some (.slice (some ⟨g, off, none⟩) n cap)) (k3 : a.tmps[3]? = some (.int .i64 (i : Nat))) (k4 : a.tmps[4]? = some (.pointer (some ⟨B, 0, none⟩))) (hX : PB w9 B #[.int .i64 x.v, .int .i64 x.t, .bool x.k] 46) (hin : i < n) (hil : i < 1000000) (hgl : g < w9.heap.size) (y0 : 0 < i → w9.cell? ⟨g, off + (i - 1) * 3 + 1, none⟩ = some (.int .i64 yt)) (hK : ∀ W, Calls Try.prog 68 #[.agg #[.int .i64 x.v, .int .i64 x.t, .bool x.k]] W fun e W' => e = .returned (.bool (resB x)) ∧ Below W.heap.size W W')
    (hend : ∀ b' w', Rg.Fr (Rg.opsOf Try.f53 6) a b' → Below w9.heap.size w9 w' → Rg.out (Rg.opsOf Try.f53 6) b' 17 = .bool ((!(resB x)) || ((decide ((0 : Int) < (i : Int))) && (decide (x.t < yt)))) → Q .normal b' w') :
    (Code.region 6 (Rg.opsOf Try.f53 6) true).wp Try.prog Q a w9 := by
  refine Rg.region_set3 (by kernel_rfl) (fun _ w' => Below w9.heap.size w9 w') (FRi6 B g off n cap i x yt) (by rw [ha, sizeRi6]; kernel_rfl) (st_drew (Below.refl _ _)) ?_ ?_
  case refine_2 =>
    intro l b' w' hf hall hI hA
    rw [sizeRi6] at hA
    exact hend b' w' hf hI (hA 17 (by decide))
  case refine_1 =>
    clear hend
    have HS : ∀ {w w' : World}, Below w.heap.size w w' → ∀ k9 y9, FRi6 B g off n cap i x yt k9 y9 w → FRi6 B g off n cap i x yt k9 y9 w' := fun hb k9 y9 h => by
      unfold FRi6 at *
      split at h <;> exact h
    intro i' hi'
    rw [sizeRi6] at hi'
    rcases (show i' = 0 ∨ i' = 1 ∨ i' = 2 ∨ i' = 3 ∨ i' = 4 ∨ i' = 5 ∨ i' = 6 ∨ i' = 7 ∨ i' = 8 ∨ i' = 9 ∨ i' = 10 ∨ i' = 11 ∨ i' = 12 ∨ i' = 13 ∨ i' = 14 ∨ i' = 15 ∨ i' = 16 ∨ i' = 17 by omega) with rfl | rfl | rfl | rfl | rfl | rfl | rfl | rfl | rfl | rfl | rfl | rfl | rfl | rfl | rfl | rfl | rfl | rfl
    · intro ll bb w' hs hlf hN hO hf hI hA
      clear hi'
      have q4 := hf.kept (s := 4) (by rw [sizeRi6]; kernel_rfl) k4
      obtain ⟨b0, b1, b2⟩ := (hX.below hI).three
      exact Rg.op_value (o := ⟨some 15, Op.load 46 (Operand.tmp 4), _, _, _, _⟩) (x := .agg #[.int .i64 x.v, .int .i64 x.t, .bool x.k]) rfl rfl (by clear hA HS hN hO hX hK; simp only [execOp]; go_simp) ⟨_, rfl, (fun h => by cases h), rfl, hI, fun _ _ _ _ h => h⟩
    · intro ll bb w' hs hlf hN hO hf hI hA
      clear hi'
      have q15 : bb.tmps[15]? = some _ := hf.tmp (k := 0) rfl (by rw [ha]; decide) (hA 0 (by kernel_rfl))
      refine Rg.op_call (o := ⟨some 16, Op.call { callee := Callee.value (Operand.func 68), args := #[(Operand.tmp 15)], argTypes := _ }, _, _, _, _⟩) rfl rfl (by clear hA HS hN hO hX hK; simp only [execOp, resolve]; go_simp) (hK w') ?_
      rintro e w2 ⟨rfl, hb2⟩
      exact ⟨_, rfl, _, rfl, (fun h => by cases h), rfl, onto hI hb2, fun k9 y9 _ _ h => HS hb2 k9 y9 h⟩
    · intro ll bb w' hs hlf hN hO hf hI hA
      clear hi'
      have q16 : bb.tmps[16]? = some _ := hf.tmp (k := 1) rfl (by rw [ha]; decide) (hA 1 (by kernel_rfl))
      exact Rg.op_value (o := ⟨some 17, Op.unOp UnOp.not 4 (Operand.tmp 16), _, _, _, _⟩) (x := .bool (!(resB x))) rfl rfl (by clear hA HS hN hO hX hK; simp only [execOp]; go_simp) ⟨_, rfl, (fun h => by cases h), rfl, hI, fun _ _ _ _ h => h⟩
    · intro ll bb w' hs hlf hN hO hf hI hA
      clear hi'
      have q17 : bb.tmps[17]? = some _ := hf.tmp (k := 2) rfl (by rw [ha]; decide) (hA 2 (by kernel_rfl))
      exact Rg.op_value (o := ⟨some 18, Op.move (Operand.tmp 17), _, _, _, _⟩) (x := .bool (!(resB x))) rfl rfl (by clear hA HS hN hO hX hK; simp only [execOp]; go_simp) ⟨_, rfl, (fun h => by cases h), rfl, hI, fun _ _ _ _ h => h⟩
    · intro ll bb w' hs hlf hN hO hf hI hA
      clear hi'
      have qg : bb.tmps[18]? = some (cond true (.bool (!(resB x))) undef) := hf.tmp (k := 3) rfl (by rw [ha]; decide) (hA 3 (by kernel_rfl))
      cases hP : (true && ((!(resB x)) == false)) with
      | false => exact Rg.op_none (o := ⟨some 19, _, _, _, _, _⟩) rfl (Rg.unwanted_c (g := 3) rfl rfl qg hP) ⟨_, rfl, (fun h => by cases h), Rg.cond_f hP, hI, fun _ _ _ _ h => h⟩
      | true =>
        have hw := Rg.wanted_c (ops := (Rg.opsOf Try.f53 6)) (o := (Rg.opsOf Try.f53 6)[4]'(by rw [sizeRi6]; decide)) (g := 3) rfl rfl qg hP
        have g0 := Rg.pc_r hP
        have q0 := hf.kept (s := 3) (by rw [sizeRi6]; kernel_rfl) k3
        exact Rg.op_value (o := ⟨some 19, Op.move (Operand.tmp 3), _, _, _, _⟩) (x := .int .i64 (i : Nat)) rfl hw (by clear hA HS hN hO hX hK; simp only [execOp]; go_simp) ⟨_, rfl, (fun h => by cases h), (Rg.cond_t hP).symm, hI, fun _ _ _ _ h => h⟩
    · intro ll bb w' hs hlf hN hO hf hI hA
      clear hi'
      have qg : bb.tmps[18]? = some (cond true (.bool (!(resB x))) undef) := hf.tmp (k := 3) rfl (by rw [ha]; decide) (hA 3 (by kernel_rfl))
      cases hP : (true && ((!(resB x)) == false)) with
      | false => exact Rg.op_none (o := ⟨some 20, _, _, _, _, _⟩) rfl (Rg.unwanted_c (g := 3) rfl rfl qg hP) ⟨_, rfl, (fun h => by cases h), Rg.cond_f hP, hI, fun _ _ _ _ h => h⟩
      | true =>
        have hw := Rg.wanted_c (ops := (Rg.opsOf Try.f53 6)) (o := (Rg.opsOf Try.f53 6)[5]'(by rw [sizeRi6]; decide)) (g := 3) rfl rfl qg hP
        have g0 := Rg.pc_r hP
        have q19 : bb.tmps[19]? = some (.int .i64 (i : Nat)) := hf.tmp (k := 4) rfl (by rw [ha]; decide) (Eq.trans (hA 4 (by kernel_rfl)) (Rg.cond_t hP))
        exact Rg.op_value (o := ⟨some 20, Op.binOp BinOp.gtr 3 (Operand.tmp 19) (Operand.const (Value.int .i64 0)) 3, _, _, _, _⟩) (x := .bool (decide ((0 : Int) < (i : Int)))) rfl hw (by clear hA HS hN hO hX hK; simp only [execOp]; go_simp) ⟨_, rfl, (fun h => by cases h), (Rg.cond_t hP).symm, hI, fun _ _ _ _ h => h⟩
    · intro ll bb w' hs hlf hN hO hf hI hA
      clear hi'
      have qg : bb.tmps[18]? = some (cond true (.bool (!(resB x))) undef) := hf.tmp (k := 3) rfl (by rw [ha]; decide) (hA 3 (by kernel_rfl))
      cases hP : (true && ((!(resB x)) == false)) with
      | false => exact Rg.op_none (o := ⟨some 21, _, _, _, _, _⟩) rfl (Rg.unwanted_c (g := 3) rfl rfl qg hP) ⟨_, rfl, (fun h => by cases h), Rg.cond_f hP, hI, fun _ _ _ _ h => h⟩
      | true =>
        have hw := Rg.wanted_c (ops := (Rg.opsOf Try.f53 6)) (o := (Rg.opsOf Try.f53 6)[6]'(by rw [sizeRi6]; decide)) (g := 3) rfl rfl qg hP
        have g0 := Rg.pc_r hP
        have q20 : bb.tmps[20]? = some (.bool (decide ((0 : Int) < (i : Int)))) := hf.tmp (k := 5) rfl (by rw [ha]; decide) (Eq.trans (hA 5 (by kernel_rfl)) (Rg.cond_t hP))
        exact Rg.op_value (o := ⟨some 21, Op.move (Operand.tmp 20), _, _, _, _⟩) (x := .bool (decide ((0 : Int) < (i : Int)))) rfl hw (by clear hA HS hN hO hX hK; simp only [execOp]; go_simp) ⟨_, rfl, (fun h => by cases h), (Rg.cond_t hP).symm, hI, fun _ _ _ _ h => h⟩
    · intro ll bb w' hs hlf hN hO hf hI hA
      clear hi'
      have qg : bb.tmps[21]? = some (cond (true && ((!(resB x)) == false)) (.bool (decide ((0 : Int) < (i : Int)))) undef) := hf.tmp (k := 6) rfl (by rw [ha]; decide) (hA 6 (by kernel_rfl))
      cases hP : ((true && ((!(resB x)) == false)) && ((decide ((0 : Int) < (i : Int))) == true)) with
      | false => exact Rg.op_none (o := ⟨some 22, _, _, _, _, _⟩) rfl (Rg.unwanted_c (g := 6) rfl rfl qg hP) ⟨_, rfl, (fun h => by cases h), Rg.cond_f hP, hI, fun _ _ _ _ h => h⟩
      | true =>
        have hw := Rg.wanted_c (ops := (Rg.opsOf Try.f53 6)) (o := (Rg.opsOf Try.f53 6)[7]'(by rw [sizeRi6]; decide)) (g := 6) rfl rfl qg hP
        have g1 := Rg.pc_r hP
        have p1 := Rg.pc_l hP
        have g0 := Rg.pc_r p1
        have q4 := hf.kept (s := 4) (by rw [sizeRi6]; kernel_rfl) k4
        exact Rg.op_value (o := ⟨some 22, Op.fieldAddr 46 (Operand.tmp 4) 1, _, _, _, _⟩) (x := .pointer (some ⟨B, 1, none⟩)) rfl hw (by clear hA HS hN hO hX hK; simp only [execOp]; go_simp) ⟨_, rfl, (fun h => by cases h), (Rg.cond_t hP).symm, hI, fun _ _ _ _ h => h⟩
    · intro ll bb w' hs hlf hN hO hf hI hA
      clear hi'
      have qg : bb.tmps[21]? = some (cond (true && ((!(resB x)) == false)) (.bool (decide ((0 : Int) < (i : Int)))) undef) := hf.tmp (k := 6) rfl (by rw [ha]; decide) (hA 6 (by kernel_rfl))
      cases hP : ((true && ((!(resB x)) == false)) && ((decide ((0 : Int) < (i : Int))) == true)) with
      | false => exact Rg.op_none (o := ⟨some 23, _, _, _, _, _⟩) rfl (Rg.unwanted_c (g := 6) rfl rfl qg hP) ⟨_, rfl, (fun h => by cases h), Rg.cond_f hP, hI, fun _ _ _ _ h => h⟩
      | true =>
        have hw := Rg.wanted_c (ops := (Rg.opsOf Try.f53 6)) (o := (Rg.opsOf Try.f53 6)[8]'(by rw [sizeRi6]; decide)) (g := 6) rfl rfl qg hP
        have g1 := Rg.pc_r hP
        have p1 := Rg.pc_l hP
        have g0 := Rg.pc_r p1
        have q22 : bb.tmps[22]? = some (.pointer (some ⟨B, 1, none⟩)) := hf.tmp (k := 7) rfl (by rw [ha]; decide) (Eq.trans (hA 7 (by kernel_rfl)) (Rg.cond_t hP))
        obtain ⟨b0, b1, b2⟩ := (hX.below hI).three
        exact Rg.op_value (o := ⟨some 23, Op.load 2 (Operand.tmp 22), _, _, _, _⟩) (x := .int .i64 x.t) rfl hw (by clear hA HS hN hO hX hK; simp only [execOp]; go_simp) ⟨_, rfl, (fun h => by cases h), (Rg.cond_t hP).symm, hI, fun _ _ _ _ h => h⟩
    · intro ll bb w' hs hlf hN hO hf hI hA
      clear hi'
      have qg : bb.tmps[21]? = some (cond (true && ((!(resB x)) == false)) (.bool (decide ((0 : Int) < (i : Int)))) undef) := hf.tmp (k := 6) rfl (by rw [ha]; decide) (hA 6 (by kernel_rfl))
      cases hP : ((true && ((!(resB x)) == false)) && ((decide ((0 : Int) < (i : Int))) == true)) with
      | false => exact Rg.op_none (o := ⟨some 24, _, _, _, _, _⟩) rfl (Rg.unwanted_c (g := 6) rfl rfl qg hP) ⟨_, rfl, (fun h => by cases h), Rg.cond_f hP, hI, fun _ _ _ _ h => h⟩
      | true =>
        have hw := Rg.wanted_c (ops := (Rg.opsOf Try.f53 6)) (o := (Rg.opsOf Try.f53 6)[9]'(by rw [sizeRi6]; decide)) (g := 6) rfl rfl qg hP
        have g1 := Rg.pc_r hP
        have p1 := Rg.pc_l hP
        have g0 := Rg.pc_r p1
        have q0 := hf.kept (s := 0) (by rw [sizeRi6]; kernel_rfl) k0
        exact Rg.op_value (o := ⟨some 24, Op.move (Operand.tmp 0), _, _, _, _⟩) (x := .slice (some ⟨g, off, none⟩) n cap) rfl hw (by clear hA HS hN hO hX hK; simp only [execOp]; go_simp) ⟨_, rfl, (fun h => by cases h), (Rg.cond_t hP).symm, hI, fun _ _ _ _ h => h⟩
    · intro ll bb w' hs hlf hN hO hf hI hA
      clear hi'
      have qg : bb.tmps[21]? = some (cond (true && ((!(resB x)) == false)) (.bool (decide ((0 : Int) < (i : Int)))) undef) := hf.tmp (k := 6) rfl (by rw [ha]; decide) (hA 6 (by kernel_rfl))
      cases hP : ((true && ((!(resB x)) == false)) && ((decide ((0 : Int) < (i : Int))) == true)) with
      | false => exact Rg.op_none (o := ⟨some 25, _, _, _, _, _⟩) rfl (Rg.unwanted_c (g := 6) rfl rfl qg hP) ⟨_, rfl, (fun h => by cases h), Rg.cond_f hP, hI, fun _ _ _ _ h => h⟩
      | true =>
        have hw := Rg.wanted_c (ops := (Rg.opsOf Try.f53 6)) (o := (Rg.opsOf Try.f53 6)[10]'(by rw [sizeRi6]; decide)) (g := 6) rfl rfl qg hP
        have g1 := Rg.pc_r hP
        have p1 := Rg.pc_l hP
        have g0 := Rg.pc_r p1
        have q0 := hf.kept (s := 3) (by rw [sizeRi6]; kernel_rfl) k3
        exact Rg.op_value (o := ⟨some 25, Op.move (Operand.tmp 3), _, _, _, _⟩) (x := .int .i64 (i : Nat)) rfl hw (by clear hA HS hN hO hX hK; simp only [execOp]; go_simp) ⟨_, rfl, (fun h => by cases h), (Rg.cond_t hP).symm, hI, fun _ _ _ _ h => h⟩
    · intro ll bb w' hs hlf hN hO hf hI hA
      clear hi'
      have qg : bb.tmps[21]? = some (cond (true && ((!(resB x)) == false)) (.bool (decide ((0 : Int) < (i : Int)))) undef) := hf.tmp (k := 6) rfl (by rw [ha]; decide) (hA 6 (by kernel_rfl))
      cases hP : ((true && ((!(resB x)) == false)) && ((decide ((0 : Int) < (i : Int))) == true)) with
      | false => exact Rg.op_none (o := ⟨some 26, _, _, _, _, _⟩) rfl (Rg.unwanted_c (g := 6) rfl rfl qg hP) ⟨_, rfl, (fun h => by cases h), Rg.cond_f hP, hI, fun _ _ _ _ h => h⟩
      | true =>
        have hw := Rg.wanted_c (ops := (Rg.opsOf Try.f53 6)) (o := (Rg.opsOf Try.f53 6)[11]'(by rw [sizeRi6]; decide)) (g := 6) rfl rfl qg hP
        have g1 := Rg.pc_r hP
        have p1 := Rg.pc_l hP
        have g0 := Rg.pc_r p1
        have q25 : bb.tmps[25]? = some (.int .i64 (i : Nat)) := hf.tmp (k := 10) rfl (by rw [ha]; decide) (Eq.trans (hA 10 (by kernel_rfl)) (Rg.cond_t hP))
        have hi0 : 0 < i := by have := g1; simp at this; omega
        have hwr : IntKind.i64.wrap ((i : Int) - 1) = ((i - 1 : Nat) : Int) := by rw [IntKind.wrap_i64]; omega
        exact Rg.op_value (o := ⟨some 26, Op.binOp BinOp.sub 3 (Operand.tmp 25) (Operand.const (Value.int .i64 1)) 3, _, _, _, _⟩) (x := .int .i64 ((i - 1 : Nat) : Int)) rfl hw (by clear hA HS hN hO hX hK; simp only [execOp]; go_simp) ⟨_, rfl, (fun h => by cases h), (Rg.cond_t hP).symm, hI, fun _ _ _ _ h => h⟩
    · intro ll bb w' hs hlf hN hO hf hI hA
      clear hi'
      have qg : bb.tmps[21]? = some (cond (true && ((!(resB x)) == false)) (.bool (decide ((0 : Int) < (i : Int)))) undef) := hf.tmp (k := 6) rfl (by rw [ha]; decide) (hA 6 (by kernel_rfl))
      cases hP : ((true && ((!(resB x)) == false)) && ((decide ((0 : Int) < (i : Int))) == true)) with
      | false => exact Rg.op_none (o := ⟨some 27, _, _, _, _, _⟩) rfl (Rg.unwanted_c (g := 6) rfl rfl qg hP) ⟨_, rfl, (fun h => by cases h), Rg.cond_f hP, hI, fun _ _ _ _ h => h⟩
      | true =>
        have hw := Rg.wanted_c (ops := (Rg.opsOf Try.f53 6)) (o := (Rg.opsOf Try.f53 6)[12]'(by rw [sizeRi6]; decide)) (g := 6) rfl rfl qg hP
        have g1 := Rg.pc_r hP
        have p1 := Rg.pc_l hP
        have g0 := Rg.pc_r p1
        have q24 : bb.tmps[24]? = some (.slice (some ⟨g, off, none⟩) n cap) := hf.tmp (k := 9) rfl (by rw [ha]; decide) (Eq.trans (hA 9 (by kernel_rfl)) (Rg.cond_t hP))
        have q26 : bb.tmps[26]? = some (.int .i64 ((i - 1 : Nat) : Int)) := hf.tmp (k := 11) rfl (by rw [ha]; decide) (Eq.trans (hA 11 (by kernel_rfl)) (Rg.cond_t hP))
        have hi0 : 0 < i := by have := g1; simp at this; omega
        have hi3 : ((i - 1 : Nat) : Int) < (n : Int) := by omega
        have hi4 : i - 1 < n := by omega
        exact Rg.op_value (o := ⟨some 27, Op.indexAddr 41 (Operand.tmp 24) (Operand.tmp 26), _, _, _, _⟩) (x := .pointer (some ⟨g, off + (i - 1) * 3, none⟩)) rfl hw (by clear hA HS hN hO hX hK; simp only [execOp]; go_simp) ⟨_, rfl, (fun h => by cases h), (Rg.cond_t hP).symm, hI, fun _ _ _ _ h => h⟩
    · intro ll bb w' hs hlf hN hO hf hI hA
      clear hi'
      have qg : bb.tmps[21]? = some (cond (true && ((!(resB x)) == false)) (.bool (decide ((0 : Int) < (i : Int)))) undef) := hf.tmp (k := 6) rfl (by rw [ha]; decide) (hA 6 (by kernel_rfl))
      cases hP : ((true && ((!(resB x)) == false)) && ((decide ((0 : Int) < (i : Int))) == true)) with
      | false => exact Rg.op_none (o := ⟨some 28, _, _, _, _, _⟩) rfl (Rg.unwanted_c (g := 6) rfl rfl qg hP) ⟨_, rfl, (fun h => by cases h), Rg.cond_f hP, hI, fun _ _ _ _ h => h⟩
      | true =>
        have hw := Rg.wanted_c (ops := (Rg.opsOf Try.f53 6)) (o := (Rg.opsOf Try.f53 6)[13]'(by rw [sizeRi6]; decide)) (g := 6) rfl rfl qg hP
        have g1 := Rg.pc_r hP
        have p1 := Rg.pc_l hP
        have g0 := Rg.pc_r p1
        have q27 : bb.tmps[27]? = some (.pointer (some ⟨g, off + (i - 1) * 3, none⟩)) := hf.tmp (k := 12) rfl (by rw [ha]; decide) (Eq.trans (hA 12 (by kernel_rfl)) (Rg.cond_t hP))
        exact Rg.op_value (o := ⟨some 28, Op.fieldAddr 46 (Operand.tmp 27) 1, _, _, _, _⟩) (x := .pointer (some ⟨g, off + (i - 1) * 3 + 1, none⟩)) rfl hw (by clear hA HS hN hO hX hK; simp only [execOp]; go_simp) ⟨_, rfl, (fun h => by cases h), (Rg.cond_t hP).symm, hI, fun _ _ _ _ h => h⟩
    · intro ll bb w' hs hlf hN hO hf hI hA
      clear hi'
      have qg : bb.tmps[21]? = some (cond (true && ((!(resB x)) == false)) (.bool (decide ((0 : Int) < (i : Int)))) undef) := hf.tmp (k := 6) rfl (by rw [ha]; decide) (hA 6 (by kernel_rfl))
      cases hP : ((true && ((!(resB x)) == false)) && ((decide ((0 : Int) < (i : Int))) == true)) with
      | false => exact Rg.op_none (o := ⟨some 29, _, _, _, _, _⟩) rfl (Rg.unwanted_c (g := 6) rfl rfl qg hP) ⟨_, rfl, (fun h => by cases h), Rg.cond_f hP, hI, fun _ _ _ _ h => h⟩
      | true =>
        have hw := Rg.wanted_c (ops := (Rg.opsOf Try.f53 6)) (o := (Rg.opsOf Try.f53 6)[14]'(by rw [sizeRi6]; decide)) (g := 6) rfl rfl qg hP
        have g1 := Rg.pc_r hP
        have p1 := Rg.pc_l hP
        have g0 := Rg.pc_r p1
        have q28 : bb.tmps[28]? = some (.pointer (some ⟨g, off + (i - 1) * 3 + 1, none⟩)) := hf.tmp (k := 13) rfl (by rw [ha]; decide) (Eq.trans (hA 13 (by kernel_rfl)) (Rg.cond_t hP))
        have hi0 : 0 < i := by have := g1; simp at this; omega
        have e9 := (hI.cell (p := ⟨g, off + (i - 1) * 3 + 1, none⟩) hgl).trans (y0 hi0)
        exact Rg.op_value (o := ⟨some 29, Op.load 2 (Operand.tmp 28), _, _, _, _⟩) (x := .int .i64 yt) rfl hw (by clear hA HS hN hO hX hK; simp only [execOp]; go_simp) ⟨_, rfl, (fun h => by cases h), (Rg.cond_t hP).symm, hI, fun _ _ _ _ h => h⟩
    · intro ll bb w' hs hlf hN hO hf hI hA
      clear hi'
      have qg : bb.tmps[21]? = some (cond (true && ((!(resB x)) == false)) (.bool (decide ((0 : Int) < (i : Int)))) undef) := hf.tmp (k := 6) rfl (by rw [ha]; decide) (hA 6 (by kernel_rfl))
      cases hP : ((true && ((!(resB x)) == false)) && ((decide ((0 : Int) < (i : Int))) == true)) with
      | false => exact Rg.op_none (o := ⟨some 30, _, _, _, _, _⟩) rfl (Rg.unwanted_c (g := 6) rfl rfl qg hP) ⟨_, rfl, (fun h => by cases h), Rg.cond_f hP, hI, fun _ _ _ _ h => h⟩
      | true =>
        have hw := Rg.wanted_c (ops := (Rg.opsOf Try.f53 6)) (o := (Rg.opsOf Try.f53 6)[15]'(by rw [sizeRi6]; decide)) (g := 6) rfl rfl qg hP
        have g1 := Rg.pc_r hP
        have p1 := Rg.pc_l hP
        have g0 := Rg.pc_r p1
        have q23 : bb.tmps[23]? = some (.int .i64 x.t) := hf.tmp (k := 8) rfl (by rw [ha]; decide) (Eq.trans (hA 8 (by kernel_rfl)) (Rg.cond_t hP))
        have q29 : bb.tmps[29]? = some (.int .i64 yt) := hf.tmp (k := 14) rfl (by rw [ha]; decide) (Eq.trans (hA 14 (by kernel_rfl)) (Rg.cond_t hP))
        exact Rg.op_value (o := ⟨some 30, Op.binOp BinOp.lss 2 (Operand.tmp 23) (Operand.tmp 29) 2, _, _, _, _⟩) (x := .bool (decide (x.t < yt))) rfl hw (by clear hA HS hN hO hX hK; simp only [execOp]; go_simp) ⟨_, rfl, (fun h => by cases h), (Rg.cond_t hP).symm, hI, fun _ _ _ _ h => h⟩
    · intro ll bb w' hs hlf hN hO hf hI hA
      clear hi'
      have qg : bb.tmps[18]? = some (cond true (.bool (!(resB x))) undef) := hf.tmp (k := 3) rfl (by rw [ha]; decide) (hA 3 (by kernel_rfl))
      cases hP : (true && ((!(resB x)) == false)) with
      | false => exact Rg.op_none (o := ⟨some 31, _, _, _, _, _⟩) rfl (Rg.unwanted_c (g := 3) rfl rfl qg hP) ⟨_, rfl, (fun h => by cases h), Rg.cond_f hP, hI, fun _ _ _ _ h => h⟩
      | true =>
        have hw := Rg.wanted_c (ops := (Rg.opsOf Try.f53 6)) (o := (Rg.opsOf Try.f53 6)[16]'(by rw [sizeRi6]; decide)) (g := 3) rfl rfl qg hP
        have g0 := Rg.pc_r hP
        have q21 : bb.tmps[21]? = some (.bool (decide ((0 : Int) < (i : Int)))) := hf.tmp (k := 6) rfl (by rw [ha]; decide) (Eq.trans (hA 6 (by kernel_rfl)) (Rg.cond_t hP))
        cases hC : (decide ((0 : Int) < (i : Int))) with
        | false =>
          have hval : ((.bool ((decide ((0 : Int) < (i : Int))) && (decide (x.t < yt))) : Value)) = .bool false := by rw [hC]; rfl
          exact Rg.op_value (o := ⟨some 31, Op.pick (Operand.tmp 21) (Operand.tmp 30) (Operand.const (Value.bool false)), _, _, _, _⟩) (x := .bool false) rfl hw (by rw [hC] at q21; clear hA HS hN hO hX hK hval; simp only [execOp]; go_simp) ⟨_, rfl, (fun h => by cases h), (by show ((.bool false : Value)) = _; exact hval.symm.trans (Rg.cond_t hP).symm), hI, fun _ _ _ _ h => h⟩
        | true =>
          have hB : ((true && ((!(resB x)) == false)) && ((decide ((0 : Int) < (i : Int))) == true)) = true := by
            rw [hC]; first | rfl | (rw [hP]; rfl) | simp_all
          have q30 : bb.tmps[30]? = some (.bool (decide (x.t < yt))) := hf.tmp (k := 15) rfl (by rw [ha]; decide) (Eq.trans (hA 15 (by kernel_rfl)) (Rg.cond_t hB))
          have hval : ((.bool ((decide ((0 : Int) < (i : Int))) && (decide (x.t < yt))) : Value)) = .bool (decide (x.t < yt)) := by rw [hC]; rfl
          exact Rg.op_value (o := ⟨some 31, Op.pick (Operand.tmp 21) (Operand.tmp 30) (Operand.const (Value.bool false)), _, _, _, _⟩) (x := .bool (decide (x.t < yt))) rfl hw (by rw [hC] at q21; clear hA HS hN hO hX hK hval; simp only [execOp]; go_simp) ⟨_, rfl, (fun h => by cases h), (by show ((.bool (decide (x.t < yt)) : Value)) = _; exact hval.symm.trans (Rg.cond_t hP).symm), hI, fun _ _ _ _ h => h⟩
    · intro ll bb w' hs hlf hN hO hf hI hA
      clear hi'
      have q18 : bb.tmps[18]? = some _ := hf.tmp (k := 3) rfl (by rw [ha]; decide) (hA 3 (by kernel_rfl))
      cases hC : (!(resB x)) with
      | false =>
        have hB : (true && ((!(resB x)) == false)) = true := by rw [hC]; rfl
        have q31 : bb.tmps[31]? = some (.bool ((decide ((0 : Int) < (i : Int))) && (decide (x.t < yt)))) := hf.tmp (k := 16) rfl (by rw [ha]; decide) (Eq.trans (hA 16 (by kernel_rfl)) (Rg.cond_t hB))
        have hval : ((.bool ((!(resB x)) || ((decide ((0 : Int) < (i : Int))) && (decide (x.t < yt)))) : Value)) = .bool ((decide ((0 : Int) < (i : Int))) && (decide (x.t < yt))) := by rw [hC]; rfl
        exact Rg.op_value (o := ⟨some 32, Op.pick (Operand.tmp 18) (Operand.const (Value.bool true)) (Operand.tmp 31), _, _, _, _⟩) (x := .bool ((decide ((0 : Int) < (i : Int))) && (decide (x.t < yt)))) rfl rfl (by rw [hC] at q18; clear hA HS hN hO hX hK hval; simp only [execOp]; go_simp) ⟨_, rfl, (fun h => by cases h), (by show ((.bool ((decide ((0 : Int) < (i : Int))) && (decide (x.t < yt))) : Value)) = _; exact hval.symm), hI, fun _ _ _ _ h => h⟩
      | true =>
        have hval : ((.bool ((!(resB x)) || ((decide ((0 : Int) < (i : Int))) && (decide (x.t < yt)))) : Value)) = .bool true := by rw [hC]; rfl
        exact Rg.op_value (o := ⟨some 32, Op.pick (Operand.tmp 18) (Operand.const (Value.bool true)) (Operand.tmp 31), _, _, _, _⟩) (x := .bool true) rfl rfl (by rw [hC] at q18; clear hA HS hN hO hX hK hval; simp only [execOp]; go_simp) ⟨_, rfl, (fun h => by cases h), (by show ((.bool true : Value)) = _; exact hval.symm), hI, fun _ _ _ _ h => h⟩

theorem dRi6_0 : Rg.dstAt (Rg.opsOf Try.f53 6) 0 = some 15 := by kernel_rfl
theorem dRi6_1 : Rg.dstAt (Rg.opsOf Try.f53 6) 1 = some 16 := by kernel_rfl
theorem dRi6_2 : Rg.dstAt (Rg.opsOf Try.f53 6) 2 = some 17 := by kernel_rfl
theorem dRi6_3 : Rg.dstAt (Rg.opsOf Try.f53 6) 3 = some 18 := by kernel_rfl
theorem dRi6_4 : Rg.dstAt (Rg.opsOf Try.f53 6) 4 = some 19 := by kernel_rfl
theorem dRi6_5 : Rg.dstAt (Rg.opsOf Try.f53 6) 5 = some 20 := by kernel_rfl
theorem dRi6_6 : Rg.dstAt (Rg.opsOf Try.f53 6) 6 = some 21 := by kernel_rfl
theorem dRi6_7 : Rg.dstAt (Rg.opsOf Try.f53 6) 7 = some 22 := by kernel_rfl
theorem dRi6_8 : Rg.dstAt (Rg.opsOf Try.f53 6) 8 = some 23 := by kernel_rfl
theorem dRi6_9 : Rg.dstAt (Rg.opsOf Try.f53 6) 9 = some 24 := by kernel_rfl
theorem dRi6_10 : Rg.dstAt (Rg.opsOf Try.f53 6) 10 = some 25 := by kernel_rfl
theorem dRi6_11 : Rg.dstAt (Rg.opsOf Try.f53 6) 11 = some 26 := by kernel_rfl
theorem dRi6_12 : Rg.dstAt (Rg.opsOf Try.f53 6) 12 = some 27 := by kernel_rfl
theorem dRi6_13 : Rg.dstAt (Rg.opsOf Try.f53 6) 13 = some 28 := by kernel_rfl
theorem dRi6_14 : Rg.dstAt (Rg.opsOf Try.f53 6) 14 = some 29 := by kernel_rfl
theorem dRi6_15 : Rg.dstAt (Rg.opsOf Try.f53 6) 15 = some 30 := by kernel_rfl
theorem dRi6_16 : Rg.dstAt (Rg.opsOf Try.f53 6) 16 = some 31 := by kernel_rfl
theorem dRi6_17 : Rg.dstAt (Rg.opsOf Try.f53 6) 17 = some 32 := by kernel_rfl
theorem layRi6 {a b : Act} (hf : Rg.Fr (Rg.opsOf Try.f53 6) a b) : b = ((((((((((((((((((a.put (some 15) (Rg.out (Rg.opsOf Try.f53 6) b 0)).put (some 16) (Rg.out (Rg.opsOf Try.f53 6) b 1)).put (some 17) (Rg.out (Rg.opsOf Try.f53 6) b 2)).put (some 18) (Rg.out (Rg.opsOf Try.f53 6) b 3)).put (some 19) (Rg.out (Rg.opsOf Try.f53 6) b 4)).put (some 20) (Rg.out (Rg.opsOf Try.f53 6) b 5)).put (some 21) (Rg.out (Rg.opsOf Try.f53 6) b 6)).put (some 22) (Rg.out (Rg.opsOf Try.f53 6) b 7)).put (some 23) (Rg.out (Rg.opsOf Try.f53 6) b 8)).put (some 24) (Rg.out (Rg.opsOf Try.f53 6) b 9)).put (some 25) (Rg.out (Rg.opsOf Try.f53 6) b 10)).put (some 26) (Rg.out (Rg.opsOf Try.f53 6) b 11)).put (some 27) (Rg.out (Rg.opsOf Try.f53 6) b 12)).put (some 28) (Rg.out (Rg.opsOf Try.f53 6) b 13)).put (some 29) (Rg.out (Rg.opsOf Try.f53 6) b 14)).put (some 30) (Rg.out (Rg.opsOf Try.f53 6) b 15)).put (some 31) (Rg.out (Rg.opsOf Try.f53 6) b 16)).put (some 32) (Rg.out (Rg.opsOf Try.f53 6) b 17)) := by
  have h := hf.chain
  rw [sizeRi6, show List.range 18 = [0, 1, 2, 3, 4, 5, 6, 7, 8, 9, 10, 11, 12, 13, 14, 15, 16, 17] from by decide] at h
  simp only [List.foldl_cons, List.foldl_nil, dRi6_0, dRi6_1, dRi6_2, dRi6_3, dRi6_4, dRi6_5, dRi6_6, dRi6_7, dRi6_8, dRi6_9, dRi6_10, dRi6_11, dRi6_12, dRi6_13, dRi6_14, dRi6_15, dRi6_16, dRi6_17] at h
  exact h
end Go.Proofs.Ytecljmpojninfaa
