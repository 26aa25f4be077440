/-
  Who is called: a region of the law that draws its order.
-/
import Derived.Test.YtecljmpojninfaaT26
import Derived.Test.YtecljmpojninfaaRs
namespace Go.Proofs.Ytecljmpojninfaa
open Go.RowKit Va Lb
set_option linter.all false

def FFc11 (B g off n cap dg doff dn dc i j : Nat) (lo hi pt : Int) (x : Rs) (i9 : Nat) (v : Value) (w : World) : Prop :=
  match i9 with
  | 0 => v = .pointer (some ⟨B, 2, none⟩)
  | 1 => v = .bool x.k
  | 2 => v = .bool (!x.k)
  | 3 => v = .bool (!x.k)
  | 4 => v = cond (true && ((!x.k) == false)) (.pointer (some ⟨B, 0, none⟩)) undef
  | 5 => v = cond (true && ((!x.k) == false)) (.int .i64 x.v) undef
  | 6 => v = cond (true && ((!x.k) == false)) (.int .i64 lo) undef
  | 7 => v = cond (true && ((!x.k) == false)) (.bool (decide (lo ≤ x.v))) undef
  | 8 => v = cond (true && ((!x.k) == false)) (.bool (decide (lo ≤ x.v))) undef
  | 9 => v = cond ((true && ((!x.k) == false)) && ((decide (lo ≤ x.v)) == true)) (.pointer (some ⟨B, 0, none⟩)) undef
  | 10 => v = cond ((true && ((!x.k) == false)) && ((decide (lo ≤ x.v)) == true)) (.int .i64 x.v) undef
  | 11 => v = cond ((true && ((!x.k) == false)) && ((decide (lo ≤ x.v)) == true)) (.int .i64 hi) undef
  | 12 => v = cond ((true && ((!x.k) == false)) && ((decide (lo ≤ x.v)) == true)) (.bool (decide (x.v ≤ hi))) undef
  | 13 => v = cond (true && ((!x.k) == false)) (.bool ((decide (lo ≤ x.v)) && (decide (x.v ≤ hi)))) undef
  | 14 => v = .bool ((!x.k) || ((decide (lo ≤ x.v)) && (decide (x.v ≤ hi))))
  | 15 => v = .bool ((!x.k) || ((decide (lo ≤ x.v)) && (decide (x.v ≤ hi))))
  | 16 => v = cond (true && (((!x.k) || ((decide (lo ≤ x.v)) && (decide (x.v ≤ hi)))) == false)) (.int .i64 (i : Nat)) undef
  | 17 => v = cond (true && (((!x.k) || ((decide (lo ≤ x.v)) && (decide (x.v ≤ hi)))) == false)) (.bool (decide ((0 : Int) < (i : Int)))) undef
  | 18 => v = cond (true && (((!x.k) || ((decide (lo ≤ x.v)) && (decide (x.v ≤ hi)))) == false)) (.bool (decide ((0 : Int) < (i : Int)))) undef
  | 19 => v = cond ((true && (((!x.k) || ((decide (lo ≤ x.v)) && (decide (x.v ≤ hi)))) == false)) && ((decide ((0 : Int) < (i : Int))) == true)) (.pointer (some ⟨B, 1, none⟩)) undef
  | 20 => v = cond ((true && (((!x.k) || ((decide (lo ≤ x.v)) && (decide (x.v ≤ hi)))) == false)) && ((decide ((0 : Int) < (i : Int))) == true)) (.int .i64 x.t) undef
  | 21 => v = cond ((true && (((!x.k) || ((decide (lo ≤ x.v)) && (decide (x.v ≤ hi)))) == false)) && ((decide ((0 : Int) < (i : Int))) == true)) (.slice (some ⟨g, off, none⟩) n cap) undef
  | 22 => v = cond ((true && (((!x.k) || ((decide (lo ≤ x.v)) && (decide (x.v ≤ hi)))) == false)) && ((decide ((0 : Int) < (i : Int))) == true)) (.slice (some ⟨dg, doff, none⟩) dn dc) undef
  | 23 => v = cond ((true && (((!x.k) || ((decide (lo ≤ x.v)) && (decide (x.v ≤ hi)))) == false)) && ((decide ((0 : Int) < (i : Int))) == true)) (.int .i64 (i : Nat)) undef
  | 24 => v = cond ((true && (((!x.k) || ((decide (lo ≤ x.v)) && (decide (x.v ≤ hi)))) == false)) && ((decide ((0 : Int) < (i : Int))) == true)) (.int .i64 ((i - 1 : Nat) : Int)) undef
  | 25 => v = cond ((true && (((!x.k) || ((decide (lo ≤ x.v)) && (decide (x.v ≤ hi)))) == false)) && ((decide ((0 : Int) < (i : Int))) == true)) (.pointer (some ⟨dg, doff + (i - 1), none⟩)) undef
  | 26 => v = cond ((true && (((!x.k) || ((decide (lo ≤ x.v)) && (decide (x.v ≤ hi)))) == false)) && ((decide ((0 : Int) < (i : Int))) == true)) (.int .i64 (j : Nat)) undef
  | 27 => v = cond ((true && (((!x.k) || ((decide (lo ≤ x.v)) && (decide (x.v ≤ hi)))) == false)) && ((decide ((0 : Int) < (i : Int))) == true)) (.pointer (some ⟨g, off + j * 3, none⟩)) undef
  | 28 => v = cond ((true && (((!x.k) || ((decide (lo ≤ x.v)) && (decide (x.v ≤ hi)))) == false)) && ((decide ((0 : Int) < (i : Int))) == true)) (.pointer (some ⟨g, off + j * 3 + 1, none⟩)) undef
  | 29 => v = cond ((true && (((!x.k) || ((decide (lo ≤ x.v)) && (decide (x.v ≤ hi)))) == false)) && ((decide ((0 : Int) < (i : Int))) == true)) (.int .i64 pt) undef
  | 30 => v = cond ((true && (((!x.k) || ((decide (lo ≤ x.v)) && (decide (x.v ≤ hi)))) == false)) && ((decide ((0 : Int) < (i : Int))) == true)) (.int .i64 (pt + 60)) undef
  | 31 => v = cond ((true && (((!x.k) || ((decide (lo ≤ x.v)) && (decide (x.v ≤ hi)))) == false)) && ((decide ((0 : Int) < (i : Int))) == true)) (.bool (decide (x.t < pt + 60))) undef
  | 32 => v = cond (true && (((!x.k) || ((decide (lo ≤ x.v)) && (decide (x.v ≤ hi)))) == false)) (.bool ((decide ((0 : Int) < (i : Int))) && (decide (x.t < pt + 60)))) undef
  | 33 => v = .bool (((!x.k) || ((decide (lo ≤ x.v)) && (decide (x.v ≤ hi)))) || ((decide ((0 : Int) < (i : Int))) && (decide (x.t < pt + 60))))
  | _ => True
theorem sizeFc11 : (Rg.opsOf Try.f7 11).size = 34 := by kernel_rfl

set_option maxRecDepth 20000 in
set_option maxHeartbeats 8000000 in
theorem regFc11 {Q : Exit → Act → World → Prop} {a : Act} {w9 : World} {B g off n cap dg doff dn dc i j : Nat} {lo hi pt : Int} {x : Rs} (ha : a.tmps.size = 80)
    (k3 : a.tmps[3]? = some (.slice (some ⟨g, off, none⟩) n cap)) (k4 : a.tmps[4]? = some (.int .i64 lo)) (k5 : a.tmps[5]? = some (.int .i64 hi)) (k6 : a.tmps[6]? = some (.slice (some ⟨dg, doff, none⟩) dn dc)) (k7 : a.tmps[7]? = some (.int .i64 (i : Nat))) (k8 : a.tmps[8]? = some (.pointer (some ⟨B, 0, none⟩))) (hX : PB w9 B #[.int .i64 x.v, .int .i64 x.t, .bool x.k] 46) (hin : i < dn) (hil : n < 1000000) (hdl2 : dn < 1000000) (hgl : g < w9.heap.size) (hdl : dg < w9.heap.size) (d0 : 0 < i → w9.cell? ⟨dg, doff + (i - 1), none⟩ = some (.int .i64 (j : Int))) (hjn : 0 < i → j < n) (y0 : 0 < i → w9.cell? ⟨g, off + j * 3 + 1, none⟩ = some (.int .i64 pt)) (hp1 : 0 ≤ pt ∧ pt ≤ 10000000)
    (hend : ∀ b' w', Rg.Fr (Rg.opsOf Try.f7 11) a b' → Below w9.heap.size w9 w' → Rg.out (Rg.opsOf Try.f7 11) b' 33 = .bool (((!x.k) || ((decide (lo ≤ x.v)) && (decide (x.v ≤ hi)))) || ((decide ((0 : Int) < (i : Int))) && (decide (x.t < pt + 60)))) → Q .normal b' w') :
    (Code.region 11 (Rg.opsOf Try.f7 11) true).wp Try.prog Q a w9 := by
  refine Rg.region_set3 (by kernel_rfl) (fun _ w' => Below w9.heap.size w9 w') (FFc11 B g off n cap dg doff dn dc i j lo hi pt x) (by rw [ha, sizeFc11]; kernel_rfl) (st_drew (Below.refl _ _)) ?_ ?_
  case refine_2 =>
    intro l b' w' hf hall hI hA
    rw [sizeFc11] at hA
    exact hend b' w' hf hI (hA 33 (by decide))
  case refine_1 =>
    clear hend
    have HS : ∀ {w w' : World}, Below w.heap.size w w' → ∀ k9 y9, FFc11 B g off n cap dg doff dn dc i j lo hi pt x k9 y9 w → FFc11 B g off n cap dg doff dn dc i j lo hi pt x k9 y9 w' := fun hb k9 y9 h => by
      unfold FFc11 at *
      split at h <;> exact h
    intro i' hi'
    rw [sizeFc11] at hi'
    rcases (show i' = 0 ∨ i' = 1 ∨ i' = 2 ∨ i' = 3 ∨ i' = 4 ∨ i' = 5 ∨ i' = 6 ∨ i' = 7 ∨ i' = 8 ∨ i' = 9 ∨ i' = 10 ∨ i' = 11 ∨ i' = 12 ∨ i' = 13 ∨ i' = 14 ∨ i' = 15 ∨ i' = 16 ∨ i' = 17 ∨ i' = 18 ∨ i' = 19 ∨ i' = 20 ∨ i' = 21 ∨ i' = 22 ∨ i' = 23 ∨ i' = 24 ∨ i' = 25 ∨ i' = 26 ∨ i' = 27 ∨ i' = 28 ∨ i' = 29 ∨ i' = 30 ∨ i' = 31 ∨ i' = 32 ∨ i' = 33 by omega) with rfl | rfl | rfl | rfl | rfl | rfl | rfl | rfl | rfl | rfl | rfl | rfl | rfl | rfl | rfl | rfl | rfl | rfl | rfl | rfl | rfl | rfl | rfl | rfl | rfl | rfl | rfl | rfl | rfl | rfl | rfl | rfl | rfl | rfl
    · intro ll bb w' hs hlf hN hO hf hI hA
      clear hi'
      have q8 := hf.kept (s := 8) (by rw [sizeFc11]; kernel_rfl) k8
      exact Rg.op_value (o := ⟨some 42, Op.fieldAddr 46 (Operand.tmp 8) 2, _, _, _, _⟩) (x := .pointer (some ⟨B, 2, none⟩)) rfl rfl (by clear hA HS hN hO hX; simp only [execOp]; go_simp) ⟨_, rfl, (fun h => by cases h), rfl, hI, fun _ _ _ _ h => h⟩
    · intro ll bb w' hs hlf hN hO hf hI hA
      clear hi'
      have q42 : bb.tmps[42]? = some _ := hf.tmp (k := 0) rfl (by rw [ha]; decide) (hA 0 (by kernel_rfl))
      obtain ⟨b0, b1, b2⟩ := (hX.below hI).three
      exact Rg.op_value (o := ⟨some 43, Op.load 4 (Operand.tmp 42), _, _, _, _⟩) (x := .bool x.k) rfl rfl (by clear hA HS hN hO hX; simp only [execOp]; go_simp) ⟨_, rfl, (fun h => by cases h), rfl, hI, fun _ _ _ _ h => h⟩
    · intro ll bb w' hs hlf hN hO hf hI hA
      clear hi'
      have q43 : bb.tmps[43]? = some _ := hf.tmp (k := 1) rfl (by rw [ha]; decide) (hA 1 (by kernel_rfl))
      exact Rg.op_value (o := ⟨some 44, Op.unOp UnOp.not 4 (Operand.tmp 43), _, _, _, _⟩) (x := .bool (!x.k)) rfl rfl (by clear hA HS hN hO hX; simp only [execOp]; go_simp) ⟨_, rfl, (fun h => by cases h), rfl, hI, fun _ _ _ _ h => h⟩
    · intro ll bb w' hs hlf hN hO hf hI hA
      clear hi'
      have q44 : bb.tmps[44]? = some _ := hf.tmp (k := 2) rfl (by rw [ha]; decide) (hA 2 (by kernel_rfl))
      exact Rg.op_value (o := ⟨some 45, Op.move (Operand.tmp 44), _, _, _, _⟩) (x := .bool (!x.k)) rfl rfl (by clear hA HS hN hO hX; simp only [execOp]; go_simp) ⟨_, rfl, (fun h => by cases h), rfl, hI, fun _ _ _ _ h => h⟩
    · intro ll bb w' hs hlf hN hO hf hI hA
      clear hi'
      have qg : bb.tmps[45]? = some (cond true (.bool (!x.k)) undef) := hf.tmp (k := 3) rfl (by rw [ha]; decide) (hA 3 (by kernel_rfl))
      cases hP : (true && ((!x.k) == false)) with
      | false => exact Rg.op_none (o := ⟨some 46, _, _, _, _, _⟩) rfl (Rg.unwanted_c (g := 3) rfl rfl qg hP) ⟨_, rfl, (fun h => by cases h), Rg.cond_f hP, hI, fun _ _ _ _ h => h⟩
      | true =>
        have hw := Rg.wanted_c (ops := (Rg.opsOf Try.f7 11)) (o := (Rg.opsOf Try.f7 11)[4]'(by rw [sizeFc11]; decide)) (g := 3) rfl rfl qg hP
        have g0 := Rg.pc_r hP
        have q8 := hf.kept (s := 8) (by rw [sizeFc11]; kernel_rfl) k8
        exact Rg.op_value (o := ⟨some 46, Op.fieldAddr 46 (Operand.tmp 8) 0, _, _, _, _⟩) (x := .pointer (some ⟨B, 0, none⟩)) rfl hw (by clear hA HS hN hO hX; simp only [execOp]; go_simp) ⟨_, rfl, (fun h => by cases h), (Rg.cond_t hP).symm, hI, fun _ _ _ _ h => h⟩
    · intro ll bb w' hs hlf hN hO hf hI hA
      clear hi'
      have qg : bb.tmps[45]? = some (cond true (.bool (!x.k)) undef) := hf.tmp (k := 3) rfl (by rw [ha]; decide) (hA 3 (by kernel_rfl))
      cases hP : (true && ((!x.k) == false)) with
      | false => exact Rg.op_none (o := ⟨some 47, _, _, _, _, _⟩) rfl (Rg.unwanted_c (g := 3) rfl rfl qg hP) ⟨_, rfl, (fun h => by cases h), Rg.cond_f hP, hI, fun _ _ _ _ h => h⟩
      | true =>
        have hw := Rg.wanted_c (ops := (Rg.opsOf Try.f7 11)) (o := (Rg.opsOf Try.f7 11)[5]'(by rw [sizeFc11]; decide)) (g := 3) rfl rfl qg hP
        have g0 := Rg.pc_r hP
        have q46 : bb.tmps[46]? = some (.pointer (some ⟨B, 0, none⟩)) := hf.tmp (k := 4) rfl (by rw [ha]; decide) (Eq.trans (hA 4 (by kernel_rfl)) (Rg.cond_t hP))
        obtain ⟨b0, b1, b2⟩ := (hX.below hI).three
        exact Rg.op_value (o := ⟨some 47, Op.load 2 (Operand.tmp 46), _, _, _, _⟩) (x := .int .i64 x.v) rfl hw (by clear hA HS hN hO hX; simp only [execOp]; go_simp) ⟨_, rfl, (fun h => by cases h), (Rg.cond_t hP).symm, hI, fun _ _ _ _ h => h⟩
    · intro ll bb w' hs hlf hN hO hf hI hA
      clear hi'
      have qg : bb.tmps[45]? = some (cond true (.bool (!x.k)) undef) := hf.tmp (k := 3) rfl (by rw [ha]; decide) (hA 3 (by kernel_rfl))
      cases hP : (true && ((!x.k) == false)) with
      | false => exact Rg.op_none (o := ⟨some 48, _, _, _, _, _⟩) rfl (Rg.unwanted_c (g := 3) rfl rfl qg hP) ⟨_, rfl, (fun h => by cases h), Rg.cond_f hP, hI, fun _ _ _ _ h => h⟩
      | true =>
        have hw := Rg.wanted_c (ops := (Rg.opsOf Try.f7 11)) (o := (Rg.opsOf Try.f7 11)[6]'(by rw [sizeFc11]; decide)) (g := 3) rfl rfl qg hP
        have g0 := Rg.pc_r hP
        have q0 := hf.kept (s := 4) (by rw [sizeFc11]; kernel_rfl) k4
        exact Rg.op_value (o := ⟨some 48, Op.move (Operand.tmp 4), _, _, _, _⟩) (x := .int .i64 lo) rfl hw (by clear hA HS hN hO hX; simp only [execOp]; go_simp) ⟨_, rfl, (fun h => by cases h), (Rg.cond_t hP).symm, hI, fun _ _ _ _ h => h⟩
    · intro ll bb w' hs hlf hN hO hf hI hA
      clear hi'
      have qg : bb.tmps[45]? = some (cond true (.bool (!x.k)) undef) := hf.tmp (k := 3) rfl (by rw [ha]; decide) (hA 3 (by kernel_rfl))
      cases hP : (true && ((!x.k) == false)) with
      | false => exact Rg.op_none (o := ⟨some 49, _, _, _, _, _⟩) rfl (Rg.unwanted_c (g := 3) rfl rfl qg hP) ⟨_, rfl, (fun h => by cases h), Rg.cond_f hP, hI, fun _ _ _ _ h => h⟩
      | true =>
        have hw := Rg.wanted_c (ops := (Rg.opsOf Try.f7 11)) (o := (Rg.opsOf Try.f7 11)[7]'(by rw [sizeFc11]; decide)) (g := 3) rfl rfl qg hP
        have g0 := Rg.pc_r hP
        have q47 : bb.tmps[47]? = some (.int .i64 x.v) := hf.tmp (k := 5) rfl (by rw [ha]; decide) (Eq.trans (hA 5 (by kernel_rfl)) (Rg.cond_t hP))
        have q48 : bb.tmps[48]? = some (.int .i64 lo) := hf.tmp (k := 6) rfl (by rw [ha]; decide) (Eq.trans (hA 6 (by kernel_rfl)) (Rg.cond_t hP))
        exact Rg.op_value (o := ⟨some 49, Op.binOp BinOp.geq 2 (Operand.tmp 47) (Operand.tmp 48) 2, _, _, _, _⟩) (x := .bool (decide (lo ≤ x.v))) rfl hw (by clear hA HS hN hO hX; simp only [execOp]; go_simp) ⟨_, rfl, (fun h => by cases h), (Rg.cond_t hP).symm, hI, fun _ _ _ _ h => h⟩
    · intro ll bb w' hs hlf hN hO hf hI hA
      clear hi'
      have qg : bb.tmps[45]? = some (cond true (.bool (!x.k)) undef) := hf.tmp (k := 3) rfl (by rw [ha]; decide) (hA 3 (by kernel_rfl))
      cases hP : (true && ((!x.k) == false)) with
      | false => exact Rg.op_none (o := ⟨some 50, _, _, _, _, _⟩) rfl (Rg.unwanted_c (g := 3) rfl rfl qg hP) ⟨_, rfl, (fun h => by cases h), Rg.cond_f hP, hI, fun _ _ _ _ h => h⟩
      | true =>
        have hw := Rg.wanted_c (ops := (Rg.opsOf Try.f7 11)) (o := (Rg.opsOf Try.f7 11)[8]'(by rw [sizeFc11]; decide)) (g := 3) rfl rfl qg hP
        have g0 := Rg.pc_r hP
        have q49 : bb.tmps[49]? = some (.bool (decide (lo ≤ x.v))) := hf.tmp (k := 7) rfl (by rw [ha]; decide) (Eq.trans (hA 7 (by kernel_rfl)) (Rg.cond_t hP))
        exact Rg.op_value (o := ⟨some 50, Op.move (Operand.tmp 49), _, _, _, _⟩) (x := .bool (decide (lo ≤ x.v))) rfl hw (by clear hA HS hN hO hX; simp only [execOp]; go_simp) ⟨_, rfl, (fun h => by cases h), (Rg.cond_t hP).symm, hI, fun _ _ _ _ h => h⟩
    · intro ll bb w' hs hlf hN hO hf hI hA
      clear hi'
      have qg : bb.tmps[50]? = some (cond (true && ((!x.k) == false)) (.bool (decide (lo ≤ x.v))) undef) := hf.tmp (k := 8) rfl (by rw [ha]; decide) (hA 8 (by kernel_rfl))
      cases hP : ((true && ((!x.k) == false)) && ((decide (lo ≤ x.v)) == true)) with
      | false => exact Rg.op_none (o := ⟨some 51, _, _, _, _, _⟩) rfl (Rg.unwanted_c (g := 8) rfl rfl qg hP) ⟨_, rfl, (fun h => by cases h), Rg.cond_f hP, hI, fun _ _ _ _ h => h⟩
      | true =>
        have hw := Rg.wanted_c (ops := (Rg.opsOf Try.f7 11)) (o := (Rg.opsOf Try.f7 11)[9]'(by rw [sizeFc11]; decide)) (g := 8) rfl rfl qg hP
        have g1 := Rg.pc_r hP
        have p1 := Rg.pc_l hP
        have g0 := Rg.pc_r p1
        have q8 := hf.kept (s := 8) (by rw [sizeFc11]; kernel_rfl) k8
        exact Rg.op_value (o := ⟨some 51, Op.fieldAddr 46 (Operand.tmp 8) 0, _, _, _, _⟩) (x := .pointer (some ⟨B, 0, none⟩)) rfl hw (by clear hA HS hN hO hX; simp only [execOp]; go_simp) ⟨_, rfl, (fun h => by cases h), (Rg.cond_t hP).symm, hI, fun _ _ _ _ h => h⟩
    · intro ll bb w' hs hlf hN hO hf hI hA
      clear hi'
      have qg : bb.tmps[50]? = some (cond (true && ((!x.k) == false)) (.bool (decide (lo ≤ x.v))) undef) := hf.tmp (k := 8) rfl (by rw [ha]; decide) (hA 8 (by kernel_rfl))
      cases hP : ((true && ((!x.k) == false)) && ((decide (lo ≤ x.v)) == true)) with
      | false => exact Rg.op_none (o := ⟨some 52, _, _, _, _, _⟩) rfl (Rg.unwanted_c (g := 8) rfl rfl qg hP) ⟨_, rfl, (fun h => by cases h), Rg.cond_f hP, hI, fun _ _ _ _ h => h⟩
      | true =>
        have hw := Rg.wanted_c (ops := (Rg.opsOf Try.f7 11)) (o := (Rg.opsOf Try.f7 11)[10]'(by rw [sizeFc11]; decide)) (g := 8) rfl rfl qg hP
        have g1 := Rg.pc_r hP
        have p1 := Rg.pc_l hP
        have g0 := Rg.pc_r p1
        have q51 : bb.tmps[51]? = some (.pointer (some ⟨B, 0, none⟩)) := hf.tmp (k := 9) rfl (by rw [ha]; decide) (Eq.trans (hA 9 (by kernel_rfl)) (Rg.cond_t hP))
        obtain ⟨b0, b1, b2⟩ := (hX.below hI).three
        exact Rg.op_value (o := ⟨some 52, Op.load 2 (Operand.tmp 51), _, _, _, _⟩) (x := .int .i64 x.v) rfl hw (by clear hA HS hN hO hX; simp only [execOp]; go_simp) ⟨_, rfl, (fun h => by cases h), (Rg.cond_t hP).symm, hI, fun _ _ _ _ h => h⟩
    · intro ll bb w' hs hlf hN hO hf hI hA
      clear hi'
      have qg : bb.tmps[50]? = some (cond (true && ((!x.k) == false)) (.bool (decide (lo ≤ x.v))) undef) := hf.tmp (k := 8) rfl (by rw [ha]; decide) (hA 8 (by kernel_rfl))
      cases hP : ((true && ((!x.k) == false)) && ((decide (lo ≤ x.v)) == true)) with
      | false => exact Rg.op_none (o := ⟨some 53, _, _, _, _, _⟩) rfl (Rg.unwanted_c (g := 8) rfl rfl qg hP) ⟨_, rfl, (fun h => by cases h), Rg.cond_f hP, hI, fun _ _ _ _ h => h⟩
      | true =>
        have hw := Rg.wanted_c (ops := (Rg.opsOf Try.f7 11)) (o := (Rg.opsOf Try.f7 11)[11]'(by rw [sizeFc11]; decide)) (g := 8) rfl rfl qg hP
        have g1 := Rg.pc_r hP
        have p1 := Rg.pc_l hP
        have g0 := Rg.pc_r p1
        have q0 := hf.kept (s := 5) (by rw [sizeFc11]; kernel_rfl) k5
        exact Rg.op_value (o := ⟨some 53, Op.move (Operand.tmp 5), _, _, _, _⟩) (x := .int .i64 hi) rfl hw (by clear hA HS hN hO hX; simp only [execOp]; go_simp) ⟨_, rfl, (fun h => by cases h), (Rg.cond_t hP).symm, hI, fun _ _ _ _ h => h⟩
    · intro ll bb w' hs hlf hN hO hf hI hA
      clear hi'
      have qg : bb.tmps[50]? = some (cond (true && ((!x.k) == false)) (.bool (decide (lo ≤ x.v))) undef) := hf.tmp (k := 8) rfl (by rw [ha]; decide) (hA 8 (by kernel_rfl))
      cases hP : ((true && ((!x.k) == false)) && ((decide (lo ≤ x.v)) == true)) with
      | false => exact Rg.op_none (o := ⟨some 54, _, _, _, _, _⟩) rfl (Rg.unwanted_c (g := 8) rfl rfl qg hP) ⟨_, rfl, (fun h => by cases h), Rg.cond_f hP, hI, fun _ _ _ _ h => h⟩
      | true =>
        have hw := Rg.wanted_c (ops := (Rg.opsOf Try.f7 11)) (o := (Rg.opsOf Try.f7 11)[12]'(by rw [sizeFc11]; decide)) (g := 8) rfl rfl qg hP
        have g1 := Rg.pc_r hP
        have p1 := Rg.pc_l hP
        have g0 := Rg.pc_r p1
        have q52 : bb.tmps[52]? = some (.int .i64 x.v) := hf.tmp (k := 10) rfl (by rw [ha]; decide) (Eq.trans (hA 10 (by kernel_rfl)) (Rg.cond_t hP))
        have q53 : bb.tmps[53]? = some (.int .i64 hi) := hf.tmp (k := 11) rfl (by rw [ha]; decide) (Eq.trans (hA 11 (by kernel_rfl)) (Rg.cond_t hP))
        exact Rg.op_value (o := ⟨some 54, Op.binOp BinOp.leq 2 (Operand.tmp 52) (Operand.tmp 53) 2, _, _, _, _⟩) (x := .bool (decide (x.v ≤ hi))) rfl hw (by clear hA HS hN hO hX; simp only [execOp]; go_simp) ⟨_, rfl, (fun h => by cases h), (Rg.cond_t hP).symm, hI, fun _ _ _ _ h => h⟩
    · intro ll bb w' hs hlf hN hO hf hI hA
      clear hi'
      have qg : bb.tmps[45]? = some (cond true (.bool (!x.k)) undef) := hf.tmp (k := 3) rfl (by rw [ha]; decide) (hA 3 (by kernel_rfl))
      cases hP : (true && ((!x.k) == false)) with
      | false => exact Rg.op_none (o := ⟨some 55, _, _, _, _, _⟩) rfl (Rg.unwanted_c (g := 3) rfl rfl qg hP) ⟨_, rfl, (fun h => by cases h), Rg.cond_f hP, hI, fun _ _ _ _ h => h⟩
      | true =>
        have hw := Rg.wanted_c (ops := (Rg.opsOf Try.f7 11)) (o := (Rg.opsOf Try.f7 11)[13]'(by rw [sizeFc11]; decide)) (g := 3) rfl rfl qg hP
        have g0 := Rg.pc_r hP
        have q50 : bb.tmps[50]? = some (.bool (decide (lo ≤ x.v))) := hf.tmp (k := 8) rfl (by rw [ha]; decide) (Eq.trans (hA 8 (by kernel_rfl)) (Rg.cond_t hP))
        cases hC : (decide (lo ≤ x.v)) with
        | false =>
          have hval : ((.bool ((decide (lo ≤ x.v)) && (decide (x.v ≤ hi))) : Value)) = .bool false := by rw [hC]; rfl
          exact Rg.op_value (o := ⟨some 55, Op.pick (Operand.tmp 50) (Operand.tmp 54) (Operand.const (Value.bool false)), _, _, _, _⟩) (x := .bool false) rfl hw (by rw [hC] at q50; clear hA HS hN hO hX hval; simp only [execOp]; go_simp) ⟨_, rfl, (fun h => by cases h), (by show ((.bool false : Value)) = _; exact hval.symm.trans (Rg.cond_t hP).symm), hI, fun _ _ _ _ h => h⟩
        | true =>
          have hB : ((true && ((!x.k) == false)) && ((decide (lo ≤ x.v)) == true)) = true := by
            rw [hC]; first | rfl | (rw [hP]; rfl) | simp_all
          have q54 : bb.tmps[54]? = some (.bool (decide (x.v ≤ hi))) := hf.tmp (k := 12) rfl (by rw [ha]; decide) (Eq.trans (hA 12 (by kernel_rfl)) (Rg.cond_t hB))
          have hval : ((.bool ((decide (lo ≤ x.v)) && (decide (x.v ≤ hi))) : Value)) = .bool (decide (x.v ≤ hi)) := by rw [hC]; rfl
          exact Rg.op_value (o := ⟨some 55, Op.pick (Operand.tmp 50) (Operand.tmp 54) (Operand.const (Value.bool false)), _, _, _, _⟩) (x := .bool (decide (x.v ≤ hi))) rfl hw (by rw [hC] at q50; clear hA HS hN hO hX hval; simp only [execOp]; go_simp) ⟨_, rfl, (fun h => by cases h), (by show ((.bool (decide (x.v ≤ hi)) : Value)) = _; exact hval.symm.trans (Rg.cond_t hP).symm), hI, fun _ _ _ _ h => h⟩
    · intro ll bb w' hs hlf hN hO hf hI hA
      clear hi'
      have q45 : bb.tmps[45]? = some _ := hf.tmp (k := 3) rfl (by rw [ha]; decide) (hA 3 (by kernel_rfl))
      cases hC : (!x.k) with
      | false =>
        have hB : (true && ((!x.k) == false)) = true := by rw [hC]; rfl
        have q55 : bb.tmps[55]? = some (.bool ((decide (lo ≤ x.v)) && (decide (x.v ≤ hi)))) := hf.tmp (k := 13) rfl (by rw [ha]; decide) (Eq.trans (hA 13 (by kernel_rfl)) (Rg.cond_t hB))
        have hval : ((.bool ((!x.k) || ((decide (lo ≤ x.v)) && (decide (x.v ≤ hi)))) : Value)) = .bool ((decide (lo ≤ x.v)) && (decide (x.v ≤ hi))) := by rw [hC]; rfl
        exact Rg.op_value (o := ⟨some 56, Op.pick (Operand.tmp 45) (Operand.const (Value.bool true)) (Operand.tmp 55), _, _, _, _⟩) (x := .bool ((decide (lo ≤ x.v)) && (decide (x.v ≤ hi)))) rfl rfl (by rw [hC] at q45; clear hA HS hN hO hX hval; simp only [execOp]; go_simp) ⟨_, rfl, (fun h => by cases h), (by show ((.bool ((decide (lo ≤ x.v)) && (decide (x.v ≤ hi))) : Value)) = _; exact hval.symm), hI, fun _ _ _ _ h => h⟩
      | true =>
        have hval : ((.bool ((!x.k) || ((decide (lo ≤ x.v)) && (decide (x.v ≤ hi)))) : Value)) = .bool true := by rw [hC]; rfl
        exact Rg.op_value (o := ⟨some 56, Op.pick (Operand.tmp 45) (Operand.const (Value.bool true)) (Operand.tmp 55), _, _, _, _⟩) (x := .bool true) rfl rfl (by rw [hC] at q45; clear hA HS hN hO hX hval; simp only [execOp]; go_simp) ⟨_, rfl, (fun h => by cases h), (by show ((.bool true : Value)) = _; exact hval.symm), hI, fun _ _ _ _ h => h⟩
    · intro ll bb w' hs hlf hN hO hf hI hA
      clear hi'
      have q56 : bb.tmps[56]? = some _ := hf.tmp (k := 14) rfl (by rw [ha]; decide) (hA 14 (by kernel_rfl))
      exact Rg.op_value (o := ⟨some 57, Op.move (Operand.tmp 56), _, _, _, _⟩) (x := .bool ((!x.k) || ((decide (lo ≤ x.v)) && (decide (x.v ≤ hi))))) rfl rfl (by clear hA HS hN hO hX; simp only [execOp]; go_simp) ⟨_, rfl, (fun h => by cases h), rfl, hI, fun _ _ _ _ h => h⟩
    · intro ll bb w' hs hlf hN hO hf hI hA
      clear hi'
      have qg : bb.tmps[57]? = some (cond true (.bool ((!x.k) || ((decide (lo ≤ x.v)) && (decide (x.v ≤ hi))))) undef) := hf.tmp (k := 15) rfl (by rw [ha]; decide) (hA 15 (by kernel_rfl))
      cases hP : (true && (((!x.k) || ((decide (lo ≤ x.v)) && (decide (x.v ≤ hi)))) == false)) with
      | false => exact Rg.op_none (o := ⟨some 58, _, _, _, _, _⟩) rfl (Rg.unwanted_c (g := 15) rfl rfl qg hP) ⟨_, rfl, (fun h => by cases h), Rg.cond_f hP, hI, fun _ _ _ _ h => h⟩
      | true =>
        have hw := Rg.wanted_c (ops := (Rg.opsOf Try.f7 11)) (o := (Rg.opsOf Try.f7 11)[16]'(by rw [sizeFc11]; decide)) (g := 15) rfl rfl qg hP
        have g0 := Rg.pc_r hP
        have q0 := hf.kept (s := 7) (by rw [sizeFc11]; kernel_rfl) k7
        exact Rg.op_value (o := ⟨some 58, Op.move (Operand.tmp 7), _, _, _, _⟩) (x := .int .i64 (i : Nat)) rfl hw (by clear hA HS hN hO hX; simp only [execOp]; go_simp) ⟨_, rfl, (fun h => by cases h), (Rg.cond_t hP).symm, hI, fun _ _ _ _ h => h⟩
    · intro ll bb w' hs hlf hN hO hf hI hA
      clear hi'
      have qg : bb.tmps[57]? = some (cond true (.bool ((!x.k) || ((decide (lo ≤ x.v)) && (decide (x.v ≤ hi))))) undef) := hf.tmp (k := 15) rfl (by rw [ha]; decide) (hA 15 (by kernel_rfl))
      cases hP : (true && (((!x.k) || ((decide (lo ≤ x.v)) && (decide (x.v ≤ hi)))) == false)) with
      | false => exact Rg.op_none (o := ⟨some 59, _, _, _, _, _⟩) rfl (Rg.unwanted_c (g := 15) rfl rfl qg hP) ⟨_, rfl, (fun h => by cases h), Rg.cond_f hP, hI, fun _ _ _ _ h => h⟩
      | true =>
        have hw := Rg.wanted_c (ops := (Rg.opsOf Try.f7 11)) (o := (Rg.opsOf Try.f7 11)[17]'(by rw [sizeFc11]; decide)) (g := 15) rfl rfl qg hP
        have g0 := Rg.pc_r hP
        have q58 : bb.tmps[58]? = some (.int .i64 (i : Nat)) := hf.tmp (k := 16) rfl (by rw [ha]; decide) (Eq.trans (hA 16 (by kernel_rfl)) (Rg.cond_t hP))
        exact Rg.op_value (o := ⟨some 59, Op.binOp BinOp.gtr 3 (Operand.tmp 58) (Operand.const (Value.int .i64 0)) 3, _, _, _, _⟩) (x := .bool (decide ((0 : Int) < (i : Int)))) rfl hw (by clear hA HS hN hO hX; simp only [execOp]; go_simp) ⟨_, rfl, (fun h => by cases h), (Rg.cond_t hP).symm, hI, fun _ _ _ _ h => h⟩
    · intro ll bb w' hs hlf hN hO hf hI hA
      clear hi'
      have qg : bb.tmps[57]? = some (cond true (.bool ((!x.k) || ((decide (lo ≤ x.v)) && (decide (x.v ≤ hi))))) undef) := hf.tmp (k := 15) rfl (by rw [ha]; decide) (hA 15 (by kernel_rfl))
      cases hP : (true && (((!x.k) || ((decide (lo ≤ x.v)) && (decide (x.v ≤ hi)))) == false)) with
      | false => exact Rg.op_none (o := ⟨some 60, _, _, _, _, _⟩) rfl (Rg.unwanted_c (g := 15) rfl rfl qg hP) ⟨_, rfl, (fun h => by cases h), Rg.cond_f hP, hI, fun _ _ _ _ h => h⟩
      | true =>
        have hw := Rg.wanted_c (ops := (Rg.opsOf Try.f7 11)) (o := (Rg.opsOf Try.f7 11)[18]'(by rw [sizeFc11]; decide)) (g := 15) rfl rfl qg hP
        have g0 := Rg.pc_r hP
        have q59 : bb.tmps[59]? = some (.bool (decide ((0 : Int) < (i : Int)))) := hf.tmp (k := 17) rfl (by rw [ha]; decide) (Eq.trans (hA 17 (by kernel_rfl)) (Rg.cond_t hP))
        exact Rg.op_value (o := ⟨some 60, Op.move (Operand.tmp 59), _, _, _, _⟩) (x := .bool (decide ((0 : Int) < (i : Int)))) rfl hw (by clear hA HS hN hO hX; simp only [execOp]; go_simp) ⟨_, rfl, (fun h => by cases h), (Rg.cond_t hP).symm, hI, fun _ _ _ _ h => h⟩
    · intro ll bb w' hs hlf hN hO hf hI hA
      clear hi'
      have qg : bb.tmps[60]? = some (cond (true && (((!x.k) || ((decide (lo ≤ x.v)) && (decide (x.v ≤ hi)))) == false)) (.bool (decide ((0 : Int) < (i : Int)))) undef) := hf.tmp (k := 18) rfl (by rw [ha]; decide) (hA 18 (by kernel_rfl))
      cases hP : ((true && (((!x.k) || ((decide (lo ≤ x.v)) && (decide (x.v ≤ hi)))) == false)) && ((decide ((0 : Int) < (i : Int))) == true)) with
      | false => exact Rg.op_none (o := ⟨some 61, _, _, _, _, _⟩) rfl (Rg.unwanted_c (g := 18) rfl rfl qg hP) ⟨_, rfl, (fun h => by cases h), Rg.cond_f hP, hI, fun _ _ _ _ h => h⟩
      | true =>
        have hw := Rg.wanted_c (ops := (Rg.opsOf Try.f7 11)) (o := (Rg.opsOf Try.f7 11)[19]'(by rw [sizeFc11]; decide)) (g := 18) rfl rfl qg hP
        have g1 := Rg.pc_r hP
        have p1 := Rg.pc_l hP
        have g0 := Rg.pc_r p1
        have q8 := hf.kept (s := 8) (by rw [sizeFc11]; kernel_rfl) k8
        exact Rg.op_value (o := ⟨some 61, Op.fieldAddr 46 (Operand.tmp 8) 1, _, _, _, _⟩) (x := .pointer (some ⟨B, 1, none⟩)) rfl hw (by clear hA HS hN hO hX; simp only [execOp]; go_simp) ⟨_, rfl, (fun h => by cases h), (Rg.cond_t hP).symm, hI, fun _ _ _ _ h => h⟩
    · intro ll bb w' hs hlf hN hO hf hI hA
      clear hi'
      have qg : bb.tmps[60]? = some (cond (true && (((!x.k) || ((decide (lo ≤ x.v)) && (decide (x.v ≤ hi)))) == false)) (.bool (decide ((0 : Int) < (i : Int)))) undef) := hf.tmp (k := 18) rfl (by rw [ha]; decide) (hA 18 (by kernel_rfl))
      cases hP : ((true && (((!x.k) || ((decide (lo ≤ x.v)) && (decide (x.v ≤ hi)))) == false)) && ((decide ((0 : Int) < (i : Int))) == true)) with
      | false => exact Rg.op_none (o := ⟨some 62, _, _, _, _, _⟩) rfl (Rg.unwanted_c (g := 18) rfl rfl qg hP) ⟨_, rfl, (fun h => by cases h), Rg.cond_f hP, hI, fun _ _ _ _ h => h⟩
      | true =>
        have hw := Rg.wanted_c (ops := (Rg.opsOf Try.f7 11)) (o := (Rg.opsOf Try.f7 11)[20]'(by rw [sizeFc11]; decide)) (g := 18) rfl rfl qg hP
        have g1 := Rg.pc_r hP
        have p1 := Rg.pc_l hP
        have g0 := Rg.pc_r p1
        have q61 : bb.tmps[61]? = some (.pointer (some ⟨B, 1, none⟩)) := hf.tmp (k := 19) rfl (by rw [ha]; decide) (Eq.trans (hA 19 (by kernel_rfl)) (Rg.cond_t hP))
        obtain ⟨b0, b1, b2⟩ := (hX.below hI).three
        exact Rg.op_value (o := ⟨some 62, Op.load 2 (Operand.tmp 61), _, _, _, _⟩) (x := .int .i64 x.t) rfl hw (by clear hA HS hN hO hX; simp only [execOp]; go_simp) ⟨_, rfl, (fun h => by cases h), (Rg.cond_t hP).symm, hI, fun _ _ _ _ h => h⟩
    · intro ll bb w' hs hlf hN hO hf hI hA
      clear hi'
      have qg : bb.tmps[60]? = some (cond (true && (((!x.k) || ((decide (lo ≤ x.v)) && (decide (x.v ≤ hi)))) == false)) (.bool (decide ((0 : Int) < (i : Int)))) undef) := hf.tmp (k := 18) rfl (by rw [ha]; decide) (hA 18 (by kernel_rfl))
      cases hP : ((true && (((!x.k) || ((decide (lo ≤ x.v)) && (decide (x.v ≤ hi)))) == false)) && ((decide ((0 : Int) < (i : Int))) == true)) with
      | false => exact Rg.op_none (o := ⟨some 63, _, _, _, _, _⟩) rfl (Rg.unwanted_c (g := 18) rfl rfl qg hP) ⟨_, rfl, (fun h => by cases h), Rg.cond_f hP, hI, fun _ _ _ _ h => h⟩
      | true =>
        have hw := Rg.wanted_c (ops := (Rg.opsOf Try.f7 11)) (o := (Rg.opsOf Try.f7 11)[21]'(by rw [sizeFc11]; decide)) (g := 18) rfl rfl qg hP
        have g1 := Rg.pc_r hP
        have p1 := Rg.pc_l hP
        have g0 := Rg.pc_r p1
        have q0 := hf.kept (s := 3) (by rw [sizeFc11]; kernel_rfl) k3
        exact Rg.op_value (o := ⟨some 63, Op.move (Operand.tmp 3), _, _, _, _⟩) (x := .slice (some ⟨g, off, none⟩) n cap) rfl hw (by clear hA HS hN hO hX; simp only [execOp]; go_simp) ⟨_, rfl, (fun h => by cases h), (Rg.cond_t hP).symm, hI, fun _ _ _ _ h => h⟩
    · intro ll bb w' hs hlf hN hO hf hI hA
      clear hi'
      have qg : bb.tmps[60]? = some (cond (true && (((!x.k) || ((decide (lo ≤ x.v)) && (decide (x.v ≤ hi)))) == false)) (.bool (decide ((0 : Int) < (i : Int)))) undef) := hf.tmp (k := 18) rfl (by rw [ha]; decide) (hA 18 (by kernel_rfl))
      cases hP : ((true && (((!x.k) || ((decide (lo ≤ x.v)) && (decide (x.v ≤ hi)))) == false)) && ((decide ((0 : Int) < (i : Int))) == true)) with
      | false => exact Rg.op_none (o := ⟨some 64, _, _, _, _, _⟩) rfl (Rg.unwanted_c (g := 18) rfl rfl qg hP) ⟨_, rfl, (fun h => by cases h), Rg.cond_f hP, hI, fun _ _ _ _ h => h⟩
      | true =>
        have hw := Rg.wanted_c (ops := (Rg.opsOf Try.f7 11)) (o := (Rg.opsOf Try.f7 11)[22]'(by rw [sizeFc11]; decide)) (g := 18) rfl rfl qg hP
        have g1 := Rg.pc_r hP
        have p1 := Rg.pc_l hP
        have g0 := Rg.pc_r p1
        have q0 := hf.kept (s := 6) (by rw [sizeFc11]; kernel_rfl) k6
        exact Rg.op_value (o := ⟨some 64, Op.move (Operand.tmp 6), _, _, _, _⟩) (x := .slice (some ⟨dg, doff, none⟩) dn dc) rfl hw (by clear hA HS hN hO hX; simp only [execOp]; go_simp) ⟨_, rfl, (fun h => by cases h), (Rg.cond_t hP).symm, hI, fun _ _ _ _ h => h⟩
    · intro ll bb w' hs hlf hN hO hf hI hA
      clear hi'
      have qg : bb.tmps[60]? = some (cond (true && (((!x.k) || ((decide (lo ≤ x.v)) && (decide (x.v ≤ hi)))) == false)) (.bool (decide ((0 : Int) < (i : Int)))) undef) := hf.tmp (k := 18) rfl (by rw [ha]; decide) (hA 18 (by kernel_rfl))
      cases hP : ((true && (((!x.k) || ((decide (lo ≤ x.v)) && (decide (x.v ≤ hi)))) == false)) && ((decide ((0 : Int) < (i : Int))) == true)) with
      | false => exact Rg.op_none (o := ⟨some 65, _, _, _, _, _⟩) rfl (Rg.unwanted_c (g := 18) rfl rfl qg hP) ⟨_, rfl, (fun h => by cases h), Rg.cond_f hP, hI, fun _ _ _ _ h => h⟩
      | true =>
        have hw := Rg.wanted_c (ops := (Rg.opsOf Try.f7 11)) (o := (Rg.opsOf Try.f7 11)[23]'(by rw [sizeFc11]; decide)) (g := 18) rfl rfl qg hP
        have g1 := Rg.pc_r hP
        have p1 := Rg.pc_l hP
        have g0 := Rg.pc_r p1
        have q0 := hf.kept (s := 7) (by rw [sizeFc11]; kernel_rfl) k7
        exact Rg.op_value (o := ⟨some 65, Op.move (Operand.tmp 7), _, _, _, _⟩) (x := .int .i64 (i : Nat)) rfl hw (by clear hA HS hN hO hX; simp only [execOp]; go_simp) ⟨_, rfl, (fun h => by cases h), (Rg.cond_t hP).symm, hI, fun _ _ _ _ h => h⟩
    · intro ll bb w' hs hlf hN hO hf hI hA
      clear hi'
      have qg : bb.tmps[60]? = some (cond (true && (((!x.k) || ((decide (lo ≤ x.v)) && (decide (x.v ≤ hi)))) == false)) (.bool (decide ((0 : Int) < (i : Int)))) undef) := hf.tmp (k := 18) rfl (by rw [ha]; decide) (hA 18 (by kernel_rfl))
      cases hP : ((true && (((!x.k) || ((decide (lo ≤ x.v)) && (decide (x.v ≤ hi)))) == false)) && ((decide ((0 : Int) < (i : Int))) == true)) with
      | false => exact Rg.op_none (o := ⟨some 66, _, _, _, _, _⟩) rfl (Rg.unwanted_c (g := 18) rfl rfl qg hP) ⟨_, rfl, (fun h => by cases h), Rg.cond_f hP, hI, fun _ _ _ _ h => h⟩
      | true =>
        have hw := Rg.wanted_c (ops := (Rg.opsOf Try.f7 11)) (o := (Rg.opsOf Try.f7 11)[24]'(by rw [sizeFc11]; decide)) (g := 18) rfl rfl qg hP
        have g1 := Rg.pc_r hP
        have p1 := Rg.pc_l hP
        have g0 := Rg.pc_r p1
        have q65 : bb.tmps[65]? = some (.int .i64 (i : Nat)) := hf.tmp (k := 23) rfl (by rw [ha]; decide) (Eq.trans (hA 23 (by kernel_rfl)) (Rg.cond_t hP))
        have hi0 : 0 < i := by have := g1; simp at this; omega
        have hwr : IntKind.i64.wrap ((i : Int) - 1) = ((i - 1 : Nat) : Int) := by rw [IntKind.wrap_i64]; omega
        exact Rg.op_value (o := ⟨some 66, Op.binOp BinOp.sub 3 (Operand.tmp 65) (Operand.const (Value.int .i64 1)) 3, _, _, _, _⟩) (x := .int .i64 ((i - 1 : Nat) : Int)) rfl hw (by clear hA HS hN hO hX; simp only [execOp]; go_simp) ⟨_, rfl, (fun h => by cases h), (Rg.cond_t hP).symm, hI, fun _ _ _ _ h => h⟩
    · intro ll bb w' hs hlf hN hO hf hI hA
      clear hi'
      have qg : bb.tmps[60]? = some (cond (true && (((!x.k) || ((decide (lo ≤ x.v)) && (decide (x.v ≤ hi)))) == false)) (.bool (decide ((0 : Int) < (i : Int)))) undef) := hf.tmp (k := 18) rfl (by rw [ha]; decide) (hA 18 (by kernel_rfl))
      cases hP : ((true && (((!x.k) || ((decide (lo ≤ x.v)) && (decide (x.v ≤ hi)))) == false)) && ((decide ((0 : Int) < (i : Int))) == true)) with
      | false => exact Rg.op_none (o := ⟨some 67, _, _, _, _, _⟩) rfl (Rg.unwanted_c (g := 18) rfl rfl qg hP) ⟨_, rfl, (fun h => by cases h), Rg.cond_f hP, hI, fun _ _ _ _ h => h⟩
      | true =>
        have hw := Rg.wanted_c (ops := (Rg.opsOf Try.f7 11)) (o := (Rg.opsOf Try.f7 11)[25]'(by rw [sizeFc11]; decide)) (g := 18) rfl rfl qg hP
        have g1 := Rg.pc_r hP
        have p1 := Rg.pc_l hP
        have g0 := Rg.pc_r p1
        have q64 : bb.tmps[64]? = some (.slice (some ⟨dg, doff, none⟩) dn dc) := hf.tmp (k := 22) rfl (by rw [ha]; decide) (Eq.trans (hA 22 (by kernel_rfl)) (Rg.cond_t hP))
        have q66 : bb.tmps[66]? = some (.int .i64 ((i - 1 : Nat) : Int)) := hf.tmp (k := 24) rfl (by rw [ha]; decide) (Eq.trans (hA 24 (by kernel_rfl)) (Rg.cond_t hP))
        have hi0 : 0 < i := by have := g1; simp at this; omega
        have hi3 : ((i - 1 : Nat) : Int) < (dn : Int) := by omega
        have hi4 : i - 1 < dn := by omega
        exact Rg.op_value (o := ⟨some 67, Op.indexAddr 24 (Operand.tmp 64) (Operand.tmp 66), _, _, _, _⟩) (x := .pointer (some ⟨dg, doff + (i - 1), none⟩)) rfl hw (by clear hA HS hN hO hX; simp only [execOp]; go_simp) ⟨_, rfl, (fun h => by cases h), (Rg.cond_t hP).symm, hI, fun _ _ _ _ h => h⟩
    · intro ll bb w' hs hlf hN hO hf hI hA
      clear hi'
      have qg : bb.tmps[60]? = some (cond (true && (((!x.k) || ((decide (lo ≤ x.v)) && (decide (x.v ≤ hi)))) == false)) (.bool (decide ((0 : Int) < (i : Int)))) undef) := hf.tmp (k := 18) rfl (by rw [ha]; decide) (hA 18 (by kernel_rfl))
      cases hP : ((true && (((!x.k) || ((decide (lo ≤ x.v)) && (decide (x.v ≤ hi)))) == false)) && ((decide ((0 : Int) < (i : Int))) == true)) with
      | false => exact Rg.op_none (o := ⟨some 68, _, _, _, _, _⟩) rfl (Rg.unwanted_c (g := 18) rfl rfl qg hP) ⟨_, rfl, (fun h => by cases h), Rg.cond_f hP, hI, fun _ _ _ _ h => h⟩
      | true =>
        have hw := Rg.wanted_c (ops := (Rg.opsOf Try.f7 11)) (o := (Rg.opsOf Try.f7 11)[26]'(by rw [sizeFc11]; decide)) (g := 18) rfl rfl qg hP
        have g1 := Rg.pc_r hP
        have p1 := Rg.pc_l hP
        have g0 := Rg.pc_r p1
        have q67 : bb.tmps[67]? = some (.pointer (some ⟨dg, doff + (i - 1), none⟩)) := hf.tmp (k := 25) rfl (by rw [ha]; decide) (Eq.trans (hA 25 (by kernel_rfl)) (Rg.cond_t hP))
        have hi0 : 0 < i := by have := g1; simp at this; omega
        have e0 := (hI.cell (p := ⟨dg, doff + (i - 1), none⟩) hdl).trans (d0 hi0)
        exact Rg.op_value (o := ⟨some 68, Op.load 2 (Operand.tmp 67), _, _, _, _⟩) (x := .int .i64 (j : Nat)) rfl hw (by clear hA HS hN hO hX; simp only [execOp]; go_simp) ⟨_, rfl, (fun h => by cases h), (Rg.cond_t hP).symm, hI, fun _ _ _ _ h => h⟩
    · intro ll bb w' hs hlf hN hO hf hI hA
      clear hi'
      have qg : bb.tmps[60]? = some (cond (true && (((!x.k) || ((decide (lo ≤ x.v)) && (decide (x.v ≤ hi)))) == false)) (.bool (decide ((0 : Int) < (i : Int)))) undef) := hf.tmp (k := 18) rfl (by rw [ha]; decide) (hA 18 (by kernel_rfl))
      cases hP : ((true && (((!x.k) || ((decide (lo ≤ x.v)) && (decide (x.v ≤ hi)))) == false)) && ((decide ((0 : Int) < (i : Int))) == true)) with
      | false => exact Rg.op_none (o := ⟨some 69, _, _, _, _, _⟩) rfl (Rg.unwanted_c (g := 18) rfl rfl qg hP) ⟨_, rfl, (fun h => by cases h), Rg.cond_f hP, hI, fun _ _ _ _ h => h⟩
      | true =>
        have hw := Rg.wanted_c (ops := (Rg.opsOf Try.f7 11)) (o := (Rg.opsOf Try.f7 11)[27]'(by rw [sizeFc11]; decide)) (g := 18) rfl rfl qg hP
        have g1 := Rg.pc_r hP
        have p1 := Rg.pc_l hP
        have g0 := Rg.pc_r p1
        have q63 : bb.tmps[63]? = some (.slice (some ⟨g, off, none⟩) n cap) := hf.tmp (k := 21) rfl (by rw [ha]; decide) (Eq.trans (hA 21 (by kernel_rfl)) (Rg.cond_t hP))
        have q68 : bb.tmps[68]? = some (.int .i64 (j : Nat)) := hf.tmp (k := 26) rfl (by rw [ha]; decide) (Eq.trans (hA 26 (by kernel_rfl)) (Rg.cond_t hP))
        have hi0 : 0 < i := by have := g1; simp at this; omega
        have hjn2 := hjn hi0
        have hin2 : (j : Int) < (n : Int) := by omega
        exact Rg.op_value (o := ⟨some 69, Op.indexAddr 41 (Operand.tmp 63) (Operand.tmp 68), _, _, _, _⟩) (x := .pointer (some ⟨g, off + j * 3, none⟩)) rfl hw (by clear hA HS hN hO hX; simp only [execOp]; go_simp) ⟨_, rfl, (fun h => by cases h), (Rg.cond_t hP).symm, hI, fun _ _ _ _ h => h⟩
    · intro ll bb w' hs hlf hN hO hf hI hA
      clear hi'
      have qg : bb.tmps[60]? = some (cond (true && (((!x.k) || ((decide (lo ≤ x.v)) && (decide (x.v ≤ hi)))) == false)) (.bool (decide ((0 : Int) < (i : Int)))) undef) := hf.tmp (k := 18) rfl (by rw [ha]; decide) (hA 18 (by kernel_rfl))
      cases hP : ((true && (((!x.k) || ((decide (lo ≤ x.v)) && (decide (x.v ≤ hi)))) == false)) && ((decide ((0 : Int) < (i : Int))) == true)) with
      | false => exact Rg.op_none (o := ⟨some 70, _, _, _, _, _⟩) rfl (Rg.unwanted_c (g := 18) rfl rfl qg hP) ⟨_, rfl, (fun h => by cases h), Rg.cond_f hP, hI, fun _ _ _ _ h => h⟩
      | true =>
        have hw := Rg.wanted_c (ops := (Rg.opsOf Try.f7 11)) (o := (Rg.opsOf Try.f7 11)[28]'(by rw [sizeFc11]; decide)) (g := 18) rfl rfl qg hP
        have g1 := Rg.pc_r hP
        have p1 := Rg.pc_l hP
        have g0 := Rg.pc_r p1
        have q69 : bb.tmps[69]? = some (.pointer (some ⟨g, off + j * 3, none⟩)) := hf.tmp (k := 27) rfl (by rw [ha]; decide) (Eq.trans (hA 27 (by kernel_rfl)) (Rg.cond_t hP))
        exact Rg.op_value (o := ⟨some 70, Op.fieldAddr 46 (Operand.tmp 69) 1, _, _, _, _⟩) (x := .pointer (some ⟨g, off + j * 3 + 1, none⟩)) rfl hw (by clear hA HS hN hO hX; simp only [execOp]; go_simp) ⟨_, rfl, (fun h => by cases h), (Rg.cond_t hP).symm, hI, fun _ _ _ _ h => h⟩
    · intro ll bb w' hs hlf hN hO hf hI hA
      clear hi'
      have qg : bb.tmps[60]? = some (cond (true && (((!x.k) || ((decide (lo ≤ x.v)) && (decide (x.v ≤ hi)))) == false)) (.bool (decide ((0 : Int) < (i : Int)))) undef) := hf.tmp (k := 18) rfl (by rw [ha]; decide) (hA 18 (by kernel_rfl))
      cases hP : ((true && (((!x.k) || ((decide (lo ≤ x.v)) && (decide (x.v ≤ hi)))) == false)) && ((decide ((0 : Int) < (i : Int))) == true)) with
      | false => exact Rg.op_none (o := ⟨some 71, _, _, _, _, _⟩) rfl (Rg.unwanted_c (g := 18) rfl rfl qg hP) ⟨_, rfl, (fun h => by cases h), Rg.cond_f hP, hI, fun _ _ _ _ h => h⟩
      | true =>
        have hw := Rg.wanted_c (ops := (Rg.opsOf Try.f7 11)) (o := (Rg.opsOf Try.f7 11)[29]'(by rw [sizeFc11]; decide)) (g := 18) rfl rfl qg hP
        have g1 := Rg.pc_r hP
        have p1 := Rg.pc_l hP
        have g0 := Rg.pc_r p1
        have q70 : bb.tmps[70]? = some (.pointer (some ⟨g, off + j * 3 + 1, none⟩)) := hf.tmp (k := 28) rfl (by rw [ha]; decide) (Eq.trans (hA 28 (by kernel_rfl)) (Rg.cond_t hP))
        have hi0 : 0 < i := by have := g1; simp at this; omega
        have e0 := (hI.cell (p := ⟨g, off + j * 3 + 1, none⟩) hgl).trans (y0 hi0)
        exact Rg.op_value (o := ⟨some 71, Op.load 2 (Operand.tmp 70), _, _, _, _⟩) (x := .int .i64 pt) rfl hw (by clear hA HS hN hO hX; simp only [execOp]; go_simp) ⟨_, rfl, (fun h => by cases h), (Rg.cond_t hP).symm, hI, fun _ _ _ _ h => h⟩
    · intro ll bb w' hs hlf hN hO hf hI hA
      clear hi'
      have qg : bb.tmps[60]? = some (cond (true && (((!x.k) || ((decide (lo ≤ x.v)) && (decide (x.v ≤ hi)))) == false)) (.bool (decide ((0 : Int) < (i : Int)))) undef) := hf.tmp (k := 18) rfl (by rw [ha]; decide) (hA 18 (by kernel_rfl))
      cases hP : ((true && (((!x.k) || ((decide (lo ≤ x.v)) && (decide (x.v ≤ hi)))) == false)) && ((decide ((0 : Int) < (i : Int))) == true)) with
      | false => exact Rg.op_none (o := ⟨some 72, _, _, _, _, _⟩) rfl (Rg.unwanted_c (g := 18) rfl rfl qg hP) ⟨_, rfl, (fun h => by cases h), Rg.cond_f hP, hI, fun _ _ _ _ h => h⟩
      | true =>
        have hw := Rg.wanted_c (ops := (Rg.opsOf Try.f7 11)) (o := (Rg.opsOf Try.f7 11)[30]'(by rw [sizeFc11]; decide)) (g := 18) rfl rfl qg hP
        have g1 := Rg.pc_r hP
        have p1 := Rg.pc_l hP
        have g0 := Rg.pc_r p1
        have q71 : bb.tmps[71]? = some (.int .i64 pt) := hf.tmp (k := 29) rfl (by rw [ha]; decide) (Eq.trans (hA 29 (by kernel_rfl)) (Rg.cond_t hP))
        have hw9 : IntKind.i64.wrap (pt + 60) = pt + 60 := by rw [IntKind.wrap_i64]; omega
        exact Rg.op_value (o := ⟨some 72, Op.binOp BinOp.add 2 (Operand.tmp 71) (Operand.const (Value.int .i64 60)) 2, _, _, _, _⟩) (x := .int .i64 (pt + 60)) rfl hw (by clear hA HS hN hO hX; simp only [execOp]; go_simp) ⟨_, rfl, (fun h => by cases h), (Rg.cond_t hP).symm, hI, fun _ _ _ _ h => h⟩
    · intro ll bb w' hs hlf hN hO hf hI hA
      clear hi'
      have qg : bb.tmps[60]? = some (cond (true && (((!x.k) || ((decide (lo ≤ x.v)) && (decide (x.v ≤ hi)))) == false)) (.bool (decide ((0 : Int) < (i : Int)))) undef) := hf.tmp (k := 18) rfl (by rw [ha]; decide) (hA 18 (by kernel_rfl))
      cases hP : ((true && (((!x.k) || ((decide (lo ≤ x.v)) && (decide (x.v ≤ hi)))) == false)) && ((decide ((0 : Int) < (i : Int))) == true)) with
      | false => exact Rg.op_none (o := ⟨some 73, _, _, _, _, _⟩) rfl (Rg.unwanted_c (g := 18) rfl rfl qg hP) ⟨_, rfl, (fun h => by cases h), Rg.cond_f hP, hI, fun _ _ _ _ h => h⟩
      | true =>
        have hw := Rg.wanted_c (ops := (Rg.opsOf Try.f7 11)) (o := (Rg.opsOf Try.f7 11)[31]'(by rw [sizeFc11]; decide)) (g := 18) rfl rfl qg hP
        have g1 := Rg.pc_r hP
        have p1 := Rg.pc_l hP
        have g0 := Rg.pc_r p1
        have q62 : bb.tmps[62]? = some (.int .i64 x.t) := hf.tmp (k := 20) rfl (by rw [ha]; decide) (Eq.trans (hA 20 (by kernel_rfl)) (Rg.cond_t hP))
        have q72 : bb.tmps[72]? = some (.int .i64 (pt + 60)) := hf.tmp (k := 30) rfl (by rw [ha]; decide) (Eq.trans (hA 30 (by kernel_rfl)) (Rg.cond_t hP))
        exact Rg.op_value (o := ⟨some 73, Op.binOp BinOp.lss 2 (Operand.tmp 62) (Operand.tmp 72) 2, _, _, _, _⟩) (x := .bool (decide (x.t < pt + 60))) rfl hw (by clear hA HS hN hO hX; simp only [execOp]; go_simp) ⟨_, rfl, (fun h => by cases h), (Rg.cond_t hP).symm, hI, fun _ _ _ _ h => h⟩
    · intro ll bb w' hs hlf hN hO hf hI hA
      clear hi'
      have qg : bb.tmps[57]? = some (cond true (.bool ((!x.k) || ((decide (lo ≤ x.v)) && (decide (x.v ≤ hi))))) undef) := hf.tmp (k := 15) rfl (by rw [ha]; decide) (hA 15 (by kernel_rfl))
      cases hP : (true && (((!x.k) || ((decide (lo ≤ x.v)) && (decide (x.v ≤ hi)))) == false)) with
      | false => exact Rg.op_none (o := ⟨some 74, _, _, _, _, _⟩) rfl (Rg.unwanted_c (g := 15) rfl rfl qg hP) ⟨_, rfl, (fun h => by cases h), Rg.cond_f hP, hI, fun _ _ _ _ h => h⟩
      | true =>
        have hw := Rg.wanted_c (ops := (Rg.opsOf Try.f7 11)) (o := (Rg.opsOf Try.f7 11)[32]'(by rw [sizeFc11]; decide)) (g := 15) rfl rfl qg hP
        have g0 := Rg.pc_r hP
        have q60 : bb.tmps[60]? = some (.bool (decide ((0 : Int) < (i : Int)))) := hf.tmp (k := 18) rfl (by rw [ha]; decide) (Eq.trans (hA 18 (by kernel_rfl)) (Rg.cond_t hP))
        cases hC : (decide ((0 : Int) < (i : Int))) with
        | false =>
          have hval : ((.bool ((decide ((0 : Int) < (i : Int))) && (decide (x.t < pt + 60))) : Value)) = .bool false := by rw [hC]; rfl
          exact Rg.op_value (o := ⟨some 74, Op.pick (Operand.tmp 60) (Operand.tmp 73) (Operand.const (Value.bool false)), _, _, _, _⟩) (x := .bool false) rfl hw (by rw [hC] at q60; clear hA HS hN hO hX hval; simp only [execOp]; go_simp) ⟨_, rfl, (fun h => by cases h), (by show ((.bool false : Value)) = _; exact hval.symm.trans (Rg.cond_t hP).symm), hI, fun _ _ _ _ h => h⟩
        | true =>
          have hB : ((true && (((!x.k) || ((decide (lo ≤ x.v)) && (decide (x.v ≤ hi)))) == false)) && ((decide ((0 : Int) < (i : Int))) == true)) = true := by
            rw [hC]; first | rfl | (rw [hP]; rfl) | simp_all
          have q73 : bb.tmps[73]? = some (.bool (decide (x.t < pt + 60))) := hf.tmp (k := 31) rfl (by rw [ha]; decide) (Eq.trans (hA 31 (by kernel_rfl)) (Rg.cond_t hB))
          have hval : ((.bool ((decide ((0 : Int) < (i : Int))) && (decide (x.t < pt + 60))) : Value)) = .bool (decide (x.t < pt + 60)) := by rw [hC]; rfl
          exact Rg.op_value (o := ⟨some 74, Op.pick (Operand.tmp 60) (Operand.tmp 73) (Operand.const (Value.bool false)), _, _, _, _⟩) (x := .bool (decide (x.t < pt + 60))) rfl hw (by rw [hC] at q60; clear hA HS hN hO hX hval; simp only [execOp]; go_simp) ⟨_, rfl, (fun h => by cases h), (by show ((.bool (decide (x.t < pt + 60)) : Value)) = _; exact hval.symm.trans (Rg.cond_t hP).symm), hI, fun _ _ _ _ h => h⟩
    · intro ll bb w' hs hlf hN hO hf hI hA
      clear hi'
      have q57 : bb.tmps[57]? = some _ := hf.tmp (k := 15) rfl (by rw [ha]; decide) (hA 15 (by kernel_rfl))
      cases hC : ((!x.k) || ((decide (lo ≤ x.v)) && (decide (x.v ≤ hi)))) with
      | false =>
        have hB : (true && (((!x.k) || ((decide (lo ≤ x.v)) && (decide (x.v ≤ hi)))) == false)) = true := by rw [hC]; rfl
        have q74 : bb.tmps[74]? = some (.bool ((decide ((0 : Int) < (i : Int))) && (decide (x.t < pt + 60)))) := hf.tmp (k := 32) rfl (by rw [ha]; decide) (Eq.trans (hA 32 (by kernel_rfl)) (Rg.cond_t hB))
        have hval : ((.bool (((!x.k) || ((decide (lo ≤ x.v)) && (decide (x.v ≤ hi)))) || ((decide ((0 : Int) < (i : Int))) && (decide (x.t < pt + 60)))) : Value)) = .bool ((decide ((0 : Int) < (i : Int))) && (decide (x.t < pt + 60))) := by rw [hC]; rfl
        exact Rg.op_value (o := ⟨some 75, Op.pick (Operand.tmp 57) (Operand.const (Value.bool true)) (Operand.tmp 74), _, _, _, _⟩) (x := .bool ((decide ((0 : Int) < (i : Int))) && (decide (x.t < pt + 60)))) rfl rfl (by rw [hC] at q57; clear hA HS hN hO hX hval; simp only [execOp]; go_simp) ⟨_, rfl, (fun h => by cases h), (by show ((.bool ((decide ((0 : Int) < (i : Int))) && (decide (x.t < pt + 60))) : Value)) = _; exact hval.symm), hI, fun _ _ _ _ h => h⟩
      | true =>
        have hval : ((.bool (((!x.k) || ((decide (lo ≤ x.v)) && (decide (x.v ≤ hi)))) || ((decide ((0 : Int) < (i : Int))) && (decide (x.t < pt + 60)))) : Value)) = .bool true := by rw [hC]; rfl
        exact Rg.op_value (o := ⟨some 75, Op.pick (Operand.tmp 57) (Operand.const (Value.bool true)) (Operand.tmp 74), _, _, _, _⟩) (x := .bool true) rfl rfl (by rw [hC] at q57; clear hA HS hN hO hX hval; simp only [execOp]; go_simp) ⟨_, rfl, (fun h => by cases h), (by show ((.bool true : Value)) = _; exact hval.symm), hI, fun _ _ _ _ h => h⟩

theorem dFc11_0 : Rg.dstAt (Rg.opsOf Try.f7 11) 0 = some 42 := by kernel_rfl
theorem dFc11_1 : Rg.dstAt (Rg.opsOf Try.f7 11) 1 = some 43 := by kernel_rfl
theorem dFc11_2 : Rg.dstAt (Rg.opsOf Try.f7 11) 2 = some 44 := by kernel_rfl
theorem dFc11_3 : Rg.dstAt (Rg.opsOf Try.f7 11) 3 = some 45 := by kernel_rfl
theorem dFc11_4 : Rg.dstAt (Rg.opsOf Try.f7 11) 4 = some 46 := by kernel_rfl
theorem dFc11_5 : Rg.dstAt (Rg.opsOf Try.f7 11) 5 = some 47 := by kernel_rfl
theorem dFc11_6 : Rg.dstAt (Rg.opsOf Try.f7 11) 6 = some 48 := by kernel_rfl
theorem dFc11_7 : Rg.dstAt (Rg.opsOf Try.f7 11) 7 = some 49 := by kernel_rfl
theorem dFc11_8 : Rg.dstAt (Rg.opsOf Try.f7 11) 8 = some 50 := by kernel_rfl
theorem dFc11_9 : Rg.dstAt (Rg.opsOf Try.f7 11) 9 = some 51 := by kernel_rfl
theorem dFc11_10 : Rg.dstAt (Rg.opsOf Try.f7 11) 10 = some 52 := by kernel_rfl
theorem dFc11_11 : Rg.dstAt (Rg.opsOf Try.f7 11) 11 = some 53 := by kernel_rfl
theorem dFc11_12 : Rg.dstAt (Rg.opsOf Try.f7 11) 12 = some 54 := by kernel_rfl
theorem dFc11_13 : Rg.dstAt (Rg.opsOf Try.f7 11) 13 = some 55 := by kernel_rfl
theorem dFc11_14 : Rg.dstAt (Rg.opsOf Try.f7 11) 14 = some 56 := by kernel_rfl
theorem dFc11_15 : Rg.dstAt (Rg.opsOf Try.f7 11) 15 = some 57 := by kernel_rfl
theorem dFc11_16 : Rg.dstAt (Rg.opsOf Try.f7 11) 16 = some 58 := by kernel_rfl
theorem dFc11_17 : Rg.dstAt (Rg.opsOf Try.f7 11) 17 = some 59 := by kernel_rfl
theorem dFc11_18 : Rg.dstAt (Rg.opsOf Try.f7 11) 18 = some 60 := by kernel_rfl
theorem dFc11_19 : Rg.dstAt (Rg.opsOf Try.f7 11) 19 = some 61 := by kernel_rfl
theorem dFc11_20 : Rg.dstAt (Rg.opsOf Try.f7 11) 20 = some 62 := by kernel_rfl
theorem dFc11_21 : Rg.dstAt (Rg.opsOf Try.f7 11) 21 = some 63 := by kernel_rfl
theorem dFc11_22 : Rg.dstAt (Rg.opsOf Try.f7 11) 22 = some 64 := by kernel_rfl
theorem dFc11_23 : Rg.dstAt (Rg.opsOf Try.f7 11) 23 = some 65 := by kernel_rfl
theorem dFc11_24 : Rg.dstAt (Rg.opsOf Try.f7 11) 24 = some 66 := by kernel_rfl
theorem dFc11_25 : Rg.dstAt (Rg.opsOf Try.f7 11) 25 = some 67 := by kernel_rfl
theorem dFc11_26 : Rg.dstAt (Rg.opsOf Try.f7 11) 26 = some 68 := by kernel_rfl
theorem dFc11_27 : Rg.dstAt (Rg.opsOf Try.f7 11) 27 = some 69 := by kernel_rfl
theorem dFc11_28 : Rg.dstAt (Rg.opsOf Try.f7 11) 28 = some 70 := by kernel_rfl
theorem dFc11_29 : Rg.dstAt (Rg.opsOf Try.f7 11) 29 = some 71 := by kernel_rfl
theorem dFc11_30 : Rg.dstAt (Rg.opsOf Try.f7 11) 30 = some 72 := by kernel_rfl
theorem dFc11_31 : Rg.dstAt (Rg.opsOf Try.f7 11) 31 = some 73 := by kernel_rfl
theorem dFc11_32 : Rg.dstAt (Rg.opsOf Try.f7 11) 32 = some 74 := by kernel_rfl
theorem dFc11_33 : Rg.dstAt (Rg.opsOf Try.f7 11) 33 = some 75 := by kernel_rfl
theorem layFc11 {a b : Act} (hf : Rg.Fr (Rg.opsOf Try.f7 11) a b) : b = ((((((((((((((((((((((((((((((((((a.put (some 42) (Rg.out (Rg.opsOf Try.f7 11) b 0)).put (some 43) (Rg.out (Rg.opsOf Try.f7 11) b 1)).put (some 44) (Rg.out (Rg.opsOf Try.f7 11) b 2)).put (some 45) (Rg.out (Rg.opsOf Try.f7 11) b 3)).put (some 46) (Rg.out (Rg.opsOf Try.f7 11) b 4)).put (some 47) (Rg.out (Rg.opsOf Try.f7 11) b 5)).put (some 48) (Rg.out (Rg.opsOf Try.f7 11) b 6)).put (some 49) (Rg.out (Rg.opsOf Try.f7 11) b 7)).put (some 50) (Rg.out (Rg.opsOf Try.f7 11) b 8)).put (some 51) (Rg.out (Rg.opsOf Try.f7 11) b 9)).put (some 52) (Rg.out (Rg.opsOf Try.f7 11) b 10)).put (some 53) (Rg.out (Rg.opsOf Try.f7 11) b 11)).put (some 54) (Rg.out (Rg.opsOf Try.f7 11) b 12)).put (some 55) (Rg.out (Rg.opsOf Try.f7 11) b 13)).put (some 56) (Rg.out (Rg.opsOf Try.f7 11) b 14)).put (some 57) (Rg.out (Rg.opsOf Try.f7 11) b 15)).put (some 58) (Rg.out (Rg.opsOf Try.f7 11) b 16)).put (some 59) (Rg.out (Rg.opsOf Try.f7 11) b 17)).put (some 60) (Rg.out (Rg.opsOf Try.f7 11) b 18)).put (some 61) (Rg.out (Rg.opsOf Try.f7 11) b 19)).put (some 62) (Rg.out (Rg.opsOf Try.f7 11) b 20)).put (some 63) (Rg.out (Rg.opsOf Try.f7 11) b 21)).put (some 64) (Rg.out (Rg.opsOf Try.f7 11) b 22)).put (some 65) (Rg.out (Rg.opsOf Try.f7 11) b 23)).put (some 66) (Rg.out (Rg.opsOf Try.f7 11) b 24)).put (some 67) (Rg.out (Rg.opsOf Try.f7 11) b 25)).put (some 68) (Rg.out (Rg.opsOf Try.f7 11) b 26)).put (some 69) (Rg.out (Rg.opsOf Try.f7 11) b 27)).put (some 70) (Rg.out (Rg.opsOf Try.f7 11) b 28)).put (some 71) (Rg.out (Rg.opsOf Try.f7 11) b 29)).put (some 72) (Rg.out (Rg.opsOf Try.f7 11) b 30)).put (some 73) (Rg.out (Rg.opsOf Try.f7 11) b 31)).put (some 74) (Rg.out (Rg.opsOf Try.f7 11) b 32)).put (some 75) (Rg.out (Rg.opsOf Try.f7 11) b 33)) := by
  have h := hf.chain
  rw [sizeFc11, show List.range 34 = [0, 1, 2, 3, 4, 5, 6, 7, 8, 9, 10, 11, 12, 13, 14, 15, 16, 17, 18, 19, 20, 21, 22, 23, 24, 25, 26, 27, 28, 29, 30, 31, 32, 33] from by decide] at h
  simp only [List.foldl_cons, List.foldl_nil, dFc11_0, dFc11_1, dFc11_2, dFc11_3, dFc11_4, dFc11_5, dFc11_6, dFc11_7, dFc11_8, dFc11_9, dFc11_10, dFc11_11, dFc11_12, dFc11_13, dFc11_14, dFc11_15, dFc11_16, dFc11_17, dFc11_18, dFc11_19, dFc11_20, dFc11_21, dFc11_22, dFc11_23, dFc11_24, dFc11_25, dFc11_26, dFc11_27, dFc11_28, dFc11_29, dFc11_30, dFc11_31, dFc11_32, dFc11_33] at h
  exact h
end Go.Proofs.Ytecljmpojninfaa
