/-
  How many are in each arm, as the specification counts: the regions that draw their order.
-/
import Derived.Test.YtoehnlbkgpjhmabTr20
namespace Go.Proofs.Ytoehnlbkgpjhmab
open Go.RowKit Go.WideShapes Va Lb Tr Go.Maps
set_option linter.all false
theorem flag_other {ll : Array Bool} {i j : Nat} (h : i ≠ j) : (ll.setIfInBounds i true).getD j false = ll.getD j false := by
  rw [Array.getD_eq_getD_getElem?, Array.getElem?_setIfInBounds_ne h, Array.getD_eq_getD_getElem?]

def FSb9 (B n d nb base : Nat) (a0 bk td : Int) (sv : Value) (L : List Int) (i9 : Nat) (v : Value) (w : World) : Prop :=
  match i9 with
  | 0 => v = .agg #[.int .i64 a0, .int .i64 bk, sv, .int .i64 td]
  | 1 => v = .int .i64 (n : Nat)
  | 2 => v = .pointer (some ⟨B, 1, none⟩)
  | 3 => v = .int .i64 bk
  | 4 => v = .int .i64 (d : Nat)
  | 5 => ∃ G c, v = .slice (some ⟨G, 0, none⟩) nb c ∧ nb ≤ c ∧ base ≤ G ∧ IR w G L
  | 6 => ∃ G c, v = .slice (some ⟨G, 0, none⟩) nb c ∧ nb ≤ c ∧ base ≤ G ∧ IR w G L
  | _ => True
theorem sizeSb9 : (Rg.opsOf Try.f17 9).size = 7 := by kernel_rfl

set_option maxRecDepth 20000 in
set_option maxHeartbeats 8000000 in
theorem regSb9 {Q : Exit → Act → World → Prop} {a : Act} {w9 : World} {B n d nb base : Nat} {a0 bk td : Int} {sv : Value} {L : List Int} (ha : a.tmps.size = 52)
    (k1 : a.tmps[1]? = some (.pointer (some ⟨B, 0, none⟩))) (k5 : a.tmps[5]? = some (.int .i64 (n : Nat))) (hBl : B < w9.heap.size) (x0 : w9.cell? ⟨B, 0, none⟩ = some (.int .i64 a0)) (x1 : w9.cell? ⟨B, 1, none⟩ = some (.int .i64 bk)) (x2 : w9.cell? ⟨B, 2, none⟩ = some sv) (x3 : w9.cell? ⟨B, 3, none⟩ = some (.int .i64 td)) (hz0 : ¬ bk = 0) (hbk : 1 ≤ bk) (hdt : (n : Int).tdiv bk = (d : Int)) (hdv : (n : Int) / bk = (d : Int)) (hd9 : d ≤ 1000) (hbs : base ≤ w9.heap.size) (HSB : ∀ W, Below w9.heap.size w9 W → Calls Try.prog 35 #[.agg #[.int .i64 a0, .int .i64 bk, sv, .int .i64 td], .int .i64 (d : Int)] W fun e w' => ∃ G c, W.heap.size ≤ G ∧ nb ≤ c ∧ e = .returned (.slice (some ⟨G, 0, none⟩) nb c) ∧ IR w' G L ∧ Below W.heap.size W w')
    (hend : ∀ b' w', Rg.Fr (Rg.opsOf Try.f17 9) a b' → Below w9.heap.size w9 w' → FSb9 B n d nb base a0 bk td sv L 6 (Rg.out (Rg.opsOf Try.f17 9) b' 6) w' → Q .normal b' w') :
    (Code.region 9 (Rg.opsOf Try.f17 9) true).wp Try.prog Q a w9 := by
  refine Rg.region_set3 (by kernel_rfl) (fun _ w' => Below w9.heap.size w9 w') (FSb9 B n d nb base a0 bk td sv L) (by rw [ha, sizeSb9]; kernel_rfl) (st_drew (Below.refl _ _)) ?_ ?_
  case refine_2 =>
    intro l b' w' hf hall hI hA
    rw [sizeSb9] at hA
    exact hend b' w' hf hI (hA 6 (by decide))
  case refine_1 =>
    clear hend
    have HS : ∀ {w w' : World}, Below w.heap.size w w' → ∀ k9 y9, FSb9 B n d nb base a0 bk td sv L k9 y9 w → FSb9 B n d nb base a0 bk td sv L k9 y9 w' := fun hb k9 y9 h => by
      unfold FSb9 at *
      split at h <;> first | exact h | (obtain ⟨G, c, h1, h2, h3, h4⟩ := h; exact ⟨G, c, h1, h2, h3, h4.below hb⟩)
    intro i' hi'
    rw [sizeSb9] at hi'
    rcases (show i' = 0 ∨ i' = 1 ∨ i' = 2 ∨ i' = 3 ∨ i' = 4 ∨ i' = 5 ∨ i' = 6 by omega) with rfl | rfl | rfl | rfl | rfl | rfl | rfl
    · intro ll bb w' hs hlf hN hO hf hI hA
      clear hi'
      have q1 := hf.kept (s := 1) (by rw [sizeSb9]; kernel_rfl) k1
      have e0 := (hI.cell (p := ⟨B, 0, none⟩) hBl).trans x0
      have e1 := (hI.cell (p := ⟨B, 1, none⟩) hBl).trans x1
      have e2 := (hI.cell (p := ⟨B, 2, none⟩) hBl).trans x2
      have e3 := (hI.cell (p := ⟨B, 3, none⟩) hBl).trans x3
      exact Rg.op_value (o := ⟨some 25, Op.load 27 (Operand.tmp 1), _, _, _, _⟩) (x := .agg #[.int .i64 a0, .int .i64 bk, sv, .int .i64 td]) rfl rfl (by clear hA HS hN hO hdt hdv HSB; simp only [execOp]; go_simp) ⟨_, rfl, (fun h => by cases h), rfl, hI, fun _ _ _ _ h => h⟩
    · intro ll bb w' hs hlf hN hO hf hI hA
      clear hi'
      have q0 := hf.kept (s := 5) (by rw [sizeSb9]; kernel_rfl) k5
      exact Rg.op_value (o := ⟨some 26, Op.move (Operand.tmp 5), _, _, _, _⟩) (x := .int .i64 (n : Nat)) rfl rfl (by clear hA HS hN hO hdt hdv HSB; simp only [execOp]; go_simp) ⟨_, rfl, (fun h => by cases h), rfl, hI, fun _ _ _ _ h => h⟩
    · intro ll bb w' hs hlf hN hO hf hI hA
      clear hi'
      have q1 := hf.kept (s := 1) (by rw [sizeSb9]; kernel_rfl) k1
      exact Rg.op_value (o := ⟨some 27, Op.fieldAddr 27 (Operand.tmp 1) 1, _, _, _, _⟩) (x := .pointer (some ⟨B, 1, none⟩)) rfl rfl (by clear hA HS hN hO hdt hdv HSB; simp only [execOp]; go_simp) ⟨_, rfl, (fun h => by cases h), rfl, hI, fun _ _ _ _ h => h⟩
    · intro ll bb w' hs hlf hN hO hf hI hA
      clear hi'
      have q27 : bb.tmps[27]? = some _ := hf.tmp (k := 2) rfl (by rw [ha]; decide) (hA 2 (by kernel_rfl))
      have e1 := (hI.cell (p := ⟨B, 1, none⟩) hBl).trans x1
      exact Rg.op_value (o := ⟨some 28, Op.load 2 (Operand.tmp 27), _, _, _, _⟩) (x := .int .i64 bk) rfl rfl (by clear hA HS hN hO hdt hdv HSB; simp only [execOp]; go_simp) ⟨_, rfl, (fun h => by cases h), rfl, hI, fun _ _ _ _ h => h⟩
    · intro ll bb w' hs hlf hN hO hf hI hA
      clear hi'
      have q26 : bb.tmps[26]? = some _ := hf.tmp (k := 1) rfl (by rw [ha]; decide) (hA 1 (by kernel_rfl))
      have q28 : bb.tmps[28]? = some _ := hf.tmp (k := 3) rfl (by rw [ha]; decide) (hA 3 (by kernel_rfl))
      have hn0 : ¬ bk = 0 := hz0
      have hn1 : (bk == 0) = false := by rw [beq_eq_false_iff_ne]; exact hz0
      have hn2 : ¬ bk = -1 := by omega
      have ht9 := hdt
      have hu9 := hdv
      have hw9 : IntKind.i64.wrap ((d : Int)) = (d : Int) := by rw [IntKind.wrap_i64]; omega
      exact Rg.op_value (o := ⟨some 29, Op.binOp BinOp.quo 2 (Operand.tmp 26) (Operand.tmp 28) 2, _, _, _, _⟩) (x := .int .i64 (d : Nat)) rfl rfl (by clear hA HS hN hO hdt hdv HSB; simp only [execOp]; go_simp) ⟨_, rfl, (fun h => by cases h), rfl, hI, fun _ _ _ _ h => h⟩
    · intro ll bb w' hs hlf hN hO hf hI hA
      clear hi'
      have q25 : bb.tmps[25]? = some _ := hf.tmp (k := 0) rfl (by rw [ha]; decide) (hA 0 (by kernel_rfl))
      have q29 : bb.tmps[29]? = some _ := hf.tmp (k := 4) rfl (by rw [ha]; decide) (hA 4 (by kernel_rfl))
      refine Rg.op_call (o := ⟨some 30, Op.call { callee := Callee.value (Operand.func 35), args := #[(Operand.tmp 25), (Operand.tmp 29)], argTypes := _ }, _, _, _, _⟩) rfl rfl (by clear hA HS hN hO hdt hdv HSB; simp only [execOp, resolve]; go_simp) (HSB _ hI) ?_
      rintro e w2 ⟨G, c, hG, hc, rfl, hir, hb2⟩
      exact ⟨_, rfl, _, rfl, (fun h => by cases h), ⟨G, c, rfl, hc, Nat.le_trans hbs (Nat.le_trans hI.size hG), hir⟩, onto hI hb2, fun k9 y9 _ _ h => HS hb2 k9 y9 h⟩
    · intro ll bb w' hs hlf hN hO hf hI hA
      clear hi'
      obtain ⟨G, c, h1, h2⟩ := hA 5 (by kernel_rfl)
      have q30 : bb.tmps[30]? = some (.slice (some ⟨G, 0, none⟩) nb c) := hf.tmp (k := 5) rfl (by rw [ha]; decide) h1
      exact Rg.op_value (o := ⟨some 4, Op.assign (Operand.tmp 30), _, _, _, _⟩) (x := .slice (some ⟨G, 0, none⟩) nb c) rfl rfl (by clear hA HS hN hO hdt hdv HSB h1; simp only [execOp]; go_simp) ⟨_, rfl, (fun h => by cases h), ⟨G, c, rfl, h2⟩, hI, fun _ _ _ _ h => h⟩

theorem dSb9_0 : Rg.dstAt (Rg.opsOf Try.f17 9) 0 = some 25 := by kernel_rfl
theorem dSb9_1 : Rg.dstAt (Rg.opsOf Try.f17 9) 1 = some 26 := by kernel_rfl
theorem dSb9_2 : Rg.dstAt (Rg.opsOf Try.f17 9) 2 = some 27 := by kernel_rfl
theorem dSb9_3 : Rg.dstAt (Rg.opsOf Try.f17 9) 3 = some 28 := by kernel_rfl
theorem dSb9_4 : Rg.dstAt (Rg.opsOf Try.f17 9) 4 = some 29 := by kernel_rfl
theorem dSb9_5 : Rg.dstAt (Rg.opsOf Try.f17 9) 5 = some 30 := by kernel_rfl
theorem dSb9_6 : Rg.dstAt (Rg.opsOf Try.f17 9) 6 = some 4 := by kernel_rfl
theorem laySb9 {a b : Act} (hf : Rg.Fr (Rg.opsOf Try.f17 9) a b) : b = (((((((a.put (some 25) (Rg.out (Rg.opsOf Try.f17 9) b 0)).put (some 26) (Rg.out (Rg.opsOf Try.f17 9) b 1)).put (some 27) (Rg.out (Rg.opsOf Try.f17 9) b 2)).put (some 28) (Rg.out (Rg.opsOf Try.f17 9) b 3)).put (some 29) (Rg.out (Rg.opsOf Try.f17 9) b 4)).put (some 30) (Rg.out (Rg.opsOf Try.f17 9) b 5)).put (some 4) (Rg.out (Rg.opsOf Try.f17 9) b 6)) := by
  have h := hf.chain
  rw [sizeSb9, show List.range 7 = [0, 1, 2, 3, 4, 5, 6] from by decide] at h
  simp only [List.foldl_cons, List.foldl_nil, dSb9_0, dSb9_1, dSb9_2, dSb9_3, dSb9_4, dSb9_5, dSb9_6] at h
  exact h

def FSb10 (B G Gc n m ai na nb c4 : Nat) (bk c : Int) (i9 : Nat) (v : Value) (w : World) : Prop :=
  match i9 with
  | 0 => v = .slice (some ⟨Gc, 0, none⟩) na na
  | 1 => v = .slice (some ⟨G, 0, none⟩) nb c4
  | 2 => v = .int .i64 (n : Nat)
  | 3 => v = .pointer (some ⟨B, 1, none⟩)
  | 4 => v = .int .i64 bk
  | 5 => v = .int .i64 (m : Int)
  | 6 => v = .pointer (some ⟨G, m, none⟩)
  | 7 => v = .int .i64 (ai : Int)
  | 8 => v = .slice (some ⟨Gc, 0, none⟩) na na
  | 9 => v = .slice (some ⟨G, 0, none⟩) nb c4
  | 10 => v = .int .i64 (n : Nat)
  | 11 => v = .pointer (some ⟨B, 1, none⟩)
  | 12 => v = .int .i64 bk
  | 13 => v = .int .i64 (m : Int)
  | 14 => v = .pointer (some ⟨G, m, none⟩)
  | 15 => v = .int .i64 (ai : Int)
  | 16 => v = .pointer (some ⟨Gc, ai, none⟩)
  | 17 => v = .int .i64 c
  | 18 => v = .int .i64 (c + 1)
  | 19 => v = .pointer (some ⟨Gc, ai, none⟩)
  | 20 => v = undef
  | _ => True
theorem sizeSb10 : (Rg.opsOf Try.f17 10).size = 21 := by kernel_rfl

set_option maxRecDepth 20000 in
set_option maxHeartbeats 8000000 in
theorem regSb10 {Q : Exit → Act → World → Prop} {a : Act} {w9 : World} {B G Gc n m ai na nb c4 : Nat} {bk c : Int} (ha : a.tmps.size = 52)
    (k1 : a.tmps[1]? = some (.pointer (some ⟨B, 0, none⟩))) (k3 : a.tmps[3]? = some (.slice (some ⟨Gc, 0, none⟩) na na)) (k4 : a.tmps[4]? = some (.slice (some ⟨G, 0, none⟩) nb c4)) (k5 : a.tmps[5]? = some (.int .i64 (n : Nat))) (hBl : B < w9.heap.size) (x1 : w9.cell? ⟨B, 1, none⟩ = some (.int .i64 bk)) (hGl : G < w9.heap.size) (hCl : Gc < w9.heap.size) (y0 : w9.cell? ⟨G, m, none⟩ = some (.int .i64 (ai : Int))) (z0 : w9.cell? ⟨Gc, ai, none⟩ = some (.int .i64 c)) (z1 : w9.frozen? ⟨Gc, ai, none⟩ = false) (hz0 : ¬ bk = 0) (hbk : 1 ≤ bk) (hmt : (n : Int).tmod bk = (m : Int)) (hmd : (n : Int) % bk = (m : Int)) (hml : m < nb) (hal : ai < na) (hc0 : 0 ≤ c) (hc1 : c ≤ 2000)
    (hend : ∀ b' w', Rg.Fr (Rg.opsOf Try.f17 10) a b' → (∃ w8, Below w9.heap.size w9 w8 ∧ w' = w8.setCell ⟨Gc, ai, none⟩ (.int .i64 (c + 1))) → Q .normal b' w') :
    (Code.region 10 (Rg.opsOf Try.f17 10) true).wp Try.prog Q a w9 := by
  refine Rg.region_set3 (by kernel_rfl) (fun ll9 w' => (ll9.getD 20 false = false → Below w9.heap.size w9 w') ∧ (ll9.getD 20 false = true → ∃ w8, Below w9.heap.size w9 w8 ∧ w' = w8.setCell ⟨Gc, ai, none⟩ (.int .i64 (c + 1)))) (FSb10 B G Gc n m ai na nb c4 bk c) (by rw [ha, sizeSb10]; kernel_rfl) ⟨fun _ => st_drew (Below.refl _ _), fun q => by rw [sizeSb10] at q; exact absurd q (by decide)⟩ ?_ ?_
  case refine_2 =>
    intro l b' w' hf hall hI hA
    rw [sizeSb10] at hA
    exact hend b' w' hf (hI.2 (hall 20 (by rw [sizeSb10]; decide)))
  case refine_1 =>
    clear hend
    have HS : ∀ {w w' : World}, Below w.heap.size w w' → ∀ k9 y9, FSb10 B G Gc n m ai na nb c4 bk c k9 y9 w → FSb10 B G Gc n m ai na nb c4 bk c k9 y9 w' := fun hb k9 y9 h => by
      unfold FSb10 at *
      split at h <;> exact h
    intro i' hi'
    rw [sizeSb10] at hi'
    rcases (show i' = 0 ∨ i' = 1 ∨ i' = 2 ∨ i' = 3 ∨ i' = 4 ∨ i' = 5 ∨ i' = 6 ∨ i' = 7 ∨ i' = 8 ∨ i' = 9 ∨ i' = 10 ∨ i' = 11 ∨ i' = 12 ∨ i' = 13 ∨ i' = 14 ∨ i' = 15 ∨ i' = 16 ∨ i' = 17 ∨ i' = 18 ∨ i' = 19 ∨ i' = 20 by omega) with rfl | rfl | rfl | rfl | rfl | rfl | rfl | rfl | rfl | rfl | rfl | rfl | rfl | rfl | rfl | rfl | rfl | rfl | rfl | rfl | rfl
    · intro ll bb w' hs hlf hN hO hf hI hA
      clear hi'
      have q0 := hf.kept (s := 3) (by rw [sizeSb10]; kernel_rfl) k3
      exact Rg.op_value (o := ⟨some 31, Op.move (Operand.tmp 3), _, _, _, _⟩) (x := .slice (some ⟨Gc, 0, none⟩) na na) rfl rfl (by clear hA HS hN hO hmt hmd; simp only [execOp]; go_simp) ⟨_, rfl, (fun h => by cases h), rfl, ⟨fun q => hI.1 (flag_keep (by decide) q), fun q => absurd q (by rw [flag_other (by decide), hN 20 (by kernel_rfl)]; decide)⟩, fun _ _ _ _ h => h⟩
    · intro ll bb w' hs hlf hN hO hf hI hA
      clear hi'
      have q0 := hf.kept (s := 4) (by rw [sizeSb10]; kernel_rfl) k4
      exact Rg.op_value (o := ⟨some 32, Op.move (Operand.tmp 4), _, _, _, _⟩) (x := .slice (some ⟨G, 0, none⟩) nb c4) rfl rfl (by clear hA HS hN hO hmt hmd; simp only [execOp]; go_simp) ⟨_, rfl, (fun h => by cases h), rfl, ⟨fun q => hI.1 (flag_keep (by decide) q), fun q => absurd q (by rw [flag_other (by decide), hN 20 (by kernel_rfl)]; decide)⟩, fun _ _ _ _ h => h⟩
    · intro ll bb w' hs hlf hN hO hf hI hA
      clear hi'
      have q0 := hf.kept (s := 5) (by rw [sizeSb10]; kernel_rfl) k5
      exact Rg.op_value (o := ⟨some 33, Op.move (Operand.tmp 5), _, _, _, _⟩) (x := .int .i64 (n : Nat)) rfl rfl (by clear hA HS hN hO hmt hmd; simp only [execOp]; go_simp) ⟨_, rfl, (fun h => by cases h), rfl, ⟨fun q => hI.1 (flag_keep (by decide) q), fun q => absurd q (by rw [flag_other (by decide), hN 20 (by kernel_rfl)]; decide)⟩, fun _ _ _ _ h => h⟩
    · intro ll bb w' hs hlf hN hO hf hI hA
      clear hi'
      have q1 := hf.kept (s := 1) (by rw [sizeSb10]; kernel_rfl) k1
      exact Rg.op_value (o := ⟨some 34, Op.fieldAddr 27 (Operand.tmp 1) 1, _, _, _, _⟩) (x := .pointer (some ⟨B, 1, none⟩)) rfl rfl (by clear hA HS hN hO hmt hmd; simp only [execOp]; go_simp) ⟨_, rfl, (fun h => by cases h), rfl, ⟨fun q => hI.1 (flag_keep (by decide) q), fun q => absurd q (by rw [flag_other (by decide), hN 20 (by kernel_rfl)]; decide)⟩, fun _ _ _ _ h => h⟩
    · intro ll bb w' hs hlf hN hO hf hI hA
      clear hi'
      have q34 : bb.tmps[34]? = some _ := hf.tmp (k := 3) rfl (by rw [ha]; decide) (hA 3 (by kernel_rfl))
      have e1 := ((hI.1 (hN 20 (by kernel_rfl))).cell (p := ⟨B, 1, none⟩) hBl).trans x1
      exact Rg.op_value (o := ⟨some 35, Op.load 2 (Operand.tmp 34), _, _, _, _⟩) (x := .int .i64 bk) rfl rfl (by clear hA HS hN hO hmt hmd; simp only [execOp]; go_simp) ⟨_, rfl, (fun h => by cases h), rfl, ⟨fun q => hI.1 (flag_keep (by decide) q), fun q => absurd q (by rw [flag_other (by decide), hN 20 (by kernel_rfl)]; decide)⟩, fun _ _ _ _ h => h⟩
    · intro ll bb w' hs hlf hN hO hf hI hA
      clear hi'
      have q33 : bb.tmps[33]? = some _ := hf.tmp (k := 2) rfl (by rw [ha]; decide) (hA 2 (by kernel_rfl))
      have q35 : bb.tmps[35]? = some _ := hf.tmp (k := 4) rfl (by rw [ha]; decide) (hA 4 (by kernel_rfl))
      have hn0 : ¬ bk = 0 := hz0
      have hn1 : (bk == 0) = false := by rw [beq_eq_false_iff_ne]; exact hz0
      have hn2 : ¬ bk = -1 := by omega
      have ht9 := hmt
      have hu9 := hmd
      exact Rg.op_value (o := ⟨some 36, Op.binOp BinOp.rem 2 (Operand.tmp 33) (Operand.tmp 35) 2, _, _, _, _⟩) (x := .int .i64 (m : Int)) rfl rfl (by clear hA HS hN hO hmt hmd; simp only [execOp]; go_simp) ⟨_, rfl, (fun h => by cases h), rfl, ⟨fun q => hI.1 (flag_keep (by decide) q), fun q => absurd q (by rw [flag_other (by decide), hN 20 (by kernel_rfl)]; decide)⟩, fun _ _ _ _ h => h⟩
    · intro ll bb w' hs hlf hN hO hf hI hA
      clear hi'
      have q32 : bb.tmps[32]? = some _ := hf.tmp (k := 1) rfl (by rw [ha]; decide) (hA 1 (by kernel_rfl))
      have q36 : bb.tmps[36]? = some _ := hf.tmp (k := 5) rfl (by rw [ha]; decide) (hA 5 (by kernel_rfl))
      have hi3 : (m : Int) < (nb : Int) := by omega
      exact Rg.op_value (o := ⟨some 37, Op.indexAddr 22 (Operand.tmp 32) (Operand.tmp 36), _, _, _, _⟩) (x := .pointer (some ⟨G, m, none⟩)) rfl rfl (by clear hA HS hN hO hmt hmd; simp only [execOp]; go_simp) ⟨_, rfl, (fun h => by cases h), rfl, ⟨fun q => hI.1 (flag_keep (by decide) q), fun q => absurd q (by rw [flag_other (by decide), hN 20 (by kernel_rfl)]; decide)⟩, fun _ _ _ _ h => h⟩
    · intro ll bb w' hs hlf hN hO hf hI hA
      clear hi'
      have q37 : bb.tmps[37]? = some _ := hf.tmp (k := 6) rfl (by rw [ha]; decide) (hA 6 (by kernel_rfl))
      have e0 := ((hI.1 (hN 20 (by kernel_rfl))).cell (p := ⟨G, m, none⟩) hGl).trans y0
      exact Rg.op_value (o := ⟨some 38, Op.load 2 (Operand.tmp 37), _, _, _, _⟩) (x := .int .i64 (ai : Int)) rfl rfl (by clear hA HS hN hO hmt hmd; simp only [execOp]; go_simp) ⟨_, rfl, (fun h => by cases h), rfl, ⟨fun q => hI.1 (flag_keep (by decide) q), fun q => absurd q (by rw [flag_other (by decide), hN 20 (by kernel_rfl)]; decide)⟩, fun _ _ _ _ h => h⟩
    · intro ll bb w' hs hlf hN hO hf hI hA
      clear hi'
      have q0 := hf.kept (s := 3) (by rw [sizeSb10]; kernel_rfl) k3
      exact Rg.op_value (o := ⟨some 39, Op.move (Operand.tmp 3), _, _, _, _⟩) (x := .slice (some ⟨Gc, 0, none⟩) na na) rfl rfl (by clear hA HS hN hO hmt hmd; simp only [execOp]; go_simp) ⟨_, rfl, (fun h => by cases h), rfl, ⟨fun q => hI.1 (flag_keep (by decide) q), fun q => absurd q (by rw [flag_other (by decide), hN 20 (by kernel_rfl)]; decide)⟩, fun _ _ _ _ h => h⟩
    · intro ll bb w' hs hlf hN hO hf hI hA
      clear hi'
      have q0 := hf.kept (s := 4) (by rw [sizeSb10]; kernel_rfl) k4
      exact Rg.op_value (o := ⟨some 40, Op.move (Operand.tmp 4), _, _, _, _⟩) (x := .slice (some ⟨G, 0, none⟩) nb c4) rfl rfl (by clear hA HS hN hO hmt hmd; simp only [execOp]; go_simp) ⟨_, rfl, (fun h => by cases h), rfl, ⟨fun q => hI.1 (flag_keep (by decide) q), fun q => absurd q (by rw [flag_other (by decide), hN 20 (by kernel_rfl)]; decide)⟩, fun _ _ _ _ h => h⟩
    · intro ll bb w' hs hlf hN hO hf hI hA
      clear hi'
      have q0 := hf.kept (s := 5) (by rw [sizeSb10]; kernel_rfl) k5
      exact Rg.op_value (o := ⟨some 41, Op.move (Operand.tmp 5), _, _, _, _⟩) (x := .int .i64 (n : Nat)) rfl rfl (by clear hA HS hN hO hmt hmd; simp only [execOp]; go_simp) ⟨_, rfl, (fun h => by cases h), rfl, ⟨fun q => hI.1 (flag_keep (by decide) q), fun q => absurd q (by rw [flag_other (by decide), hN 20 (by kernel_rfl)]; decide)⟩, fun _ _ _ _ h => h⟩
    · intro ll bb w' hs hlf hN hO hf hI hA
      clear hi'
      have q1 := hf.kept (s := 1) (by rw [sizeSb10]; kernel_rfl) k1
      exact Rg.op_value (o := ⟨some 42, Op.fieldAddr 27 (Operand.tmp 1) 1, _, _, _, _⟩) (x := .pointer (some ⟨B, 1, none⟩)) rfl rfl (by clear hA HS hN hO hmt hmd; simp only [execOp]; go_simp) ⟨_, rfl, (fun h => by cases h), rfl, ⟨fun q => hI.1 (flag_keep (by decide) q), fun q => absurd q (by rw [flag_other (by decide), hN 20 (by kernel_rfl)]; decide)⟩, fun _ _ _ _ h => h⟩
    · intro ll bb w' hs hlf hN hO hf hI hA
      clear hi'
      have q42 : bb.tmps[42]? = some _ := hf.tmp (k := 11) rfl (by rw [ha]; decide) (hA 11 (by kernel_rfl))
      have e1 := ((hI.1 (hN 20 (by kernel_rfl))).cell (p := ⟨B, 1, none⟩) hBl).trans x1
      exact Rg.op_value (o := ⟨some 43, Op.load 2 (Operand.tmp 42), _, _, _, _⟩) (x := .int .i64 bk) rfl rfl (by clear hA HS hN hO hmt hmd; simp only [execOp]; go_simp) ⟨_, rfl, (fun h => by cases h), rfl, ⟨fun q => hI.1 (flag_keep (by decide) q), fun q => absurd q (by rw [flag_other (by decide), hN 20 (by kernel_rfl)]; decide)⟩, fun _ _ _ _ h => h⟩
    · intro ll bb w' hs hlf hN hO hf hI hA
      clear hi'
      have q41 : bb.tmps[41]? = some _ := hf.tmp (k := 10) rfl (by rw [ha]; decide) (hA 10 (by kernel_rfl))
      have q43 : bb.tmps[43]? = some _ := hf.tmp (k := 12) rfl (by rw [ha]; decide) (hA 12 (by kernel_rfl))
      have hn0 : ¬ bk = 0 := hz0
      have hn1 : (bk == 0) = false := by rw [beq_eq_false_iff_ne]; exact hz0
      have hn2 : ¬ bk = -1 := by omega
      have ht9 := hmt
      have hu9 := hmd
      exact Rg.op_value (o := ⟨some 44, Op.binOp BinOp.rem 2 (Operand.tmp 41) (Operand.tmp 43) 2, _, _, _, _⟩) (x := .int .i64 (m : Int)) rfl rfl (by clear hA HS hN hO hmt hmd; simp only [execOp]; go_simp) ⟨_, rfl, (fun h => by cases h), rfl, ⟨fun q => hI.1 (flag_keep (by decide) q), fun q => absurd q (by rw [flag_other (by decide), hN 20 (by kernel_rfl)]; decide)⟩, fun _ _ _ _ h => h⟩
    · intro ll bb w' hs hlf hN hO hf hI hA
      clear hi'
      have q40 : bb.tmps[40]? = some _ := hf.tmp (k := 9) rfl (by rw [ha]; decide) (hA 9 (by kernel_rfl))
      have q44 : bb.tmps[44]? = some _ := hf.tmp (k := 13) rfl (by rw [ha]; decide) (hA 13 (by kernel_rfl))
      have hi3 : (m : Int) < (nb : Int) := by omega
      exact Rg.op_value (o := ⟨some 45, Op.indexAddr 22 (Operand.tmp 40) (Operand.tmp 44), _, _, _, _⟩) (x := .pointer (some ⟨G, m, none⟩)) rfl rfl (by clear hA HS hN hO hmt hmd; simp only [execOp]; go_simp) ⟨_, rfl, (fun h => by cases h), rfl, ⟨fun q => hI.1 (flag_keep (by decide) q), fun q => absurd q (by rw [flag_other (by decide), hN 20 (by kernel_rfl)]; decide)⟩, fun _ _ _ _ h => h⟩
    · intro ll bb w' hs hlf hN hO hf hI hA
      clear hi'
      have q45 : bb.tmps[45]? = some _ := hf.tmp (k := 14) rfl (by rw [ha]; decide) (hA 14 (by kernel_rfl))
      have e0 := ((hI.1 (hN 20 (by kernel_rfl))).cell (p := ⟨G, m, none⟩) hGl).trans y0
      exact Rg.op_value (o := ⟨some 46, Op.load 2 (Operand.tmp 45), _, _, _, _⟩) (x := .int .i64 (ai : Int)) rfl rfl (by clear hA HS hN hO hmt hmd; simp only [execOp]; go_simp) ⟨_, rfl, (fun h => by cases h), rfl, ⟨fun q => hI.1 (flag_keep (by decide) q), fun q => absurd q (by rw [flag_other (by decide), hN 20 (by kernel_rfl)]; decide)⟩, fun _ _ _ _ h => h⟩
    · intro ll bb w' hs hlf hN hO hf hI hA
      clear hi'
      have q39 : bb.tmps[39]? = some _ := hf.tmp (k := 8) rfl (by rw [ha]; decide) (hA 8 (by kernel_rfl))
      have q46 : bb.tmps[46]? = some _ := hf.tmp (k := 15) rfl (by rw [ha]; decide) (hA 15 (by kernel_rfl))
      have hi3 : (ai : Int) < (na : Int) := by omega
      exact Rg.op_value (o := ⟨some 47, Op.indexAddr 22 (Operand.tmp 39) (Operand.tmp 46), _, _, _, _⟩) (x := .pointer (some ⟨Gc, ai, none⟩)) rfl rfl (by clear hA HS hN hO hmt hmd; simp only [execOp]; go_simp) ⟨_, rfl, (fun h => by cases h), rfl, ⟨fun q => hI.1 (flag_keep (by decide) q), fun q => absurd q (by rw [flag_other (by decide), hN 20 (by kernel_rfl)]; decide)⟩, fun _ _ _ _ h => h⟩
    · intro ll bb w' hs hlf hN hO hf hI hA
      clear hi'
      have q47 : bb.tmps[47]? = some _ := hf.tmp (k := 16) rfl (by rw [ha]; decide) (hA 16 (by kernel_rfl))
      have e0 := ((hI.1 (hN 20 (by kernel_rfl))).cell (p := ⟨Gc, ai, none⟩) hCl).trans z0
      exact Rg.op_value (o := ⟨some 48, Op.load 2 (Operand.tmp 47), _, _, _, _⟩) (x := .int .i64 c) rfl rfl (by clear hA HS hN hO hmt hmd; simp only [execOp]; go_simp) ⟨_, rfl, (fun h => by cases h), rfl, ⟨fun q => hI.1 (flag_keep (by decide) q), fun q => absurd q (by rw [flag_other (by decide), hN 20 (by kernel_rfl)]; decide)⟩, fun _ _ _ _ h => h⟩
    · intro ll bb w' hs hlf hN hO hf hI hA
      clear hi'
      have q48 : bb.tmps[48]? = some _ := hf.tmp (k := 17) rfl (by rw [ha]; decide) (hA 17 (by kernel_rfl))
      have hw9 : IntKind.i64.wrap (c + 1) = c + 1 := by rw [IntKind.wrap_i64]; omega
      exact Rg.op_value (o := ⟨some 49, Op.binOp BinOp.add 2 (Operand.tmp 48) (Operand.const (Value.int .i64 1)) 2, _, _, _, _⟩) (x := .int .i64 (c + 1)) rfl rfl (by clear hA HS hN hO hmt hmd; simp only [execOp]; go_simp) ⟨_, rfl, (fun h => by cases h), rfl, ⟨fun q => hI.1 (flag_keep (by decide) q), fun q => absurd q (by rw [flag_other (by decide), hN 20 (by kernel_rfl)]; decide)⟩, fun _ _ _ _ h => h⟩
    · intro ll bb w' hs hlf hN hO hf hI hA
      clear hi'
      have q31 : bb.tmps[31]? = some _ := hf.tmp (k := 0) rfl (by rw [ha]; decide) (hA 0 (by kernel_rfl))
      have q38 : bb.tmps[38]? = some _ := hf.tmp (k := 7) rfl (by rw [ha]; decide) (hA 7 (by kernel_rfl))
      have hi3 : (ai : Int) < (na : Int) := by omega
      exact Rg.op_value (o := ⟨some 50, Op.indexAddr 22 (Operand.tmp 31) (Operand.tmp 38), _, _, _, _⟩) (x := .pointer (some ⟨Gc, ai, none⟩)) rfl rfl (by clear hA HS hN hO hmt hmd; simp only [execOp]; go_simp) ⟨_, rfl, (fun h => by cases h), rfl, ⟨fun q => hI.1 (flag_keep (by decide) q), fun q => absurd q (by rw [flag_other (by decide), hN 20 (by kernel_rfl)]; decide)⟩, fun _ _ _ _ h => h⟩
    · intro ll bb w' hs hlf hN hO hf hI hA
      clear hi'
      have q50 : bb.tmps[50]? = some _ := hf.tmp (k := 19) rfl (by rw [ha]; decide) (hA 19 (by kernel_rfl))
      have q49 : bb.tmps[49]? = some _ := hf.tmp (k := 18) rfl (by rw [ha]; decide) (hA 18 (by kernel_rfl))
      have hB := hI.1 hlf
      have e0 := (hB.cell (p := ⟨Gc, ai, none⟩) hCl).trans z0
      have e2 := (hB.frozen (p := ⟨Gc, ai, none⟩) hCl).trans z1
      exact Rg.op_skip (o := ⟨none, Op.store 2 (Operand.tmp 50) (Operand.tmp 49), _, _, _, _⟩) rfl rfl (by clear hA HS hN hO hmt hmd; simp only [execOp]; go_simp) ⟨undef, rfl, (fun _ => rfl), rfl, ⟨fun q => absurd q (by rw [flag_set (by rw [hs, sizeSb10]; decide)]; decide), fun _ => ⟨w', hB, rfl⟩⟩, fun k9 y9 _ _ h => by
        unfold FSb10 at *
        split at h <;> exact h⟩

theorem dSb10_0 : Rg.dstAt (Rg.opsOf Try.f17 10) 0 = some 31 := by kernel_rfl
theorem dSb10_1 : Rg.dstAt (Rg.opsOf Try.f17 10) 1 = some 32 := by kernel_rfl
theorem dSb10_2 : Rg.dstAt (Rg.opsOf Try.f17 10) 2 = some 33 := by kernel_rfl
theorem dSb10_3 : Rg.dstAt (Rg.opsOf Try.f17 10) 3 = some 34 := by kernel_rfl
theorem dSb10_4 : Rg.dstAt (Rg.opsOf Try.f17 10) 4 = some 35 := by kernel_rfl
theorem dSb10_5 : Rg.dstAt (Rg.opsOf Try.f17 10) 5 = some 36 := by kernel_rfl
theorem dSb10_6 : Rg.dstAt (Rg.opsOf Try.f17 10) 6 = some 37 := by kernel_rfl
theorem dSb10_7 : Rg.dstAt (Rg.opsOf Try.f17 10) 7 = some 38 := by kernel_rfl
theorem dSb10_8 : Rg.dstAt (Rg.opsOf Try.f17 10) 8 = some 39 := by kernel_rfl
theorem dSb10_9 : Rg.dstAt (Rg.opsOf Try.f17 10) 9 = some 40 := by kernel_rfl
theorem dSb10_10 : Rg.dstAt (Rg.opsOf Try.f17 10) 10 = some 41 := by kernel_rfl
theorem dSb10_11 : Rg.dstAt (Rg.opsOf Try.f17 10) 11 = some 42 := by kernel_rfl
theorem dSb10_12 : Rg.dstAt (Rg.opsOf Try.f17 10) 12 = some 43 := by kernel_rfl
theorem dSb10_13 : Rg.dstAt (Rg.opsOf Try.f17 10) 13 = some 44 := by kernel_rfl
theorem dSb10_14 : Rg.dstAt (Rg.opsOf Try.f17 10) 14 = some 45 := by kernel_rfl
theorem dSb10_15 : Rg.dstAt (Rg.opsOf Try.f17 10) 15 = some 46 := by kernel_rfl
theorem dSb10_16 : Rg.dstAt (Rg.opsOf Try.f17 10) 16 = some 47 := by kernel_rfl
theorem dSb10_17 : Rg.dstAt (Rg.opsOf Try.f17 10) 17 = some 48 := by kernel_rfl
theorem dSb10_18 : Rg.dstAt (Rg.opsOf Try.f17 10) 18 = some 49 := by kernel_rfl
theorem dSb10_19 : Rg.dstAt (Rg.opsOf Try.f17 10) 19 = some 50 := by kernel_rfl
theorem dSb10_20 : Rg.dstAt (Rg.opsOf Try.f17 10) 20 = none := by kernel_rfl
theorem laySb10 {a b : Act} (hf : Rg.Fr (Rg.opsOf Try.f17 10) a b) : b = (((((((((((((((((((((a.put (some 31) (Rg.out (Rg.opsOf Try.f17 10) b 0)).put (some 32) (Rg.out (Rg.opsOf Try.f17 10) b 1)).put (some 33) (Rg.out (Rg.opsOf Try.f17 10) b 2)).put (some 34) (Rg.out (Rg.opsOf Try.f17 10) b 3)).put (some 35) (Rg.out (Rg.opsOf Try.f17 10) b 4)).put (some 36) (Rg.out (Rg.opsOf Try.f17 10) b 5)).put (some 37) (Rg.out (Rg.opsOf Try.f17 10) b 6)).put (some 38) (Rg.out (Rg.opsOf Try.f17 10) b 7)).put (some 39) (Rg.out (Rg.opsOf Try.f17 10) b 8)).put (some 40) (Rg.out (Rg.opsOf Try.f17 10) b 9)).put (some 41) (Rg.out (Rg.opsOf Try.f17 10) b 10)).put (some 42) (Rg.out (Rg.opsOf Try.f17 10) b 11)).put (some 43) (Rg.out (Rg.opsOf Try.f17 10) b 12)).put (some 44) (Rg.out (Rg.opsOf Try.f17 10) b 13)).put (some 45) (Rg.out (Rg.opsOf Try.f17 10) b 14)).put (some 46) (Rg.out (Rg.opsOf Try.f17 10) b 15)).put (some 47) (Rg.out (Rg.opsOf Try.f17 10) b 16)).put (some 48) (Rg.out (Rg.opsOf Try.f17 10) b 17)).put (some 49) (Rg.out (Rg.opsOf Try.f17 10) b 18)).put (some 50) (Rg.out (Rg.opsOf Try.f17 10) b 19)).put none (Rg.out (Rg.opsOf Try.f17 10) b 20)) := by
  have h := hf.chain
  rw [sizeSb10, show List.range 21 = [0, 1, 2, 3, 4, 5, 6, 7, 8, 9, 10, 11, 12, 13, 14, 15, 16, 17, 18, 19, 20] from by decide] at h
  simp only [List.foldl_cons, List.foldl_nil, dSb10_0, dSb10_1, dSb10_2, dSb10_3, dSb10_4, dSb10_5, dSb10_6, dSb10_7, dSb10_8, dSb10_9, dSb10_10, dSb10_11, dSb10_12, dSb10_13, dSb10_14, dSb10_15, dSb10_16, dSb10_17, dSb10_18, dSb10_19, dSb10_20] at h
  exact h
end Go.Proofs.Ytoehnlbkgpjhmab
