/-
  The arm of a number, as the program says: the regions that draw their order.
-/
import Derived.Test.YtoehnlbkgpjhmaaTr12
namespace Go.Proofs.Ytoehnlbkgpjhmaa
open Go.RowKit Go.WideShapes Va Lb Tr Go.Maps
set_option linter.all false

theorem flag_keep {ll : Array Bool} {i j : Nat} (h : i ≠ j) (q : (ll.setIfInBounds i true).getD j false = false) : ll.getD j false = false := by
  rw [Array.getD_eq_getD_getElem?, Array.getElem?_setIfInBounds_ne h] at q
  rw [Array.getD_eq_getD_getElem?]; exact q
theorem flag_set {ll : Array Bool} {i : Nat} (h : i < ll.size) : (ll.setIfInBounds i true).getD i false = true := by
  rw [Array.getD_eq_getD_getElem?, Array.getElem?_setIfInBounds_self_of_lt h]; rfl
theorem OS.base_le {x : Tl} {ta : Option Addr} {tc b base base2 Bo Bt Bb Br : Nat} {w : World} (h : OS x ta tc b base Bo Bt Bb Br w) (hl : base2 ≤ base) : OS x ta tc b base2 Bo Bt Bb Br w :=
  ⟨h.pt, h.pb, ⟨Nat.le_trans hl h.lo.1, Nat.le_trans hl h.lo.2.1, Nat.le_trans hl h.lo.2.2.1, Nat.le_trans hl h.lo.2.2.2⟩, h.ne, h.st.elim Or.inl (fun ⟨s, G, h1, h2, h3, h4⟩ => Or.inr ⟨s, G, h1, h2, Nat.le_trans hl h3, h4⟩)⟩

def FIa3 (x : Tl) (ta : Option Addr) (tc B n d base : Nat) (i9 : Nat) (v : Value) (w : World) : Prop :=
  match i9 with
  | 0 => v = .agg #[.int .i64 x.arms, .int .i64 x.block, .slice ta x.coins.length tc, .int .i64 x.told]
  | 1 => v = .int .i64 (n : Nat)
  | 2 => v = .pointer (some ⟨B, 1, none⟩)
  | 3 => v = .int .i64 x.block
  | 4 => v = .int .i64 (d : Nat)
  | 5 => ∃ Bo Bt Bb Br, v = onF Bo Bt Bb Br ∧ OS x ta tc d base Bo Bt Bb Br w
  | 6 => ∃ Bo Bt Bb Br, v = onF Bo Bt Bb Br ∧ OS x ta tc d base Bo Bt Bb Br w
  | _ => True
theorem sizeIa3 : (Rg.opsOf Try.f11 3).size = 7 := by kernel_rfl

set_option maxRecDepth 20000 in
set_option maxHeartbeats 8000000 in
theorem regIa3 {Q : Exit → Act → World → Prop} {a : Act} {w9 : World} {x : Tl} {ta : Option Addr} {tc B n d base : Nat} (ha : a.tmps.size = 31)
    (k1 : a.tmps[1]? = some (.int .i64 (n : Nat))) (k2 : a.tmps[2]? = some (.pointer (some ⟨B, 0, none⟩))) (hBl : B < w9.heap.size) (x0 : w9.cell? ⟨B, 0, none⟩ = some (.int .i64 x.arms)) (x1 : w9.cell? ⟨B, 1, none⟩ = some (.int .i64 x.block)) (x2 : w9.cell? ⟨B, 2, none⟩ = some (.slice ta x.coins.length tc)) (x3 : w9.cell? ⟨B, 3, none⟩ = some (.int .i64 x.told)) (hz0 : ¬ x.block = 0) (hbk : 1 ≤ x.block) (hdt : (n : Int).tdiv x.block = (d : Int)) (hdv : (n : Int) / x.block = (d : Int)) (hd9 : d ≤ 999) (hbs : base ≤ w9.heap.size)
    (hend : ∀ b' w', Rg.Fr (Rg.opsOf Try.f11 3) a b' → Below w9.heap.size w9 w' → FIa3 x ta tc B n d base 6 (Rg.out (Rg.opsOf Try.f11 3) b' 6) w' → Q .normal b' w') :
    (Code.region 3 (Rg.opsOf Try.f11 3) true).wp Try.prog Q a w9 := by
  refine Rg.region_set3 (by kernel_rfl) (fun _ w' => Below w9.heap.size w9 w') (FIa3 x ta tc B n d base) (by rw [ha, sizeIa3]; kernel_rfl) (st_drew (Below.refl _ _)) ?_ ?_
  case refine_2 =>
    intro l b' w' hf hall hI hA
    rw [sizeIa3] at hA
    exact hend b' w' hf hI (hA 6 (by decide))
  case refine_1 =>
    clear hend
    have HS : ∀ {w w' : World}, Below w.heap.size w w' → ∀ k9 y9, FIa3 x ta tc B n d base k9 y9 w → FIa3 x ta tc B n d base k9 y9 w' := fun hb k9 y9 h => by
      unfold FIa3 at *
      split at h <;> first | exact h | (obtain ⟨Bo, Bt, Bb, Br, h1, h2⟩ := h; exact ⟨Bo, Bt, Bb, Br, h1, h2.below hb⟩)
    intro i' hi'
    rw [sizeIa3] at hi'
    rcases (show i' = 0 ∨ i' = 1 ∨ i' = 2 ∨ i' = 3 ∨ i' = 4 ∨ i' = 5 ∨ i' = 6 by omega) with rfl | rfl | rfl | rfl | rfl | rfl | rfl
    · intro ll bb w' hs hlf hN hO hf hI hA
      clear hi'
      have q2 := hf.kept (s := 2) (by rw [sizeIa3]; kernel_rfl) k2
      have e0 := (hI.cell (p := ⟨B, 0, none⟩) hBl).trans x0
      have e1 := (hI.cell (p := ⟨B, 1, none⟩) hBl).trans x1
      have e2 := (hI.cell (p := ⟨B, 2, none⟩) hBl).trans x2
      have e3 := (hI.cell (p := ⟨B, 3, none⟩) hBl).trans x3
      exact Rg.op_value (o := ⟨some 17, Op.load 26 (Operand.tmp 2), _, _, _, _⟩) (x := .agg #[.int .i64 x.arms, .int .i64 x.block, .slice ta x.coins.length tc, .int .i64 x.told]) rfl rfl (by clear hA HS hN hO hdt hdv; simp only [execOp]; go_simp) ⟨_, rfl, (fun h => by cases h), rfl, hI, fun _ _ _ _ h => h⟩
    · intro ll bb w' hs hlf hN hO hf hI hA
      clear hi'
      have q0 := hf.kept (s := 1) (by rw [sizeIa3]; kernel_rfl) k1
      exact Rg.op_value (o := ⟨some 18, Op.move (Operand.tmp 1), _, _, _, _⟩) (x := .int .i64 (n : Nat)) rfl rfl (by clear hA HS hN hO hdt hdv; simp only [execOp]; go_simp) ⟨_, rfl, (fun h => by cases h), rfl, hI, fun _ _ _ _ h => h⟩
    · intro ll bb w' hs hlf hN hO hf hI hA
      clear hi'
      have q2 := hf.kept (s := 2) (by rw [sizeIa3]; kernel_rfl) k2
      exact Rg.op_value (o := ⟨some 19, Op.fieldAddr 26 (Operand.tmp 2) 1, _, _, _, _⟩) (x := .pointer (some ⟨B, 1, none⟩)) rfl rfl (by clear hA HS hN hO hdt hdv; simp only [execOp]; go_simp) ⟨_, rfl, (fun h => by cases h), rfl, hI, fun _ _ _ _ h => h⟩
    · intro ll bb w' hs hlf hN hO hf hI hA
      clear hi'
      have q19 : bb.tmps[19]? = some _ := hf.tmp (k := 2) rfl (by rw [ha]; decide) (hA 2 (by kernel_rfl))
      have e1 := (hI.cell (p := ⟨B, 1, none⟩) hBl).trans x1
      exact Rg.op_value (o := ⟨some 20, Op.load 2 (Operand.tmp 19), _, _, _, _⟩) (x := .int .i64 x.block) rfl rfl (by clear hA HS hN hO hdt hdv; simp only [execOp]; go_simp) ⟨_, rfl, (fun h => by cases h), rfl, hI, fun _ _ _ _ h => h⟩
    · intro ll bb w' hs hlf hN hO hf hI hA
      clear hi'
      have q18 : bb.tmps[18]? = some _ := hf.tmp (k := 1) rfl (by rw [ha]; decide) (hA 1 (by kernel_rfl))
      have q20 : bb.tmps[20]? = some _ := hf.tmp (k := 3) rfl (by rw [ha]; decide) (hA 3 (by kernel_rfl))
      have hn0 : ¬ x.block = 0 := hz0
      have hn1 : (x.block == 0) = false := by rw [beq_eq_false_iff_ne]; exact hz0
      have hn2 : ¬ x.block = -1 := by omega
      have ht9 := hdt
      have hu9 := hdv
      have hw9 : IntKind.i64.wrap ((d : Int)) = (d : Int) := by rw [IntKind.wrap_i64]; omega
      exact Rg.op_value (o := ⟨some 21, Op.binOp BinOp.quo 2 (Operand.tmp 18) (Operand.tmp 20) 2, _, _, _, _⟩) (x := .int .i64 (d : Nat)) rfl rfl (by clear hA HS hN hO hdt hdv; simp only [execOp]; go_simp) ⟨_, rfl, (fun h => by cases h), rfl, hI, fun _ _ _ _ h => h⟩
    · intro ll bb w' hs hlf hN hO hf hI hA
      clear hi'
      have q17 : bb.tmps[17]? = some _ := hf.tmp (k := 0) rfl (by rw [ha]; decide) (hA 0 (by kernel_rfl))
      have q21 : bb.tmps[21]? = some _ := hf.tmp (k := 4) rfl (by rw [ha]; decide) (hA 4 (by kernel_rfl))
      refine Rg.op_call (o := ⟨some 22, Op.call { callee := Callee.value (Operand.func 40), args := #[(Operand.tmp 17), (Operand.tmp 21)], argTypes := _ }, _, _, _, _⟩) rfl rfl (by clear hA HS hN hO hdt hdv; simp only [execOp, resolve]; go_simp; try rfl) (oonce_any x ta tc d w') ?_
      rintro e w2 ⟨Bo, Bt, Bb, Br, rfl, hos, hb2⟩
      exact ⟨_, rfl, _, rfl, (fun h => by cases h), ⟨Bo, Bt, Bb, Br, rfl, hos.base_le (Nat.le_trans hbs hI.size)⟩, onto hI hb2, fun k9 y9 _ _ h => HS hb2 k9 y9 h⟩
    · intro ll bb w' hs hlf hN hO hf hI hA
      clear hi'
      obtain ⟨Bo, Bt, Bb, Br, h1, h2⟩ := hA 5 (by kernel_rfl)
      have q22 : bb.tmps[22]? = some (onF Bo Bt Bb Br) := hf.tmp (k := 5) rfl (by rw [ha]; decide) h1
      exact Rg.op_value (o := ⟨some 5, Op.assign (Operand.tmp 22), _, _, _, _⟩) (x := onF Bo Bt Bb Br) rfl rfl (by clear hA HS hN hO hdt hdv h1; simp only [execOp]; go_simp) ⟨_, rfl, (fun h => by cases h), ⟨Bo, Bt, Bb, Br, rfl, h2⟩, hI, fun _ _ _ _ h => h⟩

theorem dIa3_0 : Rg.dstAt (Rg.opsOf Try.f11 3) 0 = some 17 := by kernel_rfl
theorem dIa3_1 : Rg.dstAt (Rg.opsOf Try.f11 3) 1 = some 18 := by kernel_rfl
theorem dIa3_2 : Rg.dstAt (Rg.opsOf Try.f11 3) 2 = some 19 := by kernel_rfl
theorem dIa3_3 : Rg.dstAt (Rg.opsOf Try.f11 3) 3 = some 20 := by kernel_rfl
theorem dIa3_4 : Rg.dstAt (Rg.opsOf Try.f11 3) 4 = some 21 := by kernel_rfl
theorem dIa3_5 : Rg.dstAt (Rg.opsOf Try.f11 3) 5 = some 22 := by kernel_rfl
theorem dIa3_6 : Rg.dstAt (Rg.opsOf Try.f11 3) 6 = some 5 := by kernel_rfl
theorem layIa3 {a b : Act} (hf : Rg.Fr (Rg.opsOf Try.f11 3) a b) : b = (((((((a.put (some 17) (Rg.out (Rg.opsOf Try.f11 3) b 0)).put (some 18) (Rg.out (Rg.opsOf Try.f11 3) b 1)).put (some 19) (Rg.out (Rg.opsOf Try.f11 3) b 2)).put (some 20) (Rg.out (Rg.opsOf Try.f11 3) b 3)).put (some 21) (Rg.out (Rg.opsOf Try.f11 3) b 4)).put (some 22) (Rg.out (Rg.opsOf Try.f11 3) b 5)).put (some 5) (Rg.out (Rg.opsOf Try.f11 3) b 6)) := by
  have h := hf.chain
  rw [sizeIa3, show List.range 7 = [0, 1, 2, 3, 4, 5, 6] from by decide] at h
  simp only [List.foldl_cons, List.foldl_nil, dIa3_0, dIa3_1, dIa3_2, dIa3_3, dIa3_4, dIa3_5, dIa3_6] at h
  exact h

def FIa4 (x : Tl) (ta : Option Addr) (tc B n m nb base Bo Bt Bb Br : Nat) (A : Int) (L : List Int) (i9 : Nat) (v : Value) (w : World) : Prop :=
  match i9 with
  | 0 => v = onF Bo Bt Bb Br
  | 1 => ∃ G, v = .slice (some ⟨G, 0, none⟩) nb nb ∧ IR w G L
  | 2 => v = .int .i64 (n : Nat)
  | 3 => v = .pointer (some ⟨B, 1, none⟩)
  | 4 => v = .int .i64 x.block
  | 5 => v = .int .i64 (m : Nat)
  | 6 => ∃ G, v = .pointer (some ⟨G, m, none⟩) ∧ w.cell? ⟨G, m, none⟩ = some (.int .i64 A)
  | 7 => v = .int .i64 A
  | 8 => v = .int .i64 A
  | _ => True
theorem sizeIa4 : (Rg.opsOf Try.f11 4).size = 9 := by kernel_rfl

set_option maxRecDepth 20000 in
set_option maxHeartbeats 8000000 in
theorem regIa4 {Q : Exit → Act → World → Prop} {a : Act} {w9 : World} {x : Tl} {ta : Option Addr} {tc B n m nb base Bo Bt Bb Br : Nat} {A : Int} {L : List Int} (ha : a.tmps.size = 31)
    (k1 : a.tmps[1]? = some (.int .i64 (n : Nat))) (k2 : a.tmps[2]? = some (.pointer (some ⟨B, 0, none⟩))) (k5 : a.tmps[5]? = some (onF Bo Bt Bb Br)) (hBl : B < base) (x0 : w9.cell? ⟨B, 0, none⟩ = some (.int .i64 x.arms)) (x1 : w9.cell? ⟨B, 1, none⟩ = some (.int .i64 x.block)) (x2 : w9.cell? ⟨B, 2, none⟩ = some (.slice ta x.coins.length tc)) (x3 : w9.cell? ⟨B, 3, none⟩ = some (.int .i64 x.told)) (hz0 : ¬ x.block = 0) (hbk : 1 ≤ x.block) (hmt : (n : Int).tmod x.block = (m : Int)) (hmd : (n : Int) % x.block = (m : Int)) (hml : m < nb) (hg : L[m]? = some A) (HC : ∀ W, Below w9.heap.size w9 W → Calls Try.prog 64 #[.pointer (some ⟨Bo, 0, none⟩), .pointer (some ⟨Bt, 0, none⟩), .pointer (some ⟨Bb, 0, none⟩), .pointer (some ⟨Br, 0, none⟩)] W fun e w' => ∃ G, e = .returned (.slice (some ⟨G, 0, none⟩) nb nb) ∧ IR w' G L ∧ Below base W w')
    (hend : ∀ b' w', Rg.Fr (Rg.opsOf Try.f11 4) a b' → Below base w9 w' → Rg.out (Rg.opsOf Try.f11 4) b' 8 = .int .i64 A → Q .normal b' w') :
    (Code.region 4 (Rg.opsOf Try.f11 4) true).wp Try.prog Q a w9 := by
  refine Rg.region_set3 (by kernel_rfl) (fun ll9 w' => Below base w9 w' ∧ (ll9.getD 1 false = false → Below w9.heap.size w9 w')) (FIa4 x ta tc B n m nb base Bo Bt Bb Br A L) (by rw [ha, sizeIa4]; kernel_rfl) ⟨st_drew (Below.refl _ _), fun _ => st_drew (Below.refl _ _)⟩ ?_ ?_
  case refine_2 =>
    intro l b' w' hf hall hI hA
    rw [sizeIa4] at hA
    exact hend b' w' hf hI.1 (hA 8 (by decide))
  case refine_1 =>
    clear hend
    intro i' hi'
    rw [sizeIa4] at hi'
    rcases (show i' = 0 ∨ i' = 1 ∨ i' = 2 ∨ i' = 3 ∨ i' = 4 ∨ i' = 5 ∨ i' = 6 ∨ i' = 7 ∨ i' = 8 by omega) with rfl | rfl | rfl | rfl | rfl | rfl | rfl | rfl | rfl
    · intro ll bb w' hs hlf hN hO hf hI hA
      clear hi'
      have q0 := hf.kept (s := 5) (by rw [sizeIa4]; kernel_rfl) k5
      exact Rg.op_value (o := ⟨some 23, Op.move (Operand.tmp 5), _, _, _, _⟩) (x := onF Bo Bt Bb Br) rfl rfl (by clear hA hN hO hmt hmd HC; simp only [execOp]; go_simp) ⟨_, rfl, (fun h => by cases h), rfl, ⟨hI.1, fun q => hI.2 (flag_keep (by decide) q)⟩, fun _ _ _ _ h => h⟩
    · intro ll bb w' hs hlf hN hO hf hI hA
      clear hi'
      have q23 : bb.tmps[23]? = some _ := hf.tmp (k := 0) rfl (by rw [ha]; decide) (hA 0 (by kernel_rfl))
      refine Rg.op_call (o := ⟨some 24, Op.call { callee := Callee.value (Operand.tmp 23), args := #[], argTypes := _ }, _, _, _, _⟩) rfl rfl (by clear hA hN hO hmt hmd HC; unfold onF at q23; simp only [execOp, resolve]; go_simp) (HC _ (hI.2 hlf)) ?_
      rintro e w2 ⟨G, rfl, hir, hb2⟩
      exact ⟨_, rfl, _, rfl, (fun h => by cases h), ⟨G, rfl, hir⟩, ⟨hI.1.trans hb2, fun q => absurd q (by rw [flag_set (by rw [hs, sizeIa4]; decide)]; decide)⟩, fun k9 y9 hk9 ha9 h => by
        unfold FIa4 at *
        split at h <;> first | exact h | (exact absurd rfl hk9) | (exact absurd ha9 (by decide))⟩
    · intro ll bb w' hs hlf hN hO hf hI hA
      clear hi'
      have q0 := hf.kept (s := 1) (by rw [sizeIa4]; kernel_rfl) k1
      exact Rg.op_value (o := ⟨some 25, Op.move (Operand.tmp 1), _, _, _, _⟩) (x := .int .i64 (n : Nat)) rfl rfl (by clear hA hN hO hmt hmd HC; simp only [execOp]; go_simp) ⟨_, rfl, (fun h => by cases h), rfl, ⟨hI.1, fun q => hI.2 (flag_keep (by decide) q)⟩, fun _ _ _ _ h => h⟩
    · intro ll bb w' hs hlf hN hO hf hI hA
      clear hi'
      have q2 := hf.kept (s := 2) (by rw [sizeIa4]; kernel_rfl) k2
      exact Rg.op_value (o := ⟨some 26, Op.fieldAddr 26 (Operand.tmp 2) 1, _, _, _, _⟩) (x := .pointer (some ⟨B, 1, none⟩)) rfl rfl (by clear hA hN hO hmt hmd HC; simp only [execOp]; go_simp) ⟨_, rfl, (fun h => by cases h), rfl, ⟨hI.1, fun q => hI.2 (flag_keep (by decide) q)⟩, fun _ _ _ _ h => h⟩
    · intro ll bb w' hs hlf hN hO hf hI hA
      clear hi'
      have q26 : bb.tmps[26]? = some _ := hf.tmp (k := 3) rfl (by rw [ha]; decide) (hA 3 (by kernel_rfl))
      have e1 := (hI.1.cell (p := ⟨B, 1, none⟩) hBl).trans x1
      exact Rg.op_value (o := ⟨some 27, Op.load 2 (Operand.tmp 26), _, _, _, _⟩) (x := .int .i64 x.block) rfl rfl (by clear hA hN hO hmt hmd HC; simp only [execOp]; go_simp) ⟨_, rfl, (fun h => by cases h), rfl, ⟨hI.1, fun q => hI.2 (flag_keep (by decide) q)⟩, fun _ _ _ _ h => h⟩
    · intro ll bb w' hs hlf hN hO hf hI hA
      clear hi'
      have q25 : bb.tmps[25]? = some _ := hf.tmp (k := 2) rfl (by rw [ha]; decide) (hA 2 (by kernel_rfl))
      have q27 : bb.tmps[27]? = some _ := hf.tmp (k := 4) rfl (by rw [ha]; decide) (hA 4 (by kernel_rfl))
      have hn0 : ¬ x.block = 0 := hz0
      have hn1 : (x.block == 0) = false := by rw [beq_eq_false_iff_ne]; exact hz0
      have hn2 : ¬ x.block = -1 := by omega
      have ht9 := hmt
      have hu9 := hmd
      exact Rg.op_value (o := ⟨some 28, Op.binOp BinOp.rem 2 (Operand.tmp 25) (Operand.tmp 27) 2, _, _, _, _⟩) (x := .int .i64 (m : Nat)) rfl rfl (by clear hA hN hO hmt hmd HC; simp only [execOp]; go_simp) ⟨_, rfl, (fun h => by cases h), rfl, ⟨hI.1, fun q => hI.2 (flag_keep (by decide) q)⟩, fun _ _ _ _ h => h⟩
    · intro ll bb w' hs hlf hN hO hf hI hA
      clear hi'
      have q28 : bb.tmps[28]? = some _ := hf.tmp (k := 5) rfl (by rw [ha]; decide) (hA 5 (by kernel_rfl))
      obtain ⟨G, h1, h2⟩ := hA 1 (by kernel_rfl)
      have q24 : bb.tmps[24]? = some (.slice (some ⟨G, 0, none⟩) nb nb) := hf.tmp (k := 1) rfl (by rw [ha]; decide) h1
      have hi3 : (m : Int) < (nb : Int) := by omega
      exact Rg.op_value (o := ⟨some 29, Op.indexAddr 24 (Operand.tmp 24) (Operand.tmp 28), _, _, _, _⟩) (x := .pointer (some ⟨G, m, none⟩)) rfl rfl (by clear hA hN hO hmt hmd HC h1; simp only [execOp]; go_simp) ⟨_, rfl, (fun h => by cases h), ⟨G, rfl, (h2.2 _ _ hg).1⟩, ⟨hI.1, fun q => hI.2 (flag_keep (by decide) q)⟩, fun _ _ _ _ h => h⟩
    · intro ll bb w' hs hlf hN hO hf hI hA
      clear hi'
      obtain ⟨G, h1, h3⟩ := hA 6 (by kernel_rfl)
      have q29 : bb.tmps[29]? = some (.pointer (some ⟨G, m, none⟩)) := hf.tmp (k := 6) rfl (by rw [ha]; decide) h1
      exact Rg.op_value (o := ⟨some 30, Op.load 2 (Operand.tmp 29), _, _, _, _⟩) (x := .int .i64 A) rfl rfl (by clear hA hN hO hmt hmd HC h1; simp only [execOp]; go_simp) ⟨_, rfl, (fun h => by cases h), rfl, ⟨hI.1, fun q => hI.2 (flag_keep (by decide) q)⟩, fun _ _ _ _ h => h⟩
    · intro ll bb w' hs hlf hN hO hf hI hA
      clear hi'
      have q30 : bb.tmps[30]? = some _ := hf.tmp (k := 7) rfl (by rw [ha]; decide) (hA 7 (by kernel_rfl))
      exact Rg.op_value (o := ⟨some 4, Op.assign (Operand.tmp 30), _, _, _, _⟩) (x := .int .i64 A) rfl rfl (by clear hA hN hO hmt hmd HC; simp only [execOp]; go_simp) ⟨_, rfl, (fun h => by cases h), rfl, ⟨hI.1, fun q => hI.2 (flag_keep (by decide) q)⟩, fun _ _ _ _ h => h⟩

theorem dIa4_0 : Rg.dstAt (Rg.opsOf Try.f11 4) 0 = some 23 := by kernel_rfl
theorem dIa4_1 : Rg.dstAt (Rg.opsOf Try.f11 4) 1 = some 24 := by kernel_rfl
theorem dIa4_2 : Rg.dstAt (Rg.opsOf Try.f11 4) 2 = some 25 := by kernel_rfl
theorem dIa4_3 : Rg.dstAt (Rg.opsOf Try.f11 4) 3 = some 26 := by kernel_rfl
theorem dIa4_4 : Rg.dstAt (Rg.opsOf Try.f11 4) 4 = some 27 := by kernel_rfl
theorem dIa4_5 : Rg.dstAt (Rg.opsOf Try.f11 4) 5 = some 28 := by kernel_rfl
theorem dIa4_6 : Rg.dstAt (Rg.opsOf Try.f11 4) 6 = some 29 := by kernel_rfl
theorem dIa4_7 : Rg.dstAt (Rg.opsOf Try.f11 4) 7 = some 30 := by kernel_rfl
theorem dIa4_8 : Rg.dstAt (Rg.opsOf Try.f11 4) 8 = some 4 := by kernel_rfl
theorem layIa4 {a b : Act} (hf : Rg.Fr (Rg.opsOf Try.f11 4) a b) : b = (((((((((a.put (some 23) (Rg.out (Rg.opsOf Try.f11 4) b 0)).put (some 24) (Rg.out (Rg.opsOf Try.f11 4) b 1)).put (some 25) (Rg.out (Rg.opsOf Try.f11 4) b 2)).put (some 26) (Rg.out (Rg.opsOf Try.f11 4) b 3)).put (some 27) (Rg.out (Rg.opsOf Try.f11 4) b 4)).put (some 28) (Rg.out (Rg.opsOf Try.f11 4) b 5)).put (some 29) (Rg.out (Rg.opsOf Try.f11 4) b 6)).put (some 30) (Rg.out (Rg.opsOf Try.f11 4) b 7)).put (some 4) (Rg.out (Rg.opsOf Try.f11 4) b 8)) := by
  have h := hf.chain
  rw [sizeIa4, show List.range 9 = [0, 1, 2, 3, 4, 5, 6, 7, 8] from by decide] at h
  simp only [List.foldl_cons, List.foldl_nil, dIa4_0, dIa4_1, dIa4_2, dIa4_3, dIa4_4, dIa4_5, dIa4_6, dIa4_7, dIa4_8] at h
  exact h
end Go.Proofs.Ytoehnlbkgpjhmaa
