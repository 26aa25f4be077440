/-
  The arm of a number, as the specification says: the region that draws its order.
-/
import Derived.Test.YtoehnlbkgpjhmaaTr7
namespace Go.Proofs.Ytoehnlbkgpjhmaa
open Go.RowKit Va Lb Tr
set_option linter.all false

def FAl3 (B n d m nb : Nat) (a0 bk td A : Int) (sv : Value) (L : List Int) (i9 : Nat) (v : Value) (w : World) : Prop :=
  match i9 with
  | 0 => v = .agg #[.int .i64 a0, .int .i64 bk, sv, .int .i64 td]
  | 1 => v = .int .i64 (n : Nat)
  | 2 => v = .pointer (some ⟨B, 1, none⟩)
  | 3 => v = .int .i64 bk
  | 4 => v = .int .i64 (d : Nat)
  | 5 => ∃ G c, v = .slice (some ⟨G, 0, none⟩) nb c ∧ IR w G L
  | 6 => v = .int .i64 (n : Nat)
  | 7 => v = .pointer (some ⟨B, 1, none⟩)
  | 8 => v = .int .i64 bk
  | 9 => v = .int .i64 (m : Nat)
  | 10 => ∃ G, v = .pointer (some ⟨G, m, none⟩) ∧ G < w.heap.size ∧ w.cell? ⟨G, m, none⟩ = some (.int .i64 A)
  | 11 => v = .int .i64 A
  | 12 => v = .int .i64 A
  | _ => True
theorem sizeAl3 : (Rg.opsOf Try.f12 3).size = 13 := by kernel_rfl

set_option maxRecDepth 20000 in
set_option maxHeartbeats 8000000 in
theorem regAl3 {Q : Exit → Act → World → Prop} {a : Act} {w9 : World} {B n d m nb : Nat} {a0 bk td A : Int} {sv : Value} {L : List Int} (ha : a.tmps.size = 25)
    (k1 : a.tmps[1]? = some (.int .i64 (n : Nat))) (k2 : a.tmps[2]? = some (.pointer (some ⟨B, 0, none⟩))) (hBl : B < w9.heap.size) (x0 : w9.cell? ⟨B, 0, none⟩ = some (.int .i64 a0)) (x1 : w9.cell? ⟨B, 1, none⟩ = some (.int .i64 bk)) (x2 : w9.cell? ⟨B, 2, none⟩ = some sv) (x3 : w9.cell? ⟨B, 3, none⟩ = some (.int .i64 td)) (hz0 : ¬ bk = 0) (hbk : 1 ≤ bk) (hdt : (n : Int).tdiv bk = (d : Int)) (hdv : (n : Int) / bk = (d : Int)) (hmt : (n : Int).tmod bk = (m : Int)) (hmd : (n : Int) % bk = (m : Int)) (hd9 : d ≤ 999) (hml : m < nb) (hg : L[m]? = some A) (HSB : ∀ W, Below w9.heap.size w9 W → Calls Try.prog 42 #[.agg #[.int .i64 a0, .int .i64 bk, sv, .int .i64 td], .int .i64 (d : Int)] W fun e w' => ∃ G c, W.heap.size ≤ G ∧ nb ≤ c ∧ e = .returned (.slice (some ⟨G, 0, none⟩) nb c) ∧ IR w' G L ∧ Below W.heap.size W w')
    (hend : ∀ b' w', Rg.Fr (Rg.opsOf Try.f12 3) a b' → Below w9.heap.size w9 w' → Rg.out (Rg.opsOf Try.f12 3) b' 12 = .int .i64 A → Q .normal b' w') :
    (Code.region 3 (Rg.opsOf Try.f12 3) true).wp Try.prog Q a w9 := by
  refine Rg.region_set3 (by kernel_rfl) (fun _ w' => Below w9.heap.size w9 w') (FAl3 B n d m nb a0 bk td A sv L) (by rw [ha, sizeAl3]; kernel_rfl) (st_drew (Below.refl _ _)) ?_ ?_
  case refine_2 =>
    intro l b' w' hf hall hI hA
    rw [sizeAl3] at hA
    exact hend b' w' hf hI (hA 12 (by decide))
  case refine_1 =>
    clear hend
    have HS : ∀ {w w' : World}, Below w.heap.size w w' → ∀ k9 y9, FAl3 B n d m nb a0 bk td A sv L k9 y9 w → FAl3 B n d m nb a0 bk td A sv L k9 y9 w' := fun hb k9 y9 h => by
      unfold FAl3 at *
      split at h <;> first | exact h | (first | (obtain ⟨G, c, h1, h2⟩ := h; exact ⟨G, c, h1, h2.below hb⟩) | (obtain ⟨G, h1, h2, h3⟩ := h; exact ⟨G, h1, Nat.lt_of_lt_of_le h2 hb.size, ((bcell hb).1 _ _ h2).trans h3⟩))
    intro i' hi'
    rw [sizeAl3] at hi'
    rcases (show i' = 0 ∨ i' = 1 ∨ i' = 2 ∨ i' = 3 ∨ i' = 4 ∨ i' = 5 ∨ i' = 6 ∨ i' = 7 ∨ i' = 8 ∨ i' = 9 ∨ i' = 10 ∨ i' = 11 ∨ i' = 12 by omega) with rfl | rfl | rfl | rfl | rfl | rfl | rfl | rfl | rfl | rfl | rfl | rfl | rfl
    · intro ll bb w' hs hlf hN hO hf hI hA
      clear hi'
      have q2 := hf.kept (s := 2) (by rw [sizeAl3]; kernel_rfl) k2
      have e0 := (hI.cell (p := ⟨B, 0, none⟩) hBl).trans x0
      have e1 := (hI.cell (p := ⟨B, 1, none⟩) hBl).trans x1
      have e2 := (hI.cell (p := ⟨B, 2, none⟩) hBl).trans x2
      have e3 := (hI.cell (p := ⟨B, 3, none⟩) hBl).trans x3
      exact Rg.op_value (o := ⟨some 13, Op.load 26 (Operand.tmp 2), _, _, _, _⟩) (x := .agg #[.int .i64 a0, .int .i64 bk, sv, .int .i64 td]) rfl rfl (by clear hA HS hN hO hdt hdv hmt hmd HSB; simp only [execOp]; go_simp) ⟨_, rfl, (fun h => by cases h), rfl, hI, fun _ _ _ _ h => h⟩
    · intro ll bb w' hs hlf hN hO hf hI hA
      clear hi'
      have q0 := hf.kept (s := 1) (by rw [sizeAl3]; kernel_rfl) k1
      exact Rg.op_value (o := ⟨some 14, Op.move (Operand.tmp 1), _, _, _, _⟩) (x := .int .i64 (n : Nat)) rfl rfl (by clear hA HS hN hO hdt hdv hmt hmd HSB; simp only [execOp]; go_simp) ⟨_, rfl, (fun h => by cases h), rfl, hI, fun _ _ _ _ h => h⟩
    · intro ll bb w' hs hlf hN hO hf hI hA
      clear hi'
      have q2 := hf.kept (s := 2) (by rw [sizeAl3]; kernel_rfl) k2
      exact Rg.op_value (o := ⟨some 15, Op.fieldAddr 26 (Operand.tmp 2) 1, _, _, _, _⟩) (x := .pointer (some ⟨B, 1, none⟩)) rfl rfl (by clear hA HS hN hO hdt hdv hmt hmd HSB; simp only [execOp]; go_simp) ⟨_, rfl, (fun h => by cases h), rfl, hI, fun _ _ _ _ h => h⟩
    · intro ll bb w' hs hlf hN hO hf hI hA
      clear hi'
      have q15 : bb.tmps[15]? = some _ := hf.tmp (k := 2) rfl (by rw [ha]; decide) (hA 2 (by kernel_rfl))
      have e1 := (hI.cell (p := ⟨B, 1, none⟩) hBl).trans x1
      exact Rg.op_value (o := ⟨some 16, Op.load 2 (Operand.tmp 15), _, _, _, _⟩) (x := .int .i64 bk) rfl rfl (by clear hA HS hN hO hdt hdv hmt hmd HSB; simp only [execOp]; go_simp) ⟨_, rfl, (fun h => by cases h), rfl, hI, fun _ _ _ _ h => h⟩
    · intro ll bb w' hs hlf hN hO hf hI hA
      clear hi'
      have q14 : bb.tmps[14]? = some _ := hf.tmp (k := 1) rfl (by rw [ha]; decide) (hA 1 (by kernel_rfl))
      have q16 : bb.tmps[16]? = some _ := hf.tmp (k := 3) rfl (by rw [ha]; decide) (hA 3 (by kernel_rfl))
      have hn0 : ¬ bk = 0 := hz0
      have hn1 : (bk == 0) = false := by rw [beq_eq_false_iff_ne]; exact hz0
      have hn2 : ¬ bk = -1 := by omega
      have ht9 := hdt
      have hu9 := hdv
      have hw9 : IntKind.i64.wrap ((d : Int)) = (d : Int) := by rw [IntKind.wrap_i64]; omega
      exact Rg.op_value (o := ⟨some 17, Op.binOp BinOp.quo 2 (Operand.tmp 14) (Operand.tmp 16) 2, _, _, _, _⟩) (x := .int .i64 (d : Nat)) rfl rfl (by clear hA HS hN hO hdt hdv hmt hmd HSB; simp only [execOp]; go_simp) ⟨_, rfl, (fun h => by cases h), rfl, hI, fun _ _ _ _ h => h⟩
    · intro ll bb w' hs hlf hN hO hf hI hA
      clear hi'
      have q13 : bb.tmps[13]? = some _ := hf.tmp (k := 0) rfl (by rw [ha]; decide) (hA 0 (by kernel_rfl))
      have q17 : bb.tmps[17]? = some _ := hf.tmp (k := 4) rfl (by rw [ha]; decide) (hA 4 (by kernel_rfl))
      refine Rg.op_call (o := ⟨some 18, Op.call { callee := Callee.value (Operand.func 42), args := #[(Operand.tmp 13), (Operand.tmp 17)], argTypes := _ }, _, _, _, _⟩) rfl rfl (by clear hA HS hN hO hdt hdv hmt hmd HSB; simp only [execOp, resolve]; go_simp) (HSB _ hI) ?_
      rintro e w2 ⟨G, c, hG, hc, rfl, hir, hb2⟩
      exact ⟨_, rfl, _, rfl, (fun h => by cases h), ⟨G, c, rfl, hir⟩, onto hI hb2, fun k9 y9 _ _ h => HS hb2 k9 y9 h⟩
    · intro ll bb w' hs hlf hN hO hf hI hA
      clear hi'
      have q0 := hf.kept (s := 1) (by rw [sizeAl3]; kernel_rfl) k1
      exact Rg.op_value (o := ⟨some 19, Op.move (Operand.tmp 1), _, _, _, _⟩) (x := .int .i64 (n : Nat)) rfl rfl (by clear hA HS hN hO hdt hdv hmt hmd HSB; simp only [execOp]; go_simp) ⟨_, rfl, (fun h => by cases h), rfl, hI, fun _ _ _ _ h => h⟩
    · intro ll bb w' hs hlf hN hO hf hI hA
      clear hi'
      have q2 := hf.kept (s := 2) (by rw [sizeAl3]; kernel_rfl) k2
      exact Rg.op_value (o := ⟨some 20, Op.fieldAddr 26 (Operand.tmp 2) 1, _, _, _, _⟩) (x := .pointer (some ⟨B, 1, none⟩)) rfl rfl (by clear hA HS hN hO hdt hdv hmt hmd HSB; simp only [execOp]; go_simp) ⟨_, rfl, (fun h => by cases h), rfl, hI, fun _ _ _ _ h => h⟩
    · intro ll bb w' hs hlf hN hO hf hI hA
      clear hi'
      have q20 : bb.tmps[20]? = some _ := hf.tmp (k := 7) rfl (by rw [ha]; decide) (hA 7 (by kernel_rfl))
      have e1 := (hI.cell (p := ⟨B, 1, none⟩) hBl).trans x1
      exact Rg.op_value (o := ⟨some 21, Op.load 2 (Operand.tmp 20), _, _, _, _⟩) (x := .int .i64 bk) rfl rfl (by clear hA HS hN hO hdt hdv hmt hmd HSB; simp only [execOp]; go_simp) ⟨_, rfl, (fun h => by cases h), rfl, hI, fun _ _ _ _ h => h⟩
    · intro ll bb w' hs hlf hN hO hf hI hA
      clear hi'
      have q19 : bb.tmps[19]? = some _ := hf.tmp (k := 6) rfl (by rw [ha]; decide) (hA 6 (by kernel_rfl))
      have q21 : bb.tmps[21]? = some _ := hf.tmp (k := 8) rfl (by rw [ha]; decide) (hA 8 (by kernel_rfl))
      have hn0 : ¬ bk = 0 := hz0
      have hn1 : (bk == 0) = false := by rw [beq_eq_false_iff_ne]; exact hz0
      have hn2 : ¬ bk = -1 := by omega
      have ht9 := hmt
      have hu9 := hmd
      exact Rg.op_value (o := ⟨some 22, Op.binOp BinOp.rem 2 (Operand.tmp 19) (Operand.tmp 21) 2, _, _, _, _⟩) (x := .int .i64 (m : Nat)) rfl rfl (by clear hA HS hN hO hdt hdv hmt hmd HSB; simp only [execOp]; go_simp) ⟨_, rfl, (fun h => by cases h), rfl, hI, fun _ _ _ _ h => h⟩
    · intro ll bb w' hs hlf hN hO hf hI hA
      clear hi'
      have q22 : bb.tmps[22]? = some _ := hf.tmp (k := 9) rfl (by rw [ha]; decide) (hA 9 (by kernel_rfl))
      obtain ⟨G, c, h1, h2⟩ := hA 5 (by kernel_rfl)
      have q18 : bb.tmps[18]? = some (.slice (some ⟨G, 0, none⟩) nb c) := hf.tmp (k := 5) rfl (by rw [ha]; decide) h1
      have hi3 : (m : Int) < (nb : Int) := by omega
      exact Rg.op_value (o := ⟨some 23, Op.indexAddr 24 (Operand.tmp 18) (Operand.tmp 22), _, _, _, _⟩) (x := .pointer (some ⟨G, m, none⟩)) rfl rfl (by clear hA HS hN hO hdt hdv hmt hmd HSB; simp only [execOp]; go_simp) ⟨_, rfl, (fun h => by cases h), ⟨G, rfl, h2.1, (h2.2 _ _ hg).1⟩, hI, fun _ _ _ _ h => h⟩
    · intro ll bb w' hs hlf hN hO hf hI hA
      clear hi'
      obtain ⟨G, h1, h2, h3⟩ := hA 10 (by kernel_rfl)
      have q23 : bb.tmps[23]? = some (.pointer (some ⟨G, m, none⟩)) := hf.tmp (k := 10) rfl (by rw [ha]; decide) h1
      exact Rg.op_value (o := ⟨some 24, Op.load 2 (Operand.tmp 23), _, _, _, _⟩) (x := .int .i64 A) rfl rfl (by clear hA HS hN hO hdt hdv hmt hmd HSB; simp only [execOp]; go_simp) ⟨_, rfl, (fun h => by cases h), rfl, hI, fun _ _ _ _ h => h⟩
    · intro ll bb w' hs hlf hN hO hf hI hA
      clear hi'
      have q24 : bb.tmps[24]? = some _ := hf.tmp (k := 11) rfl (by rw [ha]; decide) (hA 11 (by kernel_rfl))
      exact Rg.op_value (o := ⟨some 4, Op.assign (Operand.tmp 24), _, _, _, _⟩) (x := .int .i64 A) rfl rfl (by clear hA HS hN hO hdt hdv hmt hmd HSB; simp only [execOp]; go_simp) ⟨_, rfl, (fun h => by cases h), rfl, hI, fun _ _ _ _ h => h⟩

theorem dAl3_0 : Rg.dstAt (Rg.opsOf Try.f12 3) 0 = some 13 := by kernel_rfl
theorem dAl3_1 : Rg.dstAt (Rg.opsOf Try.f12 3) 1 = some 14 := by kernel_rfl
theorem dAl3_2 : Rg.dstAt (Rg.opsOf Try.f12 3) 2 = some 15 := by kernel_rfl
theorem dAl3_3 : Rg.dstAt (Rg.opsOf Try.f12 3) 3 = some 16 := by kernel_rfl
theorem dAl3_4 : Rg.dstAt (Rg.opsOf Try.f12 3) 4 = some 17 := by kernel_rfl
theorem dAl3_5 : Rg.dstAt (Rg.opsOf Try.f12 3) 5 = some 18 := by kernel_rfl
theorem dAl3_6 : Rg.dstAt (Rg.opsOf Try.f12 3) 6 = some 19 := by kernel_rfl
theorem dAl3_7 : Rg.dstAt (Rg.opsOf Try.f12 3) 7 = some 20 := by kernel_rfl
theorem dAl3_8 : Rg.dstAt (Rg.opsOf Try.f12 3) 8 = some 21 := by kernel_rfl
theorem dAl3_9 : Rg.dstAt (Rg.opsOf Try.f12 3) 9 = some 22 := by kernel_rfl
theorem dAl3_10 : Rg.dstAt (Rg.opsOf Try.f12 3) 10 = some 23 := by kernel_rfl
theorem dAl3_11 : Rg.dstAt (Rg.opsOf Try.f12 3) 11 = some 24 := by kernel_rfl
theorem dAl3_12 : Rg.dstAt (Rg.opsOf Try.f12 3) 12 = some 4 := by kernel_rfl
theorem layAl3 {a b : Act} (hf : Rg.Fr (Rg.opsOf Try.f12 3) a b) : b = (((((((((((((a.put (some 13) (Rg.out (Rg.opsOf Try.f12 3) b 0)).put (some 14) (Rg.out (Rg.opsOf Try.f12 3) b 1)).put (some 15) (Rg.out (Rg.opsOf Try.f12 3) b 2)).put (some 16) (Rg.out (Rg.opsOf Try.f12 3) b 3)).put (some 17) (Rg.out (Rg.opsOf Try.f12 3) b 4)).put (some 18) (Rg.out (Rg.opsOf Try.f12 3) b 5)).put (some 19) (Rg.out (Rg.opsOf Try.f12 3) b 6)).put (some 20) (Rg.out (Rg.opsOf Try.f12 3) b 7)).put (some 21) (Rg.out (Rg.opsOf Try.f12 3) b 8)).put (some 22) (Rg.out (Rg.opsOf Try.f12 3) b 9)).put (some 23) (Rg.out (Rg.opsOf Try.f12 3) b 10)).put (some 24) (Rg.out (Rg.opsOf Try.f12 3) b 11)).put (some 4) (Rg.out (Rg.opsOf Try.f12 3) b 12)) := by
  have h := hf.chain
  rw [sizeAl3, show List.range 13 = [0, 1, 2, 3, 4, 5, 6, 7, 8, 9, 10, 11, 12] from by decide] at h
  simp only [List.foldl_cons, List.foldl_nil, dAl3_0, dAl3_1, dAl3_2, dAl3_3, dAl3_4, dAl3_5, dAl3_6, dAl3_7, dAl3_8, dAl3_9, dAl3_10, dAl3_11, dAl3_12] at h
  exact h
end Go.Proofs.Ytoehnlbkgpjhmaa
