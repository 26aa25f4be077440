/-
  The order of a block, as the specification makes it: the region that draws its order.
-/
import Derived.Test.YtoehnlbkgpjhmaaTr6
import Derived.Test.YtoehnlbkgpjhmaaRs
namespace Go.Proofs.Ytoehnlbkgpjhmaa
open Go.RowKit Va Lb Tr
set_option linter.all false

def FBl12 (B b g off n c i k bi m mm j : Nat) (y : Int) (i9 : Nat) (v : Value) (w : World) : Prop :=
  match i9 with
  | 0 => v = .pointer (some ⟨B, 2, none⟩)
  | 1 => v = .slice (some ⟨g, off, none⟩) n c
  | 2 => v = .int .i64 (b : Nat)
  | 3 => v = .pointer (some ⟨B, 1, none⟩)
  | 4 => v = .int .i64 (i : Nat)
  | 5 => v = .int .i64 (bi : Nat)
  | 6 => v = .pointer (some ⟨B, 1, none⟩)
  | 7 => v = .int .i64 (i : Nat)
  | 8 => v = .int .i64 ((bi : Int) + (i : Int))
  | 9 => v = .int .i64 ((bi : Int) + (i : Int) - 1)
  | 10 => v = .int .i64 (k : Nat)
  | 11 => v = .int .i64 (m : Nat)
  | 12 => v = .int .i64 (n : Nat)
  | 13 => v = .int .i64 (mm : Nat)
  | 14 => v = .pointer (some ⟨g, off + mm, none⟩)
  | 15 => v = .int .i64 y
  | 16 => v = .int .i64 (k : Nat)
  | 17 => v = .int .i64 ((k : Int) + 1)
  | 18 => v = .int .i64 (j : Nat)
  | 19 => v = .int .i64 (j : Nat)
  | _ => True
theorem sizeBl12 : (Rg.opsOf Try.f42 12).size = 20 := by kernel_rfl

set_option maxRecDepth 20000 in
set_option maxHeartbeats 8000000 in
theorem regBl12 {Q : Exit → Act → World → Prop} {a : Act} {w9 : World} {B b g off n c i k bi m mm j : Nat} {y : Int} (ha : a.tmps.size = 72)
    (k1 : a.tmps[1]? = some (.int .i64 (b : Nat))) (k2 : a.tmps[2]? = some (.pointer (some ⟨B, 0, none⟩))) (k7 : a.tmps[7]? = some (.int .i64 (n : Nat))) (k8 : a.tmps[8]? = some (.int .i64 (k : Nat))) (hBl : B < w9.heap.size) (hgl : g < w9.heap.size) (x1 : w9.cell? ⟨B, 1, none⟩ = some (.int .i64 (i : Int))) (x2 : w9.cell? ⟨B, 2, none⟩ = some (.slice (some ⟨g, off, none⟩) n c)) (y0 : w9.cell? ⟨g, off + mm, none⟩ = some (.int .i64 y)) (hmul : (b : Int) * (i : Int) = (bi : Int)) (hbi : bi ≤ 20000) (hil : i ≤ 20) (hkl : k < i) (hmm : m = bi + (i - 1 - k)) (htm : (m : Int).tmod (n : Int) = (mm : Int)) (hmd : (m : Int) % (n : Int) = (mm : Int)) (hml : mm < n) (hjt : y.tmod ((k : Int) + 1) = (j : Int)) (hjm : y % ((k : Int) + 1) = (j : Int))
    (hend : ∀ b' w', Rg.Fr (Rg.opsOf Try.f42 12) a b' → Below w9.heap.size w9 w' → Rg.out (Rg.opsOf Try.f42 12) b' 19 = .int .i64 (j : Nat) → Q .normal b' w') :
    (Code.region 12 (Rg.opsOf Try.f42 12) true).wp Try.prog Q a w9 := by
  refine Rg.region_set3 (by kernel_rfl) (fun _ w' => Below w9.heap.size w9 w') (FBl12 B b g off n c i k bi m mm j y) (by rw [ha, sizeBl12]; kernel_rfl) (st_drew (Below.refl _ _)) ?_ ?_
  case refine_2 =>
    intro l b' w' hf hall hI hA
    rw [sizeBl12] at hA
    exact hend b' w' hf hI (hA 19 (by decide))
  case refine_1 =>
    clear hend
    have HS : ∀ {w w' : World}, Below w.heap.size w w' → ∀ k9 y9, FBl12 B b g off n c i k bi m mm j y k9 y9 w → FBl12 B b g off n c i k bi m mm j y k9 y9 w' := fun hb k9 y9 h => by
      unfold FBl12 at *
      split at h <;> exact h
    intro i' hi'
    rw [sizeBl12] at hi'
    rcases (show i' = 0 ∨ i' = 1 ∨ i' = 2 ∨ i' = 3 ∨ i' = 4 ∨ i' = 5 ∨ i' = 6 ∨ i' = 7 ∨ i' = 8 ∨ i' = 9 ∨ i' = 10 ∨ i' = 11 ∨ i' = 12 ∨ i' = 13 ∨ i' = 14 ∨ i' = 15 ∨ i' = 16 ∨ i' = 17 ∨ i' = 18 ∨ i' = 19 by omega) with rfl | rfl | rfl | rfl | rfl | rfl | rfl | rfl | rfl | rfl | rfl | rfl | rfl | rfl | rfl | rfl | rfl | rfl | rfl | rfl
    · intro ll bb w' hs hlf hN hO hf hI hA
      clear hi'
      have q2 := hf.kept (s := 2) (by rw [sizeBl12]; kernel_rfl) k2
      exact Rg.op_value (o := ⟨some 37, Op.fieldAddr 26 (Operand.tmp 2) 2, _, _, _, _⟩) (x := .pointer (some ⟨B, 2, none⟩)) rfl rfl (by clear hA HS hN hO hmul htm hmd hjt hjm hmm; simp only [execOp]; go_simp) ⟨_, rfl, (fun h => by cases h), rfl, hI, fun _ _ _ _ h => h⟩
    · intro ll bb w' hs hlf hN hO hf hI hA
      clear hi'
      have q37 : bb.tmps[37]? = some _ := hf.tmp (k := 0) rfl (by rw [ha]; decide) (hA 0 (by kernel_rfl))
      have e0 := (hI.cell (p := ⟨B, 2, none⟩) hBl).trans x2
      exact Rg.op_value (o := ⟨some 38, Op.load 24 (Operand.tmp 37), _, _, _, _⟩) (x := .slice (some ⟨g, off, none⟩) n c) rfl rfl (by clear hA HS hN hO hmul htm hmd hjt hjm hmm; simp only [execOp]; go_simp) ⟨_, rfl, (fun h => by cases h), rfl, hI, fun _ _ _ _ h => h⟩
    · intro ll bb w' hs hlf hN hO hf hI hA
      clear hi'
      have q0 := hf.kept (s := 1) (by rw [sizeBl12]; kernel_rfl) k1
      exact Rg.op_value (o := ⟨some 39, Op.move (Operand.tmp 1), _, _, _, _⟩) (x := .int .i64 (b : Nat)) rfl rfl (by clear hA HS hN hO hmul htm hmd hjt hjm hmm; simp only [execOp]; go_simp) ⟨_, rfl, (fun h => by cases h), rfl, hI, fun _ _ _ _ h => h⟩
    · intro ll bb w' hs hlf hN hO hf hI hA
      clear hi'
      have q2 := hf.kept (s := 2) (by rw [sizeBl12]; kernel_rfl) k2
      exact Rg.op_value (o := ⟨some 40, Op.fieldAddr 26 (Operand.tmp 2) 1, _, _, _, _⟩) (x := .pointer (some ⟨B, 1, none⟩)) rfl rfl (by clear hA HS hN hO hmul htm hmd hjt hjm hmm; simp only [execOp]; go_simp) ⟨_, rfl, (fun h => by cases h), rfl, hI, fun _ _ _ _ h => h⟩
    · intro ll bb w' hs hlf hN hO hf hI hA
      clear hi'
      have q40 : bb.tmps[40]? = some _ := hf.tmp (k := 3) rfl (by rw [ha]; decide) (hA 3 (by kernel_rfl))
      have e0 := (hI.cell (p := ⟨B, 1, none⟩) hBl).trans x1
      exact Rg.op_value (o := ⟨some 41, Op.load 2 (Operand.tmp 40), _, _, _, _⟩) (x := .int .i64 (i : Nat)) rfl rfl (by clear hA HS hN hO hmul htm hmd hjt hjm hmm; simp only [execOp]; go_simp) ⟨_, rfl, (fun h => by cases h), rfl, hI, fun _ _ _ _ h => h⟩
    · intro ll bb w' hs hlf hN hO hf hI hA
      clear hi'
      have q39 : bb.tmps[39]? = some _ := hf.tmp (k := 2) rfl (by rw [ha]; decide) (hA 2 (by kernel_rfl))
      have q41 : bb.tmps[41]? = some _ := hf.tmp (k := 4) rfl (by rw [ha]; decide) (hA 4 (by kernel_rfl))
      have hm9 := hmul
      have hw9 : IntKind.i64.wrap ((bi : Int)) = (bi : Int) := by rw [IntKind.wrap_i64]; omega
      exact Rg.op_value (o := ⟨some 42, Op.binOp BinOp.mul 2 (Operand.tmp 39) (Operand.tmp 41) 2, _, _, _, _⟩) (x := .int .i64 (bi : Nat)) rfl rfl (by clear hA HS hN hO hmul htm hmd hjt hjm hmm; simp only [execOp]; go_simp) ⟨_, rfl, (fun h => by cases h), rfl, hI, fun _ _ _ _ h => h⟩
    · intro ll bb w' hs hlf hN hO hf hI hA
      clear hi'
      have q2 := hf.kept (s := 2) (by rw [sizeBl12]; kernel_rfl) k2
      exact Rg.op_value (o := ⟨some 43, Op.fieldAddr 26 (Operand.tmp 2) 1, _, _, _, _⟩) (x := .pointer (some ⟨B, 1, none⟩)) rfl rfl (by clear hA HS hN hO hmul htm hmd hjt hjm hmm; simp only [execOp]; go_simp) ⟨_, rfl, (fun h => by cases h), rfl, hI, fun _ _ _ _ h => h⟩
    · intro ll bb w' hs hlf hN hO hf hI hA
      clear hi'
      have q43 : bb.tmps[43]? = some _ := hf.tmp (k := 6) rfl (by rw [ha]; decide) (hA 6 (by kernel_rfl))
      have e0 := (hI.cell (p := ⟨B, 1, none⟩) hBl).trans x1
      exact Rg.op_value (o := ⟨some 44, Op.load 2 (Operand.tmp 43), _, _, _, _⟩) (x := .int .i64 (i : Nat)) rfl rfl (by clear hA HS hN hO hmul htm hmd hjt hjm hmm; simp only [execOp]; go_simp) ⟨_, rfl, (fun h => by cases h), rfl, hI, fun _ _ _ _ h => h⟩
    · intro ll bb w' hs hlf hN hO hf hI hA
      clear hi'
      have q42 : bb.tmps[42]? = some _ := hf.tmp (k := 5) rfl (by rw [ha]; decide) (hA 5 (by kernel_rfl))
      have q44 : bb.tmps[44]? = some _ := hf.tmp (k := 7) rfl (by rw [ha]; decide) (hA 7 (by kernel_rfl))
      have hw9 : IntKind.i64.wrap ((bi : Int) + (i : Int)) = (bi : Int) + (i : Int) := by rw [IntKind.wrap_i64]; omega
      exact Rg.op_value (o := ⟨some 45, Op.binOp BinOp.add 2 (Operand.tmp 42) (Operand.tmp 44) 2, _, _, _, _⟩) (x := .int .i64 ((bi : Int) + (i : Int))) rfl rfl (by clear hA HS hN hO hmul htm hmd hjt hjm hmm; simp only [execOp]; go_simp) ⟨_, rfl, (fun h => by cases h), rfl, hI, fun _ _ _ _ h => h⟩
    · intro ll bb w' hs hlf hN hO hf hI hA
      clear hi'
      have q45 : bb.tmps[45]? = some _ := hf.tmp (k := 8) rfl (by rw [ha]; decide) (hA 8 (by kernel_rfl))
      have hw9 : IntKind.i64.wrap ((bi : Int) + (i : Int) - 1) = (bi : Int) + (i : Int) - 1 := by rw [IntKind.wrap_i64]; omega
      exact Rg.op_value (o := ⟨some 46, Op.binOp BinOp.sub 2 (Operand.tmp 45) (Operand.const (Value.int .i64 1)) 2, _, _, _, _⟩) (x := .int .i64 ((bi : Int) + (i : Int) - 1)) rfl rfl (by clear hA HS hN hO hmul htm hmd hjt hjm hmm; simp only [execOp]; go_simp) ⟨_, rfl, (fun h => by cases h), rfl, hI, fun _ _ _ _ h => h⟩
    · intro ll bb w' hs hlf hN hO hf hI hA
      clear hi'
      have q0 := hf.kept (s := 8) (by rw [sizeBl12]; kernel_rfl) k8
      exact Rg.op_value (o := ⟨some 47, Op.move (Operand.tmp 8), _, _, _, _⟩) (x := .int .i64 (k : Nat)) rfl rfl (by clear hA HS hN hO hmul htm hmd hjt hjm hmm; simp only [execOp]; go_simp) ⟨_, rfl, (fun h => by cases h), rfl, hI, fun _ _ _ _ h => h⟩
    · intro ll bb w' hs hlf hN hO hf hI hA
      clear hi'
      have q46 : bb.tmps[46]? = some _ := hf.tmp (k := 9) rfl (by rw [ha]; decide) (hA 9 (by kernel_rfl))
      have q47 : bb.tmps[47]? = some _ := hf.tmp (k := 10) rfl (by rw [ha]; decide) (hA 10 (by kernel_rfl))
      have hw9 : IntKind.i64.wrap ((bi : Int) + (i : Int) - 1 - (k : Int)) = (m : Int) := by rw [IntKind.wrap_i64]; omega
      exact Rg.op_value (o := ⟨some 48, Op.binOp BinOp.sub 2 (Operand.tmp 46) (Operand.tmp 47) 2, _, _, _, _⟩) (x := .int .i64 (m : Nat)) rfl rfl (by clear hA HS hN hO hmul htm hmd hjt hjm hmm; simp only [execOp]; go_simp) ⟨_, rfl, (fun h => by cases h), rfl, hI, fun _ _ _ _ h => h⟩
    · intro ll bb w' hs hlf hN hO hf hI hA
      clear hi'
      have q0 := hf.kept (s := 7) (by rw [sizeBl12]; kernel_rfl) k7
      exact Rg.op_value (o := ⟨some 49, Op.move (Operand.tmp 7), _, _, _, _⟩) (x := .int .i64 (n : Nat)) rfl rfl (by clear hA HS hN hO hmul htm hmd hjt hjm hmm; simp only [execOp]; go_simp) ⟨_, rfl, (fun h => by cases h), rfl, hI, fun _ _ _ _ h => h⟩
    · intro ll bb w' hs hlf hN hO hf hI hA
      clear hi'
      have q48 : bb.tmps[48]? = some _ := hf.tmp (k := 11) rfl (by rw [ha]; decide) (hA 11 (by kernel_rfl))
      have q49 : bb.tmps[49]? = some _ := hf.tmp (k := 12) rfl (by rw [ha]; decide) (hA 12 (by kernel_rfl))
      have hn00 : ¬ n = 0 := by omega
      have hn0 : ¬ (n : Int) = 0 := by omega
      have hn1 : ((n : Int) == 0) = false := by rw [beq_eq_false_iff_ne]; exact hn0
      have ht9 : (m : Int).tmod (n : Int) = (mm : Int) := htm
      have hu9 : (m : Int) % (n : Int) = (mm : Int) := hmd
      exact Rg.op_value (o := ⟨some 50, Op.binOp BinOp.rem 2 (Operand.tmp 48) (Operand.tmp 49) 2, _, _, _, _⟩) (x := .int .i64 (mm : Nat)) rfl rfl (by clear hA HS hN hO hmul htm hmd hjt hjm hmm; simp only [execOp]; go_simp) ⟨_, rfl, (fun h => by cases h), rfl, hI, fun _ _ _ _ h => h⟩
    · intro ll bb w' hs hlf hN hO hf hI hA
      clear hi'
      have q38 : bb.tmps[38]? = some _ := hf.tmp (k := 1) rfl (by rw [ha]; decide) (hA 1 (by kernel_rfl))
      have q50 : bb.tmps[50]? = some _ := hf.tmp (k := 13) rfl (by rw [ha]; decide) (hA 13 (by kernel_rfl))
      have hi3 : (mm : Int) < (n : Int) := by omega
      exact Rg.op_value (o := ⟨some 51, Op.indexAddr 24 (Operand.tmp 38) (Operand.tmp 50), _, _, _, _⟩) (x := .pointer (some ⟨g, off + mm, none⟩)) rfl rfl (by clear hA HS hN hO hmul htm hmd hjt hjm hmm; simp only [execOp]; go_simp) ⟨_, rfl, (fun h => by cases h), rfl, hI, fun _ _ _ _ h => h⟩
    · intro ll bb w' hs hlf hN hO hf hI hA
      clear hi'
      have q51 : bb.tmps[51]? = some _ := hf.tmp (k := 14) rfl (by rw [ha]; decide) (hA 14 (by kernel_rfl))
      have e0 := (hI.cell (p := ⟨g, off + mm, none⟩) hgl).trans y0
      exact Rg.op_value (o := ⟨some 52, Op.load 2 (Operand.tmp 51), _, _, _, _⟩) (x := .int .i64 y) rfl rfl (by clear hA HS hN hO hmul htm hmd hjt hjm hmm; simp only [execOp]; go_simp) ⟨_, rfl, (fun h => by cases h), rfl, hI, fun _ _ _ _ h => h⟩
    · intro ll bb w' hs hlf hN hO hf hI hA
      clear hi'
      have q0 := hf.kept (s := 8) (by rw [sizeBl12]; kernel_rfl) k8
      exact Rg.op_value (o := ⟨some 53, Op.move (Operand.tmp 8), _, _, _, _⟩) (x := .int .i64 (k : Nat)) rfl rfl (by clear hA HS hN hO hmul htm hmd hjt hjm hmm; simp only [execOp]; go_simp) ⟨_, rfl, (fun h => by cases h), rfl, hI, fun _ _ _ _ h => h⟩
    · intro ll bb w' hs hlf hN hO hf hI hA
      clear hi'
      have q53 : bb.tmps[53]? = some _ := hf.tmp (k := 16) rfl (by rw [ha]; decide) (hA 16 (by kernel_rfl))
      have hw9 : IntKind.i64.wrap ((k : Int) + 1) = (k : Int) + 1 := by rw [IntKind.wrap_i64]; omega
      exact Rg.op_value (o := ⟨some 54, Op.binOp BinOp.add 2 (Operand.tmp 53) (Operand.const (Value.int .i64 1)) 2, _, _, _, _⟩) (x := .int .i64 ((k : Int) + 1)) rfl rfl (by clear hA HS hN hO hmul htm hmd hjt hjm hmm; simp only [execOp]; go_simp) ⟨_, rfl, (fun h => by cases h), rfl, hI, fun _ _ _ _ h => h⟩
    · intro ll bb w' hs hlf hN hO hf hI hA
      clear hi'
      have q52 : bb.tmps[52]? = some _ := hf.tmp (k := 15) rfl (by rw [ha]; decide) (hA 15 (by kernel_rfl))
      have q54 : bb.tmps[54]? = some _ := hf.tmp (k := 17) rfl (by rw [ha]; decide) (hA 17 (by kernel_rfl))
      have hn0 : ¬ (k : Int) + 1 = 0 := by omega
      have hn1 : ((k : Int) + 1 == 0) = false := by rw [beq_eq_false_iff_ne]; exact hn0
      have ht9 : y.tmod ((k : Int) + 1) = (j : Int) := hjt
      have hu9 : y % ((k : Int) + 1) = (j : Int) := hjm
      exact Rg.op_value (o := ⟨some 55, Op.binOp BinOp.rem 2 (Operand.tmp 52) (Operand.tmp 54) 2, _, _, _, _⟩) (x := .int .i64 (j : Nat)) rfl rfl (by clear hA HS hN hO hmul htm hmd hjt hjm hmm; simp only [execOp]; go_simp) ⟨_, rfl, (fun h => by cases h), rfl, hI, fun _ _ _ _ h => h⟩
    · intro ll bb w' hs hlf hN hO hf hI hA
      clear hi'
      have q55 : bb.tmps[55]? = some _ := hf.tmp (k := 18) rfl (by rw [ha]; decide) (hA 18 (by kernel_rfl))
      exact Rg.op_value (o := ⟨some 9, Op.assign (Operand.tmp 55), _, _, _, _⟩) (x := .int .i64 (j : Nat)) rfl rfl (by clear hA HS hN hO hmul htm hmd hjt hjm hmm; simp only [execOp]; go_simp) ⟨_, rfl, (fun h => by cases h), rfl, hI, fun _ _ _ _ h => h⟩

theorem dBl12_0 : Rg.dstAt (Rg.opsOf Try.f42 12) 0 = some 37 := by kernel_rfl
theorem dBl12_1 : Rg.dstAt (Rg.opsOf Try.f42 12) 1 = some 38 := by kernel_rfl
theorem dBl12_2 : Rg.dstAt (Rg.opsOf Try.f42 12) 2 = some 39 := by kernel_rfl
theorem dBl12_3 : Rg.dstAt (Rg.opsOf Try.f42 12) 3 = some 40 := by kernel_rfl
theorem dBl12_4 : Rg.dstAt (Rg.opsOf Try.f42 12) 4 = some 41 := by kernel_rfl
theorem dBl12_5 : Rg.dstAt (Rg.opsOf Try.f42 12) 5 = some 42 := by kernel_rfl
theorem dBl12_6 : Rg.dstAt (Rg.opsOf Try.f42 12) 6 = some 43 := by kernel_rfl
theorem dBl12_7 : Rg.dstAt (Rg.opsOf Try.f42 12) 7 = some 44 := by kernel_rfl
theorem dBl12_8 : Rg.dstAt (Rg.opsOf Try.f42 12) 8 = some 45 := by kernel_rfl
theorem dBl12_9 : Rg.dstAt (Rg.opsOf Try.f42 12) 9 = some 46 := by kernel_rfl
theorem dBl12_10 : Rg.dstAt (Rg.opsOf Try.f42 12) 10 = some 47 := by kernel_rfl
theorem dBl12_11 : Rg.dstAt (Rg.opsOf Try.f42 12) 11 = some 48 := by kernel_rfl
theorem dBl12_12 : Rg.dstAt (Rg.opsOf Try.f42 12) 12 = some 49 := by kernel_rfl
theorem dBl12_13 : Rg.dstAt (Rg.opsOf Try.f42 12) 13 = some 50 := by kernel_rfl
theorem dBl12_14 : Rg.dstAt (Rg.opsOf Try.f42 12) 14 = some 51 := by kernel_rfl
theorem dBl12_15 : Rg.dstAt (Rg.opsOf Try.f42 12) 15 = some 52 := by kernel_rfl
theorem dBl12_16 : Rg.dstAt (Rg.opsOf Try.f42 12) 16 = some 53 := by kernel_rfl
theorem dBl12_17 : Rg.dstAt (Rg.opsOf Try.f42 12) 17 = some 54 := by kernel_rfl
theorem dBl12_18 : Rg.dstAt (Rg.opsOf Try.f42 12) 18 = some 55 := by kernel_rfl
theorem dBl12_19 : Rg.dstAt (Rg.opsOf Try.f42 12) 19 = some 9 := by kernel_rfl
theorem layBl12 {a b : Act} (hf : Rg.Fr (Rg.opsOf Try.f42 12) a b) : b = ((((((((((((((((((((a.put (some 37) (Rg.out (Rg.opsOf Try.f42 12) b 0)).put (some 38) (Rg.out (Rg.opsOf Try.f42 12) b 1)).put (some 39) (Rg.out (Rg.opsOf Try.f42 12) b 2)).put (some 40) (Rg.out (Rg.opsOf Try.f42 12) b 3)).put (some 41) (Rg.out (Rg.opsOf Try.f42 12) b 4)).put (some 42) (Rg.out (Rg.opsOf Try.f42 12) b 5)).put (some 43) (Rg.out (Rg.opsOf Try.f42 12) b 6)).put (some 44) (Rg.out (Rg.opsOf Try.f42 12) b 7)).put (some 45) (Rg.out (Rg.opsOf Try.f42 12) b 8)).put (some 46) (Rg.out (Rg.opsOf Try.f42 12) b 9)).put (some 47) (Rg.out (Rg.opsOf Try.f42 12) b 10)).put (some 48) (Rg.out (Rg.opsOf Try.f42 12) b 11)).put (some 49) (Rg.out (Rg.opsOf Try.f42 12) b 12)).put (some 50) (Rg.out (Rg.opsOf Try.f42 12) b 13)).put (some 51) (Rg.out (Rg.opsOf Try.f42 12) b 14)).put (some 52) (Rg.out (Rg.opsOf Try.f42 12) b 15)).put (some 53) (Rg.out (Rg.opsOf Try.f42 12) b 16)).put (some 54) (Rg.out (Rg.opsOf Try.f42 12) b 17)).put (some 55) (Rg.out (Rg.opsOf Try.f42 12) b 18)).put (some 9) (Rg.out (Rg.opsOf Try.f42 12) b 19)) := by
  have h := hf.chain
  rw [sizeBl12, show List.range 20 = [0, 1, 2, 3, 4, 5, 6, 7, 8, 9, 10, 11, 12, 13, 14, 15, 16, 17, 18, 19] from by decide] at h
  simp only [List.foldl_cons, List.foldl_nil, dBl12_0, dBl12_1, dBl12_2, dBl12_3, dBl12_4, dBl12_5, dBl12_6, dBl12_7, dBl12_8, dBl12_9, dBl12_10, dBl12_11, dBl12_12, dBl12_13, dBl12_14, dBl12_15, dBl12_16, dBl12_17, dBl12_18, dBl12_19] at h
  exact h
end Go.Proofs.Ytoehnlbkgpjhmaa
