/-
  Criteria: the regions that draw their order.
-/
import Derived.Test.YthenphbmkmagaaaTr15
import Derived.Test.YthenphbmkmagaaaTr16
import Derived.Test.YthenphbmkmagaaaRs
namespace Go.Proofs.Ythenphbmkmagaaa
open Go.RowKit Va Lb El
set_option linter.all false

def FIe12 (B ff gv ov nv cv gk ok nk ck : Nat) (lo hi vv : Int) (mu kk : Bool) (hb : Bool) (i9 : Nat) (v : Value) (w : World) : Prop :=
  match i9 with
  | 0 => v = .agg #[.int .i64 (ff : Int), .int .i64 lo, .int .i64 hi, .bool mu]
  | 1 => v = .slice (some ⟨gv, ov, none⟩) nv cv
  | 2 => v = .pointer (some ⟨B, 0, none⟩)
  | 3 => v = .int .i64 (ff : Int)
  | 4 => v = .pointer (some ⟨gv, ov + ff, none⟩)
  | 5 => v = .int .i64 vv
  | 6 => v = .slice (some ⟨gk, ok, none⟩) nk ck
  | 7 => v = .pointer (some ⟨B, 0, none⟩)
  | 8 => v = .int .i64 (ff : Int)
  | 9 => v = .pointer (some ⟨gk, ok + ff, none⟩)
  | 10 => v = .bool kk
  | 11 => v = .bool hb
  | 12 => v = .bool (!hb)
  | _ => True
theorem sizeIe12 : (Rg.opsOf Try.f9 12).size = 13 := by kernel_rfl

set_option maxRecDepth 20000 in
set_option maxHeartbeats 8000000 in
theorem regIe12 {Q : Exit → Act → World → Prop} {a : Act} {w9 : World} {B ff gv ov nv cv gk ok nk ck : Nat} {lo hi vv : Int} {mu kk : Bool} {hb : Bool} (ha : a.tmps.size = 60)
    (k0 : a.tmps[0]? = some (.slice (some ⟨gv, ov, none⟩) nv cv)) (k1 : a.tmps[1]? = some (.slice (some ⟨gk, ok, none⟩) nk ck)) (k10 : a.tmps[10]? = some (.pointer (some ⟨B, 0, none⟩))) (hBl : B < w9.heap.size) (x0 : w9.cell? ⟨B, 0, none⟩ = some (.int .i64 (ff : Int))) (x1 : w9.cell? ⟨B, 1, none⟩ = some (.int .i64 lo)) (x2 : w9.cell? ⟨B, 2, none⟩ = some (.int .i64 hi)) (x3 : w9.cell? ⟨B, 3, none⟩ = some (.bool mu)) (hgv : gv < w9.heap.size) (hgk : gk < w9.heap.size) (hfv : ff < nv) (hfk : ff < nk) (y0 : w9.cell? ⟨gv, ov + ff, none⟩ = some (.int .i64 vv)) (z0 : w9.cell? ⟨gk, ok + ff, none⟩ = some (.bool kk)) (HC : ∀ W, Calls Try.prog 29 #[.agg #[.int .i64 (ff : Int), .int .i64 lo, .int .i64 hi, .bool mu], .int .i64 vv, .bool kk] W fun e w' => e = .returned (.bool hb) ∧ Below W.heap.size W w')
    (hend : ∀ b' w', Rg.Fr (Rg.opsOf Try.f9 12) a b' → Below w9.heap.size w9 w' → Rg.out (Rg.opsOf Try.f9 12) b' 12 = .bool (!hb) → Q .normal b' w') :
    (Code.region 12 (Rg.opsOf Try.f9 12) true).wp Try.prog Q a w9 := by
  refine Rg.region_set3 (by kernel_rfl) (fun _ w' => Below w9.heap.size w9 w') (FIe12 B ff gv ov nv cv gk ok nk ck lo hi vv mu kk hb) (by rw [ha, sizeIe12]; kernel_rfl) (st_drew (Below.refl _ _)) ?_ ?_
  case refine_2 =>
    intro l b' w' hf hall hI hA
    rw [sizeIe12] at hA
    exact hend b' w' hf hI (hA 12 (by decide))
  case refine_1 =>
    clear hend
    have HS : ∀ {w w' : World}, Below w.heap.size w w' → ∀ k9 y9, FIe12 B ff gv ov nv cv gk ok nk ck lo hi vv mu kk hb k9 y9 w → FIe12 B ff gv ov nv cv gk ok nk ck lo hi vv mu kk hb k9 y9 w' := fun hb k9 y9 h => by
      unfold FIe12 at *
      split at h <;> exact h
    intro i' hi'
    rw [sizeIe12] at hi'
    rcases (show i' = 0 ∨ i' = 1 ∨ i' = 2 ∨ i' = 3 ∨ i' = 4 ∨ i' = 5 ∨ i' = 6 ∨ i' = 7 ∨ i' = 8 ∨ i' = 9 ∨ i' = 10 ∨ i' = 11 ∨ i' = 12 by omega) with rfl | rfl | rfl | rfl | rfl | rfl | rfl | rfl | rfl | rfl | rfl | rfl | rfl
    · intro ll bb w' hs hlf hN hO hf hI hA
      clear hi'
      have q10 := hf.kept (s := 10) (by rw [sizeIe12]; kernel_rfl) k10
      have e0 := (hI.cell (p := ⟨B, 0, none⟩) hBl).trans x0
      have e1 := (hI.cell (p := ⟨B, 1, none⟩) hBl).trans x1
      have e2 := (hI.cell (p := ⟨B, 2, none⟩) hBl).trans x2
      have e3 := (hI.cell (p := ⟨B, 3, none⟩) hBl).trans x3
      exact Rg.op_value (o := ⟨some 44, Op.load 31 (Operand.tmp 10), _, _, _, _⟩) (x := .agg #[.int .i64 (ff : Int), .int .i64 lo, .int .i64 hi, .bool mu]) rfl rfl (by clear hA HS hN hO HC; simp only [execOp]; go_simp) ⟨_, rfl, (fun h => by cases h), rfl, hI, fun _ _ _ _ h => h⟩
    · intro ll bb w' hs hlf hN hO hf hI hA
      clear hi'
      have q0 := hf.kept (s := 0) (by rw [sizeIe12]; kernel_rfl) k0
      exact Rg.op_value (o := ⟨some 45, Op.move (Operand.tmp 0), _, _, _, _⟩) (x := .slice (some ⟨gv, ov, none⟩) nv cv) rfl rfl (by clear hA HS hN hO HC; simp only [execOp]; go_simp) ⟨_, rfl, (fun h => by cases h), rfl, hI, fun _ _ _ _ h => h⟩
    · intro ll bb w' hs hlf hN hO hf hI hA
      clear hi'
      have q10 := hf.kept (s := 10) (by rw [sizeIe12]; kernel_rfl) k10
      exact Rg.op_value (o := ⟨some 46, Op.fieldAddr 31 (Operand.tmp 10) 0, _, _, _, _⟩) (x := .pointer (some ⟨B, 0, none⟩)) rfl rfl (by clear hA HS hN hO HC; simp only [execOp]; go_simp) ⟨_, rfl, (fun h => by cases h), rfl, hI, fun _ _ _ _ h => h⟩
    · intro ll bb w' hs hlf hN hO hf hI hA
      clear hi'
      have q46 : bb.tmps[46]? = some _ := hf.tmp (k := 2) rfl (by rw [ha]; decide) (hA 2 (by kernel_rfl))
      have e0 := (hI.cell (p := ⟨B, 0, none⟩) hBl).trans x0
      exact Rg.op_value (o := ⟨some 47, Op.load 2 (Operand.tmp 46), _, _, _, _⟩) (x := .int .i64 (ff : Int)) rfl rfl (by clear hA HS hN hO HC; simp only [execOp]; go_simp) ⟨_, rfl, (fun h => by cases h), rfl, hI, fun _ _ _ _ h => h⟩
    · intro ll bb w' hs hlf hN hO hf hI hA
      clear hi'
      have q45 : bb.tmps[45]? = some _ := hf.tmp (k := 1) rfl (by rw [ha]; decide) (hA 1 (by kernel_rfl))
      have q47 : bb.tmps[47]? = some _ := hf.tmp (k := 3) rfl (by rw [ha]; decide) (hA 3 (by kernel_rfl))
      have hi3 : (ff : Int) < (nv : Int) := by omega
      exact Rg.op_value (o := ⟨some 48, Op.indexAddr 24 (Operand.tmp 45) (Operand.tmp 47), _, _, _, _⟩) (x := .pointer (some ⟨gv, ov + ff, none⟩)) rfl rfl (by clear hA HS hN hO HC; simp only [execOp]; go_simp) ⟨_, rfl, (fun h => by cases h), rfl, hI, fun _ _ _ _ h => h⟩
    · intro ll bb w' hs hlf hN hO hf hI hA
      clear hi'
      have q48 : bb.tmps[48]? = some _ := hf.tmp (k := 4) rfl (by rw [ha]; decide) (hA 4 (by kernel_rfl))
      have e0 := (hI.cell (p := ⟨gv, ov + ff, none⟩) hgv).trans y0
      exact Rg.op_value (o := ⟨some 49, Op.load 2 (Operand.tmp 48), _, _, _, _⟩) (x := .int .i64 vv) rfl rfl (by clear hA HS hN hO HC; simp only [execOp]; go_simp) ⟨_, rfl, (fun h => by cases h), rfl, hI, fun _ _ _ _ h => h⟩
    · intro ll bb w' hs hlf hN hO hf hI hA
      clear hi'
      have q0 := hf.kept (s := 1) (by rw [sizeIe12]; kernel_rfl) k1
      exact Rg.op_value (o := ⟨some 50, Op.move (Operand.tmp 1), _, _, _, _⟩) (x := .slice (some ⟨gk, ok, none⟩) nk ck) rfl rfl (by clear hA HS hN hO HC; simp only [execOp]; go_simp) ⟨_, rfl, (fun h => by cases h), rfl, hI, fun _ _ _ _ h => h⟩
    · intro ll bb w' hs hlf hN hO hf hI hA
      clear hi'
      have q10 := hf.kept (s := 10) (by rw [sizeIe12]; kernel_rfl) k10
      exact Rg.op_value (o := ⟨some 51, Op.fieldAddr 31 (Operand.tmp 10) 0, _, _, _, _⟩) (x := .pointer (some ⟨B, 0, none⟩)) rfl rfl (by clear hA HS hN hO HC; simp only [execOp]; go_simp) ⟨_, rfl, (fun h => by cases h), rfl, hI, fun _ _ _ _ h => h⟩
    · intro ll bb w' hs hlf hN hO hf hI hA
      clear hi'
      have q51 : bb.tmps[51]? = some _ := hf.tmp (k := 7) rfl (by rw [ha]; decide) (hA 7 (by kernel_rfl))
      have e0 := (hI.cell (p := ⟨B, 0, none⟩) hBl).trans x0
      exact Rg.op_value (o := ⟨some 52, Op.load 2 (Operand.tmp 51), _, _, _, _⟩) (x := .int .i64 (ff : Int)) rfl rfl (by clear hA HS hN hO HC; simp only [execOp]; go_simp) ⟨_, rfl, (fun h => by cases h), rfl, hI, fun _ _ _ _ h => h⟩
    · intro ll bb w' hs hlf hN hO hf hI hA
      clear hi'
      have q50 : bb.tmps[50]? = some _ := hf.tmp (k := 6) rfl (by rw [ha]; decide) (hA 6 (by kernel_rfl))
      have q52 : bb.tmps[52]? = some _ := hf.tmp (k := 8) rfl (by rw [ha]; decide) (hA 8 (by kernel_rfl))
      have hi3 : (ff : Int) < (nk : Int) := by omega
      exact Rg.op_value (o := ⟨some 53, Op.indexAddr 25 (Operand.tmp 50) (Operand.tmp 52), _, _, _, _⟩) (x := .pointer (some ⟨gk, ok + ff, none⟩)) rfl rfl (by clear hA HS hN hO HC; simp only [execOp]; go_simp) ⟨_, rfl, (fun h => by cases h), rfl, hI, fun _ _ _ _ h => h⟩
    · intro ll bb w' hs hlf hN hO hf hI hA
      clear hi'
      have q53 : bb.tmps[53]? = some _ := hf.tmp (k := 9) rfl (by rw [ha]; decide) (hA 9 (by kernel_rfl))
      have e0 := (hI.cell (p := ⟨gk, ok + ff, none⟩) hgk).trans z0
      exact Rg.op_value (o := ⟨some 54, Op.load 4 (Operand.tmp 53), _, _, _, _⟩) (x := .bool kk) rfl rfl (by clear hA HS hN hO HC; simp only [execOp]; go_simp) ⟨_, rfl, (fun h => by cases h), rfl, hI, fun _ _ _ _ h => h⟩
    · intro ll bb w' hs hlf hN hO hf hI hA
      clear hi'
      have q44 : bb.tmps[44]? = some _ := hf.tmp (k := 0) rfl (by rw [ha]; decide) (hA 0 (by kernel_rfl))
      have q49 : bb.tmps[49]? = some _ := hf.tmp (k := 5) rfl (by rw [ha]; decide) (hA 5 (by kernel_rfl))
      have q54 : bb.tmps[54]? = some _ := hf.tmp (k := 10) rfl (by rw [ha]; decide) (hA 10 (by kernel_rfl))
      refine Rg.op_call (o := ⟨some 55, Op.call { callee := Callee.value (Operand.func 29), args := #[(Operand.tmp 44), (Operand.tmp 49), (Operand.tmp 54)], argTypes := _ }, _, _, _, _⟩) rfl rfl (by clear hA HS hN hO HC; simp only [execOp, resolve]; go_simp) (HC w') ?_
      rintro e w2 ⟨rfl, hb2⟩
      exact ⟨_, rfl, _, rfl, (fun h => by cases h), rfl, onto hI hb2, fun k9 y9 _ _ h => HS hb2 k9 y9 h⟩
    · intro ll bb w' hs hlf hN hO hf hI hA
      clear hi'
      have q55 : bb.tmps[55]? = some _ := hf.tmp (k := 11) rfl (by rw [ha]; decide) (hA 11 (by kernel_rfl))
      exact Rg.op_value (o := ⟨some 56, Op.unOp UnOp.not 4 (Operand.tmp 55), _, _, _, _⟩) (x := .bool (!hb)) rfl rfl (by clear hA HS hN hO HC; simp only [execOp]; go_simp) ⟨_, rfl, (fun h => by cases h), rfl, hI, fun _ _ _ _ h => h⟩

theorem dIe12_0 : Rg.dstAt (Rg.opsOf Try.f9 12) 0 = some 44 := by kernel_rfl
theorem dIe12_1 : Rg.dstAt (Rg.opsOf Try.f9 12) 1 = some 45 := by kernel_rfl
theorem dIe12_2 : Rg.dstAt (Rg.opsOf Try.f9 12) 2 = some 46 := by kernel_rfl
theorem dIe12_3 : Rg.dstAt (Rg.opsOf Try.f9 12) 3 = some 47 := by kernel_rfl
theorem dIe12_4 : Rg.dstAt (Rg.opsOf Try.f9 12) 4 = some 48 := by kernel_rfl
theorem dIe12_5 : Rg.dstAt (Rg.opsOf Try.f9 12) 5 = some 49 := by kernel_rfl
theorem dIe12_6 : Rg.dstAt (Rg.opsOf Try.f9 12) 6 = some 50 := by kernel_rfl
theorem dIe12_7 : Rg.dstAt (Rg.opsOf Try.f9 12) 7 = some 51 := by kernel_rfl
theorem dIe12_8 : Rg.dstAt (Rg.opsOf Try.f9 12) 8 = some 52 := by kernel_rfl
theorem dIe12_9 : Rg.dstAt (Rg.opsOf Try.f9 12) 9 = some 53 := by kernel_rfl
theorem dIe12_10 : Rg.dstAt (Rg.opsOf Try.f9 12) 10 = some 54 := by kernel_rfl
theorem dIe12_11 : Rg.dstAt (Rg.opsOf Try.f9 12) 11 = some 55 := by kernel_rfl
theorem dIe12_12 : Rg.dstAt (Rg.opsOf Try.f9 12) 12 = some 56 := by kernel_rfl
theorem layIe12 {a b : Act} (hf : Rg.Fr (Rg.opsOf Try.f9 12) a b) : b = (((((((((((((a.put (some 44) (Rg.out (Rg.opsOf Try.f9 12) b 0)).put (some 45) (Rg.out (Rg.opsOf Try.f9 12) b 1)).put (some 46) (Rg.out (Rg.opsOf Try.f9 12) b 2)).put (some 47) (Rg.out (Rg.opsOf Try.f9 12) b 3)).put (some 48) (Rg.out (Rg.opsOf Try.f9 12) b 4)).put (some 49) (Rg.out (Rg.opsOf Try.f9 12) b 5)).put (some 50) (Rg.out (Rg.opsOf Try.f9 12) b 6)).put (some 51) (Rg.out (Rg.opsOf Try.f9 12) b 7)).put (some 52) (Rg.out (Rg.opsOf Try.f9 12) b 8)).put (some 53) (Rg.out (Rg.opsOf Try.f9 12) b 9)).put (some 54) (Rg.out (Rg.opsOf Try.f9 12) b 10)).put (some 55) (Rg.out (Rg.opsOf Try.f9 12) b 11)).put (some 56) (Rg.out (Rg.opsOf Try.f9 12) b 12)) := by
  have h := hf.chain
  rw [sizeIe12, show List.range 13 = [0, 1, 2, 3, 4, 5, 6, 7, 8, 9, 10, 11, 12] from by decide] at h
  simp only [List.foldl_cons, List.foldl_nil, dIe12_0, dIe12_1, dIe12_2, dIe12_3, dIe12_4, dIe12_5, dIe12_6, dIe12_7, dIe12_8, dIe12_9, dIe12_10, dIe12_11, dIe12_12] at h
  exact h

def FSe13 (B ff gv ov nv cv gk ok nk ck : Nat) (lo hi vv : Int) (mu kk : Bool) (i9 : Nat) (v : Value) (w : World) : Prop :=
  match i9 with
  | 0 => v = .slice (some ⟨gk, ok, none⟩) nk ck
  | 1 => v = .pointer (some ⟨B, 0, none⟩)
  | 2 => v = .int .i64 (ff : Int)
  | 3 => v = .pointer (some ⟨gk, ok + ff, none⟩)
  | 4 => v = .bool kk
  | 5 => v = .bool kk
  | 6 => v = cond (true && (kk == true)) (.slice (some ⟨gv, ov, none⟩) nv cv) undef
  | 7 => v = cond (true && (kk == true)) (.pointer (some ⟨B, 0, none⟩)) undef
  | 8 => v = cond (true && (kk == true)) (.int .i64 (ff : Int)) undef
  | 9 => v = cond (true && (kk == true)) (.pointer (some ⟨gv, ov + ff, none⟩)) undef
  | 10 => v = cond (true && (kk == true)) (.int .i64 vv) undef
  | 11 => v = cond (true && (kk == true)) (.pointer (some ⟨B, 1, none⟩)) undef
  | 12 => v = cond (true && (kk == true)) (.int .i64 lo) undef
  | 13 => v = cond (true && (kk == true)) (.pointer (some ⟨B, 2, none⟩)) undef
  | 14 => v = cond (true && (kk == true)) (.int .i64 hi) undef
  | 15 => v = cond (true && (kk == true)) (.bool (rng vv lo hi)) undef
  | 16 => v = .bool (kk && (rng vv lo hi))
  | 17 => v = .bool (kk && (rng vv lo hi))
  | _ => True
theorem sizeSe13 : (Rg.opsOf Try.f10 13).size = 18 := by kernel_rfl

set_option maxRecDepth 20000 in
set_option maxHeartbeats 8000000 in
theorem regSe13 {Q : Exit → Act → World → Prop} {a : Act} {w9 : World} {B ff gv ov nv cv gk ok nk ck : Nat} {lo hi vv : Int} {mu kk : Bool} (ha : a.tmps.size = 76)
    (k0 : a.tmps[0]? = some (.slice (some ⟨gv, ov, none⟩) nv cv)) (k1 : a.tmps[1]? = some (.slice (some ⟨gk, ok, none⟩) nk ck)) (k10 : a.tmps[10]? = some (.pointer (some ⟨B, 0, none⟩))) (hBl : B < w9.heap.size) (x0 : w9.cell? ⟨B, 0, none⟩ = some (.int .i64 (ff : Int))) (x1 : w9.cell? ⟨B, 1, none⟩ = some (.int .i64 lo)) (x2 : w9.cell? ⟨B, 2, none⟩ = some (.int .i64 hi)) (x3 : w9.cell? ⟨B, 3, none⟩ = some (.bool mu)) (hgv : gv < w9.heap.size) (hgk : gk < w9.heap.size) (hfv : ff < nv) (hfk : ff < nk) (y0 : w9.cell? ⟨gv, ov + ff, none⟩ = some (.int .i64 vv)) (z0 : w9.cell? ⟨gk, ok + ff, none⟩ = some (.bool kk))
    (hend : ∀ b' w', Rg.Fr (Rg.opsOf Try.f10 13) a b' → Below w9.heap.size w9 w' → Rg.out (Rg.opsOf Try.f10 13) b' 17 = .bool (kk && (rng vv lo hi)) → Q .normal b' w') :
    (Code.region 13 (Rg.opsOf Try.f10 13) true).wp Try.prog Q a w9 := by
  refine Rg.region_set3 (by kernel_rfl) (fun _ w' => Below w9.heap.size w9 w') (FSe13 B ff gv ov nv cv gk ok nk ck lo hi vv mu kk) (by rw [ha, sizeSe13]; kernel_rfl) (st_drew (Below.refl _ _)) ?_ ?_
  case refine_2 =>
    intro l b' w' hf hall hI hA
    rw [sizeSe13] at hA
    exact hend b' w' hf hI (hA 17 (by decide))
  case refine_1 =>
    clear hend
    have HS : ∀ {w w' : World}, Below w.heap.size w w' → ∀ k9 y9, FSe13 B ff gv ov nv cv gk ok nk ck lo hi vv mu kk k9 y9 w → FSe13 B ff gv ov nv cv gk ok nk ck lo hi vv mu kk k9 y9 w' := fun hb k9 y9 h => by
      unfold FSe13 at *
      split at h <;> exact h
    intro i' hi'
    rw [sizeSe13] at hi'
    rcases (show i' = 0 ∨ i' = 1 ∨ i' = 2 ∨ i' = 3 ∨ i' = 4 ∨ i' = 5 ∨ i' = 6 ∨ i' = 7 ∨ i' = 8 ∨ i' = 9 ∨ i' = 10 ∨ i' = 11 ∨ i' = 12 ∨ i' = 13 ∨ i' = 14 ∨ i' = 15 ∨ i' = 16 ∨ i' = 17 by omega) with rfl | rfl | rfl | rfl | rfl | rfl | rfl | rfl | rfl | rfl | rfl | rfl | rfl | rfl | rfl | rfl | rfl | rfl
    · intro ll bb w' hs hlf hN hO hf hI hA
      clear hi'
      have q0 := hf.kept (s := 1) (by rw [sizeSe13]; kernel_rfl) k1
      exact Rg.op_value (o := ⟨some 53, Op.move (Operand.tmp 1), _, _, _, _⟩) (x := .slice (some ⟨gk, ok, none⟩) nk ck) rfl rfl (by clear hA HS hN hO ; simp only [execOp]; go_simp) ⟨_, rfl, (fun h => by cases h), rfl, hI, fun _ _ _ _ h => h⟩
    · intro ll bb w' hs hlf hN hO hf hI hA
      clear hi'
      have q10 := hf.kept (s := 10) (by rw [sizeSe13]; kernel_rfl) k10
      exact Rg.op_value (o := ⟨some 54, Op.fieldAddr 31 (Operand.tmp 10) 0, _, _, _, _⟩) (x := .pointer (some ⟨B, 0, none⟩)) rfl rfl (by clear hA HS hN hO ; simp only [execOp]; go_simp) ⟨_, rfl, (fun h => by cases h), rfl, hI, fun _ _ _ _ h => h⟩
    · intro ll bb w' hs hlf hN hO hf hI hA
      clear hi'
      have q54 : bb.tmps[54]? = some _ := hf.tmp (k := 1) rfl (by rw [ha]; decide) (hA 1 (by kernel_rfl))
      have e0 := (hI.cell (p := ⟨B, 0, none⟩) hBl).trans x0
      exact Rg.op_value (o := ⟨some 55, Op.load 2 (Operand.tmp 54), _, _, _, _⟩) (x := .int .i64 (ff : Int)) rfl rfl (by clear hA HS hN hO ; simp only [execOp]; go_simp) ⟨_, rfl, (fun h => by cases h), rfl, hI, fun _ _ _ _ h => h⟩
    · intro ll bb w' hs hlf hN hO hf hI hA
      clear hi'
      have q53 : bb.tmps[53]? = some _ := hf.tmp (k := 0) rfl (by rw [ha]; decide) (hA 0 (by kernel_rfl))
      have q55 : bb.tmps[55]? = some _ := hf.tmp (k := 2) rfl (by rw [ha]; decide) (hA 2 (by kernel_rfl))
      have hi3 : (ff : Int) < (nk : Int) := by omega
      exact Rg.op_value (o := ⟨some 56, Op.indexAddr 25 (Operand.tmp 53) (Operand.tmp 55), _, _, _, _⟩) (x := .pointer (some ⟨gk, ok + ff, none⟩)) rfl rfl (by clear hA HS hN hO ; simp only [execOp]; go_simp) ⟨_, rfl, (fun h => by cases h), rfl, hI, fun _ _ _ _ h => h⟩
    · intro ll bb w' hs hlf hN hO hf hI hA
      clear hi'
      have q56 : bb.tmps[56]? = some _ := hf.tmp (k := 3) rfl (by rw [ha]; decide) (hA 3 (by kernel_rfl))
      have e0 := (hI.cell (p := ⟨gk, ok + ff, none⟩) hgk).trans z0
      exact Rg.op_value (o := ⟨some 57, Op.load 4 (Operand.tmp 56), _, _, _, _⟩) (x := .bool kk) rfl rfl (by clear hA HS hN hO ; simp only [execOp]; go_simp) ⟨_, rfl, (fun h => by cases h), rfl, hI, fun _ _ _ _ h => h⟩
    · intro ll bb w' hs hlf hN hO hf hI hA
      clear hi'
      have q57 : bb.tmps[57]? = some _ := hf.tmp (k := 4) rfl (by rw [ha]; decide) (hA 4 (by kernel_rfl))
      exact Rg.op_value (o := ⟨some 58, Op.move (Operand.tmp 57), _, _, _, _⟩) (x := .bool kk) rfl rfl (by clear hA HS hN hO ; simp only [execOp]; go_simp) ⟨_, rfl, (fun h => by cases h), rfl, hI, fun _ _ _ _ h => h⟩
    · intro ll bb w' hs hlf hN hO hf hI hA
      clear hi'
      have qg : bb.tmps[58]? = some (cond true (.bool kk) undef) := hf.tmp (k := 5) rfl (by rw [ha]; decide) (hA 5 (by kernel_rfl))
      cases hP : (true && (kk == true)) with
      | false => exact Rg.op_none (o := ⟨some 59, _, _, _, _, _⟩) rfl (Rg.unwanted_c (g := 5) rfl rfl qg hP) ⟨_, rfl, (fun h => by cases h), Rg.cond_f hP, hI, fun _ _ _ _ h => h⟩
      | true =>
        have hw := Rg.wanted_c (ops := (Rg.opsOf Try.f10 13)) (o := (Rg.opsOf Try.f10 13)[6]'(by rw [sizeSe13]; decide)) (g := 5) rfl rfl qg hP
        have g0 := Rg.pc_r hP
        have q0 := hf.kept (s := 0) (by rw [sizeSe13]; kernel_rfl) k0
        exact Rg.op_value (o := ⟨some 59, Op.move (Operand.tmp 0), _, _, _, _⟩) (x := .slice (some ⟨gv, ov, none⟩) nv cv) rfl hw (by clear hA HS hN hO ; simp only [execOp]; go_simp) ⟨_, rfl, (fun h => by cases h), (Rg.cond_t hP).symm, hI, fun _ _ _ _ h => h⟩
    · intro ll bb w' hs hlf hN hO hf hI hA
      clear hi'
      have qg : bb.tmps[58]? = some (cond true (.bool kk) undef) := hf.tmp (k := 5) rfl (by rw [ha]; decide) (hA 5 (by kernel_rfl))
      cases hP : (true && (kk == true)) with
      | false => exact Rg.op_none (o := ⟨some 60, _, _, _, _, _⟩) rfl (Rg.unwanted_c (g := 5) rfl rfl qg hP) ⟨_, rfl, (fun h => by cases h), Rg.cond_f hP, hI, fun _ _ _ _ h => h⟩
      | true =>
        have hw := Rg.wanted_c (ops := (Rg.opsOf Try.f10 13)) (o := (Rg.opsOf Try.f10 13)[7]'(by rw [sizeSe13]; decide)) (g := 5) rfl rfl qg hP
        have g0 := Rg.pc_r hP
        have q10 := hf.kept (s := 10) (by rw [sizeSe13]; kernel_rfl) k10
        exact Rg.op_value (o := ⟨some 60, Op.fieldAddr 31 (Operand.tmp 10) 0, _, _, _, _⟩) (x := .pointer (some ⟨B, 0, none⟩)) rfl hw (by clear hA HS hN hO ; simp only [execOp]; go_simp) ⟨_, rfl, (fun h => by cases h), (Rg.cond_t hP).symm, hI, fun _ _ _ _ h => h⟩
    · intro ll bb w' hs hlf hN hO hf hI hA
      clear hi'
      have qg : bb.tmps[58]? = some (cond true (.bool kk) undef) := hf.tmp (k := 5) rfl (by rw [ha]; decide) (hA 5 (by kernel_rfl))
      cases hP : (true && (kk == true)) with
      | false => exact Rg.op_none (o := ⟨some 61, _, _, _, _, _⟩) rfl (Rg.unwanted_c (g := 5) rfl rfl qg hP) ⟨_, rfl, (fun h => by cases h), Rg.cond_f hP, hI, fun _ _ _ _ h => h⟩
      | true =>
        have hw := Rg.wanted_c (ops := (Rg.opsOf Try.f10 13)) (o := (Rg.opsOf Try.f10 13)[8]'(by rw [sizeSe13]; decide)) (g := 5) rfl rfl qg hP
        have g0 := Rg.pc_r hP
        have q60 : bb.tmps[60]? = some (.pointer (some ⟨B, 0, none⟩)) := hf.tmp (k := 7) rfl (by rw [ha]; decide) (Eq.trans (hA 7 (by kernel_rfl)) (Rg.cond_t hP))
        have e0 := (hI.cell (p := ⟨B, 0, none⟩) hBl).trans x0
        exact Rg.op_value (o := ⟨some 61, Op.load 2 (Operand.tmp 60), _, _, _, _⟩) (x := .int .i64 (ff : Int)) rfl hw (by clear hA HS hN hO ; simp only [execOp]; go_simp) ⟨_, rfl, (fun h => by cases h), (Rg.cond_t hP).symm, hI, fun _ _ _ _ h => h⟩
    · intro ll bb w' hs hlf hN hO hf hI hA
      clear hi'
      have qg : bb.tmps[58]? = some (cond true (.bool kk) undef) := hf.tmp (k := 5) rfl (by rw [ha]; decide) (hA 5 (by kernel_rfl))
      cases hP : (true && (kk == true)) with
      | false => exact Rg.op_none (o := ⟨some 62, _, _, _, _, _⟩) rfl (Rg.unwanted_c (g := 5) rfl rfl qg hP) ⟨_, rfl, (fun h => by cases h), Rg.cond_f hP, hI, fun _ _ _ _ h => h⟩
      | true =>
        have hw := Rg.wanted_c (ops := (Rg.opsOf Try.f10 13)) (o := (Rg.opsOf Try.f10 13)[9]'(by rw [sizeSe13]; decide)) (g := 5) rfl rfl qg hP
        have g0 := Rg.pc_r hP
        have q59 : bb.tmps[59]? = some (.slice (some ⟨gv, ov, none⟩) nv cv) := hf.tmp (k := 6) rfl (by rw [ha]; decide) (Eq.trans (hA 6 (by kernel_rfl)) (Rg.cond_t hP))
        have q61 : bb.tmps[61]? = some (.int .i64 (ff : Int)) := hf.tmp (k := 8) rfl (by rw [ha]; decide) (Eq.trans (hA 8 (by kernel_rfl)) (Rg.cond_t hP))
        have hi3 : (ff : Int) < (nv : Int) := by omega
        exact Rg.op_value (o := ⟨some 62, Op.indexAddr 24 (Operand.tmp 59) (Operand.tmp 61), _, _, _, _⟩) (x := .pointer (some ⟨gv, ov + ff, none⟩)) rfl hw (by clear hA HS hN hO ; simp only [execOp]; go_simp) ⟨_, rfl, (fun h => by cases h), (Rg.cond_t hP).symm, hI, fun _ _ _ _ h => h⟩
    · intro ll bb w' hs hlf hN hO hf hI hA
      clear hi'
      have qg : bb.tmps[58]? = some (cond true (.bool kk) undef) := hf.tmp (k := 5) rfl (by rw [ha]; decide) (hA 5 (by kernel_rfl))
      cases hP : (true && (kk == true)) with
      | false => exact Rg.op_none (o := ⟨some 63, _, _, _, _, _⟩) rfl (Rg.unwanted_c (g := 5) rfl rfl qg hP) ⟨_, rfl, (fun h => by cases h), Rg.cond_f hP, hI, fun _ _ _ _ h => h⟩
      | true =>
        have hw := Rg.wanted_c (ops := (Rg.opsOf Try.f10 13)) (o := (Rg.opsOf Try.f10 13)[10]'(by rw [sizeSe13]; decide)) (g := 5) rfl rfl qg hP
        have g0 := Rg.pc_r hP
        have q62 : bb.tmps[62]? = some (.pointer (some ⟨gv, ov + ff, none⟩)) := hf.tmp (k := 9) rfl (by rw [ha]; decide) (Eq.trans (hA 9 (by kernel_rfl)) (Rg.cond_t hP))
        have e0 := (hI.cell (p := ⟨gv, ov + ff, none⟩) hgv).trans y0
        exact Rg.op_value (o := ⟨some 63, Op.load 2 (Operand.tmp 62), _, _, _, _⟩) (x := .int .i64 vv) rfl hw (by clear hA HS hN hO ; simp only [execOp]; go_simp) ⟨_, rfl, (fun h => by cases h), (Rg.cond_t hP).symm, hI, fun _ _ _ _ h => h⟩
    · intro ll bb w' hs hlf hN hO hf hI hA
      clear hi'
      have qg : bb.tmps[58]? = some (cond true (.bool kk) undef) := hf.tmp (k := 5) rfl (by rw [ha]; decide) (hA 5 (by kernel_rfl))
      cases hP : (true && (kk == true)) with
      | false => exact Rg.op_none (o := ⟨some 64, _, _, _, _, _⟩) rfl (Rg.unwanted_c (g := 5) rfl rfl qg hP) ⟨_, rfl, (fun h => by cases h), Rg.cond_f hP, hI, fun _ _ _ _ h => h⟩
      | true =>
        have hw := Rg.wanted_c (ops := (Rg.opsOf Try.f10 13)) (o := (Rg.opsOf Try.f10 13)[11]'(by rw [sizeSe13]; decide)) (g := 5) rfl rfl qg hP
        have g0 := Rg.pc_r hP
        have q10 := hf.kept (s := 10) (by rw [sizeSe13]; kernel_rfl) k10
        exact Rg.op_value (o := ⟨some 64, Op.fieldAddr 31 (Operand.tmp 10) 1, _, _, _, _⟩) (x := .pointer (some ⟨B, 1, none⟩)) rfl hw (by clear hA HS hN hO ; simp only [execOp]; go_simp) ⟨_, rfl, (fun h => by cases h), (Rg.cond_t hP).symm, hI, fun _ _ _ _ h => h⟩
    · intro ll bb w' hs hlf hN hO hf hI hA
      clear hi'
      have qg : bb.tmps[58]? = some (cond true (.bool kk) undef) := hf.tmp (k := 5) rfl (by rw [ha]; decide) (hA 5 (by kernel_rfl))
      cases hP : (true && (kk == true)) with
      | false => exact Rg.op_none (o := ⟨some 65, _, _, _, _, _⟩) rfl (Rg.unwanted_c (g := 5) rfl rfl qg hP) ⟨_, rfl, (fun h => by cases h), Rg.cond_f hP, hI, fun _ _ _ _ h => h⟩
      | true =>
        have hw := Rg.wanted_c (ops := (Rg.opsOf Try.f10 13)) (o := (Rg.opsOf Try.f10 13)[12]'(by rw [sizeSe13]; decide)) (g := 5) rfl rfl qg hP
        have g0 := Rg.pc_r hP
        have q64 : bb.tmps[64]? = some (.pointer (some ⟨B, 1, none⟩)) := hf.tmp (k := 11) rfl (by rw [ha]; decide) (Eq.trans (hA 11 (by kernel_rfl)) (Rg.cond_t hP))
        have e1 := (hI.cell (p := ⟨B, 1, none⟩) hBl).trans x1
        exact Rg.op_value (o := ⟨some 65, Op.load 2 (Operand.tmp 64), _, _, _, _⟩) (x := .int .i64 lo) rfl hw (by clear hA HS hN hO ; simp only [execOp]; go_simp) ⟨_, rfl, (fun h => by cases h), (Rg.cond_t hP).symm, hI, fun _ _ _ _ h => h⟩
    · intro ll bb w' hs hlf hN hO hf hI hA
      clear hi'
      have qg : bb.tmps[58]? = some (cond true (.bool kk) undef) := hf.tmp (k := 5) rfl (by rw [ha]; decide) (hA 5 (by kernel_rfl))
      cases hP : (true && (kk == true)) with
      | false => exact Rg.op_none (o := ⟨some 66, _, _, _, _, _⟩) rfl (Rg.unwanted_c (g := 5) rfl rfl qg hP) ⟨_, rfl, (fun h => by cases h), Rg.cond_f hP, hI, fun _ _ _ _ h => h⟩
      | true =>
        have hw := Rg.wanted_c (ops := (Rg.opsOf Try.f10 13)) (o := (Rg.opsOf Try.f10 13)[13]'(by rw [sizeSe13]; decide)) (g := 5) rfl rfl qg hP
        have g0 := Rg.pc_r hP
        have q10 := hf.kept (s := 10) (by rw [sizeSe13]; kernel_rfl) k10
        exact Rg.op_value (o := ⟨some 66, Op.fieldAddr 31 (Operand.tmp 10) 2, _, _, _, _⟩) (x := .pointer (some ⟨B, 2, none⟩)) rfl hw (by clear hA HS hN hO ; simp only [execOp]; go_simp) ⟨_, rfl, (fun h => by cases h), (Rg.cond_t hP).symm, hI, fun _ _ _ _ h => h⟩
    · intro ll bb w' hs hlf hN hO hf hI hA
      clear hi'
      have qg : bb.tmps[58]? = some (cond true (.bool kk) undef) := hf.tmp (k := 5) rfl (by rw [ha]; decide) (hA 5 (by kernel_rfl))
      cases hP : (true && (kk == true)) with
      | false => exact Rg.op_none (o := ⟨some 67, _, _, _, _, _⟩) rfl (Rg.unwanted_c (g := 5) rfl rfl qg hP) ⟨_, rfl, (fun h => by cases h), Rg.cond_f hP, hI, fun _ _ _ _ h => h⟩
      | true =>
        have hw := Rg.wanted_c (ops := (Rg.opsOf Try.f10 13)) (o := (Rg.opsOf Try.f10 13)[14]'(by rw [sizeSe13]; decide)) (g := 5) rfl rfl qg hP
        have g0 := Rg.pc_r hP
        have q66 : bb.tmps[66]? = some (.pointer (some ⟨B, 2, none⟩)) := hf.tmp (k := 13) rfl (by rw [ha]; decide) (Eq.trans (hA 13 (by kernel_rfl)) (Rg.cond_t hP))
        have e2 := (hI.cell (p := ⟨B, 2, none⟩) hBl).trans x2
        exact Rg.op_value (o := ⟨some 67, Op.load 2 (Operand.tmp 66), _, _, _, _⟩) (x := .int .i64 hi) rfl hw (by clear hA HS hN hO ; simp only [execOp]; go_simp) ⟨_, rfl, (fun h => by cases h), (Rg.cond_t hP).symm, hI, fun _ _ _ _ h => h⟩
    · intro ll bb w' hs hlf hN hO hf hI hA
      clear hi'
      have qg : bb.tmps[58]? = some (cond true (.bool kk) undef) := hf.tmp (k := 5) rfl (by rw [ha]; decide) (hA 5 (by kernel_rfl))
      cases hP : (true && (kk == true)) with
      | false => exact Rg.op_none (o := ⟨some 68, _, _, _, _, _⟩) rfl (Rg.unwanted_c (g := 5) rfl rfl qg hP) ⟨_, rfl, (fun h => by cases h), Rg.cond_f hP, hI, fun _ _ _ _ h => h⟩
      | true =>
        have hw := Rg.wanted_c (ops := (Rg.opsOf Try.f10 13)) (o := (Rg.opsOf Try.f10 13)[15]'(by rw [sizeSe13]; decide)) (g := 5) rfl rfl qg hP
        have g0 := Rg.pc_r hP
        have q63 : bb.tmps[63]? = some (.int .i64 vv) := hf.tmp (k := 10) rfl (by rw [ha]; decide) (Eq.trans (hA 10 (by kernel_rfl)) (Rg.cond_t hP))
        have q65 : bb.tmps[65]? = some (.int .i64 lo) := hf.tmp (k := 12) rfl (by rw [ha]; decide) (Eq.trans (hA 12 (by kernel_rfl)) (Rg.cond_t hP))
        have q67 : bb.tmps[67]? = some (.int .i64 hi) := hf.tmp (k := 14) rfl (by rw [ha]; decide) (Eq.trans (hA 14 (by kernel_rfl)) (Rg.cond_t hP))
        refine Rg.op_call (o := ⟨some 68, Op.call { callee := Callee.value (Operand.func 30), args := #[(Operand.tmp 63), (Operand.tmp 65), (Operand.tmp 67)], argTypes := _ }, _, _, _, _⟩) rfl hw (by clear hA HS hN hO ; simp only [execOp, resolve]; go_simp) (lin_any vv lo hi w') ?_
        rintro e w2 ⟨rfl, rfl⟩
        exact ⟨_, rfl, _, rfl, (fun h => by cases h), (Rg.cond_t hP).symm, hI, fun _ _ _ _ h => h⟩
    · intro ll bb w' hs hlf hN hO hf hI hA
      clear hi'
      have q58 : bb.tmps[58]? = some _ := hf.tmp (k := 5) rfl (by rw [ha]; decide) (hA 5 (by kernel_rfl))
      cases hC : kk with
      | false =>
        have hval : ((.bool (kk && (rng vv lo hi)) : Value)) = .bool false := by rw [hC]; rfl
        exact Rg.op_value (o := ⟨some 69, Op.pick (Operand.tmp 58) (Operand.tmp 68) (Operand.const (Value.bool false)), _, _, _, _⟩) (x := .bool false) rfl rfl (by rw [hC] at q58; clear hA HS hN hO  hval; simp only [execOp]; go_simp) ⟨_, rfl, (fun h => by cases h), (by show ((.bool false : Value)) = _; first | exact hval.symm | rfl), hI, fun _ _ _ _ h => h⟩
      | true =>
        have hB : (true && (kk == true)) = true := by rw [hC]; rfl
        have q68 : bb.tmps[68]? = some (.bool (rng vv lo hi)) := hf.tmp (k := 15) rfl (by rw [ha]; decide) (Eq.trans (hA 15 (by kernel_rfl)) (Rg.cond_t hB))
        have hval : ((.bool (kk && (rng vv lo hi)) : Value)) = .bool (rng vv lo hi) := by rw [hC]; rfl
        exact Rg.op_value (o := ⟨some 69, Op.pick (Operand.tmp 58) (Operand.tmp 68) (Operand.const (Value.bool false)), _, _, _, _⟩) (x := .bool (rng vv lo hi)) rfl rfl (by rw [hC] at q58; clear hA HS hN hO  hval; simp only [execOp]; go_simp) ⟨_, rfl, (fun h => by cases h), (by show ((.bool (rng vv lo hi) : Value)) = _; first | exact hval.symm | rfl), hI, fun _ _ _ _ h => h⟩
    · intro ll bb w' hs hlf hN hO hf hI hA
      clear hi'
      have q69 : bb.tmps[69]? = some _ := hf.tmp (k := 16) rfl (by rw [ha]; decide) (hA 16 (by kernel_rfl))
      exact Rg.op_value (o := ⟨some 11, Op.assign (Operand.tmp 69), _, _, _, _⟩) (x := .bool (kk && (rng vv lo hi))) rfl rfl (by clear hA HS hN hO ; simp only [execOp]; go_simp) ⟨_, rfl, (fun h => by cases h), rfl, hI, fun _ _ _ _ h => h⟩

theorem dSe13_0 : Rg.dstAt (Rg.opsOf Try.f10 13) 0 = some 53 := by kernel_rfl
theorem dSe13_1 : Rg.dstAt (Rg.opsOf Try.f10 13) 1 = some 54 := by kernel_rfl
theorem dSe13_2 : Rg.dstAt (Rg.opsOf Try.f10 13) 2 = some 55 := by kernel_rfl
theorem dSe13_3 : Rg.dstAt (Rg.opsOf Try.f10 13) 3 = some 56 := by kernel_rfl
theorem dSe13_4 : Rg.dstAt (Rg.opsOf Try.f10 13) 4 = some 57 := by kernel_rfl
theorem dSe13_5 : Rg.dstAt (Rg.opsOf Try.f10 13) 5 = some 58 := by kernel_rfl
theorem dSe13_6 : Rg.dstAt (Rg.opsOf Try.f10 13) 6 = some 59 := by kernel_rfl
theorem dSe13_7 : Rg.dstAt (Rg.opsOf Try.f10 13) 7 = some 60 := by kernel_rfl
theorem dSe13_8 : Rg.dstAt (Rg.opsOf Try.f10 13) 8 = some 61 := by kernel_rfl
theorem dSe13_9 : Rg.dstAt (Rg.opsOf Try.f10 13) 9 = some 62 := by kernel_rfl
theorem dSe13_10 : Rg.dstAt (Rg.opsOf Try.f10 13) 10 = some 63 := by kernel_rfl
theorem dSe13_11 : Rg.dstAt (Rg.opsOf Try.f10 13) 11 = some 64 := by kernel_rfl
theorem dSe13_12 : Rg.dstAt (Rg.opsOf Try.f10 13) 12 = some 65 := by kernel_rfl
theorem dSe13_13 : Rg.dstAt (Rg.opsOf Try.f10 13) 13 = some 66 := by kernel_rfl
theorem dSe13_14 : Rg.dstAt (Rg.opsOf Try.f10 13) 14 = some 67 := by kernel_rfl
theorem dSe13_15 : Rg.dstAt (Rg.opsOf Try.f10 13) 15 = some 68 := by kernel_rfl
theorem dSe13_16 : Rg.dstAt (Rg.opsOf Try.f10 13) 16 = some 69 := by kernel_rfl
theorem dSe13_17 : Rg.dstAt (Rg.opsOf Try.f10 13) 17 = some 11 := by kernel_rfl
theorem laySe13 {a b : Act} (hf : Rg.Fr (Rg.opsOf Try.f10 13) a b) : b = ((((((((((((((((((a.put (some 53) (Rg.out (Rg.opsOf Try.f10 13) b 0)).put (some 54) (Rg.out (Rg.opsOf Try.f10 13) b 1)).put (some 55) (Rg.out (Rg.opsOf Try.f10 13) b 2)).put (some 56) (Rg.out (Rg.opsOf Try.f10 13) b 3)).put (some 57) (Rg.out (Rg.opsOf Try.f10 13) b 4)).put (some 58) (Rg.out (Rg.opsOf Try.f10 13) b 5)).put (some 59) (Rg.out (Rg.opsOf Try.f10 13) b 6)).put (some 60) (Rg.out (Rg.opsOf Try.f10 13) b 7)).put (some 61) (Rg.out (Rg.opsOf Try.f10 13) b 8)).put (some 62) (Rg.out (Rg.opsOf Try.f10 13) b 9)).put (some 63) (Rg.out (Rg.opsOf Try.f10 13) b 10)).put (some 64) (Rg.out (Rg.opsOf Try.f10 13) b 11)).put (some 65) (Rg.out (Rg.opsOf Try.f10 13) b 12)).put (some 66) (Rg.out (Rg.opsOf Try.f10 13) b 13)).put (some 67) (Rg.out (Rg.opsOf Try.f10 13) b 14)).put (some 68) (Rg.out (Rg.opsOf Try.f10 13) b 15)).put (some 69) (Rg.out (Rg.opsOf Try.f10 13) b 16)).put (some 11) (Rg.out (Rg.opsOf Try.f10 13) b 17)) := by
  have h := hf.chain
  rw [sizeSe13, show List.range 18 = [0, 1, 2, 3, 4, 5, 6, 7, 8, 9, 10, 11, 12, 13, 14, 15, 16, 17] from by decide] at h
  simp only [List.foldl_cons, List.foldl_nil, dSe13_0, dSe13_1, dSe13_2, dSe13_3, dSe13_4, dSe13_5, dSe13_6, dSe13_7, dSe13_8, dSe13_9, dSe13_10, dSe13_11, dSe13_12, dSe13_13, dSe13_14, dSe13_15, dSe13_16, dSe13_17] at h
  exact h
end Go.Proofs.Ythenphbmkmagaaa
