/-
  Somebody more: the regions of the law that draw their order; a trial drawn of bytes; lists that are the same.
-/
import Derived.Test.YtoehnlbkgpjhmaaTr28
namespace Go.Proofs.Ytoehnlbkgpjhmaa
open Go.RowKit Go.WideShapes Va Lb Tr Go.Maps
set_option linter.all false

def FFe19 (ga oa ca gb ob cb n i ar : Nat) (bi ai : Int) (i9 : Nat) (v : Value) (w : World) : Prop :=
  match i9 with
  | 0 => v = .slice (some ⟨gb, ob, none⟩) n cb
  | 1 => v = .int .i64 (i : Int)
  | 2 => v = .pointer (some ⟨gb, ob + i, none⟩)
  | 3 => v = .int .i64 bi
  | 4 => v = .slice (some ⟨ga, oa, none⟩) n ca
  | 5 => v = .int .i64 (i : Int)
  | 6 => v = .pointer (some ⟨ga, oa + i, none⟩)
  | 7 => v = .int .i64 ai
  | 8 => v = .bool (bi != ai)
  | 9 => v = .bool (bi != ai)
  | 10 => v = cond (true && ((bi != ai) == true)) (.int .i64 (i : Int)) undef
  | 11 => v = cond (true && ((bi != ai) == true)) (.int .i64 (ar : Int)) undef
  | 12 => v = cond (true && ((bi != ai) == true)) (.bool ((i : Int) != (ar : Int))) undef
  | 13 => v = .bool ((bi != ai) && ((i : Int) != (ar : Int)))
  | _ => True
theorem sizeFe19 : (Rg.opsOf Try.f4 19).size = 14 := by kernel_rfl

set_option maxRecDepth 20000 in
set_option maxHeartbeats 8000000 in
theorem regFe19 {Q : Exit → Act → World → Prop} {a : Act} {w9 : World} {ga oa ca gb ob cb n i ar : Nat} {bi ai : Int} (ha : a.tmps.size = 121)
    (k5 : a.tmps[5]? = some (.int .i64 (ar : Int))) (k8 : a.tmps[8]? = some (.slice (some ⟨ga, oa, none⟩) n ca)) (k9 : a.tmps[9]? = some (.slice (some ⟨gb, ob, none⟩) n cb)) (k11 : a.tmps[11]? = some (.int .i64 (i : Int))) (hga : ga < w9.heap.size) (hgb : gb < w9.heap.size) (hin : i < n) (y0 : w9.cell? ⟨gb, ob + i, none⟩ = some (.int .i64 bi)) (z0 : w9.cell? ⟨ga, oa + i, none⟩ = some (.int .i64 ai))
    (hend : ∀ b' w', Rg.Fr (Rg.opsOf Try.f4 19) a b' → Below w9.heap.size w9 w' → Rg.out (Rg.opsOf Try.f4 19) b' 13 = .bool ((bi != ai) && ((i : Int) != (ar : Int))) → Q .normal b' w') :
    (Code.region 19 (Rg.opsOf Try.f4 19) true).wp Try.prog Q a w9 := by
  refine Rg.region_set3 (by kernel_rfl) (fun _ w' => Below w9.heap.size w9 w') (FFe19 ga oa ca gb ob cb n i ar bi ai) (by rw [ha, sizeFe19]; kernel_rfl) (st_drew (Below.refl _ _)) ?_ ?_
  case refine_2 =>
    intro l b' w' hf hall hI hA
    rw [sizeFe19] at hA
    exact hend b' w' hf hI (hA 13 (by decide))
  case refine_1 =>
    clear hend
    have HS : ∀ {w w' : World}, Below w.heap.size w w' → ∀ k9 y9, FFe19 ga oa ca gb ob cb n i ar bi ai k9 y9 w → FFe19 ga oa ca gb ob cb n i ar bi ai k9 y9 w' := fun hb k9 y9 h => by
      unfold FFe19 at *
      split at h <;> exact h
    intro i' hi'
    rw [sizeFe19] at hi'
    rcases (show i' = 0 ∨ i' = 1 ∨ i' = 2 ∨ i' = 3 ∨ i' = 4 ∨ i' = 5 ∨ i' = 6 ∨ i' = 7 ∨ i' = 8 ∨ i' = 9 ∨ i' = 10 ∨ i' = 11 ∨ i' = 12 ∨ i' = 13 by omega) with rfl | rfl | rfl | rfl | rfl | rfl | rfl | rfl | rfl | rfl | rfl | rfl | rfl | rfl
    · intro ll bb w' hs hlf hN hO hf hI hA
      clear hi'
      have q0 := hf.kept (s := 9) (by rw [sizeFe19]; kernel_rfl) k9
      exact Rg.op_value (o := ⟨some 91, Op.move (Operand.tmp 9), _, _, _, _⟩) (x := .slice (some ⟨gb, ob, none⟩) n cb) rfl rfl (by clear hA HS hN hO ; simp only [execOp]; go_simp) ⟨_, rfl, (fun h => by cases h), rfl, hI, fun _ _ _ _ h => h⟩
    · intro ll bb w' hs hlf hN hO hf hI hA
      clear hi'
      have q0 := hf.kept (s := 11) (by rw [sizeFe19]; kernel_rfl) k11
      exact Rg.op_value (o := ⟨some 92, Op.move (Operand.tmp 11), _, _, _, _⟩) (x := .int .i64 (i : Int)) rfl rfl (by clear hA HS hN hO ; simp only [execOp]; go_simp) ⟨_, rfl, (fun h => by cases h), rfl, hI, fun _ _ _ _ h => h⟩
    · intro ll bb w' hs hlf hN hO hf hI hA
      clear hi'
      have q91 : bb.tmps[91]? = some _ := hf.tmp (k := 0) rfl (by rw [ha]; decide) (hA 0 (by kernel_rfl))
      have q92 : bb.tmps[92]? = some _ := hf.tmp (k := 1) rfl (by rw [ha]; decide) (hA 1 (by kernel_rfl))
      have hi3 : (i : Int) < (n : Int) := by omega
      exact Rg.op_value (o := ⟨some 93, Op.indexAddr 24 (Operand.tmp 91) (Operand.tmp 92), _, _, _, _⟩) (x := .pointer (some ⟨gb, ob + i, none⟩)) rfl rfl (by clear hA HS hN hO ; simp only [execOp]; go_simp) ⟨_, rfl, (fun h => by cases h), rfl, hI, fun _ _ _ _ h => h⟩
    · intro ll bb w' hs hlf hN hO hf hI hA
      clear hi'
      have q93 : bb.tmps[93]? = some _ := hf.tmp (k := 2) rfl (by rw [ha]; decide) (hA 2 (by kernel_rfl))
      have e0 := (hI.cell (p := ⟨gb, ob + i, none⟩) hgb).trans y0
      exact Rg.op_value (o := ⟨some 94, Op.load 2 (Operand.tmp 93), _, _, _, _⟩) (x := .int .i64 bi) rfl rfl (by clear hA HS hN hO ; simp only [execOp]; go_simp) ⟨_, rfl, (fun h => by cases h), rfl, hI, fun _ _ _ _ h => h⟩
    · intro ll bb w' hs hlf hN hO hf hI hA
      clear hi'
      have q0 := hf.kept (s := 8) (by rw [sizeFe19]; kernel_rfl) k8
      exact Rg.op_value (o := ⟨some 95, Op.move (Operand.tmp 8), _, _, _, _⟩) (x := .slice (some ⟨ga, oa, none⟩) n ca) rfl rfl (by clear hA HS hN hO ; simp only [execOp]; go_simp) ⟨_, rfl, (fun h => by cases h), rfl, hI, fun _ _ _ _ h => h⟩
    · intro ll bb w' hs hlf hN hO hf hI hA
      clear hi'
      have q0 := hf.kept (s := 11) (by rw [sizeFe19]; kernel_rfl) k11
      exact Rg.op_value (o := ⟨some 96, Op.move (Operand.tmp 11), _, _, _, _⟩) (x := .int .i64 (i : Int)) rfl rfl (by clear hA HS hN hO ; simp only [execOp]; go_simp) ⟨_, rfl, (fun h => by cases h), rfl, hI, fun _ _ _ _ h => h⟩
    · intro ll bb w' hs hlf hN hO hf hI hA
      clear hi'
      have q95 : bb.tmps[95]? = some _ := hf.tmp (k := 4) rfl (by rw [ha]; decide) (hA 4 (by kernel_rfl))
      have q96 : bb.tmps[96]? = some _ := hf.tmp (k := 5) rfl (by rw [ha]; decide) (hA 5 (by kernel_rfl))
      have hi3 : (i : Int) < (n : Int) := by omega
      exact Rg.op_value (o := ⟨some 97, Op.indexAddr 24 (Operand.tmp 95) (Operand.tmp 96), _, _, _, _⟩) (x := .pointer (some ⟨ga, oa + i, none⟩)) rfl rfl (by clear hA HS hN hO ; simp only [execOp]; go_simp) ⟨_, rfl, (fun h => by cases h), rfl, hI, fun _ _ _ _ h => h⟩
    · intro ll bb w' hs hlf hN hO hf hI hA
      clear hi'
      have q97 : bb.tmps[97]? = some _ := hf.tmp (k := 6) rfl (by rw [ha]; decide) (hA 6 (by kernel_rfl))
      have e0 := (hI.cell (p := ⟨ga, oa + i, none⟩) hga).trans z0
      exact Rg.op_value (o := ⟨some 98, Op.load 2 (Operand.tmp 97), _, _, _, _⟩) (x := .int .i64 ai) rfl rfl (by clear hA HS hN hO ; simp only [execOp]; go_simp) ⟨_, rfl, (fun h => by cases h), rfl, hI, fun _ _ _ _ h => h⟩
    · intro ll bb w' hs hlf hN hO hf hI hA
      clear hi'
      have q94 : bb.tmps[94]? = some _ := hf.tmp (k := 3) rfl (by rw [ha]; decide) (hA 3 (by kernel_rfl))
      have q98 : bb.tmps[98]? = some _ := hf.tmp (k := 7) rfl (by rw [ha]; decide) (hA 7 (by kernel_rfl))
      exact Rg.op_value (o := ⟨some 99, Op.binOp BinOp.neq 2 (Operand.tmp 94) (Operand.tmp 98) 2, _, _, _, _⟩) (x := .bool (bi != ai)) rfl rfl (by clear hA HS hN hO ; simp only [execOp]; go_simp) ⟨_, rfl, (fun h => by cases h), rfl, hI, fun _ _ _ _ h => h⟩
    · intro ll bb w' hs hlf hN hO hf hI hA
      clear hi'
      have q99 : bb.tmps[99]? = some _ := hf.tmp (k := 8) rfl (by rw [ha]; decide) (hA 8 (by kernel_rfl))
      exact Rg.op_value (o := ⟨some 100, Op.move (Operand.tmp 99), _, _, _, _⟩) (x := .bool (bi != ai)) rfl rfl (by clear hA HS hN hO ; simp only [execOp]; go_simp) ⟨_, rfl, (fun h => by cases h), rfl, hI, fun _ _ _ _ h => h⟩
    · intro ll bb w' hs hlf hN hO hf hI hA
      clear hi'
      have qg : bb.tmps[100]? = some (cond true (.bool (bi != ai)) undef) := hf.tmp (k := 9) rfl (by rw [ha]; decide) (hA 9 (by kernel_rfl))
      cases hP : (true && ((bi != ai) == true)) with
      | false => exact Rg.op_none (o := ⟨some 101, _, _, _, _, _⟩) rfl (Rg.unwanted_c (g := 9) rfl rfl qg hP) ⟨_, rfl, (fun h => by cases h), Rg.cond_f hP, hI, fun _ _ _ _ h => h⟩
      | true =>
        have hw := Rg.wanted_c (ops := (Rg.opsOf Try.f4 19)) (o := (Rg.opsOf Try.f4 19)[10]'(by rw [sizeFe19]; decide)) (g := 9) rfl rfl qg hP
        have g0 := Rg.pc_r hP
        have q0 := hf.kept (s := 11) (by rw [sizeFe19]; kernel_rfl) k11
        exact Rg.op_value (o := ⟨some 101, Op.move (Operand.tmp 11), _, _, _, _⟩) (x := .int .i64 (i : Int)) rfl hw (by clear hA HS hN hO ; simp only [execOp]; go_simp) ⟨_, rfl, (fun h => by cases h), (Rg.cond_t hP).symm, hI, fun _ _ _ _ h => h⟩
    · intro ll bb w' hs hlf hN hO hf hI hA
      clear hi'
      have qg : bb.tmps[100]? = some (cond true (.bool (bi != ai)) undef) := hf.tmp (k := 9) rfl (by rw [ha]; decide) (hA 9 (by kernel_rfl))
      cases hP : (true && ((bi != ai) == true)) with
      | false => exact Rg.op_none (o := ⟨some 102, _, _, _, _, _⟩) rfl (Rg.unwanted_c (g := 9) rfl rfl qg hP) ⟨_, rfl, (fun h => by cases h), Rg.cond_f hP, hI, fun _ _ _ _ h => h⟩
      | true =>
        have hw := Rg.wanted_c (ops := (Rg.opsOf Try.f4 19)) (o := (Rg.opsOf Try.f4 19)[11]'(by rw [sizeFe19]; decide)) (g := 9) rfl rfl qg hP
        have g0 := Rg.pc_r hP
        have q0 := hf.kept (s := 5) (by rw [sizeFe19]; kernel_rfl) k5
        exact Rg.op_value (o := ⟨some 102, Op.move (Operand.tmp 5), _, _, _, _⟩) (x := .int .i64 (ar : Int)) rfl hw (by clear hA HS hN hO ; simp only [execOp]; go_simp) ⟨_, rfl, (fun h => by cases h), (Rg.cond_t hP).symm, hI, fun _ _ _ _ h => h⟩
    · intro ll bb w' hs hlf hN hO hf hI hA
      clear hi'
      have qg : bb.tmps[100]? = some (cond true (.bool (bi != ai)) undef) := hf.tmp (k := 9) rfl (by rw [ha]; decide) (hA 9 (by kernel_rfl))
      cases hP : (true && ((bi != ai) == true)) with
      | false => exact Rg.op_none (o := ⟨some 103, _, _, _, _, _⟩) rfl (Rg.unwanted_c (g := 9) rfl rfl qg hP) ⟨_, rfl, (fun h => by cases h), Rg.cond_f hP, hI, fun _ _ _ _ h => h⟩
      | true =>
        have hw := Rg.wanted_c (ops := (Rg.opsOf Try.f4 19)) (o := (Rg.opsOf Try.f4 19)[12]'(by rw [sizeFe19]; decide)) (g := 9) rfl rfl qg hP
        have g0 := Rg.pc_r hP
        have q101 : bb.tmps[101]? = some (.int .i64 (i : Int)) := hf.tmp (k := 10) rfl (by rw [ha]; decide) (Eq.trans (hA 10 (by kernel_rfl)) (Rg.cond_t hP))
        have q102 : bb.tmps[102]? = some (.int .i64 (ar : Int)) := hf.tmp (k := 11) rfl (by rw [ha]; decide) (Eq.trans (hA 11 (by kernel_rfl)) (Rg.cond_t hP))
        exact Rg.op_value (o := ⟨some 103, Op.binOp BinOp.neq 2 (Operand.tmp 101) (Operand.tmp 102) 2, _, _, _, _⟩) (x := .bool ((i : Int) != (ar : Int))) rfl hw (by clear hA HS hN hO ; simp only [execOp]; go_simp) ⟨_, rfl, (fun h => by cases h), (Rg.cond_t hP).symm, hI, fun _ _ _ _ h => h⟩
    · intro ll bb w' hs hlf hN hO hf hI hA
      clear hi'
      have q100 : bb.tmps[100]? = some _ := hf.tmp (k := 9) rfl (by rw [ha]; decide) (hA 9 (by kernel_rfl))
      cases hC : (bi != ai) with
      | false =>
        have hval : ((.bool ((bi != ai) && ((i : Int) != (ar : Int))) : Value)) = .bool false := by rw [hC]; rfl
        exact Rg.op_value (o := ⟨some 104, Op.pick (Operand.tmp 100) (Operand.tmp 103) (Operand.const (Value.bool false)), _, _, _, _⟩) (x := .bool false) rfl rfl (by rw [hC] at q100; clear hA HS hN hO  hval; simp only [execOp]; go_simp) ⟨_, rfl, (fun h => by cases h), (by show ((.bool false : Value)) = _; first | exact hval.symm | rfl), hI, fun _ _ _ _ h => h⟩
      | true =>
        have hB : (true && ((bi != ai) == true)) = true := by rw [hC]; rfl
        have q103 : bb.tmps[103]? = some (.bool ((i : Int) != (ar : Int))) := hf.tmp (k := 12) rfl (by rw [ha]; decide) (Eq.trans (hA 12 (by kernel_rfl)) (Rg.cond_t hB))
        have hval : ((.bool ((bi != ai) && ((i : Int) != (ar : Int))) : Value)) = .bool ((i : Int) != (ar : Int)) := by rw [hC]; rfl
        exact Rg.op_value (o := ⟨some 104, Op.pick (Operand.tmp 100) (Operand.tmp 103) (Operand.const (Value.bool false)), _, _, _, _⟩) (x := .bool ((i : Int) != (ar : Int))) rfl rfl (by rw [hC] at q100; clear hA HS hN hO  hval; simp only [execOp]; go_simp) ⟨_, rfl, (fun h => by cases h), (by show ((.bool ((i : Int) != (ar : Int)) : Value)) = _; first | exact hval.symm | rfl), hI, fun _ _ _ _ h => h⟩

theorem dFe19_0 : Rg.dstAt (Rg.opsOf Try.f4 19) 0 = some 91 := by kernel_rfl
theorem dFe19_1 : Rg.dstAt (Rg.opsOf Try.f4 19) 1 = some 92 := by kernel_rfl
theorem dFe19_2 : Rg.dstAt (Rg.opsOf Try.f4 19) 2 = some 93 := by kernel_rfl
theorem dFe19_3 : Rg.dstAt (Rg.opsOf Try.f4 19) 3 = some 94 := by kernel_rfl
theorem dFe19_4 : Rg.dstAt (Rg.opsOf Try.f4 19) 4 = some 95 := by kernel_rfl
theorem dFe19_5 : Rg.dstAt (Rg.opsOf Try.f4 19) 5 = some 96 := by kernel_rfl
theorem dFe19_6 : Rg.dstAt (Rg.opsOf Try.f4 19) 6 = some 97 := by kernel_rfl
theorem dFe19_7 : Rg.dstAt (Rg.opsOf Try.f4 19) 7 = some 98 := by kernel_rfl
theorem dFe19_8 : Rg.dstAt (Rg.opsOf Try.f4 19) 8 = some 99 := by kernel_rfl
theorem dFe19_9 : Rg.dstAt (Rg.opsOf Try.f4 19) 9 = some 100 := by kernel_rfl
theorem dFe19_10 : Rg.dstAt (Rg.opsOf Try.f4 19) 10 = some 101 := by kernel_rfl
theorem dFe19_11 : Rg.dstAt (Rg.opsOf Try.f4 19) 11 = some 102 := by kernel_rfl
theorem dFe19_12 : Rg.dstAt (Rg.opsOf Try.f4 19) 12 = some 103 := by kernel_rfl
theorem dFe19_13 : Rg.dstAt (Rg.opsOf Try.f4 19) 13 = some 104 := by kernel_rfl
theorem layFe19 {a b : Act} (hf : Rg.Fr (Rg.opsOf Try.f4 19) a b) : b = ((((((((((((((a.put (some 91) (Rg.out (Rg.opsOf Try.f4 19) b 0)).put (some 92) (Rg.out (Rg.opsOf Try.f4 19) b 1)).put (some 93) (Rg.out (Rg.opsOf Try.f4 19) b 2)).put (some 94) (Rg.out (Rg.opsOf Try.f4 19) b 3)).put (some 95) (Rg.out (Rg.opsOf Try.f4 19) b 4)).put (some 96) (Rg.out (Rg.opsOf Try.f4 19) b 5)).put (some 97) (Rg.out (Rg.opsOf Try.f4 19) b 6)).put (some 98) (Rg.out (Rg.opsOf Try.f4 19) b 7)).put (some 99) (Rg.out (Rg.opsOf Try.f4 19) b 8)).put (some 100) (Rg.out (Rg.opsOf Try.f4 19) b 9)).put (some 101) (Rg.out (Rg.opsOf Try.f4 19) b 10)).put (some 102) (Rg.out (Rg.opsOf Try.f4 19) b 11)).put (some 103) (Rg.out (Rg.opsOf Try.f4 19) b 12)).put (some 104) (Rg.out (Rg.opsOf Try.f4 19) b 13)) := by
  have h := hf.chain
  rw [sizeFe19, show List.range 14 = [0, 1, 2, 3, 4, 5, 6, 7, 8, 9, 10, 11, 12, 13] from by decide] at h
  simp only [List.foldl_cons, List.foldl_nil, dFe19_0, dFe19_1, dFe19_2, dFe19_3, dFe19_4, dFe19_5, dFe19_6, dFe19_7, dFe19_8, dFe19_9, dFe19_10, dFe19_11, dFe19_12, dFe19_13] at h
  exact h

def FFe21 (B ga oa ca gb ob cb n ar : Nat) (bi ai sm tl : Int) (i9 : Nat) (v : Value) (w : World) : Prop :=
  match i9 with
  | 0 => v = .int .i64 sm
  | 1 => v = .pointer (some ⟨B, 3, none⟩)
  | 2 => v = .int .i64 tl
  | 3 => v = .bool (sm == tl)
  | 4 => v = .bool (sm == tl)
  | 5 => v = cond (true && ((sm == tl) == true)) (.slice (some ⟨gb, ob, none⟩) n cb) undef
  | 6 => v = cond (true && ((sm == tl) == true)) (.int .i64 (ar : Int)) undef
  | 7 => v = cond (true && ((sm == tl) == true)) (.pointer (some ⟨gb, ob + ar, none⟩)) undef
  | 8 => v = cond (true && ((sm == tl) == true)) (.int .i64 bi) undef
  | 9 => v = cond (true && ((sm == tl) == true)) (.slice (some ⟨ga, oa, none⟩) n ca) undef
  | 10 => v = cond (true && ((sm == tl) == true)) (.int .i64 (ar : Int)) undef
  | 11 => v = cond (true && ((sm == tl) == true)) (.pointer (some ⟨ga, oa + ar, none⟩)) undef
  | 12 => v = cond (true && ((sm == tl) == true)) (.int .i64 ai) undef
  | 13 => v = cond (true && ((sm == tl) == true)) (.int .i64 (ai + 1)) undef
  | 14 => v = cond (true && ((sm == tl) == true)) (.bool (bi == ai + 1)) undef
  | 15 => v = .bool ((sm == tl) && (bi == ai + 1))
  | 16 => v = .bool ((sm == tl) && (bi == ai + 1))
  | _ => True
theorem sizeFe21 : (Rg.opsOf Try.f4 21).size = 17 := by kernel_rfl

set_option maxRecDepth 20000 in
set_option maxHeartbeats 8000000 in
theorem regFe21 {Q : Exit → Act → World → Prop} {a : Act} {w9 : World} {B ga oa ca gb ob cb n ar : Nat} {bi ai sm tl : Int} (ha : a.tmps.size = 121)
    (k5 : a.tmps[5]? = some (.int .i64 (ar : Int))) (k8 : a.tmps[8]? = some (.slice (some ⟨ga, oa, none⟩) n ca)) (k9 : a.tmps[9]? = some (.slice (some ⟨gb, ob, none⟩) n cb)) (k4 : a.tmps[4]? = some (.pointer (some ⟨B, 0, none⟩))) (k10 : a.tmps[10]? = some (.int .i64 sm)) (hga : ga < w9.heap.size) (hgb : gb < w9.heap.size) (hBl : B < w9.heap.size) (x3 : w9.cell? ⟨B, 3, none⟩ = some (.int .i64 tl)) (hin : ar < n) (y0 : w9.cell? ⟨gb, ob + ar, none⟩ = some (.int .i64 bi)) (z0 : w9.cell? ⟨ga, oa + ar, none⟩ = some (.int .i64 ai)) (hai0 : 0 ≤ ai) (hai1 : ai ≤ 2000)
    (hend : ∀ b' w', Rg.Fr (Rg.opsOf Try.f4 21) a b' → Below w9.heap.size w9 w' → Rg.out (Rg.opsOf Try.f4 21) b' 16 = .bool ((sm == tl) && (bi == ai + 1)) → Q .normal b' w') :
    (Code.region 21 (Rg.opsOf Try.f4 21) true).wp Try.prog Q a w9 := by
  refine Rg.region_set3 (by kernel_rfl) (fun _ w' => Below w9.heap.size w9 w') (FFe21 B ga oa ca gb ob cb n ar bi ai sm tl) (by rw [ha, sizeFe21]; kernel_rfl) (st_drew (Below.refl _ _)) ?_ ?_
  case refine_2 =>
    intro l b' w' hf hall hI hA
    rw [sizeFe21] at hA
    exact hend b' w' hf hI (hA 16 (by decide))
  case refine_1 =>
    clear hend
    have HS : ∀ {w w' : World}, Below w.heap.size w w' → ∀ k9 y9, FFe21 B ga oa ca gb ob cb n ar bi ai sm tl k9 y9 w → FFe21 B ga oa ca gb ob cb n ar bi ai sm tl k9 y9 w' := fun hb k9 y9 h => by
      unfold FFe21 at *
      split at h <;> exact h
    intro i' hi'
    rw [sizeFe21] at hi'
    rcases (show i' = 0 ∨ i' = 1 ∨ i' = 2 ∨ i' = 3 ∨ i' = 4 ∨ i' = 5 ∨ i' = 6 ∨ i' = 7 ∨ i' = 8 ∨ i' = 9 ∨ i' = 10 ∨ i' = 11 ∨ i' = 12 ∨ i' = 13 ∨ i' = 14 ∨ i' = 15 ∨ i' = 16 by omega) with rfl | rfl | rfl | rfl | rfl | rfl | rfl | rfl | rfl | rfl | rfl | rfl | rfl | rfl | rfl | rfl | rfl
    · intro ll bb w' hs hlf hN hO hf hI hA
      clear hi'
      have q0 := hf.kept (s := 10) (by rw [sizeFe21]; kernel_rfl) k10
      exact Rg.op_value (o := ⟨some 105, Op.move (Operand.tmp 10), _, _, _, _⟩) (x := .int .i64 sm) rfl rfl (by clear hA HS hN hO ; simp only [execOp]; go_simp) ⟨_, rfl, (fun h => by cases h), rfl, hI, fun _ _ _ _ h => h⟩
    · intro ll bb w' hs hlf hN hO hf hI hA
      clear hi'
      have q4 := hf.kept (s := 4) (by rw [sizeFe21]; kernel_rfl) k4
      exact Rg.op_value (o := ⟨some 106, Op.fieldAddr 26 (Operand.tmp 4) 3, _, _, _, _⟩) (x := .pointer (some ⟨B, 3, none⟩)) rfl rfl (by clear hA HS hN hO ; simp only [execOp]; go_simp) ⟨_, rfl, (fun h => by cases h), rfl, hI, fun _ _ _ _ h => h⟩
    · intro ll bb w' hs hlf hN hO hf hI hA
      clear hi'
      have q106 : bb.tmps[106]? = some _ := hf.tmp (k := 1) rfl (by rw [ha]; decide) (hA 1 (by kernel_rfl))
      have e0 := (hI.cell (p := ⟨B, 3, none⟩) hBl).trans x3
      exact Rg.op_value (o := ⟨some 107, Op.load 2 (Operand.tmp 106), _, _, _, _⟩) (x := .int .i64 tl) rfl rfl (by clear hA HS hN hO ; simp only [execOp]; go_simp) ⟨_, rfl, (fun h => by cases h), rfl, hI, fun _ _ _ _ h => h⟩
    · intro ll bb w' hs hlf hN hO hf hI hA
      clear hi'
      have q105 : bb.tmps[105]? = some _ := hf.tmp (k := 0) rfl (by rw [ha]; decide) (hA 0 (by kernel_rfl))
      have q107 : bb.tmps[107]? = some _ := hf.tmp (k := 2) rfl (by rw [ha]; decide) (hA 2 (by kernel_rfl))
      exact Rg.op_value (o := ⟨some 108, Op.binOp BinOp.eql 2 (Operand.tmp 105) (Operand.tmp 107) 2, _, _, _, _⟩) (x := .bool (sm == tl)) rfl rfl (by clear hA HS hN hO ; simp only [execOp]; go_simp) ⟨_, rfl, (fun h => by cases h), rfl, hI, fun _ _ _ _ h => h⟩
    · intro ll bb w' hs hlf hN hO hf hI hA
      clear hi'
      have q108 : bb.tmps[108]? = some _ := hf.tmp (k := 3) rfl (by rw [ha]; decide) (hA 3 (by kernel_rfl))
      exact Rg.op_value (o := ⟨some 109, Op.move (Operand.tmp 108), _, _, _, _⟩) (x := .bool (sm == tl)) rfl rfl (by clear hA HS hN hO ; simp only [execOp]; go_simp) ⟨_, rfl, (fun h => by cases h), rfl, hI, fun _ _ _ _ h => h⟩
    · intro ll bb w' hs hlf hN hO hf hI hA
      clear hi'
      have qg : bb.tmps[109]? = some (cond true (.bool (sm == tl)) undef) := hf.tmp (k := 4) rfl (by rw [ha]; decide) (hA 4 (by kernel_rfl))
      cases hP : (true && ((sm == tl) == true)) with
      | false => exact Rg.op_none (o := ⟨some 110, _, _, _, _, _⟩) rfl (Rg.unwanted_c (g := 4) rfl rfl qg hP) ⟨_, rfl, (fun h => by cases h), Rg.cond_f hP, hI, fun _ _ _ _ h => h⟩
      | true =>
        have hw := Rg.wanted_c (ops := (Rg.opsOf Try.f4 21)) (o := (Rg.opsOf Try.f4 21)[5]'(by rw [sizeFe21]; decide)) (g := 4) rfl rfl qg hP
        have g0 := Rg.pc_r hP
        have q0 := hf.kept (s := 9) (by rw [sizeFe21]; kernel_rfl) k9
        exact Rg.op_value (o := ⟨some 110, Op.move (Operand.tmp 9), _, _, _, _⟩) (x := .slice (some ⟨gb, ob, none⟩) n cb) rfl hw (by clear hA HS hN hO ; simp only [execOp]; go_simp) ⟨_, rfl, (fun h => by cases h), (Rg.cond_t hP).symm, hI, fun _ _ _ _ h => h⟩
    · intro ll bb w' hs hlf hN hO hf hI hA
      clear hi'
      have qg : bb.tmps[109]? = some (cond true (.bool (sm == tl)) undef) := hf.tmp (k := 4) rfl (by rw [ha]; decide) (hA 4 (by kernel_rfl))
      cases hP : (true && ((sm == tl) == true)) with
      | false => exact Rg.op_none (o := ⟨some 111, _, _, _, _, _⟩) rfl (Rg.unwanted_c (g := 4) rfl rfl qg hP) ⟨_, rfl, (fun h => by cases h), Rg.cond_f hP, hI, fun _ _ _ _ h => h⟩
      | true =>
        have hw := Rg.wanted_c (ops := (Rg.opsOf Try.f4 21)) (o := (Rg.opsOf Try.f4 21)[6]'(by rw [sizeFe21]; decide)) (g := 4) rfl rfl qg hP
        have g0 := Rg.pc_r hP
        have q0 := hf.kept (s := 5) (by rw [sizeFe21]; kernel_rfl) k5
        exact Rg.op_value (o := ⟨some 111, Op.move (Operand.tmp 5), _, _, _, _⟩) (x := .int .i64 (ar : Int)) rfl hw (by clear hA HS hN hO ; simp only [execOp]; go_simp) ⟨_, rfl, (fun h => by cases h), (Rg.cond_t hP).symm, hI, fun _ _ _ _ h => h⟩
    · intro ll bb w' hs hlf hN hO hf hI hA
      clear hi'
      have qg : bb.tmps[109]? = some (cond true (.bool (sm == tl)) undef) := hf.tmp (k := 4) rfl (by rw [ha]; decide) (hA 4 (by kernel_rfl))
      cases hP : (true && ((sm == tl) == true)) with
      | false => exact Rg.op_none (o := ⟨some 112, _, _, _, _, _⟩) rfl (Rg.unwanted_c (g := 4) rfl rfl qg hP) ⟨_, rfl, (fun h => by cases h), Rg.cond_f hP, hI, fun _ _ _ _ h => h⟩
      | true =>
        have hw := Rg.wanted_c (ops := (Rg.opsOf Try.f4 21)) (o := (Rg.opsOf Try.f4 21)[7]'(by rw [sizeFe21]; decide)) (g := 4) rfl rfl qg hP
        have g0 := Rg.pc_r hP
        have q110 : bb.tmps[110]? = some (.slice (some ⟨gb, ob, none⟩) n cb) := hf.tmp (k := 5) rfl (by rw [ha]; decide) (Eq.trans (hA 5 (by kernel_rfl)) (Rg.cond_t hP))
        have q111 : bb.tmps[111]? = some (.int .i64 (ar : Int)) := hf.tmp (k := 6) rfl (by rw [ha]; decide) (Eq.trans (hA 6 (by kernel_rfl)) (Rg.cond_t hP))
        have hi3 : (ar : Int) < (n : Int) := by omega
        exact Rg.op_value (o := ⟨some 112, Op.indexAddr 24 (Operand.tmp 110) (Operand.tmp 111), _, _, _, _⟩) (x := .pointer (some ⟨gb, ob + ar, none⟩)) rfl hw (by clear hA HS hN hO ; simp only [execOp]; go_simp) ⟨_, rfl, (fun h => by cases h), (Rg.cond_t hP).symm, hI, fun _ _ _ _ h => h⟩
    · intro ll bb w' hs hlf hN hO hf hI hA
      clear hi'
      have qg : bb.tmps[109]? = some (cond true (.bool (sm == tl)) undef) := hf.tmp (k := 4) rfl (by rw [ha]; decide) (hA 4 (by kernel_rfl))
      cases hP : (true && ((sm == tl) == true)) with
      | false => exact Rg.op_none (o := ⟨some 113, _, _, _, _, _⟩) rfl (Rg.unwanted_c (g := 4) rfl rfl qg hP) ⟨_, rfl, (fun h => by cases h), Rg.cond_f hP, hI, fun _ _ _ _ h => h⟩
      | true =>
        have hw := Rg.wanted_c (ops := (Rg.opsOf Try.f4 21)) (o := (Rg.opsOf Try.f4 21)[8]'(by rw [sizeFe21]; decide)) (g := 4) rfl rfl qg hP
        have g0 := Rg.pc_r hP
        have q112 : bb.tmps[112]? = some (.pointer (some ⟨gb, ob + ar, none⟩)) := hf.tmp (k := 7) rfl (by rw [ha]; decide) (Eq.trans (hA 7 (by kernel_rfl)) (Rg.cond_t hP))
        have e0 := (hI.cell (p := ⟨gb, ob + ar, none⟩) hgb).trans y0
        exact Rg.op_value (o := ⟨some 113, Op.load 2 (Operand.tmp 112), _, _, _, _⟩) (x := .int .i64 bi) rfl hw (by clear hA HS hN hO ; simp only [execOp]; go_simp) ⟨_, rfl, (fun h => by cases h), (Rg.cond_t hP).symm, hI, fun _ _ _ _ h => h⟩
    · intro ll bb w' hs hlf hN hO hf hI hA
      clear hi'
      have qg : bb.tmps[109]? = some (cond true (.bool (sm == tl)) undef) := hf.tmp (k := 4) rfl (by rw [ha]; decide) (hA 4 (by kernel_rfl))
      cases hP : (true && ((sm == tl) == true)) with
      | false => exact Rg.op_none (o := ⟨some 114, _, _, _, _, _⟩) rfl (Rg.unwanted_c (g := 4) rfl rfl qg hP) ⟨_, rfl, (fun h => by cases h), Rg.cond_f hP, hI, fun _ _ _ _ h => h⟩
      | true =>
        have hw := Rg.wanted_c (ops := (Rg.opsOf Try.f4 21)) (o := (Rg.opsOf Try.f4 21)[9]'(by rw [sizeFe21]; decide)) (g := 4) rfl rfl qg hP
        have g0 := Rg.pc_r hP
        have q0 := hf.kept (s := 8) (by rw [sizeFe21]; kernel_rfl) k8
        exact Rg.op_value (o := ⟨some 114, Op.move (Operand.tmp 8), _, _, _, _⟩) (x := .slice (some ⟨ga, oa, none⟩) n ca) rfl hw (by clear hA HS hN hO ; simp only [execOp]; go_simp) ⟨_, rfl, (fun h => by cases h), (Rg.cond_t hP).symm, hI, fun _ _ _ _ h => h⟩
    · intro ll bb w' hs hlf hN hO hf hI hA
      clear hi'
      have qg : bb.tmps[109]? = some (cond true (.bool (sm == tl)) undef) := hf.tmp (k := 4) rfl (by rw [ha]; decide) (hA 4 (by kernel_rfl))
      cases hP : (true && ((sm == tl) == true)) with
      | false => exact Rg.op_none (o := ⟨some 115, _, _, _, _, _⟩) rfl (Rg.unwanted_c (g := 4) rfl rfl qg hP) ⟨_, rfl, (fun h => by cases h), Rg.cond_f hP, hI, fun _ _ _ _ h => h⟩
      | true =>
        have hw := Rg.wanted_c (ops := (Rg.opsOf Try.f4 21)) (o := (Rg.opsOf Try.f4 21)[10]'(by rw [sizeFe21]; decide)) (g := 4) rfl rfl qg hP
        have g0 := Rg.pc_r hP
        have q0 := hf.kept (s := 5) (by rw [sizeFe21]; kernel_rfl) k5
        exact Rg.op_value (o := ⟨some 115, Op.move (Operand.tmp 5), _, _, _, _⟩) (x := .int .i64 (ar : Int)) rfl hw (by clear hA HS hN hO ; simp only [execOp]; go_simp) ⟨_, rfl, (fun h => by cases h), (Rg.cond_t hP).symm, hI, fun _ _ _ _ h => h⟩
    · intro ll bb w' hs hlf hN hO hf hI hA
      clear hi'
      have qg : bb.tmps[109]? = some (cond true (.bool (sm == tl)) undef) := hf.tmp (k := 4) rfl (by rw [ha]; decide) (hA 4 (by kernel_rfl))
      cases hP : (true && ((sm == tl) == true)) with
      | false => exact Rg.op_none (o := ⟨some 116, _, _, _, _, _⟩) rfl (Rg.unwanted_c (g := 4) rfl rfl qg hP) ⟨_, rfl, (fun h => by cases h), Rg.cond_f hP, hI, fun _ _ _ _ h => h⟩
      | true =>
        have hw := Rg.wanted_c (ops := (Rg.opsOf Try.f4 21)) (o := (Rg.opsOf Try.f4 21)[11]'(by rw [sizeFe21]; decide)) (g := 4) rfl rfl qg hP
        have g0 := Rg.pc_r hP
        have q114 : bb.tmps[114]? = some (.slice (some ⟨ga, oa, none⟩) n ca) := hf.tmp (k := 9) rfl (by rw [ha]; decide) (Eq.trans (hA 9 (by kernel_rfl)) (Rg.cond_t hP))
        have q115 : bb.tmps[115]? = some (.int .i64 (ar : Int)) := hf.tmp (k := 10) rfl (by rw [ha]; decide) (Eq.trans (hA 10 (by kernel_rfl)) (Rg.cond_t hP))
        have hi3 : (ar : Int) < (n : Int) := by omega
        exact Rg.op_value (o := ⟨some 116, Op.indexAddr 24 (Operand.tmp 114) (Operand.tmp 115), _, _, _, _⟩) (x := .pointer (some ⟨ga, oa + ar, none⟩)) rfl hw (by clear hA HS hN hO ; simp only [execOp]; go_simp) ⟨_, rfl, (fun h => by cases h), (Rg.cond_t hP).symm, hI, fun _ _ _ _ h => h⟩
    · intro ll bb w' hs hlf hN hO hf hI hA
      clear hi'
      have qg : bb.tmps[109]? = some (cond true (.bool (sm == tl)) undef) := hf.tmp (k := 4) rfl (by rw [ha]; decide) (hA 4 (by kernel_rfl))
      cases hP : (true && ((sm == tl) == true)) with
      | false => exact Rg.op_none (o := ⟨some 117, _, _, _, _, _⟩) rfl (Rg.unwanted_c (g := 4) rfl rfl qg hP) ⟨_, rfl, (fun h => by cases h), Rg.cond_f hP, hI, fun _ _ _ _ h => h⟩
      | true =>
        have hw := Rg.wanted_c (ops := (Rg.opsOf Try.f4 21)) (o := (Rg.opsOf Try.f4 21)[12]'(by rw [sizeFe21]; decide)) (g := 4) rfl rfl qg hP
        have g0 := Rg.pc_r hP
        have q116 : bb.tmps[116]? = some (.pointer (some ⟨ga, oa + ar, none⟩)) := hf.tmp (k := 11) rfl (by rw [ha]; decide) (Eq.trans (hA 11 (by kernel_rfl)) (Rg.cond_t hP))
        have e0 := (hI.cell (p := ⟨ga, oa + ar, none⟩) hga).trans z0
        exact Rg.op_value (o := ⟨some 117, Op.load 2 (Operand.tmp 116), _, _, _, _⟩) (x := .int .i64 ai) rfl hw (by clear hA HS hN hO ; simp only [execOp]; go_simp) ⟨_, rfl, (fun h => by cases h), (Rg.cond_t hP).symm, hI, fun _ _ _ _ h => h⟩
    · intro ll bb w' hs hlf hN hO hf hI hA
      clear hi'
      have qg : bb.tmps[109]? = some (cond true (.bool (sm == tl)) undef) := hf.tmp (k := 4) rfl (by rw [ha]; decide) (hA 4 (by kernel_rfl))
      cases hP : (true && ((sm == tl) == true)) with
      | false => exact Rg.op_none (o := ⟨some 118, _, _, _, _, _⟩) rfl (Rg.unwanted_c (g := 4) rfl rfl qg hP) ⟨_, rfl, (fun h => by cases h), Rg.cond_f hP, hI, fun _ _ _ _ h => h⟩
      | true =>
        have hw := Rg.wanted_c (ops := (Rg.opsOf Try.f4 21)) (o := (Rg.opsOf Try.f4 21)[13]'(by rw [sizeFe21]; decide)) (g := 4) rfl rfl qg hP
        have g0 := Rg.pc_r hP
        have q117 : bb.tmps[117]? = some (.int .i64 ai) := hf.tmp (k := 12) rfl (by rw [ha]; decide) (Eq.trans (hA 12 (by kernel_rfl)) (Rg.cond_t hP))
        have hw9 : IntKind.i64.wrap (ai + 1) = ai + 1 := by rw [IntKind.wrap_i64]; omega
        exact Rg.op_value (o := ⟨some 118, Op.binOp BinOp.add 2 (Operand.tmp 117) (Operand.const (Value.int .i64 1)) 2, _, _, _, _⟩) (x := .int .i64 (ai + 1)) rfl hw (by clear hA HS hN hO ; simp only [execOp]; go_simp) ⟨_, rfl, (fun h => by cases h), (Rg.cond_t hP).symm, hI, fun _ _ _ _ h => h⟩
    · intro ll bb w' hs hlf hN hO hf hI hA
      clear hi'
      have qg : bb.tmps[109]? = some (cond true (.bool (sm == tl)) undef) := hf.tmp (k := 4) rfl (by rw [ha]; decide) (hA 4 (by kernel_rfl))
      cases hP : (true && ((sm == tl) == true)) with
      | false => exact Rg.op_none (o := ⟨some 119, _, _, _, _, _⟩) rfl (Rg.unwanted_c (g := 4) rfl rfl qg hP) ⟨_, rfl, (fun h => by cases h), Rg.cond_f hP, hI, fun _ _ _ _ h => h⟩
      | true =>
        have hw := Rg.wanted_c (ops := (Rg.opsOf Try.f4 21)) (o := (Rg.opsOf Try.f4 21)[14]'(by rw [sizeFe21]; decide)) (g := 4) rfl rfl qg hP
        have g0 := Rg.pc_r hP
        have q113 : bb.tmps[113]? = some (.int .i64 bi) := hf.tmp (k := 8) rfl (by rw [ha]; decide) (Eq.trans (hA 8 (by kernel_rfl)) (Rg.cond_t hP))
        have q118 : bb.tmps[118]? = some (.int .i64 (ai + 1)) := hf.tmp (k := 13) rfl (by rw [ha]; decide) (Eq.trans (hA 13 (by kernel_rfl)) (Rg.cond_t hP))
        exact Rg.op_value (o := ⟨some 119, Op.binOp BinOp.eql 2 (Operand.tmp 113) (Operand.tmp 118) 2, _, _, _, _⟩) (x := .bool (bi == ai + 1)) rfl hw (by clear hA HS hN hO ; simp only [execOp]; go_simp) ⟨_, rfl, (fun h => by cases h), (Rg.cond_t hP).symm, hI, fun _ _ _ _ h => h⟩
    · intro ll bb w' hs hlf hN hO hf hI hA
      clear hi'
      have q109 : bb.tmps[109]? = some _ := hf.tmp (k := 4) rfl (by rw [ha]; decide) (hA 4 (by kernel_rfl))
      cases hC : (sm == tl) with
      | false =>
        have hval : ((.bool ((sm == tl) && (bi == ai + 1)) : Value)) = .bool false := by rw [hC]; rfl
        exact Rg.op_value (o := ⟨some 120, Op.pick (Operand.tmp 109) (Operand.tmp 119) (Operand.const (Value.bool false)), _, _, _, _⟩) (x := .bool false) rfl rfl (by rw [hC] at q109; clear hA HS hN hO  hval; simp only [execOp]; go_simp) ⟨_, rfl, (fun h => by cases h), (by show ((.bool false : Value)) = _; first | exact hval.symm | rfl), hI, fun _ _ _ _ h => h⟩
      | true =>
        have hB : (true && ((sm == tl) == true)) = true := by rw [hC]; rfl
        have q119 : bb.tmps[119]? = some (.bool (bi == ai + 1)) := hf.tmp (k := 14) rfl (by rw [ha]; decide) (Eq.trans (hA 14 (by kernel_rfl)) (Rg.cond_t hB))
        have hval : ((.bool ((sm == tl) && (bi == ai + 1)) : Value)) = .bool (bi == ai + 1) := by rw [hC]; rfl
        exact Rg.op_value (o := ⟨some 120, Op.pick (Operand.tmp 109) (Operand.tmp 119) (Operand.const (Value.bool false)), _, _, _, _⟩) (x := .bool (bi == ai + 1)) rfl rfl (by rw [hC] at q109; clear hA HS hN hO  hval; simp only [execOp]; go_simp) ⟨_, rfl, (fun h => by cases h), (by show ((.bool (bi == ai + 1) : Value)) = _; first | exact hval.symm | rfl), hI, fun _ _ _ _ h => h⟩
    · intro ll bb w' hs hlf hN hO hf hI hA
      clear hi'
      have q120 : bb.tmps[120]? = some _ := hf.tmp (k := 15) rfl (by rw [ha]; decide) (hA 15 (by kernel_rfl))
      exact Rg.op_value (o := ⟨some 2, Op.assign (Operand.tmp 120), _, _, _, _⟩) (x := .bool ((sm == tl) && (bi == ai + 1))) rfl rfl (by clear hA HS hN hO ; simp only [execOp]; go_simp) ⟨_, rfl, (fun h => by cases h), rfl, hI, fun _ _ _ _ h => h⟩

theorem dFe21_0 : Rg.dstAt (Rg.opsOf Try.f4 21) 0 = some 105 := by kernel_rfl
theorem dFe21_1 : Rg.dstAt (Rg.opsOf Try.f4 21) 1 = some 106 := by kernel_rfl
theorem dFe21_2 : Rg.dstAt (Rg.opsOf Try.f4 21) 2 = some 107 := by kernel_rfl
theorem dFe21_3 : Rg.dstAt (Rg.opsOf Try.f4 21) 3 = some 108 := by kernel_rfl
theorem dFe21_4 : Rg.dstAt (Rg.opsOf Try.f4 21) 4 = some 109 := by kernel_rfl
theorem dFe21_5 : Rg.dstAt (Rg.opsOf Try.f4 21) 5 = some 110 := by kernel_rfl
theorem dFe21_6 : Rg.dstAt (Rg.opsOf Try.f4 21) 6 = some 111 := by kernel_rfl
theorem dFe21_7 : Rg.dstAt (Rg.opsOf Try.f4 21) 7 = some 112 := by kernel_rfl
theorem dFe21_8 : Rg.dstAt (Rg.opsOf Try.f4 21) 8 = some 113 := by kernel_rfl
theorem dFe21_9 : Rg.dstAt (Rg.opsOf Try.f4 21) 9 = some 114 := by kernel_rfl
theorem dFe21_10 : Rg.dstAt (Rg.opsOf Try.f4 21) 10 = some 115 := by kernel_rfl
theorem dFe21_11 : Rg.dstAt (Rg.opsOf Try.f4 21) 11 = some 116 := by kernel_rfl
theorem dFe21_12 : Rg.dstAt (Rg.opsOf Try.f4 21) 12 = some 117 := by kernel_rfl
theorem dFe21_13 : Rg.dstAt (Rg.opsOf Try.f4 21) 13 = some 118 := by kernel_rfl
theorem dFe21_14 : Rg.dstAt (Rg.opsOf Try.f4 21) 14 = some 119 := by kernel_rfl
theorem dFe21_15 : Rg.dstAt (Rg.opsOf Try.f4 21) 15 = some 120 := by kernel_rfl
theorem dFe21_16 : Rg.dstAt (Rg.opsOf Try.f4 21) 16 = some 2 := by kernel_rfl
theorem layFe21 {a b : Act} (hf : Rg.Fr (Rg.opsOf Try.f4 21) a b) : b = (((((((((((((((((a.put (some 105) (Rg.out (Rg.opsOf Try.f4 21) b 0)).put (some 106) (Rg.out (Rg.opsOf Try.f4 21) b 1)).put (some 107) (Rg.out (Rg.opsOf Try.f4 21) b 2)).put (some 108) (Rg.out (Rg.opsOf Try.f4 21) b 3)).put (some 109) (Rg.out (Rg.opsOf Try.f4 21) b 4)).put (some 110) (Rg.out (Rg.opsOf Try.f4 21) b 5)).put (some 111) (Rg.out (Rg.opsOf Try.f4 21) b 6)).put (some 112) (Rg.out (Rg.opsOf Try.f4 21) b 7)).put (some 113) (Rg.out (Rg.opsOf Try.f4 21) b 8)).put (some 114) (Rg.out (Rg.opsOf Try.f4 21) b 9)).put (some 115) (Rg.out (Rg.opsOf Try.f4 21) b 10)).put (some 116) (Rg.out (Rg.opsOf Try.f4 21) b 11)).put (some 117) (Rg.out (Rg.opsOf Try.f4 21) b 12)).put (some 118) (Rg.out (Rg.opsOf Try.f4 21) b 13)).put (some 119) (Rg.out (Rg.opsOf Try.f4 21) b 14)).put (some 120) (Rg.out (Rg.opsOf Try.f4 21) b 15)).put (some 2) (Rg.out (Rg.opsOf Try.f4 21) b 16)) := by
  have h := hf.chain
  rw [sizeFe21, show List.range 17 = [0, 1, 2, 3, 4, 5, 6, 7, 8, 9, 10, 11, 12, 13, 14, 15, 16] from by decide] at h
  simp only [List.foldl_cons, List.foldl_nil, dFe21_0, dFe21_1, dFe21_2, dFe21_3, dFe21_4, dFe21_5, dFe21_6, dFe21_7, dFe21_8, dFe21_9, dFe21_10, dFe21_11, dFe21_12, dFe21_13, dFe21_14, dFe21_15, dFe21_16] at h
  exact h

set_option maxRecDepth 20000 in
set_option maxHeartbeats 8000000 in
theorem dtok_any (ao : Option Addr) (cap : Nat) (bs : List Int) (w : World) (hb : Bytes w w.heap.size ao bs) (hl : bs.length ≤ 1048576) :
    Calls Try.prog 43 #[.slice ao bs.length cap] w fun e w' => ∃ (x : Tl) (ad : Option Addr) (c : Nat), e = .returned (aT x (.slice ad x.coins.length c)) ∧ x.coins.length ≤ 20 ∧ VOwn 1 cvI w' (w.heap.size + 1) (.slice ad x.coins.length c) x.coins ∧ Below w.heap.size w w' := by
  have PR := hidden (PB.new w #[.int .i64 0, .int .i64 0, .slice none 0 0, .int .i64 0] 26)
  have hbA : Below w.heap.size w (w.alloc (.cells #[.int .i64 0, .int .i64 0, .slice none 0 0, .int .i64 0] 26)) := (Below.refl _ _).alloc (Nat.le_refl _) _
  have hsA : w.heap.size < (w.alloc (.cells #[.int .i64 0, .int .i64 0, .slice none 0 0, .int .i64 0] 26)).heap.size := by simp
  have hN := hidden (new_any ao cap bs _ (bytes_up hb hbA) hl)
  clear hb
  go_enter Try.func43, Try.ntmps43
  go_upto_region 1 with fail
  generalize w.alloc (.cells #[.int .i64 0, .int .i64 0, .slice none 0 0, .int .i64 0] 26) = wA at *
  go_wp2_with fail
  refine hN.out.mono ?_
  rintro e wN ⟨rfl, hcN, hbN⟩
  have HBN := hidden (hbA.trans (hbN.mono hbA.size))
  have PRN := hidden (PR.out.below hbN)
  have hwc : w.heap.size < wN.heap.size := PRN.out.lt
  clear hbN hN PR
  generalize hG : wA.heap.size = g at *
  go_wp2_with (go_at_call 39; refine (dtrial_any g ao cap bs _ hcN).mono ?_; rintro e w4 ⟨x, ad, c, rfl, hx20, hrow, hc4, hk4⟩; have HK4 := hidden hk4; have HR := hidden hrow; have hp : PB w4 w.heap.size #[.int .i64 0, .int .i64 0, .slice none 0 0, .int .i64 0] 26 := (hk4.block w.heap.size PRN.out.lt (by omega)).trans PRN.out; have HP := hidden hp; obtain ⟨r0, r1, r2, r3⟩ := hp.four; obtain ⟨f0, f1, f2, f3, -⟩ := hp.cold; unfold aT; clear hrow hk4 hp)
  obtain ⟨s0, s1, s2, s3⟩ := (HP.out.fill4 (.int .i64 x.arms) (.int .i64 x.block) (.slice ad x.coins.length c) (.int .i64 x.told)).four
  have hB4 : Below w.heap.size w w4 := HBN.out.trans (HK4.out.below (by omega) (by omega))
  have b4 := (((hB4.setCell (p := ⟨w.heap.size, 0, none⟩) (Nat.le_refl _) (.int .i64 x.arms)).setCell (p := ⟨w.heap.size, 1, none⟩) (Nat.le_refl _) (.int .i64 x.block)).setCell (p := ⟨w.heap.size, 2, none⟩) (Nat.le_refl _) (.slice ad x.coins.length c)).setCell (p := ⟨w.heap.size, 3, none⟩) (Nat.le_refl _) (.int .i64 x.told)
  have o4 := own_farT (own_farT (own_farT (own_farT HR.out (b := w.heap.size) (by omega) 0 (.int .i64 x.arms)) (b := w.heap.size) (by omega) 1 (.int .i64 x.block)) (b := w.heap.size) (by omega) 2 (.slice ad x.coins.length c)) (b := w.heap.size) (by omega) 3 (.int .i64 x.told)
  have HO4 := hidden (o4.base_le (show w.heap.size + 1 ≤ wN.heap.size by omega))
  clear o4
  exact bodyPost_ret (v := .agg #[.int .i64 x.arms, .int .i64 x.block, .slice ad x.coins.length c, .int .i64 x.told]) (by simp [results, Try.results43, go_sem, s0, s1, s2, s3]) rfl ⟨x, ad, c, rfl, hx20, HO4.out, b4⟩

set_option maxRecDepth 20000 in
set_option maxHeartbeats 8000000 in
theorem denrol_any (ao : Option Addr) (cap : Nat) (bs : List Int) (w : World) (hb : Bytes w w.heap.size ao bs) (hl : bs.length ≤ 1048576) :
    Calls Try.prog 15 #[.slice ao bs.length cap] w fun e w' => ∃ (x : Tl) (ad : Option Addr) (c : Nat), e = .returned (aT x (.slice ad x.coins.length c)) ∧ x.coins.length ≤ 20 ∧ VRw 1 cvI w' (.slice ad x.coins.length c) x.coins ∧ Below w.heap.size w w' := by
  have PR := hidden (PB.new w #[.int .i64 0, .int .i64 0, .slice none 0 0, .int .i64 0] 26)
  have hbA : Below w.heap.size w (w.alloc (.cells #[.int .i64 0, .int .i64 0, .slice none 0 0, .int .i64 0] 26)) := (Below.refl _ _).alloc (Nat.le_refl _) _
  have hsA : w.heap.size < (w.alloc (.cells #[.int .i64 0, .int .i64 0, .slice none 0 0, .int .i64 0] 26)).heap.size := by simp
  have hN := hidden (dtok_any ao cap bs _ (bytes_up hb hbA) hl)
  clear hb
  go_enter Try.func15, Try.ntmps15
  go_upto_region 1 with fail
  generalize w.alloc (.cells #[.int .i64 0, .int .i64 0, .slice none 0 0, .int .i64 0] 26) = wA at *
  go_wp2_with (go_at_call 43; refine hN.out.mono ?_; rintro e w4 ⟨x, ad, c, rfl, hx20, hrow, hb4⟩; have HR := hidden hrow; have HB4 := hidden (hbA.trans (hb4.mono hbA.size)); have hp : PB w4 w.heap.size #[.int .i64 0, .int .i64 0, .slice none 0 0, .int .i64 0] 26 := PR.out.below hb4; have HP := hidden hp; obtain ⟨r0, r1, r2, r3⟩ := hp.four; obtain ⟨f0, f1, f2, f3, -⟩ := hp.cold; unfold aT; clear hrow hb4 hp)
  obtain ⟨s0, s1, s2, s3⟩ := (HP.out.fill4 (.int .i64 x.arms) (.int .i64 x.block) (.slice ad x.coins.length c) (.int .i64 x.told)).four
  have hB4 := HB4.out
  have b4 := (((hB4.setCell (p := ⟨w.heap.size, 0, none⟩) (Nat.le_refl _) (.int .i64 x.arms)).setCell (p := ⟨w.heap.size, 1, none⟩) (Nat.le_refl _) (.int .i64 x.block)).setCell (p := ⟨w.heap.size, 2, none⟩) (Nat.le_refl _) (.slice ad x.coins.length c)).setCell (p := ⟨w.heap.size, 3, none⟩) (Nat.le_refl _) (.int .i64 x.told)
  have o4 := own_farT (own_farT (own_farT (own_farT HR.out (b := w.heap.size) (by omega) 0 (.int .i64 x.arms)) (b := w.heap.size) (by omega) 1 (.int .i64 x.block)) (b := w.heap.size) (by omega) 2 (.slice ad x.coins.length c)) (b := w.heap.size) (by omega) 3 (.int .i64 x.told)
  have HO4 := hidden o4.row
  clear o4
  exact bodyPost_ret (v := .agg #[.int .i64 x.arms, .int .i64 x.block, .slice ad x.coins.length c, .int .i64 x.told]) (by simp [results, Try.results15, go_sem, s0, s1, s2, s3]) rfl ⟨x, ad, c, rfl, hx20, HO4.out, b4⟩

set_option maxRecDepth 20000 in
set_option maxHeartbeats 2000000 in
theorem sameT_any (a1 : Option Addr) (n1 c1 : Nat) (a2 : Option Addr) (n2 c2 : Nat) (l : List Int) (w : World) (h : VRw 1 cvI w (.slice a1 n1 c1) l) (h' : VRw 1 cvI w (.slice a2 n2 c2) l) (hn : l.length ≤ 1048576) :
    Calls Try.prog 19 #[.slice a1 n1 c1, .slice a2 n2 c2] w fun e w' => e = .returned (.bool true) ∧ Below w.heap.size w w' := by
  obtain rfl := h.len
  obtain rfl := h'.len
  have HH := hidden h
  have HH' := hidden h'
  clear h h'
  go_enter Try.func19, Try.ntmps19
  go_wp2_with fail
  go_loopw [5] (fun iv wr => ∃ i : Nat, i ≤ l.length ∧ iv = .int .i64 i ∧ Below w.heap.size w wr) (fun iv _ => l.length - (intOf iv).toNat)
  case atStart => exact ⟨0, Nat.zero_le _, rfl, Below.refl _ _⟩
  case round =>
    obtain ⟨i, hil, rfl, hb⟩ := hrel
    by_cases hlt : i < l.length
    · have hlti : (i : Int) < (l.length : Int) := by omega
      obtain ⟨x, hx⟩ := some_of l i hlt
      obtain ⟨g, off, rfl, hg, k0⟩ := vint_cell (HH.out.below hb) hx
      obtain ⟨g', off', rfl, hg', d0⟩ := vint_cell (HH'.out.below hb) hx
      clear hx
      go_wp2_with fail
      go_quiet (fail)
      go_wp2_with fail
      go_roundw
      case rel => exact ⟨i + 1, by omega, rfl, by repeat (first | exact Below.refl _ _ | assumption | refine st_drew ?_ | refine st_drewN ?_ _ | refine Below.setCell ?_ (by first | omega | (simp; done) | (simp; omega)) _ | refine Below.alloc ?_ (by first | omega | (simp; done) | (simp; omega)) _)⟩
      case measure => simp [intOf]; omega
    · have hlti : ¬ (i : Int) < (l.length : Int) := by omega
      go_wp2_with fail
      go_ret
      exact ⟨rfl, hb⟩
end Go.Proofs.Ytoehnlbkgpjhmaa
