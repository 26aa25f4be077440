/-
  Who is picked: the specification's region that draws its order.
-/
import Derived.Test.YtgcpiinmcbdkmaaRo8
import Derived.Test.YtgcpiinmcbdkmaaRs
namespace Go.Proofs.Ytgcpiinmcbdkmaa
open Go.RowKit Va Sy Ro
set_option linter.all false

def FSr18 (I G1 G2 n c1 c2 c3 p bn : Nat) (cb : Bool) (st r b wk wb : Int) (i9 : Nat) (v : Value) (w : World) : Prop :=
  match i9 with
  | 0 => v = .slice (some ⟨I, 0, none⟩) n c1
  | 1 => v = .int .i64 (p : Nat)
  | 2 => v = .pointer (some ⟨I, p, none⟩)
  | 3 => v = .bool cb
  | 4 => v = .bool (!cb)
  | 5 => v = .bool (!cb)
  | 6 => v = cond (true && ((!cb) == true)) (.slice (some ⟨G2, 0, none⟩) n c2) undef
  | 7 => v = cond (true && ((!cb) == true)) (.int .i64 (p : Nat)) undef
  | 8 => v = cond (true && ((!cb) == true)) (.pointer (some ⟨G2, p, none⟩)) undef
  | 9 => v = cond (true && ((!cb) == true)) (.int .i64 st) undef
  | 10 => v = cond (true && ((!cb) == true)) (.int .i64 r) undef
  | 11 => v = cond (true && ((!cb) == true)) (.bool (decide (st < r))) undef
  | 12 => v = .bool ((!cb) && (decide (st < r)))
  | 13 => v = .bool ((!cb) && (decide (st < r)))
  | 14 => v = cond (true && (((!cb) && (decide (st < r))) == true)) (.int .i64 b) undef
  | 15 => v = cond (true && (((!cb) && (decide (st < r))) == true)) (.bool (decide (b < 0))) undef
  | 16 => v = cond (true && (((!cb) && (decide (st < r))) == true)) (.bool (decide (b < 0))) undef
  | 17 => v = cond ((true && (((!cb) && (decide (st < r))) == true)) && ((decide (b < 0)) == false)) (.slice (some ⟨G1, 0, none⟩) n c3) undef
  | 18 => v = cond ((true && (((!cb) && (decide (st < r))) == true)) && ((decide (b < 0)) == false)) (.int .i64 (p : Nat)) undef
  | 19 => v = cond ((true && (((!cb) && (decide (st < r))) == true)) && ((decide (b < 0)) == false)) (.pointer (some ⟨G1, p, none⟩)) undef
  | 20 => v = cond ((true && (((!cb) && (decide (st < r))) == true)) && ((decide (b < 0)) == false)) (.int .i64 wk) undef
  | 21 => v = cond ((true && (((!cb) && (decide (st < r))) == true)) && ((decide (b < 0)) == false)) (.slice (some ⟨G1, 0, none⟩) n c3) undef
  | 22 => v = cond ((true && (((!cb) && (decide (st < r))) == true)) && ((decide (b < 0)) == false)) (.int .i64 b) undef
  | 23 => v = cond ((true && (((!cb) && (decide (st < r))) == true)) && ((decide (b < 0)) == false)) (.pointer (some ⟨G1, bn, none⟩)) undef
  | 24 => v = cond ((true && (((!cb) && (decide (st < r))) == true)) && ((decide (b < 0)) == false)) (.int .i64 wb) undef
  | 25 => v = cond ((true && (((!cb) && (decide (st < r))) == true)) && ((decide (b < 0)) == false)) (.bool (decide (wk < wb))) undef
  | 26 => v = cond (true && (((!cb) && (decide (st < r))) == true)) (.bool ((decide (b < 0)) || (decide (wk < wb)))) undef
  | 27 => v = .bool (((!cb) && (decide (st < r))) && ((decide (b < 0)) || (decide (wk < wb))))
  | _ => True
theorem sizeSr18 : (Rg.opsOf Try.f18 18).size = 28 := by kernel_rfl

set_option maxRecDepth 20000 in
set_option maxHeartbeats 8000000 in
theorem regSr18 {Q : Exit → Act → World → Prop} {a : Act} {w9 : World} {I G1 G2 n c1 c2 c3 p bn : Nat} {cb : Bool} {st r b wk wb : Int} (ha : a.tmps.size = 137)
    (k13 : a.tmps[13]? = some (.slice (some ⟨I, 0, none⟩) n c1)) (k17 : a.tmps[17]? = some (.int .i64 (p : Nat))) (k11 : a.tmps[11]? = some (.slice (some ⟨G2, 0, none⟩) n c2)) (k3 : a.tmps[3]? = some (.int .i64 r)) (k16 : a.tmps[16]? = some (.int .i64 b)) (k10 : a.tmps[10]? = some (.slice (some ⟨G1, 0, none⟩) n c3)) (hn : n ≤ 30) (hpn : p < n) (hIl : I < w9.heap.size) (hG1 : G1 < w9.heap.size) (hG2 : G2 < w9.heap.size) (hbb : 0 ≤ b → b = (bn : Int) ∧ bn < n) (y0 : w9.cell? ⟨I, p, none⟩ = some (.bool cb)) (y1 : w9.cell? ⟨G2, p, none⟩ = some (.int .i64 st)) (y2 : w9.cell? ⟨G1, p, none⟩ = some (.int .i64 wk)) (y3 : 0 ≤ b → w9.cell? ⟨G1, bn, none⟩ = some (.int .i64 wb))
    (hend : ∀ b' w', Rg.Fr (Rg.opsOf Try.f18 18) a b' → Below w9.heap.size w9 w' → Rg.out (Rg.opsOf Try.f18 18) b' 27 = .bool (((!cb) && (decide (st < r))) && ((decide (b < 0)) || (decide (wk < wb)))) → Q .normal b' w') :
    (Code.region 18 (Rg.opsOf Try.f18 18) true).wp Try.prog Q a w9 := by
  refine Rg.region_set3 (by kernel_rfl) (fun _ w' => Below w9.heap.size w9 w') (FSr18 I G1 G2 n c1 c2 c3 p bn cb st r b wk wb) (by rw [ha, sizeSr18]; kernel_rfl) (st_drew (Below.refl _ _)) ?_ ?_
  case refine_2 =>
    intro l b' w' hf hall hI hA
    rw [sizeSr18] at hA
    exact hend b' w' hf hI (hA 27 (by decide))
  case refine_1 =>
    clear hend
    have HS : ∀ {w w' : World}, Below w.heap.size w w' → ∀ k9 y9, FSr18 I G1 G2 n c1 c2 c3 p bn cb st r b wk wb k9 y9 w → FSr18 I G1 G2 n c1 c2 c3 p bn cb st r b wk wb k9 y9 w' := fun hb k9 y9 h => by
      unfold FSr18 at *
      split at h <;> exact h
    intro i' hi'
    rw [sizeSr18] at hi'
    rcases (show i' = 0 ∨ i' = 1 ∨ i' = 2 ∨ i' = 3 ∨ i' = 4 ∨ i' = 5 ∨ i' = 6 ∨ i' = 7 ∨ i' = 8 ∨ i' = 9 ∨ i' = 10 ∨ i' = 11 ∨ i' = 12 ∨ i' = 13 ∨ i' = 14 ∨ i' = 15 ∨ i' = 16 ∨ i' = 17 ∨ i' = 18 ∨ i' = 19 ∨ i' = 20 ∨ i' = 21 ∨ i' = 22 ∨ i' = 23 ∨ i' = 24 ∨ i' = 25 ∨ i' = 26 ∨ i' = 27 by omega) with rfl | rfl | rfl | rfl | rfl | rfl | rfl | rfl | rfl | rfl | rfl | rfl | rfl | rfl | rfl | rfl | rfl | rfl | rfl | rfl | rfl | rfl | rfl | rfl | rfl | rfl | rfl | rfl
    · intro ll bb w' hs hlf hN hO hf hI hA
      clear hi'
      have q0 := hf.kept (s := 13) (by rw [sizeSr18]; kernel_rfl) k13
      exact Rg.op_value (o := ⟨some 61, Op.move (Operand.tmp 13), _, _, _, _⟩) (x := .slice (some ⟨I, 0, none⟩) n c1) rfl rfl (by clear hA HS hN hO hbb y3; simp only [execOp]; go_simp) ⟨_, rfl, (fun h => by cases h), rfl, hI, fun _ _ _ _ h => h⟩
    · intro ll bb w' hs hlf hN hO hf hI hA
      clear hi'
      have q0 := hf.kept (s := 17) (by rw [sizeSr18]; kernel_rfl) k17
      exact Rg.op_value (o := ⟨some 62, Op.move (Operand.tmp 17), _, _, _, _⟩) (x := .int .i64 (p : Nat)) rfl rfl (by clear hA HS hN hO hbb y3; simp only [execOp]; go_simp) ⟨_, rfl, (fun h => by cases h), rfl, hI, fun _ _ _ _ h => h⟩
    · intro ll bb w' hs hlf hN hO hf hI hA
      clear hi'
      have q61 : bb.tmps[61]? = some _ := hf.tmp (k := 0) rfl (by rw [ha]; decide) (hA 0 (by kernel_rfl))
      have q62 : bb.tmps[62]? = some _ := hf.tmp (k := 1) rfl (by rw [ha]; decide) (hA 1 (by kernel_rfl))
      have hin2 : (p : Int) < (n : Int) := by omega
      exact Rg.op_value (o := ⟨some 63, Op.indexAddr 41 (Operand.tmp 61) (Operand.tmp 62), _, _, _, _⟩) (x := .pointer (some ⟨I, p, none⟩)) rfl rfl (by clear hA HS hN hO hbb y3; simp only [execOp]; go_simp) ⟨_, rfl, (fun h => by cases h), rfl, hI, fun _ _ _ _ h => h⟩
    · intro ll bb w' hs hlf hN hO hf hI hA
      clear hi'
      have q63 : bb.tmps[63]? = some _ := hf.tmp (k := 2) rfl (by rw [ha]; decide) (hA 2 (by kernel_rfl))
      have e0 := (hI.cell (p := ⟨I, p, none⟩) hIl).trans y0
      exact Rg.op_value (o := ⟨some 64, Op.load 4 (Operand.tmp 63), _, _, _, _⟩) (x := .bool cb) rfl rfl (by clear hA HS hN hO hbb y3; simp only [execOp]; go_simp) ⟨_, rfl, (fun h => by cases h), rfl, hI, fun _ _ _ _ h => h⟩
    · intro ll bb w' hs hlf hN hO hf hI hA
      clear hi'
      have q64 : bb.tmps[64]? = some _ := hf.tmp (k := 3) rfl (by rw [ha]; decide) (hA 3 (by kernel_rfl))
      exact Rg.op_value (o := ⟨some 65, Op.unOp UnOp.not 4 (Operand.tmp 64), _, _, _, _⟩) (x := .bool (!cb)) rfl rfl (by clear hA HS hN hO hbb y3; simp only [execOp]; go_simp) ⟨_, rfl, (fun h => by cases h), rfl, hI, fun _ _ _ _ h => h⟩
    · intro ll bb w' hs hlf hN hO hf hI hA
      clear hi'
      have q65 : bb.tmps[65]? = some _ := hf.tmp (k := 4) rfl (by rw [ha]; decide) (hA 4 (by kernel_rfl))
      exact Rg.op_value (o := ⟨some 66, Op.move (Operand.tmp 65), _, _, _, _⟩) (x := .bool (!cb)) rfl rfl (by clear hA HS hN hO hbb y3; simp only [execOp]; go_simp) ⟨_, rfl, (fun h => by cases h), rfl, hI, fun _ _ _ _ h => h⟩
    · intro ll bb w' hs hlf hN hO hf hI hA
      clear hi'
      have qg : bb.tmps[66]? = some (cond true (.bool (!cb)) undef) := hf.tmp (k := 5) rfl (by rw [ha]; decide) (hA 5 (by kernel_rfl))
      cases hP : (true && ((!cb) == true)) with
      | false => exact Rg.op_none (o := ⟨some 67, _, _, _, _, _⟩) rfl (Rg.unwanted_c (g := 5) rfl rfl qg hP) ⟨_, rfl, (fun h => by cases h), Rg.cond_f hP, hI, fun _ _ _ _ h => h⟩
      | true =>
        have hw := Rg.wanted_c (ops := (Rg.opsOf Try.f18 18)) (o := (Rg.opsOf Try.f18 18)[6]'(by rw [sizeSr18]; decide)) (g := 5) rfl rfl qg hP
        have g0 := Rg.pc_r hP
        have q0 := hf.kept (s := 11) (by rw [sizeSr18]; kernel_rfl) k11
        exact Rg.op_value (o := ⟨some 67, Op.move (Operand.tmp 11), _, _, _, _⟩) (x := .slice (some ⟨G2, 0, none⟩) n c2) rfl hw (by clear hA HS hN hO hbb y3; simp only [execOp]; go_simp) ⟨_, rfl, (fun h => by cases h), (Rg.cond_t hP).symm, hI, fun _ _ _ _ h => h⟩
    · intro ll bb w' hs hlf hN hO hf hI hA
      clear hi'
      have qg : bb.tmps[66]? = some (cond true (.bool (!cb)) undef) := hf.tmp (k := 5) rfl (by rw [ha]; decide) (hA 5 (by kernel_rfl))
      cases hP : (true && ((!cb) == true)) with
      | false => exact Rg.op_none (o := ⟨some 68, _, _, _, _, _⟩) rfl (Rg.unwanted_c (g := 5) rfl rfl qg hP) ⟨_, rfl, (fun h => by cases h), Rg.cond_f hP, hI, fun _ _ _ _ h => h⟩
      | true =>
        have hw := Rg.wanted_c (ops := (Rg.opsOf Try.f18 18)) (o := (Rg.opsOf Try.f18 18)[7]'(by rw [sizeSr18]; decide)) (g := 5) rfl rfl qg hP
        have g0 := Rg.pc_r hP
        have q0 := hf.kept (s := 17) (by rw [sizeSr18]; kernel_rfl) k17
        exact Rg.op_value (o := ⟨some 68, Op.move (Operand.tmp 17), _, _, _, _⟩) (x := .int .i64 (p : Nat)) rfl hw (by clear hA HS hN hO hbb y3; simp only [execOp]; go_simp) ⟨_, rfl, (fun h => by cases h), (Rg.cond_t hP).symm, hI, fun _ _ _ _ h => h⟩
    · intro ll bb w' hs hlf hN hO hf hI hA
      clear hi'
      have qg : bb.tmps[66]? = some (cond true (.bool (!cb)) undef) := hf.tmp (k := 5) rfl (by rw [ha]; decide) (hA 5 (by kernel_rfl))
      cases hP : (true && ((!cb) == true)) with
      | false => exact Rg.op_none (o := ⟨some 69, _, _, _, _, _⟩) rfl (Rg.unwanted_c (g := 5) rfl rfl qg hP) ⟨_, rfl, (fun h => by cases h), Rg.cond_f hP, hI, fun _ _ _ _ h => h⟩
      | true =>
        have hw := Rg.wanted_c (ops := (Rg.opsOf Try.f18 18)) (o := (Rg.opsOf Try.f18 18)[8]'(by rw [sizeSr18]; decide)) (g := 5) rfl rfl qg hP
        have g0 := Rg.pc_r hP
        have q67 : bb.tmps[67]? = some (.slice (some ⟨G2, 0, none⟩) n c2) := hf.tmp (k := 6) rfl (by rw [ha]; decide) (Eq.trans (hA 6 (by kernel_rfl)) (Rg.cond_t hP))
        have q68 : bb.tmps[68]? = some (.int .i64 (p : Nat)) := hf.tmp (k := 7) rfl (by rw [ha]; decide) (Eq.trans (hA 7 (by kernel_rfl)) (Rg.cond_t hP))
        have hin2 : (p : Int) < (n : Int) := by omega
        exact Rg.op_value (o := ⟨some 69, Op.indexAddr 25 (Operand.tmp 67) (Operand.tmp 68), _, _, _, _⟩) (x := .pointer (some ⟨G2, p, none⟩)) rfl hw (by clear hA HS hN hO hbb y3; simp only [execOp]; go_simp) ⟨_, rfl, (fun h => by cases h), (Rg.cond_t hP).symm, hI, fun _ _ _ _ h => h⟩
    · intro ll bb w' hs hlf hN hO hf hI hA
      clear hi'
      have qg : bb.tmps[66]? = some (cond true (.bool (!cb)) undef) := hf.tmp (k := 5) rfl (by rw [ha]; decide) (hA 5 (by kernel_rfl))
      cases hP : (true && ((!cb) == true)) with
      | false => exact Rg.op_none (o := ⟨some 70, _, _, _, _, _⟩) rfl (Rg.unwanted_c (g := 5) rfl rfl qg hP) ⟨_, rfl, (fun h => by cases h), Rg.cond_f hP, hI, fun _ _ _ _ h => h⟩
      | true =>
        have hw := Rg.wanted_c (ops := (Rg.opsOf Try.f18 18)) (o := (Rg.opsOf Try.f18 18)[9]'(by rw [sizeSr18]; decide)) (g := 5) rfl rfl qg hP
        have g0 := Rg.pc_r hP
        have q69 : bb.tmps[69]? = some (.pointer (some ⟨G2, p, none⟩)) := hf.tmp (k := 8) rfl (by rw [ha]; decide) (Eq.trans (hA 8 (by kernel_rfl)) (Rg.cond_t hP))
        have e0 := (hI.cell (p := ⟨G2, p, none⟩) hG2).trans y1
        exact Rg.op_value (o := ⟨some 70, Op.load 2 (Operand.tmp 69), _, _, _, _⟩) (x := .int .i64 st) rfl hw (by clear hA HS hN hO hbb y3; simp only [execOp]; go_simp) ⟨_, rfl, (fun h => by cases h), (Rg.cond_t hP).symm, hI, fun _ _ _ _ h => h⟩
    · intro ll bb w' hs hlf hN hO hf hI hA
      clear hi'
      have qg : bb.tmps[66]? = some (cond true (.bool (!cb)) undef) := hf.tmp (k := 5) rfl (by rw [ha]; decide) (hA 5 (by kernel_rfl))
      cases hP : (true && ((!cb) == true)) with
      | false => exact Rg.op_none (o := ⟨some 71, _, _, _, _, _⟩) rfl (Rg.unwanted_c (g := 5) rfl rfl qg hP) ⟨_, rfl, (fun h => by cases h), Rg.cond_f hP, hI, fun _ _ _ _ h => h⟩
      | true =>
        have hw := Rg.wanted_c (ops := (Rg.opsOf Try.f18 18)) (o := (Rg.opsOf Try.f18 18)[10]'(by rw [sizeSr18]; decide)) (g := 5) rfl rfl qg hP
        have g0 := Rg.pc_r hP
        have q0 := hf.kept (s := 3) (by rw [sizeSr18]; kernel_rfl) k3
        exact Rg.op_value (o := ⟨some 71, Op.move (Operand.tmp 3), _, _, _, _⟩) (x := .int .i64 r) rfl hw (by clear hA HS hN hO hbb y3; simp only [execOp]; go_simp) ⟨_, rfl, (fun h => by cases h), (Rg.cond_t hP).symm, hI, fun _ _ _ _ h => h⟩
    · intro ll bb w' hs hlf hN hO hf hI hA
      clear hi'
      have qg : bb.tmps[66]? = some (cond true (.bool (!cb)) undef) := hf.tmp (k := 5) rfl (by rw [ha]; decide) (hA 5 (by kernel_rfl))
      cases hP : (true && ((!cb) == true)) with
      | false => exact Rg.op_none (o := ⟨some 72, _, _, _, _, _⟩) rfl (Rg.unwanted_c (g := 5) rfl rfl qg hP) ⟨_, rfl, (fun h => by cases h), Rg.cond_f hP, hI, fun _ _ _ _ h => h⟩
      | true =>
        have hw := Rg.wanted_c (ops := (Rg.opsOf Try.f18 18)) (o := (Rg.opsOf Try.f18 18)[11]'(by rw [sizeSr18]; decide)) (g := 5) rfl rfl qg hP
        have g0 := Rg.pc_r hP
        have q70 : bb.tmps[70]? = some (.int .i64 st) := hf.tmp (k := 9) rfl (by rw [ha]; decide) (Eq.trans (hA 9 (by kernel_rfl)) (Rg.cond_t hP))
        have q71 : bb.tmps[71]? = some (.int .i64 r) := hf.tmp (k := 10) rfl (by rw [ha]; decide) (Eq.trans (hA 10 (by kernel_rfl)) (Rg.cond_t hP))
        exact Rg.op_value (o := ⟨some 72, Op.binOp BinOp.lss 2 (Operand.tmp 70) (Operand.tmp 71) 2, _, _, _, _⟩) (x := .bool (decide (st < r))) rfl hw (by clear hA HS hN hO hbb y3; simp only [execOp]; go_simp) ⟨_, rfl, (fun h => by cases h), (Rg.cond_t hP).symm, hI, fun _ _ _ _ h => h⟩
    · intro ll bb w' hs hlf hN hO hf hI hA
      clear hi'
      have q66 : bb.tmps[66]? = some _ := hf.tmp (k := 5) rfl (by rw [ha]; decide) (hA 5 (by kernel_rfl))
      cases hC : (!cb) with
      | false =>
        have hval : ((.bool ((!cb) && (decide (st < r))) : Value)) = .bool false := by rw [hC]; rfl
        exact Rg.op_value (o := ⟨some 73, Op.pick (Operand.tmp 66) (Operand.tmp 72) (Operand.const (Value.bool false)), _, _, _, _⟩) (x := .bool false) rfl rfl (by rw [hC] at q66; clear hA HS hN hO hbb y3 hval; simp only [execOp]; go_simp) ⟨_, rfl, (fun h => by cases h), (by show ((.bool false : Value)) = _; first | exact hval.symm | rfl), hI, fun _ _ _ _ h => h⟩
      | true =>
        have hB : (true && ((!cb) == true)) = true := by rw [hC]; rfl
        have q72 : bb.tmps[72]? = some (.bool (decide (st < r))) := hf.tmp (k := 11) rfl (by rw [ha]; decide) (Eq.trans (hA 11 (by kernel_rfl)) (Rg.cond_t hB))
        have hval : ((.bool ((!cb) && (decide (st < r))) : Value)) = .bool (decide (st < r)) := by rw [hC]; rfl
        exact Rg.op_value (o := ⟨some 73, Op.pick (Operand.tmp 66) (Operand.tmp 72) (Operand.const (Value.bool false)), _, _, _, _⟩) (x := .bool (decide (st < r))) rfl rfl (by rw [hC] at q66; clear hA HS hN hO hbb y3 hval; simp only [execOp]; go_simp) ⟨_, rfl, (fun h => by cases h), (by show ((.bool (decide (st < r)) : Value)) = _; first | exact hval.symm | rfl), hI, fun _ _ _ _ h => h⟩
    · intro ll bb w' hs hlf hN hO hf hI hA
      clear hi'
      have q73 : bb.tmps[73]? = some _ := hf.tmp (k := 12) rfl (by rw [ha]; decide) (hA 12 (by kernel_rfl))
      exact Rg.op_value (o := ⟨some 74, Op.move (Operand.tmp 73), _, _, _, _⟩) (x := .bool ((!cb) && (decide (st < r)))) rfl rfl (by clear hA HS hN hO hbb y3; simp only [execOp]; go_simp) ⟨_, rfl, (fun h => by cases h), rfl, hI, fun _ _ _ _ h => h⟩
    · intro ll bb w' hs hlf hN hO hf hI hA
      clear hi'
      have qg : bb.tmps[74]? = some (cond true (.bool ((!cb) && (decide (st < r)))) undef) := hf.tmp (k := 13) rfl (by rw [ha]; decide) (hA 13 (by kernel_rfl))
      cases hP : (true && (((!cb) && (decide (st < r))) == true)) with
      | false => exact Rg.op_none (o := ⟨some 75, _, _, _, _, _⟩) rfl (Rg.unwanted_c (g := 13) rfl rfl qg hP) ⟨_, rfl, (fun h => by cases h), Rg.cond_f hP, hI, fun _ _ _ _ h => h⟩
      | true =>
        have hw := Rg.wanted_c (ops := (Rg.opsOf Try.f18 18)) (o := (Rg.opsOf Try.f18 18)[14]'(by rw [sizeSr18]; decide)) (g := 13) rfl rfl qg hP
        have g0 := Rg.pc_r hP
        have q0 := hf.kept (s := 16) (by rw [sizeSr18]; kernel_rfl) k16
        exact Rg.op_value (o := ⟨some 75, Op.move (Operand.tmp 16), _, _, _, _⟩) (x := .int .i64 b) rfl hw (by clear hA HS hN hO hbb y3; simp only [execOp]; go_simp) ⟨_, rfl, (fun h => by cases h), (Rg.cond_t hP).symm, hI, fun _ _ _ _ h => h⟩
    · intro ll bb w' hs hlf hN hO hf hI hA
      clear hi'
      have qg : bb.tmps[74]? = some (cond true (.bool ((!cb) && (decide (st < r)))) undef) := hf.tmp (k := 13) rfl (by rw [ha]; decide) (hA 13 (by kernel_rfl))
      cases hP : (true && (((!cb) && (decide (st < r))) == true)) with
      | false => exact Rg.op_none (o := ⟨some 76, _, _, _, _, _⟩) rfl (Rg.unwanted_c (g := 13) rfl rfl qg hP) ⟨_, rfl, (fun h => by cases h), Rg.cond_f hP, hI, fun _ _ _ _ h => h⟩
      | true =>
        have hw := Rg.wanted_c (ops := (Rg.opsOf Try.f18 18)) (o := (Rg.opsOf Try.f18 18)[15]'(by rw [sizeSr18]; decide)) (g := 13) rfl rfl qg hP
        have g0 := Rg.pc_r hP
        have q75 : bb.tmps[75]? = some (.int .i64 b) := hf.tmp (k := 14) rfl (by rw [ha]; decide) (Eq.trans (hA 14 (by kernel_rfl)) (Rg.cond_t hP))
        exact Rg.op_value (o := ⟨some 76, Op.binOp BinOp.lss 2 (Operand.tmp 75) (Operand.const (Value.int .i64 0)) 2, _, _, _, _⟩) (x := .bool (decide (b < 0))) rfl hw (by clear hA HS hN hO hbb y3; simp only [execOp]; go_simp) ⟨_, rfl, (fun h => by cases h), (Rg.cond_t hP).symm, hI, fun _ _ _ _ h => h⟩
    · intro ll bb w' hs hlf hN hO hf hI hA
      clear hi'
      have qg : bb.tmps[74]? = some (cond true (.bool ((!cb) && (decide (st < r)))) undef) := hf.tmp (k := 13) rfl (by rw [ha]; decide) (hA 13 (by kernel_rfl))
      cases hP : (true && (((!cb) && (decide (st < r))) == true)) with
      | false => exact Rg.op_none (o := ⟨some 77, _, _, _, _, _⟩) rfl (Rg.unwanted_c (g := 13) rfl rfl qg hP) ⟨_, rfl, (fun h => by cases h), Rg.cond_f hP, hI, fun _ _ _ _ h => h⟩
      | true =>
        have hw := Rg.wanted_c (ops := (Rg.opsOf Try.f18 18)) (o := (Rg.opsOf Try.f18 18)[16]'(by rw [sizeSr18]; decide)) (g := 13) rfl rfl qg hP
        have g0 := Rg.pc_r hP
        have q76 : bb.tmps[76]? = some (.bool (decide (b < 0))) := hf.tmp (k := 15) rfl (by rw [ha]; decide) (Eq.trans (hA 15 (by kernel_rfl)) (Rg.cond_t hP))
        exact Rg.op_value (o := ⟨some 77, Op.move (Operand.tmp 76), _, _, _, _⟩) (x := .bool (decide (b < 0))) rfl hw (by clear hA HS hN hO hbb y3; simp only [execOp]; go_simp) ⟨_, rfl, (fun h => by cases h), (Rg.cond_t hP).symm, hI, fun _ _ _ _ h => h⟩
    · intro ll bb w' hs hlf hN hO hf hI hA
      clear hi'
      have qg : bb.tmps[77]? = some (cond (true && (((!cb) && (decide (st < r))) == true)) (.bool (decide (b < 0))) undef) := hf.tmp (k := 16) rfl (by rw [ha]; decide) (hA 16 (by kernel_rfl))
      cases hP : ((true && (((!cb) && (decide (st < r))) == true)) && ((decide (b < 0)) == false)) with
      | false => exact Rg.op_none (o := ⟨some 78, _, _, _, _, _⟩) rfl (Rg.unwanted_c (g := 16) rfl rfl qg hP) ⟨_, rfl, (fun h => by cases h), Rg.cond_f hP, hI, fun _ _ _ _ h => h⟩
      | true =>
        have hw := Rg.wanted_c (ops := (Rg.opsOf Try.f18 18)) (o := (Rg.opsOf Try.f18 18)[17]'(by rw [sizeSr18]; decide)) (g := 16) rfl rfl qg hP
        have g1 := Rg.pc_r hP
        have p1 := Rg.pc_l hP
        have g0 := Rg.pc_r p1
        have q0 := hf.kept (s := 10) (by rw [sizeSr18]; kernel_rfl) k10
        exact Rg.op_value (o := ⟨some 78, Op.move (Operand.tmp 10), _, _, _, _⟩) (x := .slice (some ⟨G1, 0, none⟩) n c3) rfl hw (by clear hA HS hN hO hbb y3; simp only [execOp]; go_simp) ⟨_, rfl, (fun h => by cases h), (Rg.cond_t hP).symm, hI, fun _ _ _ _ h => h⟩
    · intro ll bb w' hs hlf hN hO hf hI hA
      clear hi'
      have qg : bb.tmps[77]? = some (cond (true && (((!cb) && (decide (st < r))) == true)) (.bool (decide (b < 0))) undef) := hf.tmp (k := 16) rfl (by rw [ha]; decide) (hA 16 (by kernel_rfl))
      cases hP : ((true && (((!cb) && (decide (st < r))) == true)) && ((decide (b < 0)) == false)) with
      | false => exact Rg.op_none (o := ⟨some 79, _, _, _, _, _⟩) rfl (Rg.unwanted_c (g := 16) rfl rfl qg hP) ⟨_, rfl, (fun h => by cases h), Rg.cond_f hP, hI, fun _ _ _ _ h => h⟩
      | true =>
        have hw := Rg.wanted_c (ops := (Rg.opsOf Try.f18 18)) (o := (Rg.opsOf Try.f18 18)[18]'(by rw [sizeSr18]; decide)) (g := 16) rfl rfl qg hP
        have g1 := Rg.pc_r hP
        have p1 := Rg.pc_l hP
        have g0 := Rg.pc_r p1
        have q0 := hf.kept (s := 17) (by rw [sizeSr18]; kernel_rfl) k17
        exact Rg.op_value (o := ⟨some 79, Op.move (Operand.tmp 17), _, _, _, _⟩) (x := .int .i64 (p : Nat)) rfl hw (by clear hA HS hN hO hbb y3; simp only [execOp]; go_simp) ⟨_, rfl, (fun h => by cases h), (Rg.cond_t hP).symm, hI, fun _ _ _ _ h => h⟩
    · intro ll bb w' hs hlf hN hO hf hI hA
      clear hi'
      have qg : bb.tmps[77]? = some (cond (true && (((!cb) && (decide (st < r))) == true)) (.bool (decide (b < 0))) undef) := hf.tmp (k := 16) rfl (by rw [ha]; decide) (hA 16 (by kernel_rfl))
      cases hP : ((true && (((!cb) && (decide (st < r))) == true)) && ((decide (b < 0)) == false)) with
      | false => exact Rg.op_none (o := ⟨some 80, _, _, _, _, _⟩) rfl (Rg.unwanted_c (g := 16) rfl rfl qg hP) ⟨_, rfl, (fun h => by cases h), Rg.cond_f hP, hI, fun _ _ _ _ h => h⟩
      | true =>
        have hw := Rg.wanted_c (ops := (Rg.opsOf Try.f18 18)) (o := (Rg.opsOf Try.f18 18)[19]'(by rw [sizeSr18]; decide)) (g := 16) rfl rfl qg hP
        have g1 := Rg.pc_r hP
        have p1 := Rg.pc_l hP
        have g0 := Rg.pc_r p1
        have q78 : bb.tmps[78]? = some (.slice (some ⟨G1, 0, none⟩) n c3) := hf.tmp (k := 17) rfl (by rw [ha]; decide) (Eq.trans (hA 17 (by kernel_rfl)) (Rg.cond_t hP))
        have q79 : bb.tmps[79]? = some (.int .i64 (p : Nat)) := hf.tmp (k := 18) rfl (by rw [ha]; decide) (Eq.trans (hA 18 (by kernel_rfl)) (Rg.cond_t hP))
        have hin2 : (p : Int) < (n : Int) := by omega
        exact Rg.op_value (o := ⟨some 80, Op.indexAddr 25 (Operand.tmp 78) (Operand.tmp 79), _, _, _, _⟩) (x := .pointer (some ⟨G1, p, none⟩)) rfl hw (by clear hA HS hN hO hbb y3; simp only [execOp]; go_simp) ⟨_, rfl, (fun h => by cases h), (Rg.cond_t hP).symm, hI, fun _ _ _ _ h => h⟩
    · intro ll bb w' hs hlf hN hO hf hI hA
      clear hi'
      have qg : bb.tmps[77]? = some (cond (true && (((!cb) && (decide (st < r))) == true)) (.bool (decide (b < 0))) undef) := hf.tmp (k := 16) rfl (by rw [ha]; decide) (hA 16 (by kernel_rfl))
      cases hP : ((true && (((!cb) && (decide (st < r))) == true)) && ((decide (b < 0)) == false)) with
      | false => exact Rg.op_none (o := ⟨some 81, _, _, _, _, _⟩) rfl (Rg.unwanted_c (g := 16) rfl rfl qg hP) ⟨_, rfl, (fun h => by cases h), Rg.cond_f hP, hI, fun _ _ _ _ h => h⟩
      | true =>
        have hw := Rg.wanted_c (ops := (Rg.opsOf Try.f18 18)) (o := (Rg.opsOf Try.f18 18)[20]'(by rw [sizeSr18]; decide)) (g := 16) rfl rfl qg hP
        have g1 := Rg.pc_r hP
        have p1 := Rg.pc_l hP
        have g0 := Rg.pc_r p1
        have q80 : bb.tmps[80]? = some (.pointer (some ⟨G1, p, none⟩)) := hf.tmp (k := 19) rfl (by rw [ha]; decide) (Eq.trans (hA 19 (by kernel_rfl)) (Rg.cond_t hP))
        have e0 := (hI.cell (p := ⟨G1, p, none⟩) hG1).trans y2
        exact Rg.op_value (o := ⟨some 81, Op.load 2 (Operand.tmp 80), _, _, _, _⟩) (x := .int .i64 wk) rfl hw (by clear hA HS hN hO hbb y3; simp only [execOp]; go_simp) ⟨_, rfl, (fun h => by cases h), (Rg.cond_t hP).symm, hI, fun _ _ _ _ h => h⟩
    · intro ll bb w' hs hlf hN hO hf hI hA
      clear hi'
      have qg : bb.tmps[77]? = some (cond (true && (((!cb) && (decide (st < r))) == true)) (.bool (decide (b < 0))) undef) := hf.tmp (k := 16) rfl (by rw [ha]; decide) (hA 16 (by kernel_rfl))
      cases hP : ((true && (((!cb) && (decide (st < r))) == true)) && ((decide (b < 0)) == false)) with
      | false => exact Rg.op_none (o := ⟨some 82, _, _, _, _, _⟩) rfl (Rg.unwanted_c (g := 16) rfl rfl qg hP) ⟨_, rfl, (fun h => by cases h), Rg.cond_f hP, hI, fun _ _ _ _ h => h⟩
      | true =>
        have hw := Rg.wanted_c (ops := (Rg.opsOf Try.f18 18)) (o := (Rg.opsOf Try.f18 18)[21]'(by rw [sizeSr18]; decide)) (g := 16) rfl rfl qg hP
        have g1 := Rg.pc_r hP
        have p1 := Rg.pc_l hP
        have g0 := Rg.pc_r p1
        have q0 := hf.kept (s := 10) (by rw [sizeSr18]; kernel_rfl) k10
        exact Rg.op_value (o := ⟨some 82, Op.move (Operand.tmp 10), _, _, _, _⟩) (x := .slice (some ⟨G1, 0, none⟩) n c3) rfl hw (by clear hA HS hN hO hbb y3; simp only [execOp]; go_simp) ⟨_, rfl, (fun h => by cases h), (Rg.cond_t hP).symm, hI, fun _ _ _ _ h => h⟩
    · intro ll bb w' hs hlf hN hO hf hI hA
      clear hi'
      have qg : bb.tmps[77]? = some (cond (true && (((!cb) && (decide (st < r))) == true)) (.bool (decide (b < 0))) undef) := hf.tmp (k := 16) rfl (by rw [ha]; decide) (hA 16 (by kernel_rfl))
      cases hP : ((true && (((!cb) && (decide (st < r))) == true)) && ((decide (b < 0)) == false)) with
      | false => exact Rg.op_none (o := ⟨some 83, _, _, _, _, _⟩) rfl (Rg.unwanted_c (g := 16) rfl rfl qg hP) ⟨_, rfl, (fun h => by cases h), Rg.cond_f hP, hI, fun _ _ _ _ h => h⟩
      | true =>
        have hw := Rg.wanted_c (ops := (Rg.opsOf Try.f18 18)) (o := (Rg.opsOf Try.f18 18)[22]'(by rw [sizeSr18]; decide)) (g := 16) rfl rfl qg hP
        have g1 := Rg.pc_r hP
        have p1 := Rg.pc_l hP
        have g0 := Rg.pc_r p1
        have q0 := hf.kept (s := 16) (by rw [sizeSr18]; kernel_rfl) k16
        exact Rg.op_value (o := ⟨some 83, Op.move (Operand.tmp 16), _, _, _, _⟩) (x := .int .i64 b) rfl hw (by clear hA HS hN hO hbb y3; simp only [execOp]; go_simp) ⟨_, rfl, (fun h => by cases h), (Rg.cond_t hP).symm, hI, fun _ _ _ _ h => h⟩
    · intro ll bb w' hs hlf hN hO hf hI hA
      clear hi'
      have qg : bb.tmps[77]? = some (cond (true && (((!cb) && (decide (st < r))) == true)) (.bool (decide (b < 0))) undef) := hf.tmp (k := 16) rfl (by rw [ha]; decide) (hA 16 (by kernel_rfl))
      cases hP : ((true && (((!cb) && (decide (st < r))) == true)) && ((decide (b < 0)) == false)) with
      | false => exact Rg.op_none (o := ⟨some 84, _, _, _, _, _⟩) rfl (Rg.unwanted_c (g := 16) rfl rfl qg hP) ⟨_, rfl, (fun h => by cases h), Rg.cond_f hP, hI, fun _ _ _ _ h => h⟩
      | true =>
        have hw := Rg.wanted_c (ops := (Rg.opsOf Try.f18 18)) (o := (Rg.opsOf Try.f18 18)[23]'(by rw [sizeSr18]; decide)) (g := 16) rfl rfl qg hP
        have g1 := Rg.pc_r hP
        have p1 := Rg.pc_l hP
        have g0 := Rg.pc_r p1
        have q82 : bb.tmps[82]? = some (.slice (some ⟨G1, 0, none⟩) n c3) := hf.tmp (k := 21) rfl (by rw [ha]; decide) (Eq.trans (hA 21 (by kernel_rfl)) (Rg.cond_t hP))
        have q83 : bb.tmps[83]? = some (.int .i64 b) := hf.tmp (k := 22) rfl (by rw [ha]; decide) (Eq.trans (hA 22 (by kernel_rfl)) (Rg.cond_t hP))
        have hb0 : 0 ≤ b := by have q1 := g1; simp at q1; exact q1
        obtain ⟨hbe, hbn⟩ := hbb hb0
        have hi2 : b < (n : Int) := by omega
        have ht : b.toNat = bn := by omega
        exact Rg.op_value (o := ⟨some 84, Op.indexAddr 25 (Operand.tmp 82) (Operand.tmp 83), _, _, _, _⟩) (x := .pointer (some ⟨G1, bn, none⟩)) rfl hw (by clear hA HS hN hO hbb y3; simp only [execOp]; go_simp) ⟨_, rfl, (fun h => by cases h), (Rg.cond_t hP).symm, hI, fun _ _ _ _ h => h⟩
    · intro ll bb w' hs hlf hN hO hf hI hA
      clear hi'
      have qg : bb.tmps[77]? = some (cond (true && (((!cb) && (decide (st < r))) == true)) (.bool (decide (b < 0))) undef) := hf.tmp (k := 16) rfl (by rw [ha]; decide) (hA 16 (by kernel_rfl))
      cases hP : ((true && (((!cb) && (decide (st < r))) == true)) && ((decide (b < 0)) == false)) with
      | false => exact Rg.op_none (o := ⟨some 85, _, _, _, _, _⟩) rfl (Rg.unwanted_c (g := 16) rfl rfl qg hP) ⟨_, rfl, (fun h => by cases h), Rg.cond_f hP, hI, fun _ _ _ _ h => h⟩
      | true =>
        have hw := Rg.wanted_c (ops := (Rg.opsOf Try.f18 18)) (o := (Rg.opsOf Try.f18 18)[24]'(by rw [sizeSr18]; decide)) (g := 16) rfl rfl qg hP
        have g1 := Rg.pc_r hP
        have p1 := Rg.pc_l hP
        have g0 := Rg.pc_r p1
        have q84 : bb.tmps[84]? = some (.pointer (some ⟨G1, bn, none⟩)) := hf.tmp (k := 23) rfl (by rw [ha]; decide) (Eq.trans (hA 23 (by kernel_rfl)) (Rg.cond_t hP))
        have hb0 : 0 ≤ b := by have q1 := g1; simp at q1; exact q1
        have e0 := (hI.cell (p := ⟨G1, bn, none⟩) hG1).trans (y3 hb0)
        exact Rg.op_value (o := ⟨some 85, Op.load 2 (Operand.tmp 84), _, _, _, _⟩) (x := .int .i64 wb) rfl hw (by clear hA HS hN hO hbb y3; simp only [execOp]; go_simp) ⟨_, rfl, (fun h => by cases h), (Rg.cond_t hP).symm, hI, fun _ _ _ _ h => h⟩
    · intro ll bb w' hs hlf hN hO hf hI hA
      clear hi'
      have qg : bb.tmps[77]? = some (cond (true && (((!cb) && (decide (st < r))) == true)) (.bool (decide (b < 0))) undef) := hf.tmp (k := 16) rfl (by rw [ha]; decide) (hA 16 (by kernel_rfl))
      cases hP : ((true && (((!cb) && (decide (st < r))) == true)) && ((decide (b < 0)) == false)) with
      | false => exact Rg.op_none (o := ⟨some 86, _, _, _, _, _⟩) rfl (Rg.unwanted_c (g := 16) rfl rfl qg hP) ⟨_, rfl, (fun h => by cases h), Rg.cond_f hP, hI, fun _ _ _ _ h => h⟩
      | true =>
        have hw := Rg.wanted_c (ops := (Rg.opsOf Try.f18 18)) (o := (Rg.opsOf Try.f18 18)[25]'(by rw [sizeSr18]; decide)) (g := 16) rfl rfl qg hP
        have g1 := Rg.pc_r hP
        have p1 := Rg.pc_l hP
        have g0 := Rg.pc_r p1
        have q81 : bb.tmps[81]? = some (.int .i64 wk) := hf.tmp (k := 20) rfl (by rw [ha]; decide) (Eq.trans (hA 20 (by kernel_rfl)) (Rg.cond_t hP))
        have q85 : bb.tmps[85]? = some (.int .i64 wb) := hf.tmp (k := 24) rfl (by rw [ha]; decide) (Eq.trans (hA 24 (by kernel_rfl)) (Rg.cond_t hP))
        exact Rg.op_value (o := ⟨some 86, Op.binOp BinOp.lss 2 (Operand.tmp 81) (Operand.tmp 85) 2, _, _, _, _⟩) (x := .bool (decide (wk < wb))) rfl hw (by clear hA HS hN hO hbb y3; simp only [execOp]; go_simp) ⟨_, rfl, (fun h => by cases h), (Rg.cond_t hP).symm, hI, fun _ _ _ _ h => h⟩
    · intro ll bb w' hs hlf hN hO hf hI hA
      clear hi'
      have qg : bb.tmps[74]? = some (cond true (.bool ((!cb) && (decide (st < r)))) undef) := hf.tmp (k := 13) rfl (by rw [ha]; decide) (hA 13 (by kernel_rfl))
      cases hP : (true && (((!cb) && (decide (st < r))) == true)) with
      | false => exact Rg.op_none (o := ⟨some 87, _, _, _, _, _⟩) rfl (Rg.unwanted_c (g := 13) rfl rfl qg hP) ⟨_, rfl, (fun h => by cases h), Rg.cond_f hP, hI, fun _ _ _ _ h => h⟩
      | true =>
        have hw := Rg.wanted_c (ops := (Rg.opsOf Try.f18 18)) (o := (Rg.opsOf Try.f18 18)[26]'(by rw [sizeSr18]; decide)) (g := 13) rfl rfl qg hP
        have g0 := Rg.pc_r hP
        have q77 : bb.tmps[77]? = some (.bool (decide (b < 0))) := hf.tmp (k := 16) rfl (by rw [ha]; decide) (Eq.trans (hA 16 (by kernel_rfl)) (Rg.cond_t hP))
        cases hC : (decide (b < 0)) with
        | false =>
          have hB : ((true && (((!cb) && (decide (st < r))) == true)) && ((decide (b < 0)) == false)) = true := by
            rw [hC]; first | rfl | (rw [hP]; rfl) | simp_all
          have q86 : bb.tmps[86]? = some (.bool (decide (wk < wb))) := hf.tmp (k := 25) rfl (by rw [ha]; decide) (Eq.trans (hA 25 (by kernel_rfl)) (Rg.cond_t hB))
          have hval : ((.bool ((decide (b < 0)) || (decide (wk < wb))) : Value)) = .bool (decide (wk < wb)) := by rw [hC]; rfl
          exact Rg.op_value (o := ⟨some 87, Op.pick (Operand.tmp 77) (Operand.const (Value.bool true)) (Operand.tmp 86), _, _, _, _⟩) (x := .bool (decide (wk < wb))) rfl hw (by rw [hC] at q77; clear hA HS hN hO hbb y3 hval; simp only [execOp]; go_simp) ⟨_, rfl, (fun h => by cases h), (by show ((.bool (decide (wk < wb)) : Value)) = _; exact hval.symm.trans (Rg.cond_t hP).symm), hI, fun _ _ _ _ h => h⟩
        | true =>
          have hval : ((.bool ((decide (b < 0)) || (decide (wk < wb))) : Value)) = .bool true := by rw [hC]; rfl
          exact Rg.op_value (o := ⟨some 87, Op.pick (Operand.tmp 77) (Operand.const (Value.bool true)) (Operand.tmp 86), _, _, _, _⟩) (x := .bool true) rfl hw (by rw [hC] at q77; clear hA HS hN hO hbb y3 hval; simp only [execOp]; go_simp) ⟨_, rfl, (fun h => by cases h), (by show ((.bool true : Value)) = _; exact hval.symm.trans (Rg.cond_t hP).symm), hI, fun _ _ _ _ h => h⟩
    · intro ll bb w' hs hlf hN hO hf hI hA
      clear hi'
      have q74 : bb.tmps[74]? = some _ := hf.tmp (k := 13) rfl (by rw [ha]; decide) (hA 13 (by kernel_rfl))
      cases hC : ((!cb) && (decide (st < r))) with
      | false =>
        have hval : ((.bool (((!cb) && (decide (st < r))) && ((decide (b < 0)) || (decide (wk < wb)))) : Value)) = .bool false := by rw [hC]; rfl
        exact Rg.op_value (o := ⟨some 88, Op.pick (Operand.tmp 74) (Operand.tmp 87) (Operand.const (Value.bool false)), _, _, _, _⟩) (x := .bool false) rfl rfl (by rw [hC] at q74; clear hA HS hN hO hbb y3 hval; simp only [execOp]; go_simp) ⟨_, rfl, (fun h => by cases h), (by show ((.bool false : Value)) = _; first | exact hval.symm | rfl), hI, fun _ _ _ _ h => h⟩
      | true =>
        have hB : (true && (((!cb) && (decide (st < r))) == true)) = true := by rw [hC]; rfl
        have q87 : bb.tmps[87]? = some (.bool ((decide (b < 0)) || (decide (wk < wb)))) := hf.tmp (k := 26) rfl (by rw [ha]; decide) (Eq.trans (hA 26 (by kernel_rfl)) (Rg.cond_t hB))
        have hval : ((.bool (((!cb) && (decide (st < r))) && ((decide (b < 0)) || (decide (wk < wb)))) : Value)) = .bool ((decide (b < 0)) || (decide (wk < wb))) := by rw [hC]; rfl
        exact Rg.op_value (o := ⟨some 88, Op.pick (Operand.tmp 74) (Operand.tmp 87) (Operand.const (Value.bool false)), _, _, _, _⟩) (x := .bool ((decide (b < 0)) || (decide (wk < wb)))) rfl rfl (by rw [hC] at q74; clear hA HS hN hO hbb y3 hval; simp only [execOp]; go_simp) ⟨_, rfl, (fun h => by cases h), (by show ((.bool ((decide (b < 0)) || (decide (wk < wb))) : Value)) = _; first | exact hval.symm | rfl), hI, fun _ _ _ _ h => h⟩

theorem dSr18_0 : Rg.dstAt (Rg.opsOf Try.f18 18) 0 = some 61 := by kernel_rfl
theorem dSr18_1 : Rg.dstAt (Rg.opsOf Try.f18 18) 1 = some 62 := by kernel_rfl
theorem dSr18_2 : Rg.dstAt (Rg.opsOf Try.f18 18) 2 = some 63 := by kernel_rfl
theorem dSr18_3 : Rg.dstAt (Rg.opsOf Try.f18 18) 3 = some 64 := by kernel_rfl
theorem dSr18_4 : Rg.dstAt (Rg.opsOf Try.f18 18) 4 = some 65 := by kernel_rfl
theorem dSr18_5 : Rg.dstAt (Rg.opsOf Try.f18 18) 5 = some 66 := by kernel_rfl
theorem dSr18_6 : Rg.dstAt (Rg.opsOf Try.f18 18) 6 = some 67 := by kernel_rfl
theorem dSr18_7 : Rg.dstAt (Rg.opsOf Try.f18 18) 7 = some 68 := by kernel_rfl
theorem dSr18_8 : Rg.dstAt (Rg.opsOf Try.f18 18) 8 = some 69 := by kernel_rfl
theorem dSr18_9 : Rg.dstAt (Rg.opsOf Try.f18 18) 9 = some 70 := by kernel_rfl
theorem dSr18_10 : Rg.dstAt (Rg.opsOf Try.f18 18) 10 = some 71 := by kernel_rfl
theorem dSr18_11 : Rg.dstAt (Rg.opsOf Try.f18 18) 11 = some 72 := by kernel_rfl
theorem dSr18_12 : Rg.dstAt (Rg.opsOf Try.f18 18) 12 = some 73 := by kernel_rfl
theorem dSr18_13 : Rg.dstAt (Rg.opsOf Try.f18 18) 13 = some 74 := by kernel_rfl
theorem dSr18_14 : Rg.dstAt (Rg.opsOf Try.f18 18) 14 = some 75 := by kernel_rfl
theorem dSr18_15 : Rg.dstAt (Rg.opsOf Try.f18 18) 15 = some 76 := by kernel_rfl
theorem dSr18_16 : Rg.dstAt (Rg.opsOf Try.f18 18) 16 = some 77 := by kernel_rfl
theorem dSr18_17 : Rg.dstAt (Rg.opsOf Try.f18 18) 17 = some 78 := by kernel_rfl
theorem dSr18_18 : Rg.dstAt (Rg.opsOf Try.f18 18) 18 = some 79 := by kernel_rfl
theorem dSr18_19 : Rg.dstAt (Rg.opsOf Try.f18 18) 19 = some 80 := by kernel_rfl
theorem dSr18_20 : Rg.dstAt (Rg.opsOf Try.f18 18) 20 = some 81 := by kernel_rfl
theorem dSr18_21 : Rg.dstAt (Rg.opsOf Try.f18 18) 21 = some 82 := by kernel_rfl
theorem dSr18_22 : Rg.dstAt (Rg.opsOf Try.f18 18) 22 = some 83 := by kernel_rfl
theorem dSr18_23 : Rg.dstAt (Rg.opsOf Try.f18 18) 23 = some 84 := by kernel_rfl
theorem dSr18_24 : Rg.dstAt (Rg.opsOf Try.f18 18) 24 = some 85 := by kernel_rfl
theorem dSr18_25 : Rg.dstAt (Rg.opsOf Try.f18 18) 25 = some 86 := by kernel_rfl
theorem dSr18_26 : Rg.dstAt (Rg.opsOf Try.f18 18) 26 = some 87 := by kernel_rfl
theorem dSr18_27 : Rg.dstAt (Rg.opsOf Try.f18 18) 27 = some 88 := by kernel_rfl
theorem laySr18 {a b : Act} (hf : Rg.Fr (Rg.opsOf Try.f18 18) a b) : b = ((((((((((((((((((((((((((((a.put (some 61) (Rg.out (Rg.opsOf Try.f18 18) b 0)).put (some 62) (Rg.out (Rg.opsOf Try.f18 18) b 1)).put (some 63) (Rg.out (Rg.opsOf Try.f18 18) b 2)).put (some 64) (Rg.out (Rg.opsOf Try.f18 18) b 3)).put (some 65) (Rg.out (Rg.opsOf Try.f18 18) b 4)).put (some 66) (Rg.out (Rg.opsOf Try.f18 18) b 5)).put (some 67) (Rg.out (Rg.opsOf Try.f18 18) b 6)).put (some 68) (Rg.out (Rg.opsOf Try.f18 18) b 7)).put (some 69) (Rg.out (Rg.opsOf Try.f18 18) b 8)).put (some 70) (Rg.out (Rg.opsOf Try.f18 18) b 9)).put (some 71) (Rg.out (Rg.opsOf Try.f18 18) b 10)).put (some 72) (Rg.out (Rg.opsOf Try.f18 18) b 11)).put (some 73) (Rg.out (Rg.opsOf Try.f18 18) b 12)).put (some 74) (Rg.out (Rg.opsOf Try.f18 18) b 13)).put (some 75) (Rg.out (Rg.opsOf Try.f18 18) b 14)).put (some 76) (Rg.out (Rg.opsOf Try.f18 18) b 15)).put (some 77) (Rg.out (Rg.opsOf Try.f18 18) b 16)).put (some 78) (Rg.out (Rg.opsOf Try.f18 18) b 17)).put (some 79) (Rg.out (Rg.opsOf Try.f18 18) b 18)).put (some 80) (Rg.out (Rg.opsOf Try.f18 18) b 19)).put (some 81) (Rg.out (Rg.opsOf Try.f18 18) b 20)).put (some 82) (Rg.out (Rg.opsOf Try.f18 18) b 21)).put (some 83) (Rg.out (Rg.opsOf Try.f18 18) b 22)).put (some 84) (Rg.out (Rg.opsOf Try.f18 18) b 23)).put (some 85) (Rg.out (Rg.opsOf Try.f18 18) b 24)).put (some 86) (Rg.out (Rg.opsOf Try.f18 18) b 25)).put (some 87) (Rg.out (Rg.opsOf Try.f18 18) b 26)).put (some 88) (Rg.out (Rg.opsOf Try.f18 18) b 27)) := by
  have h := hf.chain
  rw [sizeSr18, show List.range 28 = [0, 1, 2, 3, 4, 5, 6, 7, 8, 9, 10, 11, 12, 13, 14, 15, 16, 17, 18, 19, 20, 21, 22, 23, 24, 25, 26, 27] from by decide] at h
  simp only [List.foldl_cons, List.foldl_nil, dSr18_0, dSr18_1, dSr18_2, dSr18_3, dSr18_4, dSr18_5, dSr18_6, dSr18_7, dSr18_8, dSr18_9, dSr18_10, dSr18_11, dSr18_12, dSr18_13, dSr18_14, dSr18_15, dSr18_16, dSr18_17, dSr18_18, dSr18_19, dSr18_20, dSr18_21, dSr18_22, dSr18_23, dSr18_24, dSr18_25, dSr18_26, dSr18_27] at h
  exact h
end Go.Proofs.Ytgcpiinmcbdkmaa
