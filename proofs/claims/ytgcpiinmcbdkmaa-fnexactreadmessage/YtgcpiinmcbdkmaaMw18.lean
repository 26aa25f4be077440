/-
  Merged: Rm7.
-/
import Derived.Test.YtgcpiinmcbdkmaaMw17
import Derived.Test.YtgcpiinmcbdkmaaMw9
namespace Go.Proofs.Ytgcpiinmcbdkmaa
open Go.RowKit Va Ms
set_option linter.all false
def FTn2 (R ii9 b9 c9 a9 : Nat) (s nm : ByteArray) (fv dv pv : Value) (t9 : Bool) (i9 : Nat) (v : Value) (w : World) : Prop :=
  match i9 with
  | 0 => v = .pointer (some ⟨R, 0, none⟩)
  | 1 => v = .pointer (some ⟨R, 0, none⟩)
  | 2 => v = .pointer (some ⟨R, 0, none⟩)
  | 3 => v = .string s
  | 4 => v = .pointer (some ⟨R, 0, none⟩)
  | 5 => v = .pointer (some ⟨R, 0, none⟩)
  | 6 => v = .pointer (some ⟨R, 1, none⟩)
  | 7 => v = .int .i64 (ii9 : Nat)
  | 8 => v = .string (s.extract ii9 s.size)
  | 9 => v = .bool t9
  | 10 => v = .bool (!t9)
  | _ => True
theorem sizeTn2 : (Rg.opsOf Try.f108 2).size = 11 := by kernel_rfl
set_option maxRecDepth 20000 in
set_option maxHeartbeats 8000000 in
theorem regTn2 {Q : Exit → Act → World → Prop} {a : Act} {w9 : World} {R ii9 b9 c9 a9 : Nat} {s nm : ByteArray} {fv dv pv : Value} {t9 : Bool} (ha : a.tmps.size = 47)
    (k0 : a.tmps[0]? = some (.pointer (some ⟨R, 0, none⟩))) (hP : PB w9 R (rdC s ii9 b9 nm fv dv pv c9 a9) 110) (hil : ii9 ≤ s.size) (hK : ∀ W, Calls Try.prog 136 #[.string (s.extract ii9 s.size)] W fun e W' => e = .returned (.bool t9) ∧ W' = W)
    (hend : ∀ b' w', Rg.Fr (Rg.opsOf Try.f108 2) a b' → Below w9.heap.size w9 w' → Rg.out (Rg.opsOf Try.f108 2) b' 10 = .bool (!t9) → Q .normal b' w') :
    (Code.region 2 (Rg.opsOf Try.f108 2) true).wp Try.prog Q a w9 := by
  refine Rg.region_set3 (by kernel_rfl) (fun _ w' => Below w9.heap.size w9 w') (FTn2 R ii9 b9 c9 a9 s nm fv dv pv t9) (by rw [ha, sizeTn2]; kernel_rfl) (st_drew (Below.refl _ _)) ?_ ?_
  case refine_2 =>
    intro l b' w' hf hall hI hA
    rw [sizeTn2] at hA
    exact hend b' w' hf hI (hA 10 (by decide))
  case refine_1 =>
    clear hend
    have HS : ∀ {w w' : World}, Below w.heap.size w w' → ∀ k9 y9, FTn2 R ii9 b9 c9 a9 s nm fv dv pv t9 k9 y9 w → FTn2 R ii9 b9 c9 a9 s nm fv dv pv t9 k9 y9 w' := fun hb k9 y9 h => by
      unfold FTn2 at *
      split at h <;> exact h
    intro i' hi'
    rw [sizeTn2] at hi'
    rcases (show i' = 0 ∨ i' = 1 ∨ i' = 2 ∨ i' = 3 ∨ i' = 4 ∨ i' = 5 ∨ i' = 6 ∨ i' = 7 ∨ i' = 8 ∨ i' = 9 ∨ i' = 10 by omega) with rfl | rfl | rfl | rfl | rfl | rfl | rfl | rfl | rfl | rfl | rfl
    · intro ll bb w' hs hlf hN hO hf hI hA
      clear hi'
      have q0 := hf.kept (s := 0) (by rw [sizeTn2]; kernel_rfl) k0
      exact Rg.op_value (o := ⟨some 10, Op.move (Operand.tmp 0), _, _, _, _⟩) (x := .pointer (some ⟨R, 0, none⟩)) rfl rfl (by clear hA HS hN hO hP hK; simp only [execOp]; go_simp) ⟨_, rfl, (fun h => by cases h), rfl, hI, fun _ _ _ _ h => h⟩
    · intro ll bb w' hs hlf hN hO hf hI hA
      clear hi'
      have q10 : bb.tmps[10]? = some _ := hf.tmp (k := 0) rfl (by rw [ha]; decide) (hA 0 (by kernel_rfl))
      exact Rg.op_value (o := ⟨some 11, Op.nilCheck (Operand.tmp 10), _, _, _, _⟩) (x := .pointer (some ⟨R, 0, none⟩)) rfl rfl (by clear hA HS hN hO hP hK; simp only [execOp]; go_simp) ⟨_, rfl, (fun h => by cases h), rfl, hI, fun _ _ _ _ h => h⟩
    · intro ll bb w' hs hlf hN hO hf hI hA
      clear hi'
      have q11 : bb.tmps[11]? = some _ := hf.tmp (k := 1) rfl (by rw [ha]; decide) (hA 1 (by kernel_rfl))
      exact Rg.op_value (o := ⟨some 12, Op.fieldAddr 110 (Operand.tmp 11) 0, _, _, _, _⟩) (x := .pointer (some ⟨R, 0, none⟩)) rfl rfl (by clear hA HS hN hO hP hK; simp only [execOp]; go_simp) ⟨_, rfl, (fun h => by cases h), rfl, hI, fun _ _ _ _ h => h⟩
    · intro ll bb w' hs hlf hN hO hf hI hA
      clear hi'
      have q12 : bb.tmps[12]? = some _ := hf.tmp (k := 2) rfl (by rw [ha]; decide) (hA 2 (by kernel_rfl))
      obtain ⟨e0, e1, e2, e3, e4, e5, e6, e7, e8⟩ := (hP.below hI).nine
      exact Rg.op_value (o := ⟨some 13, Op.load 9 (Operand.tmp 12), _, _, _, _⟩) (x := .string s) rfl rfl (by clear hA HS hN hO hP hK; simp only [execOp]; go_simp) ⟨_, rfl, (fun h => by cases h), rfl, hI, fun _ _ _ _ h => h⟩
    · intro ll bb w' hs hlf hN hO hf hI hA
      clear hi'
      have q0 := hf.kept (s := 0) (by rw [sizeTn2]; kernel_rfl) k0
      exact Rg.op_value (o := ⟨some 14, Op.move (Operand.tmp 0), _, _, _, _⟩) (x := .pointer (some ⟨R, 0, none⟩)) rfl rfl (by clear hA HS hN hO hP hK; simp only [execOp]; go_simp) ⟨_, rfl, (fun h => by cases h), rfl, hI, fun _ _ _ _ h => h⟩
    · intro ll bb w' hs hlf hN hO hf hI hA
      clear hi'
      have q14 : bb.tmps[14]? = some _ := hf.tmp (k := 4) rfl (by rw [ha]; decide) (hA 4 (by kernel_rfl))
      exact Rg.op_value (o := ⟨some 15, Op.nilCheck (Operand.tmp 14), _, _, _, _⟩) (x := .pointer (some ⟨R, 0, none⟩)) rfl rfl (by clear hA HS hN hO hP hK; simp only [execOp]; go_simp) ⟨_, rfl, (fun h => by cases h), rfl, hI, fun _ _ _ _ h => h⟩
    · intro ll bb w' hs hlf hN hO hf hI hA
      clear hi'
      have q15 : bb.tmps[15]? = some _ := hf.tmp (k := 5) rfl (by rw [ha]; decide) (hA 5 (by kernel_rfl))
      exact Rg.op_value (o := ⟨some 16, Op.fieldAddr 110 (Operand.tmp 15) 1, _, _, _, _⟩) (x := .pointer (some ⟨R, 1, none⟩)) rfl rfl (by clear hA HS hN hO hP hK; simp only [execOp]; go_simp) ⟨_, rfl, (fun h => by cases h), rfl, hI, fun _ _ _ _ h => h⟩
    · intro ll bb w' hs hlf hN hO hf hI hA
      clear hi'
      have q16 : bb.tmps[16]? = some _ := hf.tmp (k := 6) rfl (by rw [ha]; decide) (hA 6 (by kernel_rfl))
      obtain ⟨e0, e1, e2, e3, e4, e5, e6, e7, e8⟩ := (hP.below hI).nine
      exact Rg.op_value (o := ⟨some 17, Op.load 3 (Operand.tmp 16), _, _, _, _⟩) (x := .int .i64 (ii9 : Nat)) rfl rfl (by clear hA HS hN hO hP hK; simp only [execOp]; go_simp) ⟨_, rfl, (fun h => by cases h), rfl, hI, fun _ _ _ _ h => h⟩
    · intro ll bb w' hs hlf hN hO hf hI hA
      clear hi'
      have q13 : bb.tmps[13]? = some _ := hf.tmp (k := 3) rfl (by rw [ha]; decide) (hA 3 (by kernel_rfl))
      have q17 : bb.tmps[17]? = some _ := hf.tmp (k := 7) rfl (by rw [ha]; decide) (hA 7 (by kernel_rfl))
      have l0 : (0 : Int) ≤ (ii9 : Int) := Int.natCast_nonneg _
      have l1 : (ii9 : Int) ≤ (s.size : Int) := by omega
      exact Rg.op_value (o := ⟨some 18, Op.slice 9 (Operand.tmp 13) (some (Operand.tmp 17)) none none, _, _, _, _⟩) (x := .string (s.extract ii9 s.size)) rfl rfl (by clear hA HS hN hO hP hK; simp only [execOp]; go_simp) ⟨_, rfl, (fun h => by cases h), rfl, hI, fun _ _ _ _ h => h⟩
    · intro ll bb w' hs hlf hN hO hf hI hA
      clear hi'
      have q18 : bb.tmps[18]? = some _ := hf.tmp (k := 8) rfl (by rw [ha]; decide) (hA 8 (by kernel_rfl))
      refine Rg.op_call (o := ⟨some 19, Op.call { callee := Callee.value (Operand.func 136), args := #[(Operand.tmp 18)], argTypes := _ }, _, _, _, _⟩) rfl rfl (by clear hA HS hN hO hP hK; simp only [execOp, resolve]; go_simp) (hK w') ?_
      rintro e w2 ⟨rfl, rfl⟩
      exact ⟨_, rfl, _, rfl, (fun h => by cases h), rfl, hI, fun _ _ _ _ h => h⟩
    · intro ll bb w' hs hlf hN hO hf hI hA
      clear hi'
      have q19 : bb.tmps[19]? = some _ := hf.tmp (k := 9) rfl (by rw [ha]; decide) (hA 9 (by kernel_rfl))
      exact Rg.op_value (o := ⟨some 20, Op.unOp UnOp.not 4 (Operand.tmp 19), _, _, _, _⟩) (x := .bool (!t9)) rfl rfl (by clear hA HS hN hO hP hK; simp only [execOp]; go_simp) ⟨_, rfl, (fun h => by cases h), rfl, hI, fun _ _ _ _ h => h⟩
theorem dTn2_0 : Rg.dstAt (Rg.opsOf Try.f108 2) 0 = some 10 := by kernel_rfl
theorem dTn2_1 : Rg.dstAt (Rg.opsOf Try.f108 2) 1 = some 11 := by kernel_rfl
theorem dTn2_2 : Rg.dstAt (Rg.opsOf Try.f108 2) 2 = some 12 := by kernel_rfl
theorem dTn2_3 : Rg.dstAt (Rg.opsOf Try.f108 2) 3 = some 13 := by kernel_rfl
theorem dTn2_4 : Rg.dstAt (Rg.opsOf Try.f108 2) 4 = some 14 := by kernel_rfl
theorem dTn2_5 : Rg.dstAt (Rg.opsOf Try.f108 2) 5 = some 15 := by kernel_rfl
theorem dTn2_6 : Rg.dstAt (Rg.opsOf Try.f108 2) 6 = some 16 := by kernel_rfl
theorem dTn2_7 : Rg.dstAt (Rg.opsOf Try.f108 2) 7 = some 17 := by kernel_rfl
theorem dTn2_8 : Rg.dstAt (Rg.opsOf Try.f108 2) 8 = some 18 := by kernel_rfl
theorem dTn2_9 : Rg.dstAt (Rg.opsOf Try.f108 2) 9 = some 19 := by kernel_rfl
theorem dTn2_10 : Rg.dstAt (Rg.opsOf Try.f108 2) 10 = some 20 := by kernel_rfl
theorem layTn2 {a b : Act} (hf : Rg.Fr (Rg.opsOf Try.f108 2) a b) : b = (((((((((((a.put (some 10) (Rg.out (Rg.opsOf Try.f108 2) b 0)).put (some 11) (Rg.out (Rg.opsOf Try.f108 2) b 1)).put (some 12) (Rg.out (Rg.opsOf Try.f108 2) b 2)).put (some 13) (Rg.out (Rg.opsOf Try.f108 2) b 3)).put (some 14) (Rg.out (Rg.opsOf Try.f108 2) b 4)).put (some 15) (Rg.out (Rg.opsOf Try.f108 2) b 5)).put (some 16) (Rg.out (Rg.opsOf Try.f108 2) b 6)).put (some 17) (Rg.out (Rg.opsOf Try.f108 2) b 7)).put (some 18) (Rg.out (Rg.opsOf Try.f108 2) b 8)).put (some 19) (Rg.out (Rg.opsOf Try.f108 2) b 9)).put (some 20) (Rg.out (Rg.opsOf Try.f108 2) b 10)) := by
  have h := hf.chain
  rw [sizeTn2, show List.range 11 = [0, 1, 2, 3, 4, 5, 6, 7, 8, 9, 10] from by decide] at h
  simp only [List.foldl_cons, List.foldl_nil, dTn2_0, dTn2_1, dTn2_2, dTn2_3, dTn2_4, dTn2_5, dTn2_6, dTn2_7, dTn2_8, dTn2_9, dTn2_10] at h
  exact h
set_option maxRecDepth 20000 in
set_option maxHeartbeats 8000000 in
theorem takeN_no (s : ByteArray) (i b : Nat) (nm : ByteArray) (fv dv pv : Value) (c a R : Nat) (w : World) (h : PB w R (rdC s i b nm fv dv pv c a) 110) (hi : i < s.size) (hs : s.size ≤ 1048576) (hg : ¬ goodName s i) :
    Calls Try.prog 108 #[.pointer (some ⟨R, 0, none⟩)] w fun e w' => e = .returned (.bool false) ∧ PB w' R (rdC s i i nm fv dv pv c a) 110 ∧ Keep R w w' := by
  obtain ⟨p0, p1, p2, p3, p4, p5, p6, p7, p8⟩ := h.nine
  have f2 := h.frozen 2
  have kb : ∀ W, Calls Try.prog 136 #[.string (s.extract i s.size)] W fun e W' => e = .returned (.bool (gnB (s.extract i s.size))) ∧ W' = W := fun W => (begins_any (s.extract i s.size) W (by rw [ByteArray.size_extract]; omega)).mono (fun _ _ h => ⟨h.1, h.2.symm⟩)
  rw [gn_ext hi, decide_eq_false hg] at kb
  have HP1 := hidden (h.put 2 (.int .i64 i) (vs' := rdC s i i nm fv dv pv c a) rfl)
  have HK1 := hidden ((Keep.refl R w).set (j := 2) (.int .i64 i))
  clear h hg
  go_enter Try.func108, Try.ntmps108
  go_upto_region 2 with fail
  refine regTn2 (R := R) (ii9 := i) (t9 := false) rfl rfl HP1.out (by omega) kb ?_
  intro b' w2 hf hb2 hv
  rw [layTn2 hf, hv]
  clear hv hf
  generalize Rg.out (Rg.opsOf Try.f108 2) b' 0 = y0
  generalize Rg.out (Rg.opsOf Try.f108 2) b' 1 = y1
  generalize Rg.out (Rg.opsOf Try.f108 2) b' 2 = y2
  generalize Rg.out (Rg.opsOf Try.f108 2) b' 3 = y3
  generalize Rg.out (Rg.opsOf Try.f108 2) b' 4 = y4
  generalize Rg.out (Rg.opsOf Try.f108 2) b' 5 = y5
  generalize Rg.out (Rg.opsOf Try.f108 2) b' 6 = y6
  generalize Rg.out (Rg.opsOf Try.f108 2) b' 7 = y7
  generalize Rg.out (Rg.opsOf Try.f108 2) b' 8 = y8
  generalize Rg.out (Rg.opsOf Try.f108 2) b' 9 = y9
  have HP2 := hidden (HP1.out.below hb2)
  have HK2 := hidden (HK1.out.trans (Keep.of_below (g := R) hb2))
  clear HP1 HK1 hb2
  go_frame
  go_wp2_with fail
  go_ret
  exact ⟨rfl, HP2.out, HK2.out⟩
set_option maxRecDepth 20000 in
set_option maxHeartbeats 8000000 in
theorem takeN_yes (s : ByteArray) (i b : Nat) (nm : ByteArray) (fv dv pv : Value) (c a R : Nat) (w : World) (h : PB w R (rdC s i b nm fv dv pv c a) 110) (hs : s.size ≤ 1048576) (hg : goodName s i) :
    Calls Try.prog 108 #[.pointer (some ⟨R, 0, none⟩)] w fun e w' => e = .returned (.bool true) ∧ ∃ F, w.heap.size ≤ F ∧ PB w' R (rdC s (i + 3) i (s.extract i (i + 3)) (.slice (some ⟨F, 0, none⟩) 0 0) dv pv c a) 110 ∧ PB w' F #[] 9 ∧ Keep R w w' := by
  have hi3 := hg.1
  obtain ⟨p0, p1, p2, p3, p4, p5, p6, p7, p8⟩ := h.nine
  have f2 := h.frozen 2
  have hRl := h.lt
  have kb : ∀ W, Calls Try.prog 136 #[.string (s.extract i s.size)] W fun e W' => e = .returned (.bool (gnB (s.extract i s.size))) ∧ W' = W := fun W => (begins_any (s.extract i s.size) W (by rw [ByteArray.size_extract]; omega)).mono (fun _ _ h => ⟨h.1, h.2.symm⟩)
  rw [gn_ext (by omega), decide_eq_true hg] at kb
  have HP1 := hidden (h.put 2 (.int .i64 i) (vs' := rdC s i i nm fv dv pv c a) rfl)
  have HK1 := hidden ((Keep.refl R w).set (j := 2) (.int .i64 i))
  have kc := fun W => clone_any (s.extract i (i + 3)) (by rw [ByteArray.size_extract]; omega) W
  obtain ⟨i3, hi3e⟩ : ∃ i3, i3 = i + 3 := ⟨_, rfl⟩
  have hw1 : IntKind.i64.wrap ((i : Int) + 3) = (i3 : Int) := by rw [IntKind.wrap_i64]; omega
  rw [← hi3e] at kc ⊢
  have HI3 := hidden hi3e
  clear h hg hi3e
  go_enter Try.func108, Try.ntmps108
  go_upto_region 2 with fail
  refine regTn2 (R := R) (ii9 := i) (t9 := true) rfl rfl HP1.out (by omega) kb ?_
  intro b' w2 hf hb2 hv
  rw [layTn2 hf, hv]
  clear hv hf
  generalize Rg.out (Rg.opsOf Try.f108 2) b' 0 = y0
  generalize Rg.out (Rg.opsOf Try.f108 2) b' 1 = y1
  generalize Rg.out (Rg.opsOf Try.f108 2) b' 2 = y2
  generalize Rg.out (Rg.opsOf Try.f108 2) b' 3 = y3
  generalize Rg.out (Rg.opsOf Try.f108 2) b' 4 = y4
  generalize Rg.out (Rg.opsOf Try.f108 2) b' 5 = y5
  generalize Rg.out (Rg.opsOf Try.f108 2) b' 6 = y6
  generalize Rg.out (Rg.opsOf Try.f108 2) b' 7 = y7
  generalize Rg.out (Rg.opsOf Try.f108 2) b' 8 = y8
  generalize Rg.out (Rg.opsOf Try.f108 2) b' 9 = y9
  have HP2 := hidden (HP1.out.below hb2)
  have HK2 := hidden (HK1.out.trans (Keep.of_below (g := R) hb2))
  clear HP1 HK1 hb2
  go_frame
  obtain ⟨q0, q1, q2, q3, q4, q5, q6, q7, q8⟩ := HP2.out.nine
  have f1 := HP2.out.frozen 1
  have HP3 := hidden (HP2.out.put 1 (.int .i64 (i3 : Int)) (vs' := rdC s i3 i nm fv dv pv c a) rfl)
  have HK3 := hidden (HK2.out.set (j := 1) (.int .i64 (i3 : Int)))
  clear HP2 HK2 p0 p1 p2 p3 p4 p5 p6 p7 p8 f2 kb
  go_upto_region 5 with fail
  generalize w2.setCell ⟨R, 1, none⟩ (.int .i64 (i3 : Int)) = w3 at *
  refine regTn5 (R := R) (i3 := i3) (n2 := s.extract i i3) rfl rfl HP3.out rfl (by have := HI3.out; omega) (by have := HI3.out; omega) hs kc ?_
  intro b' w5 hf ⟨w8, F, hb8, hF, hFl, hw5⟩
  rw [layTn5 hf]
  clear hf
  generalize Rg.out (Rg.opsOf Try.f108 5) b' 0 = y0
  generalize Rg.out (Rg.opsOf Try.f108 5) b' 1 = y1
  generalize Rg.out (Rg.opsOf Try.f108 5) b' 2 = y2
  generalize Rg.out (Rg.opsOf Try.f108 5) b' 3 = y3
  generalize Rg.out (Rg.opsOf Try.f108 5) b' 4 = y4
  generalize Rg.out (Rg.opsOf Try.f108 5) b' 5 = y5
  generalize Rg.out (Rg.opsOf Try.f108 5) b' 6 = y6
  generalize Rg.out (Rg.opsOf Try.f108 5) b' 7 = y7
  generalize Rg.out (Rg.opsOf Try.f108 5) b' 8 = y8
  generalize Rg.out (Rg.opsOf Try.f108 5) b' 9 = y9
  generalize Rg.out (Rg.opsOf Try.f108 5) b' 10 = y10
  generalize Rg.out (Rg.opsOf Try.f108 5) b' 11 = y11
  generalize Rg.out (Rg.opsOf Try.f108 5) b' 12 = y12
  generalize Rg.out (Rg.opsOf Try.f108 5) b' 13 = y13
  generalize Rg.out (Rg.opsOf Try.f108 5) b' 14 = y14
  generalize Rg.out (Rg.opsOf Try.f108 5) b' 15 = y15
  generalize Rg.out (Rg.opsOf Try.f108 5) b' 16 = y16
  generalize Rg.out (Rg.opsOf Try.f108 5) b' 17 = y17
  generalize Rg.out (Rg.opsOf Try.f108 5) b' 18 = y18
  have HP8 := HP3.out.below hb8
  have HP5 := hidden ((HP8.put 3 (.string (s.extract i i3)) (vs' := rdC s i3 i (s.extract i i3) fv dv pv c a) rfl).put 4 (.slice (some ⟨F, 0, none⟩) 0 0) (vs' := rdC s i3 i (s.extract i i3) (.slice (some ⟨F, 0, none⟩) 0 0) dv pv c a) rfl)
  have HK5 := hidden (((HK3.out.trans (Keep.of_below (g := R) hb8)).set (j := 3) (.string (s.extract i i3))).set (j := 4) (.slice (some ⟨F, 0, none⟩) 0 0))
  have hRF : R ≠ F := by have := HP3.out.lt; omega
  have HF5 := hidden ((hF.far hRF 3 (.string (s.extract i i3))).far hRF 4 (.slice (some ⟨F, 0, none⟩) 0 0))
  have hFw : w.heap.size ≤ F := Nat.le_trans HK3.out.size hFl
  subst hw5
  clear HP8 HP3 HK3 hF hb8 hFl
  go_frame
  go_wp2_with fail
  go_ret
  exact ⟨rfl, F, hFw, HP5.out, HF5.out, HK5.out⟩
set_option maxRecDepth 20000 in
set_option maxHeartbeats 8000000 in
theorem endF_any (s : ByteArray) (i b : Nat) (nm : ByteArray) (fv dv pv : Value) (c a R K Kd : Nat) (fs : List ByteArray) (fd : List Nat) (w : World) (h : PB w R (rdC s i b nm fv dv pv c a) 110)
    (hK : K ≤ w.heap.size) (hF : w.ownsRow K 9 1 fv fs.length (strV fs)) (hD : w.ownsRow Kd 5 1 dv fd.length (bytV fd)) (hfd : ∀ x ∈ fd, x < 256) (hn : fs.length ≤ 1048576) :
    Calls Try.prog 111 #[.pointer (some ⟨R, 0, none⟩)] w fun e w' => e = .returned (.tuple #[]) ∧ ∃ fa fc, PB w' R (rdC s i b nm (.slice fa (fs.length + 1) fc) dv pv c a) 110 ∧ w'.ownsRow K 9 1 (.slice fa (fs.length + 1) fc) (fs.length + 1) (strV (fs ++ [bsOf fd])) ∧ Two R fv.ownBlock w w' := by
  have hDR := ownU_ty hD h (by decide)
  have hDF := own_apartB hD hF (by decide)
  have hconv := fun W (hW : Two R fv.ownBlock w W) => conv_own (hW.own hD hDR hDF) hfd
  go_enter Try.func111, Try.ntmps111
  go_upto_region 0 with fail
  refine regEf0 (base := K) (vs := fv) (nn := fs.length) (xs := strV fs) (R := R) (i9 := i) (b9 := b) (c9 := c) (a9 := a) (x9 := bsOf fd) (dv := dv) (pv := pv) rfl rfl hK trivial h hF trivial hn hconv ?_
  intro b' w' v hf h2 _ hP ⟨fa, fc, hv⟩ ho
  subst hv
  rw [layEf0 hf]
  clear hf
  generalize Rg.out (Rg.opsOf Try.f111 0) b' 0 = y0
  generalize Rg.out (Rg.opsOf Try.f111 0) b' 1 = y1
  generalize Rg.out (Rg.opsOf Try.f111 0) b' 2 = y2
  generalize Rg.out (Rg.opsOf Try.f111 0) b' 3 = y3
  generalize Rg.out (Rg.opsOf Try.f111 0) b' 4 = y4
  generalize Rg.out (Rg.opsOf Try.f111 0) b' 5 = y5
  generalize Rg.out (Rg.opsOf Try.f111 0) b' 6 = y6
  generalize Rg.out (Rg.opsOf Try.f111 0) b' 7 = y7
  generalize Rg.out (Rg.opsOf Try.f111 0) b' 8 = y8
  generalize Rg.out (Rg.opsOf Try.f111 0) b' 9 = y9
  generalize Rg.out (Rg.opsOf Try.f111 0) b' 10 = y10
  generalize Rg.out (Rg.opsOf Try.f111 0) b' 11 = y11
  generalize Rg.out (Rg.opsOf Try.f111 0) b' 12 = y12
  generalize Rg.out (Rg.opsOf Try.f111 0) b' 13 = y13
  generalize Rg.out (Rg.opsOf Try.f111 0) b' 14 = y14
  generalize Rg.out (Rg.opsOf Try.f111 0) b' 15 = y15
  have HP := hidden hP
  have HO := hidden ho
  have H2 := hidden h2
  clear hP ho h2
  go_frame
  go_wp2_with fail
  go_end0
  exact ⟨rfl, fa, fc, HP.out, by have := HO.out; rw [show strV (fs ++ [bsOf fd]) = strV fs ++ [.string (bsOf fd)] from by simp [strV]]; exact this, H2.out⟩
end Go.Proofs.Ytgcpiinmcbdkmaa
