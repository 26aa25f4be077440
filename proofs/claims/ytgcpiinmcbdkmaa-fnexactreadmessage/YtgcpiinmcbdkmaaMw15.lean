/-
  Merged: Rm5.
-/
import Derived.Test.YtgcpiinmcbdkmaaMw12
import Derived.Test.YtgcpiinmcbdkmaaMw14
import Derived.Deep.RegionWith
namespace Go.Proofs.Ytgcpiinmcbdkmaa
open Go.RowKit Va Ms
set_option linter.all false
theorem flag_other {ll : Array Bool} {i j : Nat} (h : i ≠ j) : (ll.setIfInBounds i true).getD j false = ll.getD j false := by
  rw [Array.getD_eq_getD_getElem?, Array.getElem?_setIfInBounds_ne h, Array.getD_eq_getD_getElem?]
theorem flag_keep {ll : Array Bool} {i j : Nat} (h : i ≠ j) (q : (ll.setIfInBounds i true).getD j false = false) : ll.getD j false = false := by
  rw [Array.getD_eq_getD_getElem?, Array.getElem?_setIfInBounds_ne h] at q
  rw [Array.getD_eq_getD_getElem?]; exact q
theorem flag_set {ll : Array Bool} {i : Nat} (h : i < ll.size) : (ll.setIfInBounds i true).getD i false = true := by
  rw [Array.getD_eq_getD_getElem?, Array.getElem?_setIfInBounds_self_of_lt h]; rfl
theorem gn_ext {s : ByteArray} {i : Nat} (hi : i < s.size) : gnB (s.extract i s.size) = decide (goodName s i) := by
  have hz : (s.extract i s.size).size = s.size - i := by rw [ByteArray.size_extract]; omega
  unfold gnB
  rw [hz]
  by_cases h3 : i + 3 < s.size
  · have e1 : (s.extract i s.size).extract 0 3 = s.extract i (i + 3) := by rw [ByteArray.extract_extract]; congr 1; omega
    have e2 : nb (s.extract i s.size) 3 = nb s (i + 3) := by
      unfold nb
      show ((s.extract i s.size).data[3]!).toNat = (s.data[i + 3]!).toNat
      have hl : s.data.size = s.size := rfl
      rw [ByteArray.data_extract, getElem!_pos _ _ (by rw [Array.size_extract]; omega), getElem!_pos _ _ (by omega), Array.getElem_extract]
    rw [e1, e2, decide_eq_true (show 3 < s.size - i by omega), Bool.true_and]
    unfold goodName
    rw [Bool.eq_iff_iff]
    simp [h3]
  · rw [decide_eq_false (show ¬ 3 < s.size - i by omega), Bool.false_and]
    exact (decide_eq_false (fun q => h3 q.1)).symm
theorem clone_any (s : ByteArray) (hs : s.size ≤ 1048576) (w : World) : Calls Try.prog 137 #[.string s] w fun e w' => e = .returned (.string s) ∧ Below w.heap.size w w' := by
  have k := fun W => Try.stringslite_Clone s W (by omega)
  go_enter Try.func137, Try.ntmps137
  go_wp2_with fail
  refine (k _).mono ?_
  rintro e w1 ⟨rfl, hb1⟩
  go_wp2_with fail
  go_ret
  exact ⟨rfl, hb1⟩
def FTn5 (w9 : World) (R i3 b c9 a9 : Nat) (s nm n2 : ByteArray) (fv dv pv : Value) (i9 : Nat) (v : Value) (w : World) : Prop :=
  match i9 with
  | 0 => v = .pointer (some ⟨R, 0, none⟩)
  | 1 => v = .pointer (some ⟨R, 0, none⟩)
  | 2 => v = .pointer (some ⟨R, 0, none⟩)
  | 3 => v = .pointer (some ⟨R, 0, none⟩)
  | 4 => v = .string s
  | 5 => v = .pointer (some ⟨R, 0, none⟩)
  | 6 => v = .pointer (some ⟨R, 0, none⟩)
  | 7 => v = .pointer (some ⟨R, 2, none⟩)
  | 8 => v = .int .i64 b
  | 9 => v = .pointer (some ⟨R, 0, none⟩)
  | 10 => v = .pointer (some ⟨R, 0, none⟩)
  | 11 => v = .pointer (some ⟨R, 1, none⟩)
  | 12 => v = .int .i64 i3
  | 13 => v = .string n2
  | 14 => v = .string n2
  | 15 => ∃ F, v = .slice (some ⟨F, 0, none⟩) 0 0 ∧ PB w F #[] 9 ∧ w9.heap.size ≤ F
  | 16 => ∃ F, v = .agg #[.string n2, .slice (some ⟨F, 0, none⟩) 0 0] ∧ PB w F #[] 9 ∧ w9.heap.size ≤ F
  | 17 => v = .pointer (some ⟨R, 0, none⟩)
  | 18 => v = .pointer (some ⟨R, 3, none⟩)
  | 19 => v = undef
  | _ => True
theorem sizeTn5 : (Rg.opsOf Try.f108 5).size = 20 := by kernel_rfl
set_option maxRecDepth 20000 in
set_option maxHeartbeats 8000000 in
theorem regTn5 {Q : Exit → Act → World → Prop} {a : Act} {w9 : World} {R i3 b c9 a9 : Nat} {s nm n2 : ByteArray} {fv dv pv : Value} (ha : a.tmps.size = 47)
    (k0 : a.tmps[0]? = some (.pointer (some ⟨R, 0, none⟩))) (hP : PB w9 R (rdC s i3 b nm fv dv pv c9 a9) 110) (hsl : s.extract b i3 = n2) (hbl : b ≤ i3) (hil : i3 ≤ s.size) (hsz : s.size ≤ 1048576) (hK : ∀ W, Calls Try.prog 137 #[.string n2] W fun e w' => e = .returned (.string n2) ∧ Below W.heap.size W w')
    (hend : ∀ b' w', Rg.Fr (Rg.opsOf Try.f108 5) a b' → (∃ w8 F, Below w9.heap.size w9 w8 ∧ PB w8 F #[] 9 ∧ w9.heap.size ≤ F ∧ w' = (w8.setCell ⟨R, 3, none⟩ (.string n2)).setCell ⟨R, 4, none⟩ (.slice (some ⟨F, 0, none⟩) 0 0)) → Q .normal b' w') :
    (Code.region 5 (Rg.opsOf Try.f108 5) true).wp Try.prog Q a w9 := by
  refine Rg.region_set3 (by kernel_rfl) (fun ll9 w' => (ll9.getD 19 false = false → Below w9.heap.size w9 w') ∧ (ll9.getD 19 false = true → ∃ w8 F, Below w9.heap.size w9 w8 ∧ PB w8 F #[] 9 ∧ w9.heap.size ≤ F ∧ w' = (w8.setCell ⟨R, 3, none⟩ (.string n2)).setCell ⟨R, 4, none⟩ (.slice (some ⟨F, 0, none⟩) 0 0))) (FTn5 w9 R i3 b c9 a9 s nm n2 fv dv pv) (by rw [ha, sizeTn5]; kernel_rfl) ⟨fun _ => st_drew (Below.refl _ _), fun q => by rw [sizeTn5] at q; exact absurd q (by decide)⟩ ?_ ?_
  case refine_2 =>
    intro l b' w' hf hall hI hA
    rw [sizeTn5] at hA
    exact hend b' w' hf (hI.2 (hall 19 (by rw [sizeTn5]; decide)))
  case refine_1 =>
    clear hend
    have HS : ∀ {w w' : World}, Below w.heap.size w w' → ∀ k9 y9, FTn5 w9 R i3 b c9 a9 s nm n2 fv dv pv k9 y9 w → FTn5 w9 R i3 b c9 a9 s nm n2 fv dv pv k9 y9 w' := fun hb k9 y9 h => by
      unfold FTn5 at *
      split at h <;> first | exact h | (obtain ⟨F, h1, h2, h3⟩ := h; exact ⟨F, h1, h2.below hb, h3⟩)
    intro i' hi'
    rw [sizeTn5] at hi'
    rcases (show i' = 0 ∨ i' = 1 ∨ i' = 2 ∨ i' = 3 ∨ i' = 4 ∨ i' = 5 ∨ i' = 6 ∨ i' = 7 ∨ i' = 8 ∨ i' = 9 ∨ i' = 10 ∨ i' = 11 ∨ i' = 12 ∨ i' = 13 ∨ i' = 14 ∨ i' = 15 ∨ i' = 16 ∨ i' = 17 ∨ i' = 18 ∨ i' = 19 by omega) with rfl | rfl | rfl | rfl | rfl | rfl | rfl | rfl | rfl | rfl | rfl | rfl | rfl | rfl | rfl | rfl | rfl | rfl | rfl | rfl
    · intro ll bb w' hs hlf hN hO hf hI hA
      clear hi'
      have q0 := hf.kept (s := 0) (by rw [sizeTn5]; kernel_rfl) k0
      exact Rg.op_value (o := ⟨some 28, Op.move (Operand.tmp 0), _, _, _, _⟩) (x := .pointer (some ⟨R, 0, none⟩)) rfl rfl (by clear hA HS hN hO hP hK; simp only [execOp]; go_simp) ⟨_, rfl, (fun h => by cases h), rfl, ⟨fun q => hI.1 (flag_keep (by decide) q), fun q => hI.2 (by rw [flag_other (by decide)] at q; exact q)⟩, fun _ _ _ _ h => h⟩
    · intro ll bb w' hs hlf hN hO hf hI hA
      clear hi'
      have q0 := hf.kept (s := 0) (by rw [sizeTn5]; kernel_rfl) k0
      exact Rg.op_value (o := ⟨some 29, Op.move (Operand.tmp 0), _, _, _, _⟩) (x := .pointer (some ⟨R, 0, none⟩)) rfl rfl (by clear hA HS hN hO hP hK; simp only [execOp]; go_simp) ⟨_, rfl, (fun h => by cases h), rfl, ⟨fun q => hI.1 (flag_keep (by decide) q), fun q => hI.2 (by rw [flag_other (by decide)] at q; exact q)⟩, fun _ _ _ _ h => h⟩
    · intro ll bb w' hs hlf hN hO hf hI hA
      clear hi'
      have q29 : bb.tmps[29]? = some _ := hf.tmp (k := 1) rfl (by rw [ha]; decide) (hA 1 (by kernel_rfl))
      exact Rg.op_value (o := ⟨some 30, Op.nilCheck (Operand.tmp 29), _, _, _, _⟩) (x := .pointer (some ⟨R, 0, none⟩)) rfl rfl (by clear hA HS hN hO hP hK; simp only [execOp]; go_simp) ⟨_, rfl, (fun h => by cases h), rfl, ⟨fun q => hI.1 (flag_keep (by decide) q), fun q => hI.2 (by rw [flag_other (by decide)] at q; exact q)⟩, fun _ _ _ _ h => h⟩
    · intro ll bb w' hs hlf hN hO hf hI hA
      clear hi'
      have q30 : bb.tmps[30]? = some _ := hf.tmp (k := 2) rfl (by rw [ha]; decide) (hA 2 (by kernel_rfl))
      exact Rg.op_value (o := ⟨some 31, Op.fieldAddr 110 (Operand.tmp 30) 0, _, _, _, _⟩) (x := .pointer (some ⟨R, 0, none⟩)) rfl rfl (by clear hA HS hN hO hP hK; simp only [execOp]; go_simp) ⟨_, rfl, (fun h => by cases h), rfl, ⟨fun q => hI.1 (flag_keep (by decide) q), fun q => hI.2 (by rw [flag_other (by decide)] at q; exact q)⟩, fun _ _ _ _ h => h⟩
    · intro ll bb w' hs hlf hN hO hf hI hA
      clear hi'
      have q31 : bb.tmps[31]? = some _ := hf.tmp (k := 3) rfl (by rw [ha]; decide) (hA 3 (by kernel_rfl))
      have h9 := (hP.below (hI.1 (hN 19 (by kernel_rfl)))).nine
      obtain ⟨e0, e1, e2, e3, e4, e5, e6, e7, e8⟩ := h9
      exact Rg.op_value (o := ⟨some 32, Op.load 9 (Operand.tmp 31), _, _, _, _⟩) (x := .string s) rfl rfl (by clear hA HS hN hO hP hK; simp only [execOp]; go_simp) ⟨_, rfl, (fun h => by cases h), rfl, ⟨fun q => hI.1 (flag_keep (by decide) q), fun q => hI.2 (by rw [flag_other (by decide)] at q; exact q)⟩, fun _ _ _ _ h => h⟩
    · intro ll bb w' hs hlf hN hO hf hI hA
      clear hi'
      have q0 := hf.kept (s := 0) (by rw [sizeTn5]; kernel_rfl) k0
      exact Rg.op_value (o := ⟨some 33, Op.move (Operand.tmp 0), _, _, _, _⟩) (x := .pointer (some ⟨R, 0, none⟩)) rfl rfl (by clear hA HS hN hO hP hK; simp only [execOp]; go_simp) ⟨_, rfl, (fun h => by cases h), rfl, ⟨fun q => hI.1 (flag_keep (by decide) q), fun q => hI.2 (by rw [flag_other (by decide)] at q; exact q)⟩, fun _ _ _ _ h => h⟩
    · intro ll bb w' hs hlf hN hO hf hI hA
      clear hi'
      have q33 : bb.tmps[33]? = some _ := hf.tmp (k := 5) rfl (by rw [ha]; decide) (hA 5 (by kernel_rfl))
      exact Rg.op_value (o := ⟨some 34, Op.nilCheck (Operand.tmp 33), _, _, _, _⟩) (x := .pointer (some ⟨R, 0, none⟩)) rfl rfl (by clear hA HS hN hO hP hK; simp only [execOp]; go_simp) ⟨_, rfl, (fun h => by cases h), rfl, ⟨fun q => hI.1 (flag_keep (by decide) q), fun q => hI.2 (by rw [flag_other (by decide)] at q; exact q)⟩, fun _ _ _ _ h => h⟩
    · intro ll bb w' hs hlf hN hO hf hI hA
      clear hi'
      have q34 : bb.tmps[34]? = some _ := hf.tmp (k := 6) rfl (by rw [ha]; decide) (hA 6 (by kernel_rfl))
      exact Rg.op_value (o := ⟨some 35, Op.fieldAddr 110 (Operand.tmp 34) 2, _, _, _, _⟩) (x := .pointer (some ⟨R, 2, none⟩)) rfl rfl (by clear hA HS hN hO hP hK; simp only [execOp]; go_simp) ⟨_, rfl, (fun h => by cases h), rfl, ⟨fun q => hI.1 (flag_keep (by decide) q), fun q => hI.2 (by rw [flag_other (by decide)] at q; exact q)⟩, fun _ _ _ _ h => h⟩
    · intro ll bb w' hs hlf hN hO hf hI hA
      clear hi'
      have q35 : bb.tmps[35]? = some _ := hf.tmp (k := 7) rfl (by rw [ha]; decide) (hA 7 (by kernel_rfl))
      have h9 := (hP.below (hI.1 (hN 19 (by kernel_rfl)))).nine
      obtain ⟨e0, e1, e2, e3, e4, e5, e6, e7, e8⟩ := h9
      exact Rg.op_value (o := ⟨some 36, Op.load 3 (Operand.tmp 35), _, _, _, _⟩) (x := .int .i64 b) rfl rfl (by clear hA HS hN hO hP hK; simp only [execOp]; go_simp) ⟨_, rfl, (fun h => by cases h), rfl, ⟨fun q => hI.1 (flag_keep (by decide) q), fun q => hI.2 (by rw [flag_other (by decide)] at q; exact q)⟩, fun _ _ _ _ h => h⟩
    · intro ll bb w' hs hlf hN hO hf hI hA
      clear hi'
      have q0 := hf.kept (s := 0) (by rw [sizeTn5]; kernel_rfl) k0
      exact Rg.op_value (o := ⟨some 37, Op.move (Operand.tmp 0), _, _, _, _⟩) (x := .pointer (some ⟨R, 0, none⟩)) rfl rfl (by clear hA HS hN hO hP hK; simp only [execOp]; go_simp) ⟨_, rfl, (fun h => by cases h), rfl, ⟨fun q => hI.1 (flag_keep (by decide) q), fun q => hI.2 (by rw [flag_other (by decide)] at q; exact q)⟩, fun _ _ _ _ h => h⟩
    · intro ll bb w' hs hlf hN hO hf hI hA
      clear hi'
      have q37 : bb.tmps[37]? = some _ := hf.tmp (k := 9) rfl (by rw [ha]; decide) (hA 9 (by kernel_rfl))
      exact Rg.op_value (o := ⟨some 38, Op.nilCheck (Operand.tmp 37), _, _, _, _⟩) (x := .pointer (some ⟨R, 0, none⟩)) rfl rfl (by clear hA HS hN hO hP hK; simp only [execOp]; go_simp) ⟨_, rfl, (fun h => by cases h), rfl, ⟨fun q => hI.1 (flag_keep (by decide) q), fun q => hI.2 (by rw [flag_other (by decide)] at q; exact q)⟩, fun _ _ _ _ h => h⟩
    · intro ll bb w' hs hlf hN hO hf hI hA
      clear hi'
      have q38 : bb.tmps[38]? = some _ := hf.tmp (k := 10) rfl (by rw [ha]; decide) (hA 10 (by kernel_rfl))
      exact Rg.op_value (o := ⟨some 39, Op.fieldAddr 110 (Operand.tmp 38) 1, _, _, _, _⟩) (x := .pointer (some ⟨R, 1, none⟩)) rfl rfl (by clear hA HS hN hO hP hK; simp only [execOp]; go_simp) ⟨_, rfl, (fun h => by cases h), rfl, ⟨fun q => hI.1 (flag_keep (by decide) q), fun q => hI.2 (by rw [flag_other (by decide)] at q; exact q)⟩, fun _ _ _ _ h => h⟩
    · intro ll bb w' hs hlf hN hO hf hI hA
      clear hi'
      have q39 : bb.tmps[39]? = some _ := hf.tmp (k := 11) rfl (by rw [ha]; decide) (hA 11 (by kernel_rfl))
      have h9 := (hP.below (hI.1 (hN 19 (by kernel_rfl)))).nine
      obtain ⟨e0, e1, e2, e3, e4, e5, e6, e7, e8⟩ := h9
      exact Rg.op_value (o := ⟨some 40, Op.load 3 (Operand.tmp 39), _, _, _, _⟩) (x := .int .i64 i3) rfl rfl (by clear hA HS hN hO hP hK; simp only [execOp]; go_simp) ⟨_, rfl, (fun h => by cases h), rfl, ⟨fun q => hI.1 (flag_keep (by decide) q), fun q => hI.2 (by rw [flag_other (by decide)] at q; exact q)⟩, fun _ _ _ _ h => h⟩
    · intro ll bb w' hs hlf hN hO hf hI hA
      clear hi'
      have q32 : bb.tmps[32]? = some _ := hf.tmp (k := 4) rfl (by rw [ha]; decide) (hA 4 (by kernel_rfl))
      have q36 : bb.tmps[36]? = some _ := hf.tmp (k := 8) rfl (by rw [ha]; decide) (hA 8 (by kernel_rfl))
      have q40 : bb.tmps[40]? = some _ := hf.tmp (k := 12) rfl (by rw [ha]; decide) (hA 12 (by kernel_rfl))
      have hs9 := hsl
      have l1 : (b : Int) ≤ (i3 : Int) := by omega
      have l2 : (i3 : Int) ≤ (s.size : Int) := by omega
      exact Rg.op_value (o := ⟨some 41, Op.slice 9 (Operand.tmp 32) (some (Operand.tmp 36)) (some (Operand.tmp 40)) none, _, _, _, _⟩) (x := .string n2) rfl rfl (by clear hA HS hN hO hP hK; simp only [execOp]; go_simp) ⟨_, rfl, (fun h => by cases h), rfl, ⟨fun q => hI.1 (flag_keep (by decide) q), fun q => hI.2 (by rw [flag_other (by decide)] at q; exact q)⟩, fun _ _ _ _ h => h⟩
    · intro ll bb w' hs hlf hN hO hf hI hA
      clear hi'
      have q41 : bb.tmps[41]? = some _ := hf.tmp (k := 13) rfl (by rw [ha]; decide) (hA 13 (by kernel_rfl))
      refine Rg.op_call (o := ⟨some 42, Op.call { callee := Callee.value (Operand.func 137), args := #[(Operand.tmp 41)], argTypes := _ }, _, _, _, _⟩) rfl rfl (by clear hA HS hN hO hP hK; simp only [execOp, resolve]; go_simp) (hK w') ?_
      rintro e w2 ⟨rfl, hb2⟩
      exact ⟨_, rfl, _, rfl, (fun h => by cases h), rfl, ⟨fun q => onto (hI.1 (flag_keep (by decide) q)) hb2, fun q => absurd q (by rw [flag_other (by decide), hN 19 (by kernel_rfl)]; decide)⟩, fun k9 y9 _ _ h => HS hb2 k9 y9 h⟩
    · intro ll bb w' hs hlf hN hO hf hI hA
      clear hi'
      have hal : Below w'.heap.size w' (w'.alloc (.cells #[] 9)) := (Below.refl _ _).alloc (Nat.le_refl _) _
      exact Rg.op_value (o := ⟨some 43, Op.buildSlice 104 0 #[], _, _, _, _⟩) (x := .slice (some ⟨w'.heap.size, 0, none⟩) 0 0) (w' := w'.alloc (.cells #[] 9)) rfl rfl (by clear hA HS hN hO hP hK; simp only [execOp]; go_simp) ⟨_, rfl, (fun h => by cases h), ⟨w'.heap.size, rfl, PB.new w' _ _, (hI.1 (hN 19 (by kernel_rfl))).size⟩, ⟨fun q => onto (hI.1 (flag_keep (by decide) q)) hal, fun q => absurd q (by rw [flag_other (by decide), hN 19 (by kernel_rfl)]; decide)⟩, fun k9 y9 _ _ h => HS hal k9 y9 h⟩
    · intro ll bb w' hs hlf hN hO hf hI hA
      clear hi'
      have q42 : bb.tmps[42]? = some _ := hf.tmp (k := 14) rfl (by rw [ha]; decide) (hA 14 (by kernel_rfl))
      obtain ⟨F, h1, h2, h3⟩ := hA 15 (by kernel_rfl)
      have q43 : bb.tmps[43]? = some (.slice (some ⟨F, 0, none⟩) 0 0) := hf.tmp (k := 15) rfl (by rw [ha]; decide) h1
      exact Rg.op_value (o := ⟨some 44, Op.build 106 #[(0, (Operand.tmp 42)), (1, (Operand.tmp 43))], _, _, _, _⟩) (x := .agg #[.string n2, .slice (some ⟨F, 0, none⟩) 0 0]) rfl rfl (by clear hA HS hN hO hP hK h1; simp only [execOp]; go_simp) ⟨_, rfl, (fun h => by cases h), ⟨F, rfl, h2, h3⟩, ⟨fun q => hI.1 (flag_keep (by decide) q), fun q => hI.2 (by rw [flag_other (by decide)] at q; exact q)⟩, fun _ _ _ _ h => h⟩
    · intro ll bb w' hs hlf hN hO hf hI hA
      clear hi'
      have q28 : bb.tmps[28]? = some _ := hf.tmp (k := 0) rfl (by rw [ha]; decide) (hA 0 (by kernel_rfl))
      exact Rg.op_value (o := ⟨some 45, Op.nilCheck (Operand.tmp 28), _, _, _, _⟩) (x := .pointer (some ⟨R, 0, none⟩)) rfl rfl (by clear hA HS hN hO hP hK; simp only [execOp]; go_simp) ⟨_, rfl, (fun h => by cases h), rfl, ⟨fun q => hI.1 (flag_keep (by decide) q), fun q => hI.2 (by rw [flag_other (by decide)] at q; exact q)⟩, fun _ _ _ _ h => h⟩
    · intro ll bb w' hs hlf hN hO hf hI hA
      clear hi'
      have q45 : bb.tmps[45]? = some _ := hf.tmp (k := 17) rfl (by rw [ha]; decide) (hA 17 (by kernel_rfl))
      exact Rg.op_value (o := ⟨some 46, Op.fieldAddr 110 (Operand.tmp 45) 3, _, _, _, _⟩) (x := .pointer (some ⟨R, 3, none⟩)) rfl rfl (by clear hA HS hN hO hP hK; simp only [execOp]; go_simp) ⟨_, rfl, (fun h => by cases h), rfl, ⟨fun q => hI.1 (flag_keep (by decide) q), fun q => hI.2 (by rw [flag_other (by decide)] at q; exact q)⟩, fun _ _ _ _ h => h⟩
    · intro ll bb w' hs hlf hN hO hf hI hA
      clear hi'
      have q46 : bb.tmps[46]? = some _ := hf.tmp (k := 18) rfl (by rw [ha]; decide) (hA 18 (by kernel_rfl))
      have hB := hI.1 hlf
      obtain ⟨F, h1, h2, h3⟩ := hA 16 (by kernel_rfl)
      have q44 : bb.tmps[44]? = some (.agg #[.string n2, .slice (some ⟨F, 0, none⟩) 0 0]) := hf.tmp (k := 16) rfl (by rw [ha]; decide) h1
      obtain ⟨e0, e1, e2, e3, e4, e5, e6, e7, e8⟩ := (hP.below hB).nine
      have f3 := (hP.below hB).frozen 3
      have f4 := (hP.below hB).frozen 4
      have hRF : R ≠ F := by have := hP.lt; omega
      exact Rg.op_skip (o := ⟨none, Op.store 106 (Operand.tmp 46) (Operand.tmp 44), _, _, _, _⟩) rfl rfl (by clear hA HS hN hO hP hK h1; simp only [execOp]; go_simp) ⟨undef, rfl, (fun _ => rfl), rfl, ⟨fun q => absurd q (by rw [flag_set (by rw [hs, sizeTn5]; decide)]; decide), fun _ => ⟨w', F, hB, h2, h3, rfl⟩⟩, fun k9 y9 _ _ h => by
        unfold FTn5 at *
        split at h <;> first | exact h | (obtain ⟨F', g1, g2, g3⟩ := h; exact ⟨F', g1, (g2.far (by have := hP.lt; omega) 3 _).far (by have := hP.lt; omega) 4 _, g3⟩)⟩
theorem dTn5_0 : Rg.dstAt (Rg.opsOf Try.f108 5) 0 = some 28 := by kernel_rfl
theorem dTn5_1 : Rg.dstAt (Rg.opsOf Try.f108 5) 1 = some 29 := by kernel_rfl
theorem dTn5_2 : Rg.dstAt (Rg.opsOf Try.f108 5) 2 = some 30 := by kernel_rfl
theorem dTn5_3 : Rg.dstAt (Rg.opsOf Try.f108 5) 3 = some 31 := by kernel_rfl
theorem dTn5_4 : Rg.dstAt (Rg.opsOf Try.f108 5) 4 = some 32 := by kernel_rfl
theorem dTn5_5 : Rg.dstAt (Rg.opsOf Try.f108 5) 5 = some 33 := by kernel_rfl
theorem dTn5_6 : Rg.dstAt (Rg.opsOf Try.f108 5) 6 = some 34 := by kernel_rfl
theorem dTn5_7 : Rg.dstAt (Rg.opsOf Try.f108 5) 7 = some 35 := by kernel_rfl
theorem dTn5_8 : Rg.dstAt (Rg.opsOf Try.f108 5) 8 = some 36 := by kernel_rfl
theorem dTn5_9 : Rg.dstAt (Rg.opsOf Try.f108 5) 9 = some 37 := by kernel_rfl
theorem dTn5_10 : Rg.dstAt (Rg.opsOf Try.f108 5) 10 = some 38 := by kernel_rfl
theorem dTn5_11 : Rg.dstAt (Rg.opsOf Try.f108 5) 11 = some 39 := by kernel_rfl
theorem dTn5_12 : Rg.dstAt (Rg.opsOf Try.f108 5) 12 = some 40 := by kernel_rfl
theorem dTn5_13 : Rg.dstAt (Rg.opsOf Try.f108 5) 13 = some 41 := by kernel_rfl
theorem dTn5_14 : Rg.dstAt (Rg.opsOf Try.f108 5) 14 = some 42 := by kernel_rfl
theorem dTn5_15 : Rg.dstAt (Rg.opsOf Try.f108 5) 15 = some 43 := by kernel_rfl
theorem dTn5_16 : Rg.dstAt (Rg.opsOf Try.f108 5) 16 = some 44 := by kernel_rfl
theorem dTn5_17 : Rg.dstAt (Rg.opsOf Try.f108 5) 17 = some 45 := by kernel_rfl
theorem dTn5_18 : Rg.dstAt (Rg.opsOf Try.f108 5) 18 = some 46 := by kernel_rfl
theorem dTn5_19 : Rg.dstAt (Rg.opsOf Try.f108 5) 19 = none := by kernel_rfl
theorem layTn5 {a b : Act} (hf : Rg.Fr (Rg.opsOf Try.f108 5) a b) : b = ((((((((((((((((((((a.put (some 28) (Rg.out (Rg.opsOf Try.f108 5) b 0)).put (some 29) (Rg.out (Rg.opsOf Try.f108 5) b 1)).put (some 30) (Rg.out (Rg.opsOf Try.f108 5) b 2)).put (some 31) (Rg.out (Rg.opsOf Try.f108 5) b 3)).put (some 32) (Rg.out (Rg.opsOf Try.f108 5) b 4)).put (some 33) (Rg.out (Rg.opsOf Try.f108 5) b 5)).put (some 34) (Rg.out (Rg.opsOf Try.f108 5) b 6)).put (some 35) (Rg.out (Rg.opsOf Try.f108 5) b 7)).put (some 36) (Rg.out (Rg.opsOf Try.f108 5) b 8)).put (some 37) (Rg.out (Rg.opsOf Try.f108 5) b 9)).put (some 38) (Rg.out (Rg.opsOf Try.f108 5) b 10)).put (some 39) (Rg.out (Rg.opsOf Try.f108 5) b 11)).put (some 40) (Rg.out (Rg.opsOf Try.f108 5) b 12)).put (some 41) (Rg.out (Rg.opsOf Try.f108 5) b 13)).put (some 42) (Rg.out (Rg.opsOf Try.f108 5) b 14)).put (some 43) (Rg.out (Rg.opsOf Try.f108 5) b 15)).put (some 44) (Rg.out (Rg.opsOf Try.f108 5) b 16)).put (some 45) (Rg.out (Rg.opsOf Try.f108 5) b 17)).put (some 46) (Rg.out (Rg.opsOf Try.f108 5) b 18)).put none (Rg.out (Rg.opsOf Try.f108 5) b 19)) := by
  have h := hf.chain
  rw [sizeTn5, show List.range 20 = [0, 1, 2, 3, 4, 5, 6, 7, 8, 9, 10, 11, 12, 13, 14, 15, 16, 17, 18, 19] from by decide] at h
  simp only [List.foldl_cons, List.foldl_nil, dTn5_0, dTn5_1, dTn5_2, dTn5_3, dTn5_4, dTn5_5, dTn5_6, dTn5_7, dTn5_8, dTn5_9, dTn5_10, dTn5_11, dTn5_12, dTn5_13, dTn5_14, dTn5_15, dTn5_16, dTn5_17, dTn5_18, dTn5_19] at h
  exact h
end Go.Proofs.Ytgcpiinmcbdkmaa
