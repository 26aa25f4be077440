/-
  Proved: for all values, knowns and criteria, the program's Eligible answers as the specification's, and writes into no argument (FnExactEligible returns true). No conditions.
-/
import Derived.Test.YtoehnlbkgpjhmabTr19
import Derived.Test.YtoehnlbkgpjhmabTr15
import Derived.Test.YtoehnlbkgpjhmabTr16
namespace Go.Proofs.Ytoehnlbkgpjhmab
open Go.RowKit Va Lb El

namespace fnExactEligible
open Go.ChangeShapes Go.WideShapes Go.ChangeAt Go.Joins
set_option linter.all false

theorem own : ownKnob Try.prog.godebug = none := by kernel_rfl
theorem laidOut : laidOutB Try.prog = true := by kernel_rfl

set_option maxRecDepth 20000 in
set_option maxHeartbeats 8000000 in
theorem walk (ao0 : Option Addr) (len0 cap0 : Nat) (V : List Int) (ao1 : Option Addr) (len1 cap1 : Nat) (K : List Bool) (ao2 : Option Addr) (len2 cap2 : Nat) (C : List Cr) (w : World) (h0 : VRw 1 cvI w (.slice ao0 len0 cap0) V) (hl0 : V.length = len0) (hm0 : len0 ≤ maxLen) (h1 : VRw 1 cvB w (.slice ao1 len1 cap1) K) (hl1 : K.length = len1) (hm1 : len1 ≤ maxLen) (h2 : VRw 4 cvCr w (.slice ao2 len2 cap2) C) (hl2 : C.length = len2) (hm2 : len2 ≤ maxLen) :
    Calls Try.prog 6 #[.slice ao0 len0 cap0, .slice ao1 len1 cap1, .slice ao2 len2 cap2] w fun e w' => e = .returned (.bool true) ∧ Below w.heap.size w w' := by
  have hmm0 : (len0 : Int) ≤ 9223372036854775807 := by unfold maxLen at hm0; omega
  have hmm1 : (len1 : Int) ≤ 9223372036854775807 := by unfold maxLen at hm1; omega
  have hmm2 : (len2 : Int) ≤ 9223372036854775807 := by unfold maxLen at hm2; omega
  by_cases hb0 : (1048576 : Int) < (len0 : Int)
  · clear h0 hl0 hm0 h1 hl1 hm1 h2 hl2 hm2
    go_enter Try.func6, Try.ntmps6
    go_wp2_with fail
    go_ret
    exact ⟨rfl, Below.refl _ _⟩
  by_cases hb1 : (1048576 : Int) < (len1 : Int)
  · clear h0 hl0 hm0 h1 hl1 hm1 h2 hl2 hm2
    go_enter Try.func6, Try.ntmps6
    go_wp2_with fail
    go_ret
    exact ⟨rfl, Below.refl _ _⟩
  have hS2 := fun W => szcrs_any ao2 len2 cap2 (1048576) W hmm2 (by omega) (by omega)
  by_cases hb2 : (1048576 : Int) < (len2 : Int)
  · simp only [if_pos hb2] at hS2
    clear h0 h1 h2
    go_enter Try.func6, Try.ntmps6
    go_wp2_with fail
    with_reducible refine (hS2 _).mono ?_
    rintro e w1 ⟨rfl, hw1⟩
    subst hw1
    go_wp2_with fail
    go_ret
    exact ⟨rfl, Below.refl _ _⟩
  simp only [if_neg hb2] at hS2
  have hn2 : ¬ (1048576 : Int) - len2 < 0 := by omega
  have hll0 : V.length ≤ 1048576 := by omega
  have HT0 := hidden (fun W hW => vtoints_any (.slice ao0 len0 cap0) V W hW hll0)
  have HJ0 := hidden h0
  have HL0 := hidden hll0
  have hll1 : K.length ≤ 1048576 := by omega
  have HT1 := hidden (fun W hW => vtobools_any (.slice ao1 len1 cap1) K W hW hll1)
  have HJ1 := hidden h1
  have HL1 := hidden hll1
  have hll2 : C.length ≤ 1048576 := by omega
  have HT2 := hidden (fun W hW => tocrs_any (.slice ao2 len2 cap2) C W hW hll2)
  have HJ2 := hidden h2
  have HL2 := hidden hll2
  have HSM := hidden (fun a0 n0 c0 a1 n1 c1 a2 n2 c2 W hW0 hW1 hW2 => seligible_any a0 n0 c0 V a1 n1 c1 K a2 n2 c2 C W hW0 hW1 hW2 hll0 hll1 hll2)
  have HIM := hidden (fun a0 n0 c0 a1 n1 c1 a2 n2 c2 W hW0 hW1 hW2 => ieligible_any a0 n0 c0 V a1 n1 c1 K a2 n2 c2 C W hW0 hW1 hW2 hll0 hll1 hll2)
  generalize eligible V K C = L at *
  clear h0 hl0 hll0 h1 hl1 hll1 h2 hl2 hll2
  go_enter Try.func6, Try.ntmps6
  go_wp2_with fail
  with_reducible refine (hS2 _).mono ?_
  rintro e w1 ⟨rfl, hw1⟩
  subst hw1
  clear hS2
  have K0 := hidden (Below.refl w.heap.size w)
  go_wp2_with fail
  with_reducible refine (HT0.out _ (HJ0.out.below K0.out)).mono ?_
  rintro e w_1 ⟨v_1, rfl, hj_1, hb_1⟩
  obtain ⟨a_1, k_1, rfl⟩ := hj_1.row.form
  have Q_1 := hidden (K0.out.trans (hb_1.mono K0.out.size))
  have S0 := hidden hj_1
  clear hb_1 hj_1 K0
  go_wp2_with fail
  with_reducible refine (HT1.out _ (HJ1.out.below Q_1.out)).mono ?_
  rintro e w_2 ⟨v_2, rfl, hj_2, hb_2⟩
  obtain ⟨a_2, k_2, rfl⟩ := hj_2.row.form
  have Q_2 := hidden (Q_1.out.trans (hb_2.mono Q_1.out.size))
  have S0' := hidden (S0.out.below hb_2)
  clear S0
  have S0 := S0'
  clear S0'
  have S1 := hidden hj_2
  clear hb_2 hj_2 Q_1
  go_wp2_with fail
  with_reducible refine (HT2.out _ (HJ2.out.below Q_2.out)).mono ?_
  rintro e w_3 ⟨v_3, rfl, hj_3, hb_3⟩
  obtain ⟨a_3, k_3, rfl⟩ := hj_3.row.form
  have Q_3 := hidden (Q_2.out.trans (hb_3.mono Q_2.out.size))
  have S0' := hidden (S0.out.below hb_3)
  clear S0
  have S0 := S0'
  clear S0'
  have S1' := hidden (S1.out.below hb_3)
  clear S1
  have S1 := S1'
  clear S1'
  have S2 := hidden hj_3
  clear hb_3 hj_3 Q_2
  go_wp2_with fail
  with_reducible refine (HSM.out _ _ _ _ _ _ _ _ _ _ S0.out.row S1.out.row S2.out.row).mono ?_
  rintro e w_4 ⟨rfl, hb_4⟩
  have KS := hidden (Q_3.out.trans (hb_4.mono Q_3.out.size))
  clear Q_3 hb_4 S0 S1 S2
  have bS := KS.out
  have BR0 := hidden (fun W (hW : Below w_4.heap.size w_4 W) => HJ0.out.below (bS.trans (hW.mono bS.size)))
  have BR1 := hidden (fun W (hW : Below w_4.heap.size w_4 W) => HJ1.out.below (bS.trans (hW.mono bS.size)))
  have BR2 := hidden (fun W (hW : Below w_4.heap.size w_4 W) => HJ2.out.below (bS.trans (hW.mono bS.size)))
  clear bS
  have KK := hidden (Below.refl w_4.heap.size w_4)
  go_wp2_with fail
  with_reducible refine (HT0.out _ (BR0.out _ KK.out)).mono ?_
  rintro e w_5 ⟨v_5, rfl, hj_5, hb_5⟩
  obtain ⟨a_5, k_5, rfl⟩ := hj_5.row.form
  have Q_5 := hidden (KK.out.trans (hb_5.mono KK.out.size))
  have X0 := hidden hj_5
  have XB0 := hidden hj_5
  have zX0 := hb_5.size
  clear hb_5 hj_5 KK
  go_wp2_with fail
  with_reducible refine (HT1.out _ (BR1.out _ Q_5.out)).mono ?_
  rintro e w_6 ⟨v_6, rfl, hj_6, hb_6⟩
  obtain ⟨a_6, k_6, rfl⟩ := hj_6.row.form
  have Q_6 := hidden (Q_5.out.trans (hb_6.mono Q_5.out.size))
  have X0' := hidden (X0.out.below hb_6)
  clear X0
  have X0 := X0'
  clear X0'
  have X1 := hidden hj_6
  have XB1 := hidden hj_6
  have zX1 := hb_6.size
  clear hb_6 hj_6 Q_5
  go_wp2_with fail
  with_reducible refine (HT2.out _ (BR2.out _ Q_6.out)).mono ?_
  rintro e w_7 ⟨v_7, rfl, hj_7, hb_7⟩
  obtain ⟨a_7, k_7, rfl⟩ := hj_7.row.form
  have Q_7 := hidden (Q_6.out.trans (hb_7.mono Q_6.out.size))
  have X0' := hidden (X0.out.below hb_7)
  clear X0
  have X0 := X0'
  clear X0'
  have X1' := hidden (X1.out.below hb_7)
  clear X1
  have X1 := X1'
  clear X1'
  have X2 := hidden hj_7
  have XB2 := hidden hj_7
  have zX2 := hb_7.size
  clear hb_7 hj_7 Q_6
  go_wp2_with fail
  with_reducible refine (HIM.out _ _ _ _ _ _ _ _ _ _ X0.out.row X1.out.row X2.out.row).mono ?_
  rintro e w_8 ⟨rfl, hb_8⟩
  have Q_8 := hidden (Q_7.out.trans (hb_8.mono Q_7.out.size))
  have zK := Q_7.out.size
  have X0' := hidden (X0.out.below hb_8)
  clear X0
  have X0 := X0'
  clear X0'
  have X1' := hidden (X1.out.below hb_8)
  clear X1
  have X1 := X1'
  clear X1'
  have X2' := hidden (X2.out.below hb_8)
  clear X2
  have X2 := X2'
  clear X2'
  clear hb_8 Q_7
  go_wp2_with fail
  with_reducible refine (HT0.out _ (BR0.out _ Q_8.out)).mono ?_
  rintro e w_9 ⟨v_9, rfl, hj_9, hb_9⟩
  obtain ⟨a_9, k_9, rfl⟩ := hj_9.row.form
  have Q_9 := hidden (Q_8.out.trans (hb_9.mono Q_8.out.size))
  have RR := hidden hj_9.row
  have X0' := hidden (X0.out.below hb_9)
  clear X0
  have X0 := X0'
  clear X0'
  have X1' := hidden (X1.out.below hb_9)
  clear X1
  have X1 := X1'
  clear X1'
  have X2' := hidden (X2.out.below hb_9)
  clear X2
  have X2 := X2'
  clear X2'
  clear hb_9 hj_9 Q_8
  go_wp2_with fail
  with_reducible refine (veqints_any _ _ V _ X0.out.row RR.out HL0.out).mono ?_
  rintro e w_10 ⟨rfl, hb_10⟩
  have Q_10 := hidden (Q_9.out.trans (hb_10.mono Q_9.out.size))
  have X0' := hidden (X0.out.below hb_10)
  clear X0
  have X0 := X0'
  clear X0'
  have X1' := hidden (X1.out.below hb_10)
  clear X1
  have X1 := X1'
  clear X1'
  have X2' := hidden (X2.out.below hb_10)
  clear X2
  have X2 := X2'
  clear X2'
  clear hb_10 Q_9
  clear RR
  go_wp2_with fail
  with_reducible refine (HT1.out _ (BR1.out _ Q_10.out)).mono ?_
  rintro e w_11 ⟨v_11, rfl, hj_11, hb_11⟩
  obtain ⟨a_11, k_11, rfl⟩ := hj_11.row.form
  have Q_11 := hidden (Q_10.out.trans (hb_11.mono Q_10.out.size))
  have RR := hidden hj_11.row
  have X0' := hidden (X0.out.below hb_11)
  clear X0
  have X0 := X0'
  clear X0'
  have X1' := hidden (X1.out.below hb_11)
  clear X1
  have X1 := X1'
  clear X1'
  have X2' := hidden (X2.out.below hb_11)
  clear X2
  have X2 := X2'
  clear X2'
  clear hb_11 hj_11 Q_10
  go_wp2_with fail
  with_reducible refine (eqbools_any _ _ K _ X1.out.row RR.out HL1.out).mono ?_
  rintro e w_12 ⟨rfl, hb_12⟩
  have Q_12 := hidden (Q_11.out.trans (hb_12.mono Q_11.out.size))
  have X0' := hidden (X0.out.below hb_12)
  clear X0
  have X0 := X0'
  clear X0'
  have X1' := hidden (X1.out.below hb_12)
  clear X1
  have X1 := X1'
  clear X1'
  have X2' := hidden (X2.out.below hb_12)
  clear X2
  have X2 := X2'
  clear X2'
  clear hb_12 Q_11
  clear RR
  go_wp2_with fail
  with_reducible refine (HT2.out _ (BR2.out _ Q_12.out)).mono ?_
  rintro e w_13 ⟨v_13, rfl, hj_13, hb_13⟩
  obtain ⟨a_13, k_13, rfl⟩ := hj_13.row.form
  have Q_13 := hidden (Q_12.out.trans (hb_13.mono Q_12.out.size))
  have RR := hidden hj_13.row
  have X0' := hidden (X0.out.below hb_13)
  clear X0
  have X0 := X0'
  clear X0'
  have X1' := hidden (X1.out.below hb_13)
  clear X1
  have X1 := X1'
  clear X1'
  have X2' := hidden (X2.out.below hb_13)
  clear X2
  have X2 := X2'
  clear X2'
  clear hb_13 hj_13 Q_12
  go_wp2_with fail
  with_reducible refine (eqcrs_any _ _ C _ X2.out.row RR.out HL2.out).mono ?_
  rintro e w_14 ⟨rfl, hb_14⟩
  have Q_14 := hidden (Q_13.out.trans (hb_14.mono Q_13.out.size))
  have X0' := hidden (X0.out.below hb_14)
  clear X0
  have X0 := X0'
  clear X0'
  have X1' := hidden (X1.out.below hb_14)
  clear X1
  have X1 := X1'
  clear X1'
  have X2' := hidden (X2.out.below hb_14)
  clear X2
  have X2 := X2'
  clear X2'
  clear hb_14 Q_13
  clear RR
  go_wp2_with fail
  go_ret
  exact ⟨rfl, onto KS.out Q_14.out⟩

set_option maxRecDepth 100000 in
theorem lifted (os : Os) (started : os.Started) (H : Type) (enc : TypeId × Value → H) :
    ReturnsInHanded {} Try.checked os 6 .any (Rows.fnExactEligibleSpec.pre6 enc Try.prog Try.f6 Rows.fnExactEligibleRow.domain false) (Rows.fnExactEligibleSpec.post enc Try.prog Try.f6 false true false false) := by
  refine returnsInHanded_of_change (C := Try.checked) own started (by kernel_rfl) Try.func6
    (ChangeSpec.witness6 (enc := enc) (C := Try.checked) false ⟨#[], #[.slice none 0 0, .slice none 0 0, .slice none 0 0], []⟩ 8 (by kernel_rfl) (by kernel_rfl) (by kernel_rfl) (by kernel_rfl)) ?_
  intro W base args ds gs before hval0 hW hcnd _
  have hval : ∀ (j : Nat) t v, Try.f6.params[j]? = some t → args[j]? = some v → Value.okWide Try.prog W .any base t v := hval0
  have hW' := hW
  obtain ⟨p, q, hA0, hV, rfl, hfz, hnd⟩ := hW
  have hA : DataW.TrodAll enc Try.prog W 0 (fun _ => true) true Try.f6.params.toList args.toList ds p := hA0
  rw [Try.params6] at hA hval
  obtain ⟨v0, vs0, d0, ds0, p0, q0, hargs, rfl, rfl, h0, r0⟩ := trodAll_cons hA
  obtain ⟨v1, vs1, d1, ds1, p1, q1, rfl, rfl, rfl, h1, r1⟩ := trodAll_cons r0
  obtain ⟨v2, vs2, d2, ds2, p2, q2, rfl, rfl, rfl, h2, r2⟩ := trodAll_cons r1
  obtain ⟨rfl, rfl, rfl⟩ := trodAll_nil r2
  obtain rfl : args = #[v0, v1, v2] := by cases args; simp_all
  obtain ⟨rfl, rfl⟩ := trodVars_none hV
  have k0 := h0
  have lt0 : ∀ x ∈ p0, x.block < W.heap.size := by obtain ⟨m, hm⟩ := k0; exact DataW.trod_lt m _ _ _ hm
  obtain ⟨ao0, len0, cap0, rfl⟩ := okWide_slice Try.underlying22 (hval 0 22 v0 rfl rfl)
  obtain ⟨V, hl0, hm0, hrow0⟩ := vints_of_read h0
  have k1 := h1
  have lt1 : ∀ x ∈ p1, x.block < W.heap.size := by obtain ⟨m, hm⟩ := k1; exact DataW.trod_lt m _ _ _ hm
  obtain ⟨ao1, len1, cap1, rfl⟩ := okWide_slice Try.underlying38 (hval 1 38 v1 rfl rfl)
  obtain ⟨K, hl1, hm1, hrow1⟩ := bools_of_read h1
  have k2 := h2
  have lt2 : ∀ x ∈ p2, x.block < W.heap.size := by obtain ⟨m, hm⟩ := k2; exact DataW.trod_lt m _ _ _ hm
  obtain ⟨ao2, len2, cap2, rfl⟩ := okWide_slice Try.underlying39 (hval 2 39 v2 rfl rfl)
  obtain ⟨C, hl2, hm2, hrow2⟩ := crs_of_read h2
  clear hA0 hval0
  refine (walk ao0 len0 cap0 V ao1 len1 cap1 K ao2 len2 cap2 C W hrow0 hl0 hm0 hrow1 hl1 hm1 hrow2 hl2 hm2).mono fun e W' ⟨he, bel⟩ => ?_
  subst he
  exact ⟨_, rfl, _, _, _, [], _, [], hW', trodAll_mk1 (shut_bool Try.underlying4 _), (trodAll_cons_mk (Below.trod laidOut (by kernel_rfl) (of_decide_eq_true (by kernel_rfl)) k0 bel lt0) (trodAll_cons_mk (Below.trod laidOut (by kernel_rfl) (of_decide_eq_true (by kernel_rfl)) k1 bel lt1) (trodAll_cons_mk (Below.trod laidOut (by kernel_rfl) (of_decide_eq_true (by kernel_rfl)) k2 bel lt2) trodAll_mk0))), rfl, bel.frame _, fun h => by cases h⟩

theorem over : Rows.fnExactEligibleRow.holds Try.pinned (OpenSpec.ofChange Rows.fnExactEligibleSpec) :=
  OpenClaim.holds_of_wide 6 Try.f6 rfl rfl rfl rfl rfl rfl rfl ⟨rfl, rfl, rfl, rfl, rfl⟩ rfl rfl rfl rfl rfl (by kernel_rfl) Try.func6 (by kernel_rfl)
    (of_decide_eq_true (by kernel_rfl)) (by unfold Func.isWrapper; first | (rw [if_pos (by decide +kernel)]; kernel_rfl) | (rw [if_neg (by decide +kernel)]; exact ⟨rfl, rfl⟩))
    (fun os started H enc _ => lifted os started H enc)
end fnExactEligible
theorem fnExactEligible_holds : Rows.FnExactEligibleSaid := fnExactEligible.over
end Go.Proofs.Ytoehnlbkgpjhmab
