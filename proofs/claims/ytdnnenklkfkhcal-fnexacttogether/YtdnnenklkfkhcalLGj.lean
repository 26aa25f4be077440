/-
  Proved: for every list of joins and every number, the program's Together answers as the specification's, writes into no argument and keeps none, and its answer is its own (FnExactTogether returns true). No conditions.
-/
import Derived.Test.YtdnnenklkfkhcalGi
namespace Go.Proofs.Ytdnnenklkfkhcal
open Go.RowKit Jn

namespace fnExactTogether
open Go.ChangeShapes Go.WideShapes Go.ChangeAt Go.Joins
set_option linter.unusedVariables false

theorem own : ownKnob Try.prog.godebug = none := by kernel_rfl
theorem laidOut : laidOutB Try.prog = true := by kernel_rfl

set_option maxRecDepth 20000 in
set_option maxHeartbeats 4000000 in
theorem walk (ao : Option Addr) (len cap : Nat) (l : List J) (x : Int) (w : World) (h : JRow w (.slice ao len cap) l) (hl : l.length = len) (hm : len ≤ maxLen) :
    Calls Try.prog 6 #[.slice ao len cap, .int .i64 x] w fun e w' => e = .returned (.bool true) ∧ Below w.heap.size w w' := by
  have hS := sz_any ao len cap w (by unfold maxLen at hm; omega)
  by_cases hbig : (1048576 : Int) < (len : Int)
  · rw [if_pos hbig] at hS
    clear h
    go_enter Try.func6, Try.ntmps6
    go_wp2_with fail
    refine hS.mono ?_
    rintro e w1 ⟨rfl, hw1⟩
    have hw2 := hw1.symm
    clear hw1
    subst hw2
    go_wp2_with fail
    go_ret
    exact ⟨rfl, Below.refl _ _⟩
  rw [if_neg hbig] at hS
  have hn : ¬ (1048576 : Int) - len < 0 := by omega
  have hll : l.length ≤ 1048576 := by omega
  have HT := hidden (fun W hW => tos2_any (.slice ao len cap) l W hW hll)
  have HSP := hidden (fun v W hW => stog_any v l x W hW)
  have HIP := hidden (fun v W hW => itog_any v l x W hW)
  have hLL : (tog l x).length ≤ 1048576 := by
    unfold tog
    split
    · exact Nat.le_trans (togN_len _ _ _) (by omega)
    · exact Nat.zero_le _
  have HJ := hidden h
  have HL := hidden hll
  have HLL := hidden hLL
  clear h hl hll hLL
  generalize tog l x = L at *
  go_enter Try.func6, Try.ntmps6
  go_wp2_with fail
  refine hS.mono ?_
  rintro e w1 ⟨rfl, hw1⟩
  have hw2 := hw1.symm
  clear hw1 hS
  subst hw2
  go_wp2_with fail
  refine (HT.out _ HJ.out).mono ?_
  rintro e w1 ⟨v1, rfl, hj1, b1⟩
  go_wp2_with fail
  refine (HSP.out v1 _ hj1.row).mono ?_
  rintro e w2 ⟨v2, rfl, hj2, hb2⟩
  have b2 := onto b1 hb2
  have HJ2 := hidden hj2
  clear hb2 hj1 b1 hj2
  go_wp2_with fail
  refine (HT.out _ (HJ.out.below b2)).mono ?_
  rintro e w3 ⟨v3, rfl, hj3, hb3⟩
  have HO3 := hidden hj3
  have HB3 : Hid (Below w2.heap.size w2 w3) := hb3
  have B3 := hidden (onto b2 hb3)
  have HN2 := hidden b2.size
  clear hb3 b2 hj3
  go_wp2_with fail
  refine (HIP.out v3 _ HO3.out.row).mono ?_
  rintro e w4 ⟨v4, rfl, hj4, hb4⟩
  have HO4 := hidden hj4
  have HB4 := hidden (HB3.out.trans (hb4.mono HB3.out.size))
  have B4 := hidden (onto B3.out hb4)
  have HX4 := hidden (HO3.out.below hb4)
  have HN3 := hidden HB3.out.size
  clear hb4 hj4 HB3 B3
  go_wp2_with fail
  refine (ieq_any v4 v2 L _ _ _ HO4.out (HJ2.out.below HB4.out) HLL.out).mono ?_
  rintro e w5 ⟨rfl, hb5⟩
  have HB5 := hidden (HB4.out.trans (hb5.mono HB4.out.size))
  have B5 := hidden (onto B4.out hb5)
  have HX5 := hidden (HX4.out.below hb5)
  have HO5 := hidden (HO4.out.below hb5)
  clear hb5 HB4 B4 HX4 HO4
  go_wp2_with fail
  refine (HT.out _ (HJ.out.below B5.out)).mono ?_
  rintro e w6 ⟨v6, rfl, hj6, hb6⟩
  have HJ6 := hidden hj6.row
  have HB6 := hidden (HB5.out.trans (hb6.mono HB5.out.size))
  have B6 := hidden (onto B5.out hb6)
  have HX6 := hidden (HX5.out.below hb6)
  have HO6 := hidden (HO5.out.below hb6)
  clear hb6 hj6 HB5 B5 HX5 HO5
  go_wp2_with fail
  refine (eqs_any v3 v6 l _ HX6.out.row HJ6.out HL.out).mono ?_
  rintro e w7 ⟨rfl, hb7⟩
  have HB7 := hidden (HB6.out.trans (hb7.mono HB6.out.size))
  have B7 := hidden (onto B6.out hb7)
  have HX7 := hidden (HX6.out.below hb7)
  have HO7 := hidden (HO6.out.below hb7)
  clear hb7 HB6 B6 HX6 HO6 HJ6
  go_wp2_with fail
  refine (mark_any v3 l w2.heap.size _ HX7.out HL.out).mono ?_
  rintro e w8 ⟨rfl, _, ha8, hz8⟩
  have HB8 := hidden (HX7.out.mark_below ha8 hz8 HB7.out (Nat.le_refl _))
  have B8 := hidden (HX7.out.mark_below ha8 hz8 B7.out HN2.out)
  have HO8 := hidden (HO3.out.mark_iown (Nat.le_refl _) ha8 hz8 HO7.out)
  have hk8 : ¬ 1 + 2 * (l.length : Int) < 0 := by omega
  clear ha8 hz8 HB7 B7 HX7 HO7 HO3
  go_wp2_with fail
  refine (ieq_any v4 v2 L _ _ _ HO8.out (HJ2.out.below HB8.out) HLL.out).mono ?_
  rintro e w9 ⟨rfl, hb9⟩
  have HB9 := hidden (HB8.out.trans (hb9.mono HB8.out.size))
  have B9 := hidden (onto B8.out hb9)
  have HO9 := hidden (HO8.out.below hb9)
  clear hb9 HB8 B8 HO8
  go_wp2_with fail
  refine (imark_any v4 L w3.heap.size _ HO9.out HLL.out).mono ?_
  rintro e w10 ⟨rfl, hm10, ha10, hz10⟩
  have HM10 := hidden hm10
  have HB10 := hidden (HO9.out.mark_below ha10 hz10 HB9.out HN3.out)
  have B10 := hidden (HO9.out.mark_below ha10 hz10 B9.out (Nat.le_trans HN2.out HN3.out))
  have hk10 : ¬ 1 + (L.length : Int) < 0 := by omega
  clear ha10 hz10 HB9 B9 HO9 hm10
  go_wp2_with fail
  refine (iheld_any v4 L.length _ _ HM10.out HLL.out).mono ?_
  rintro e w11 ⟨rfl, hw11⟩
  have hw12 := hw11.symm
  clear hw11
  subst hw12
  go_wp2_with fail
  refine (HT.out _ (HJ.out.below B10.out)).mono ?_
  rintro e w11 ⟨v11, rfl, hj11, hb11⟩
  have HJ11 := hidden hj11.row
  have HB11 := hidden (HB10.out.trans (hb11.mono HB10.out.size))
  have B11 := hidden (onto B10.out hb11)
  have HM11 := hidden (HM10.out.below hb11)
  clear hb11 hj11 HB10 B10 HM10
  go_wp2_with fail
  refine (HIP.out v11 _ HJ11.out).mono ?_
  rintro e w12 ⟨v12, rfl, hj12, hb12⟩
  have HJ12 := hidden hj12
  have HB12 := hidden (HB11.out.trans (hb12.mono HB11.out.size))
  have B12 := hidden (onto B11.out hb12)
  have HM12 := hidden (HM11.out.below hb12)
  clear hb12 hj12 HB11 B11 HM11 HJ11
  go_wp2_with fail
  refine (ieq_any v12 v2 L _ _ _ HJ12.out (HJ2.out.below HB12.out) HLL.out).mono ?_
  rintro e w13 ⟨rfl, hb13⟩
  have B13 := hidden (onto B12.out hb13)
  have HM13 := hidden (HM12.out.below hb13)
  clear hb13 HB12 B12 HM12 HJ12
  go_wp2_with fail
  refine (iheld_any v4 L.length _ _ HM13.out HLL.out).mono ?_
  rintro e w14 ⟨rfl, hw14⟩
  have hw15 := hw14.symm
  clear hw14
  subst hw15
  go_wp2_with fail
  go_ret
  exact ⟨rfl, B13.out⟩

set_option maxRecDepth 100000 in
theorem lifted (os : Os) (started : os.Started) (H : Type) (enc : TypeId × Value → H) :
    ReturnsInHanded {} Try.checked os 6 .any (Rows.fnExactTogetherSpec.pre6 enc Try.prog Try.f6 Rows.fnExactTogetherRow.domain false) (Rows.fnExactTogetherSpec.post enc Try.prog Try.f6 false true false false) := by
  refine returnsInHanded_of_change (C := Try.checked) own started (by kernel_rfl) Try.func6
    (ChangeSpec.witness6 (enc := enc) (C := Try.checked) false ⟨#[], #[.slice none 0 0, .int .i64 0], []⟩ 8 (by kernel_rfl) (by kernel_rfl) (by kernel_rfl) (by kernel_rfl)) ?_
  intro W base args ds gs before hval0 hW hcnd _
  have hval : ∀ (j : Nat) t v, Try.f6.params[j]? = some t → args[j]? = some v → Value.okWide Try.prog W .any base t v := hval0
  have hW' := hW
  obtain ⟨p, q, hA0, hV, rfl, hfz, hnd⟩ := hW
  have hA : DataW.TrodAll enc Try.prog W 0 (fun _ => true) true Try.f6.params.toList args.toList ds p := hA0
  rw [Try.params6] at hA hval
  obtain ⟨v0, vs0, d0, ds0, p0, q0, hargs, rfl, rfl, h0, r0⟩ := trodAll_cons hA
  obtain ⟨v1, vs1, d1, ds1, p1, q1, rfl, rfl, rfl, h1, r1⟩ := trodAll_cons r0
  obtain ⟨rfl, rfl, rfl⟩ := trodAll_nil r1
  obtain rfl : args = #[v0, v1] := by cases args; simp_all
  obtain ⟨rfl, rfl⟩ := trodVars_none hV
  obtain ⟨ao, len, cap, rfl⟩ := okWide_slice Try.underlying22 (hval 0 22 v0 rfl rfl)
  have k0 := h0
  have lt0 : ∀ x ∈ p0, x.block < W.heap.size := by obtain ⟨m, hm⟩ := k0; exact DataW.trod_lt m _ _ _ hm
  obtain ⟨l, hl, hm, hrow⟩ := joins_of_read Try.underlying22 Try.underlying43 (by kernel_rfl) rfl rfl (by kernel_rfl) (by kernel_rfl) Try.underlying2 Try.underlying2 h0
  obtain ⟨a1, rfl, rfl, rfl, w1⟩ := open_int Try.underlying2 (hval 1 2 v1 rfl rfl) h1
  clear hA0 hval0
  refine (walk ao len cap l a1 W hrow hl hm).mono fun e W' ⟨he, bel⟩ => ?_
  subst he
  exact ⟨_, rfl, _, _, _, [], _, [], hW', trodAll_mk1 (shut_bool Try.underlying4 _), (trodAll_cons_mk (Below.trod laidOut (by kernel_rfl) (of_decide_eq_true (by kernel_rfl)) k0 bel lt0) (trodAll_cons_mk (shut_int Try.underlying2 w1) trodAll_mk0)), rfl, bel.frame _, fun h => by cases h⟩

theorem over : Rows.fnExactTogetherRow.holds Try.pinned (OpenSpec.ofChange Rows.fnExactTogetherSpec) :=
  OpenClaim.holds_of_wide 6 Try.f6 rfl rfl rfl rfl rfl rfl rfl ⟨rfl, rfl, rfl, rfl, rfl⟩ rfl rfl rfl rfl rfl (by kernel_rfl) Try.func6 (by kernel_rfl)
    (of_decide_eq_true (by kernel_rfl)) (by unfold Func.isWrapper; first | (rw [if_pos (by decide +kernel)]; kernel_rfl) | (rw [if_neg (by decide +kernel)]; exact ⟨rfl, rfl⟩))
    (fun os started H enc _ => lifted os started H enc)
end fnExactTogether
theorem fnExactTogether_holds : Rows.FnExactTogetherSaid := fnExactTogether.over
end Go.Proofs.Ytdnnenklkfkhcal
