/-
  Proved: for every list of steps, the program's TrayDo answers as the specification's, writes into no argument and keeps none, and its answer is its own (FnExactTrayDo returns true). No conditions.
-/
import Derived.Test.YtgedaobgomnflaaWo
import Derived.Test.YtgedaobgomnflaaWp
namespace Go.Proofs.Ytgedaobgomnflaa
open Go.RowKit Va Wa

namespace fnExactTrayDo
open Go.ChangeShapes Go.WideShapes Go.ChangeAt Go.Joins
set_option linter.all false

theorem own : ownKnob Try.prog.godebug = none := by kernel_rfl
theorem laidOut : laidOutB Try.prog = true := by kernel_rfl

theorem tray_len (l : List Stp) : (trayDo l).length ≤ 1048576 := by
  unfold trayDo
  split
  · rename_i h
    rw [codesF_len]
    have := (of_ssB h).1; omega
  · simp

set_option maxRecDepth 20000 in
set_option maxHeartbeats 8000000 in
theorem walk (ao : Option Addr) (len cap : Nat) (l : List Stp) (w : World) (h : Rw 4 csT w (.slice ao len cap) l) (hl : l.length = len) (hm : len ≤ maxLen) :
    Calls Try.prog 4 #[.slice ao len cap] w fun e w' => e = .returned (.bool true) ∧ Below w.heap.size w w' := by
  have hS := fun W => szsteps_any ao len cap 1048576 W (by unfold maxLen at hm; omega) (by omega) (by omega)
  by_cases hbig : (1048576 : Int) < (len : Int)
  · simp only [if_pos hbig] at hS
    clear h
    go_enter Try.func4, Try.ntmps4
    go_wp2_with fail
    refine (hS _).mono ?_
    rintro e w1 ⟨rfl, rfl⟩
    go_wp2_with fail
    go_ret
    exact ⟨rfl, Below.refl _ _⟩
  simp only [if_neg hbig] at hS
  have hn : ¬ (1048576 : Int) - len < 0 := by omega
  have hll : l.length ≤ 1048576 := by omega
  have HT := hidden (fun W hW => tosteps_any (.slice ao len cap) l W hW hll)
  have HJ := hidden h
  have HL := hidden hll
  have hLL := tray_len l
  have HIM := hidden (fun a n c W hW => itraydo_any a n c l W hW hll)
  clear h hl hll
  go_enter Try.func4, Try.ntmps4
  go_wp2_with fail
  refine (hS _).mono ?_
  rintro e w1 ⟨rfl, rfl⟩
  clear hS
  go_wp2_with fail
  refine (HT.out _ HJ.out).mono ?_
  rintro e w1 ⟨v1, rfl, hj1, b1⟩
  obtain ⟨a1, c1, rfl⟩ := hj1.row.form
  have R1 := hidden hj1.row
  clear hj1
  go_wp2_with fail
  refine (straydo_any _ _ _ l _ R1.out HL.out).mono ?_
  rintro e w3 ⟨v3, rfl, ho3, hb3⟩
  obtain ⟨ad3, c3, rfl⟩ := ownW_slice ho3
  generalize trayDo l = L at *
  have b3 := onto b1 hb3
  have V3 := hidden (ownI ho3).row
  have BW := hidden (fun W (hW : Below w3.heap.size w3 W) => b3.trans (hW.mono b3.size))
  have BR := hidden (fun W (hW : Below w3.heap.size w3 W) => HJ.out.below (b3.trans (hW.mono b3.size)))
  clear hb3 R1 b1 ho3
  go_wp2_with fail
  refine (HT.out _ (HJ.out.below b3)).mono ?_
  rintro e w4 ⟨v4, rfl, hj4, hb4⟩
  obtain ⟨a4, c4, rfl⟩ := hj4.row.form
  have O4 := hidden hj4
  have z4 := hb4.size
  clear hj4 b3
  go_wp2_with fail
  refine (HIM.out _ _ _ _ O4.out.row).mono ?_
  rintro e w5 ⟨v5, rfl, ho5, hb5⟩
  obtain ⟨ad5, c5, rfl⟩ := ownW_slice ho5
  have K5 := hidden (hb4.trans (hb5.mono z4))
  have O5 := hidden (ownI ho5)
  have X5 := hidden (O4.out.below hb5)
  have z5 := hb5.size
  clear hb5 ho5 hb4
  go_wp2_with fail
  refine (eqints_any _ _ L _ O5.out.row (V3.out.below K5.out) hLL).mono ?_
  rintro e w6 ⟨rfl, hb6⟩
  have K6 := hidden (K5.out.trans (hb6.mono K5.out.size))
  have O6 := hidden (O5.out.below hb6)
  have X6 := hidden (X5.out.below hb6)
  clear hb6 O5 X5 K5
  go_wp2_with fail
  refine (HT.out _ (BR.out _ K6.out)).mono ?_
  rintro e w7 ⟨v7, rfl, hj7, hb7⟩
  obtain ⟨a7, c7, rfl⟩ := hj7.row.form
  have K7 := hidden (K6.out.trans (hb7.mono K6.out.size))
  have O7 := hidden (O6.out.below hb7)
  have X7 := hidden (X6.out.below hb7)
  have R7 := hidden hj7.row
  clear hb7 hj7 O6 X6 K6
  go_wp2_with fail
  refine (eqsteps_any _ _ l _ X7.out.row R7.out HL.out).mono ?_
  rintro e w8 ⟨rfl, hb8⟩
  have K8 := hidden (K7.out.trans (hb8.mono K7.out.size))
  have O8 := hidden (O7.out.below hb8)
  have X8 := hidden (X7.out.below hb8)
  clear hb8 R7 O7 X7 K7
  go_wp2_with fail
  refine (markstep_any _ l _ 1 _ X8.out HL.out (by omega) (by omega)).mono ?_
  rintro e w9 ⟨rfl, -, ha9, hz9⟩
  have K9 := hidden (X8.out.mark_below ha9 hz9 K8.out (Nat.le_refl _))
  have O9 := hidden (O4.out.mark_own (Nat.le_refl _) ha9 hz9 O8.out)
  have n9 : ¬ (1 + 4 * (l.length : Int)) < 0 := by omega
  clear ha9 hz9 O8 X8 K8
  go_wp2_with fail
  refine (eqints_any _ _ L _ O9.out.row (V3.out.below K9.out) hLL).mono ?_
  rintro e w10 ⟨rfl, hb10⟩
  have K10 := hidden (K9.out.trans (hb10.mono K9.out.size))
  have O10 := hidden (O9.out.below hb10)
  clear hb10 O9 K9
  go_wp2_with fail
  refine (markint_any _ L _ 1 _ O10.out hLL (by omega) (by omega)).mono ?_
  rintro e w11 ⟨rfl, hm11, ha11, hz11⟩
  have K11 := hidden (O10.out.mark_below ha11 hz11 K10.out z4)
  have HM11 := hidden hm11
  have n11 : ¬ (1 + (L.length : Int)) < 0 := by omega
  clear hm11 ha11 hz11 O10 K10
  go_wp2_with fail
  refine (heldint_any _ 1 L.length _ HM11.out.row hLL (by omega) (by omega)).mono ?_
  rintro e w12 ⟨rfl, hw12⟩
  have hw13 := hw12.symm
  clear hw12
  subst hw13
  go_wp2_with fail
  refine (HT.out _ (BR.out _ K11.out)).mono ?_
  rintro e w13 ⟨v13, rfl, hj13, hb13⟩
  obtain ⟨a13, c13, rfl⟩ := hj13.row.form
  have K13 := hidden (K11.out.trans (hb13.mono K11.out.size))
  have HM13 := hidden (HM11.out.below hb13)
  have R13 := hidden hj13.row
  clear hb13 hj13 K11 HM11
  go_wp2_with fail
  refine (HIM.out _ _ _ _ R13.out).mono ?_
  rintro e w14 ⟨v14, rfl, ho14, hb14⟩
  obtain ⟨ad14, c14, rfl⟩ := ownW_slice ho14
  have K14 := hidden (K13.out.trans (hb14.mono K13.out.size))
  have HM14 := hidden (HM13.out.below hb14)
  have V14 := hidden (ownI ho14).row
  clear hb14 ho14 K13 HM13 R13
  go_wp2_with fail
  refine (eqints_any _ _ L _ V14.out (V3.out.below K14.out) hLL).mono ?_
  rintro e w15 ⟨rfl, hb15⟩
  have K15 := hidden (K14.out.trans (hb15.mono K14.out.size))
  have HM15 := hidden (HM14.out.below hb15)
  clear hb15 K14 HM14
  go_wp2_with fail
  refine (heldint_any _ 1 L.length _ HM15.out.row hLL (by omega) (by omega)).mono ?_
  rintro e w16 ⟨rfl, hw16⟩
  have hw17 := hw16.symm
  clear hw16
  subst hw17
  go_wp2_with fail
  go_ret
  exact ⟨rfl, BW.out _ K15.out⟩

set_option maxRecDepth 100000 in
theorem lifted (os : Os) (started : os.Started) (H : Type) (enc : TypeId × Value → H) :
    ReturnsInHanded {} Try.checked os 4 .any (Rows.fnExactTrayDoSpec.pre6 enc Try.prog Try.f4 Rows.fnExactTrayDoRow.domain false) (Rows.fnExactTrayDoSpec.post enc Try.prog Try.f4 false true false false) := by
  refine returnsInHanded_of_change (C := Try.checked) own started (by kernel_rfl) Try.func4
    (ChangeSpec.witness6 (enc := enc) (C := Try.checked) false ⟨#[], #[.slice none 0 0], []⟩ 8 (by kernel_rfl) (by kernel_rfl) (by kernel_rfl) (by kernel_rfl)) ?_
  intro W base args ds gs before hval0 hW hcnd _
  have hval : ∀ (j : Nat) t v, Try.f4.params[j]? = some t → args[j]? = some v → Value.okWide Try.prog W .any base t v := hval0
  have hW' := hW
  obtain ⟨p, q, hA0, hV, rfl, hfz, hnd⟩ := hW
  have hA : DataW.TrodAll enc Try.prog W 0 (fun _ => true) true Try.f4.params.toList args.toList ds p := hA0
  rw [Try.params4] at hA hval
  obtain ⟨v0, vs0, d0, ds0, p0, q0, hargs, rfl, rfl, h0, r0⟩ := trodAll_cons hA
  obtain ⟨rfl, rfl, rfl⟩ := trodAll_nil r0
  obtain rfl : args = #[v0] := by cases args; simp_all
  obtain ⟨rfl, rfl⟩ := trodVars_none hV
  obtain ⟨ao, len, cap, rfl⟩ := okWide_slice Try.underlying39 (hval 0 39 v0 rfl rfl)
  have k0 := h0
  have lt0 : ∀ x ∈ p0, x.block < W.heap.size := by obtain ⟨m, hm⟩ := k0; exact DataW.trod_lt m _ _ _ hm
  obtain ⟨l, hl, hm, hrow⟩ := steps_of_read h0
  clear hA0 hval0
  refine (walk ao len cap l W hrow hl hm).mono fun e W' ⟨he, bel⟩ => ?_
  subst he
  exact ⟨_, rfl, _, _, _, [], _, [], hW', trodAll_mk1 (shut_bool Try.underlying4 _), (trodAll_cons_mk (Below.trod laidOut (by kernel_rfl) (of_decide_eq_true (by kernel_rfl)) k0 bel lt0) trodAll_mk0), rfl, bel.frame _, fun h => by cases h⟩

theorem over : Rows.fnExactTrayDoRow.holds Try.pinned (OpenSpec.ofChange Rows.fnExactTrayDoSpec) :=
  OpenClaim.holds_of_wide 4 Try.f4 rfl rfl rfl rfl rfl rfl rfl ⟨rfl, rfl, rfl, rfl, rfl⟩ rfl rfl rfl rfl rfl (by kernel_rfl) Try.func4 (by kernel_rfl)
    (of_decide_eq_true (by kernel_rfl)) (by unfold Func.isWrapper; first | (rw [if_pos (by decide +kernel)]; kernel_rfl) | (rw [if_neg (by decide +kernel)]; exact ⟨rfl, rfl⟩))
    (fun os started H enc _ => lifted os started H enc)
end fnExactTrayDo
theorem fnExactTrayDo_holds : Rows.FnExactTrayDoSaid := fnExactTrayDo.over
end Go.Proofs.Ytgedaobgomnflaa
