/-
  Proved: for every list of operations and every number of a person, the program's Busy answers as the specification's, and writes into no argument (FnExactBusy returns true). No conditions.
-/
import Derived.Test.YtcfghnffacdekaoOn
import Derived.Test.YtcfghnffacdekaoOo
namespace Go.Proofs.Ytcfghnffacdekao
open Go.RowKit Va Oa

namespace fnExactBusy
open Go.ChangeShapes Go.WideShapes Go.ChangeAt Go.Joins
set_option linter.unusedVariables false

theorem own : ownKnob Try.prog.godebug = none := by kernel_rfl
theorem laidOut : laidOutB Try.prog = true := by kernel_rfl

set_option maxRecDepth 20000 in
set_option maxHeartbeats 2000000 in
theorem walk (ao : Option Addr) (len cap : Nat) (l : List Opn) (who : Int) (w : World) (h : ORw w (.slice ao len cap) l) (hl : l.length = len) (hm : len ≤ maxLen) (htm : ∀ x ∈ l, x.team.length ≤ maxLen) :
    Calls Try.prog 5 #[.slice ao len cap, .int .i64 who] w fun e w' => e = .returned (.bool true) ∧ Below w.heap.size w w' := by
  have hS := szops_any ao len cap l 1048576 w h (by omega) htm (by omega) (by omega)
  have HJ := hidden h
  clear h htm
  go_enter Try.func5, Try.ntmps5
  go_wp2_with fail
  refine hS.mono ?_
  rintro e w0 ⟨r, rfl, hr, b0⟩
  clear hS
  rcases hr with hr | ⟨hr0, hr1, hll, hlt⟩
  · go_wp2_with fail
    go_ret
    exact ⟨rfl, b0⟩
  have hr2 : ¬ r < 0 := by omega
  have HT := hidden (fun W hW => toops_any ao len cap l W hW hll hlt)
  have HL := hidden hll
  have HM := hidden hlt
  clear hll hlt hl
  go_wp2_with fail
  refine (HT.out _ (HJ.out.below b0)).mono ?_
  rintro e w1 ⟨rfl, hj1, hb1⟩
  have b1 := onto b0 hb1
  have R1 := hidden (hj1.orw l.length (Nat.le_refl _))
  clear hj1 hb1 b0
  go_wp2_with fail
  refine (sbusy_any who _ _ _ l _ R1.out HL.out HM.out).mono ?_
  rintro e w2 ⟨rfl, hb2⟩
  have b2 := onto b1 hb2
  clear hb2 R1 b1
  go_wp2_with fail
  refine (HT.out _ (HJ.out.below b2)).mono ?_
  rintro e w3 ⟨rfl, hj3, hb3⟩
  have b3 := onto b2 hb3
  have R3 := hidden (hj3.orw l.length (Nat.le_refl _))
  clear hb3 b2 hj3
  go_wp2_with fail
  refine (ibusy_any who _ _ _ l _ R3.out HL.out HM.out).mono ?_
  rintro e w4 ⟨rfl, hb4⟩
  have b4 := onto b3 hb4
  have R4 := hidden (R3.out.below hb4)
  clear hb4 R3 b3
  generalize busy l who = t
  go_wp2_with fail
  refine (HT.out _ (HJ.out.below b4)).mono ?_
  rintro e w5 ⟨rfl, hj5, hb5⟩
  have b5 := onto b4 hb5
  have R6 := hidden (R4.out.below hb5)
  have R5 := hidden (hj5.orw l.length (Nat.le_refl _))
  clear hb5 R4 b4 hj5
  go_wp2_with fail
  refine (eqops_any _ _ _ _ _ _ l _ R6.out R5.out HL.out HM.out).mono ?_
  rintro e w6 ⟨rfl, hb6⟩
  have b6 := onto b5 hb6
  clear hb6 R5 R6 b5
  go_wp2_with fail
  go_ret
  exact ⟨rfl, b6⟩

set_option maxRecDepth 100000 in
theorem lifted (os : Os) (started : os.Started) (H : Type) (enc : TypeId × Value → H) :
    ReturnsInHanded {} Try.checked os 5 .any (Rows.fnExactBusySpec.pre6 enc Try.prog Try.f5 Rows.fnExactBusyRow.domain false) (Rows.fnExactBusySpec.post enc Try.prog Try.f5 false true false false) := by
  refine returnsInHanded_of_change (C := Try.checked) own started (by kernel_rfl) Try.func5
    (ChangeSpec.witness6 (enc := enc) (C := Try.checked) false ⟨#[], #[.slice none 0 0, .int .i64 0], []⟩ 8 (by kernel_rfl) (by kernel_rfl) (by kernel_rfl) (by kernel_rfl)) ?_
  intro W base args ds gs before hval0 hW hcnd _
  have hval : ∀ (j : Nat) t v, Try.f5.params[j]? = some t → args[j]? = some v → Value.okWide Try.prog W .any base t v := hval0
  have hW' := hW
  obtain ⟨p, q, hA0, hV, rfl, hfz, hnd⟩ := hW
  have hA : DataW.TrodAll enc Try.prog W 0 (fun _ => true) true Try.f5.params.toList args.toList ds p := hA0
  rw [Try.params5] at hA hval
  obtain ⟨v0, vs0, d0, ds0, p0, q0, hargs, rfl, rfl, h0, r0⟩ := trodAll_cons hA
  obtain ⟨v1, vs1, d1, ds1, p1, q1, rfl, rfl, rfl, h1, r1⟩ := trodAll_cons r0
  obtain ⟨rfl, rfl, rfl⟩ := trodAll_nil r1
  obtain rfl : args = #[v0, v1] := by cases args; simp_all
  obtain ⟨rfl, rfl⟩ := trodVars_none hV
  have k0 := h0
  have lt0 : ∀ x ∈ p0, x.block < W.heap.size := by obtain ⟨m, hm⟩ := k0; exact DataW.trod_lt m _ _ _ hm
  obtain ⟨ao, len, cap, rfl⟩ := okWide_slice Try.underlying22 (hval 0 22 v0 rfl rfl)
  obtain ⟨l, hl, hm, hrow, htm⟩ := ops_of_read h0
  obtain ⟨x1, rfl, rfl, rfl, k1⟩ := open_int Try.underlying2 (hval 1 2 v1 rfl rfl) h1
  clear hA0 hval0
  refine (walk ao len cap l x1 W hrow hl hm htm).mono fun e W' ⟨he, bel⟩ => ?_
  subst he
  exact ⟨_, rfl, _, _, _, [], _, [], hW', trodAll_mk1 (shut_bool Try.underlying4 _), (trodAll_cons_mk (Below.trod laidOut (by kernel_rfl) (of_decide_eq_true (by kernel_rfl)) k0 bel lt0) (trodAll_cons_mk (shut_int Try.underlying2 k1) trodAll_mk0)), rfl, bel.frame _, fun h => by cases h⟩

theorem over : Rows.fnExactBusyRow.holds Try.pinned (OpenSpec.ofChange Rows.fnExactBusySpec) :=
  OpenClaim.holds_of_wide 5 Try.f5 rfl rfl rfl rfl rfl rfl rfl ⟨rfl, rfl, rfl, rfl, rfl⟩ rfl rfl rfl rfl rfl (by kernel_rfl) Try.func5 (by kernel_rfl)
    (of_decide_eq_true (by kernel_rfl)) (by unfold Func.isWrapper; first | (rw [if_pos (by decide +kernel)]; kernel_rfl) | (rw [if_neg (by decide +kernel)]; exact ⟨rfl, rfl⟩))
    (fun os started H enc _ => lifted os started H enc)
end fnExactBusy
theorem fnExactBusy_holds : Rows.FnExactBusySaid := fnExactBusy.over
end Go.Proofs.Ytcfghnffacdekao
