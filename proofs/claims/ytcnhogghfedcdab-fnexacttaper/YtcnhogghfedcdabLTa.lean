/-
  Proved: for every three numbers, the program's Taper answers as the specification's, and its answer is its own (FnExactTaper returns true). No conditions.
-/
import Derived.Test.YtcnhogghfedcdabGb
import Derived.Test.YtcnhogghfedcdabGt
import Derived.Test.YtcnhogghfedcdabGu
namespace Go.Proofs.Ytcnhogghfedcdab
open Go.RowKit Va Ga

namespace fnExactTaper
open Go.ChangeShapes Go.WideShapes Go.ChangeAt Go.Joins
set_option linter.unusedVariables false

theorem own : ownKnob Try.prog.godebug = none := by kernel_rfl
theorem laidOut : laidOutB Try.prog = true := by kernel_rfl

theorem taper_len (f l s : Int) : (taper f l s).length ≤ 1048576 := by
  unfold taper
  split
  · rename_i h
    rw [tapTo_len]
    simp only [tapB, Bool.and_eq_true] at h
    have := (rng_iff.1 h.2.2).2
    omega
  · simp

set_option maxRecDepth 20000 in
set_option maxHeartbeats 8000000 in
theorem walk (f l s : Int) (w : World) :
    Calls Try.prog 6 #[.int .i64 f, .int .i64 l, .int .i64 s] w fun e w' => e = .returned (.bool true) ∧ Below w.heap.size w w' := by
  have hS := fun W => staper_any f l s W
  have hI := fun W => itaper_any f l s W
  have hLL := taper_len f l s
  generalize taper f l s = L at *
  go_enter Try.func6, Try.ntmps6
  go_wp2_with fail
  refine (hS _).mono ?_
  rintro e w3 ⟨v3, rfl, ho3, B3⟩
  obtain ⟨ad3, k3, rfl⟩ := ownW_slice ho3
  have V3 := hidden (ownI ho3).row
  clear ho3 hS
  go_wp2_with fail
  refine (hI _).mono ?_
  rintro e w6 ⟨v6, rfl, ho6, hb6⟩
  obtain ⟨ad6, k6, rfl⟩ := ownW_slice ho6
  have O6 := hidden (ownI ho6)
  have K6 := hidden hb6
  clear ho6 hb6
  go_wp2_with fail
  refine (eqints_any _ _ L _ O6.out.row (V3.out.below K6.out) hLL).mono ?_
  rintro e w7 ⟨rfl, hb7⟩
  have K7 := hidden (K6.out.trans (hb7.mono K6.out.size))
  have O7 := hidden (O6.out.below hb7)
  clear hb7 K6 O6
  go_wp2_with fail
  refine (markint_any _ L _ 1 _ O7.out hLL (by omega) (by omega)).mono ?_
  rintro e w8 ⟨rfl, hm8, ha8, hz8⟩
  have K8 := hidden (O7.out.mark_below ha8 hz8 K7.out (Nat.le_refl _))
  have M8 := hidden hm8
  have n8 : ¬ (1 + (L.length : Int)) < 0 := by omega
  clear hm8 ha8 hz8 O7 K7
  go_wp2_with fail
  refine (heldint_any _ 1 L.length _ M8.out.row hLL (by omega) (by omega)).mono ?_
  rintro e w9 ⟨rfl, hw9⟩
  have hw10 := hw9.symm
  clear hw9
  subst hw10
  go_wp2_with fail
  refine (hI _).mono ?_
  rintro e w11 ⟨v11, rfl, ho11, hb11⟩
  obtain ⟨ad11, k11, rfl⟩ := ownW_slice ho11
  have V11 := hidden (ownI ho11).row
  have K11 := hidden (K8.out.trans (hb11.mono K8.out.size))
  have M11 := hidden (M8.out.below hb11)
  clear ho11 hb11 K8 M8
  go_wp2_with fail
  refine (eqints_any _ _ L _ V11.out (V3.out.below K11.out) hLL).mono ?_
  rintro e w12 ⟨rfl, hb12⟩
  have K12 := hidden (K11.out.trans (hb12.mono K11.out.size))
  have M12 := hidden (M11.out.below hb12)
  clear hb12 K11 M11 V11
  go_wp2_with fail
  refine (heldint_any _ 1 L.length _ M12.out.row hLL (by omega) (by omega)).mono ?_
  rintro e w13 ⟨rfl, hw13⟩
  have hw14 := hw13.symm
  clear hw13
  subst hw14
  go_wp2_with fail
  go_ret
  exact ⟨rfl, onto B3 K12.out⟩

set_option maxRecDepth 100000 in
theorem lifted (os : Os) (started : os.Started) (H : Type) (enc : TypeId × Value → H) :
    ReturnsInHanded {} Try.checked os 6 .any (Rows.fnExactTaperSpec.pre6 enc Try.prog Try.f6 Rows.fnExactTaperRow.domain false) (Rows.fnExactTaperSpec.post enc Try.prog Try.f6 false true false false) := by
  refine returnsInHanded_of_change (C := Try.checked) own started (by kernel_rfl) Try.func6
    (ChangeSpec.witness6 (enc := enc) (C := Try.checked) false ⟨#[], #[.int .i64 0, .int .i64 0, .int .i64 0], []⟩ 8 (by kernel_rfl) (by kernel_rfl) (by kernel_rfl) (by kernel_rfl)) ?_
  intro W base args ds gs before hval0 hW hcnd _
  have hval : ∀ (j : Nat) t v, Try.f6.params[j]? = some t → args[j]? = some v → Value.okWide Try.prog W .any base t v := hval0
  have hW' := hW
  obtain ⟨p, q, hA0, hV, rfl, hfz, hnd⟩ := hW
  have hA : DataW.TrodAll enc Try.prog W 0 (fun _ => true) true Try.f6.params.toList args.toList ds p := hA0
  rw [Try.params6] at hA hval
  obtain ⟨v0, vs0, d0, ds0, p0, q0, hargs, rfl, rfl, h0, r0⟩ := trodAll_cons hA
  obtain ⟨v1, vs1, d1, ds1, p1, q1, rfl, rfl, rfl, h1, r1⟩ := trodAll_cons r0
  obtain ⟨v2, vs2, d2, ds2, p2, q2, rfl, rfl, rfl, h2, r2⟩ := trodAll_cons r1
  obtain ⟨rfl, rfl, rfl⟩ := trodAll_nil r2
  obtain rfl : args = #[v0, v1, v2] := by cases args; simp_all
  obtain ⟨rfl, rfl⟩ := trodVars_none hV
  obtain ⟨f, rfl, rfl, rfl, k0⟩ := open_int Try.underlying2 (hval 0 2 v0 rfl rfl) h0
  obtain ⟨l, rfl, rfl, rfl, k1⟩ := open_int Try.underlying2 (hval 1 2 v1 rfl rfl) h1
  obtain ⟨s, rfl, rfl, rfl, k2⟩ := open_int Try.underlying2 (hval 2 2 v2 rfl rfl) h2
  clear hA0 hval0
  refine (walk f l s W).mono fun e W' ⟨he, bel⟩ => ?_
  subst he
  exact ⟨_, rfl, _, _, _, [], _, [], hW', trodAll_mk1 (shut_bool Try.underlying4 _), (trodAll_cons_mk (shut_int Try.underlying2 k0) (trodAll_cons_mk (shut_int Try.underlying2 k1) (trodAll_cons_mk (shut_int Try.underlying2 k2) trodAll_mk0))), rfl, bel.frame _, fun h => by cases h⟩

theorem over : Rows.fnExactTaperRow.holds Try.pinned (OpenSpec.ofChange Rows.fnExactTaperSpec) :=
  OpenClaim.holds_of_wide 6 Try.f6 rfl rfl rfl rfl rfl rfl rfl ⟨rfl, rfl, rfl, rfl, rfl⟩ rfl rfl rfl rfl rfl (by kernel_rfl) Try.func6 (by kernel_rfl)
    (of_decide_eq_true (by kernel_rfl)) (by unfold Func.isWrapper; first | (rw [if_pos (by decide +kernel)]; kernel_rfl) | (rw [if_neg (by decide +kernel)]; exact ⟨rfl, rfl⟩))
    (fun os started H enc _ => lifted os started H enc)
end fnExactTaper
theorem fnExactTaper_holds : Rows.FnExactTaperSaid := fnExactTaper.over
end Go.Proofs.Ytcnhogghfedcdab
