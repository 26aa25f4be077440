/-
  Proved: for every four numbers, the program's Roster answers as the specification's, and its answer is its own (FnExactRoster returns true). No conditions.
-/
import Derived.Test.YtgcpiinmcbdkmaaRo11
namespace Go.Proofs.Ytgcpiinmcbdkmaa
open Go.RowKit Va Lb Sy Ro

namespace fnExactRoster
open Go.ChangeShapes Go.WideShapes Go.ChangeAt Go.Joins
set_option linter.all false

theorem own : ownKnob Try.prog.godebug = none := by kernel_rfl
theorem laidOut : laidOutB Try.prog = true := by kernel_rfl

theorem roster_len (p d n r : Int) : (roster p d n r).length ≤ 1048576 := by
  unfold roster
  split
  · rename_i h
    simp only [okB, Bool.and_eq_true, decide_eq_true_eq] at h
    rw [ros_out_len]
    exact Nat.le_trans (Nat.mul_le_mul (show d.toNat ≤ 60 by omega) (show n.toNat ≤ 30 by omega)) (by omega)
  · simp

set_option maxRecDepth 20000 in
set_option maxHeartbeats 8000000 in
theorem walk (p d n r : Int) (w : World) :
    Calls Try.prog 7 #[.int .i64 p, .int .i64 d, .int .i64 n, .int .i64 r] w fun e w' => e = .returned (.bool true) ∧ Below w.heap.size w w' := by
  have hS := fun W => sroster_any p d n r W
  have hI := fun W => iroster_any p d n r W
  have hLL := roster_len p d n r
  generalize roster p d n r = L at *
  go_enter Try.func7, Try.ntmps7
  go_wp2_with fail
  with_reducible refine (hS _).mono ?_
  rintro e w3 ⟨v3, rfl, ho3, B3⟩
  obtain ⟨ad3, k3, rfl⟩ := ho3.row.form
  have V3 := hidden ho3.row
  clear ho3 hS
  go_wp2_with fail
  with_reducible refine (hI _).mono ?_
  rintro e w6 ⟨v6, rfl, ho6, hb6⟩
  obtain ⟨ad6, k6, rfl⟩ := ho6.row.form
  have O6 := hidden ho6
  have K6 := hidden hb6
  clear ho6 hb6
  go_wp2_with fail
  with_reducible refine (veqints_any _ _ L _ O6.out.row (V3.out.below K6.out) hLL).mono ?_
  rintro e w7 ⟨rfl, hb7⟩
  have K7 := hidden (K6.out.trans (hb7.mono K6.out.size))
  have O7 := hidden (O6.out.below hb7)
  clear hb7 K6 O6
  go_wp2_with fail
  with_reducible refine (vmarkint_any _ L _ 1 _ O7.out hLL (by omega) (by omega)).mono ?_
  rintro e w8 ⟨rfl, hm8, ha8, hz8⟩
  have K8 := hidden (O7.out.mark_below ha8 hz8 K7.out (Nat.le_refl _))
  have M8 := hidden hm8
  have n8 : ¬ (1 + (L.length : Int)) < 0 := by omega
  clear hm8 ha8 hz8 O7 K7
  go_wp2_with fail
  with_reducible refine (heldint_any _ 1 L.length _ M8.out.row hLL (by omega) (by omega)).mono ?_
  rintro e w9 ⟨rfl, hw9⟩
  have hw10 := hw9.symm
  clear hw9
  subst hw10
  go_wp2_with fail
  with_reducible refine (hI _).mono ?_
  rintro e w11 ⟨v11, rfl, ho11, hb11⟩
  obtain ⟨ad11, k11, rfl⟩ := ho11.row.form
  have V11 := hidden ho11.row
  have K11 := hidden (K8.out.trans (hb11.mono K8.out.size))
  have M11 := hidden (M8.out.below hb11)
  clear ho11 hb11 K8 M8
  go_wp2_with fail
  with_reducible refine (veqints_any _ _ L _ V11.out (V3.out.below K11.out) hLL).mono ?_
  rintro e w12 ⟨rfl, hb12⟩
  have K12 := hidden (K11.out.trans (hb12.mono K11.out.size))
  have M12 := hidden (M11.out.below hb12)
  clear hb12 K11 M11 V11
  go_wp2_with fail
  with_reducible refine (heldint_any _ 1 L.length _ M12.out.row hLL (by omega) (by omega)).mono ?_
  rintro e w13 ⟨rfl, hw13⟩
  have hw14 := hw13.symm
  clear hw13
  subst hw14
  go_wp2_with fail
  go_ret
  exact ⟨rfl, ontoR B3 K12.out⟩

set_option maxRecDepth 100000 in
theorem lifted (os : Os) (started : os.Started) (H : Type) (enc : TypeId × Value → H) :
    ReturnsInHanded {} Try.checked os 7 .any (Rows.fnExactRosterSpec.pre6 enc Try.prog Try.f7 Rows.fnExactRosterRow.domain false) (Rows.fnExactRosterSpec.post enc Try.prog Try.f7 false true false false) := by
  refine returnsInHanded_of_change (C := Try.checked) own started (by kernel_rfl) Try.func7
    (ChangeSpec.witness6 (enc := enc) (C := Try.checked) false ⟨#[], #[.int .i64 0, .int .i64 0, .int .i64 0, .int .i64 0], []⟩ 8 (by kernel_rfl) (by kernel_rfl) (by kernel_rfl) (by kernel_rfl)) ?_
  intro W base args ds gs before hval0 hW hcnd _
  have hval : ∀ (j : Nat) t v, Try.f7.params[j]? = some t → args[j]? = some v → Value.okWide Try.prog W .any base t v := hval0
  have hW' := hW
  obtain ⟨p, q, hA0, hV, rfl, hfz, hnd⟩ := hW
  have hA : DataW.TrodAll enc Try.prog W 0 (fun _ => true) true Try.f7.params.toList args.toList ds p := hA0
  rw [Try.params7] at hA hval
  obtain ⟨v0, vs0, d0, ds0, p0, q0, hargs, rfl, rfl, h0, r0⟩ := trodAll_cons hA
  obtain ⟨v1, vs1, d1, ds1, p1, q1, rfl, rfl, rfl, h1, r1⟩ := trodAll_cons r0
  obtain ⟨v2, vs2, d2, ds2, p2, q2, rfl, rfl, rfl, h2, r2⟩ := trodAll_cons r1
  obtain ⟨v3, vs3, d3, ds3, p3, q3, rfl, rfl, rfl, h3, r3⟩ := trodAll_cons r2
  obtain ⟨rfl, rfl, rfl⟩ := trodAll_nil r3
  obtain rfl : args = #[v0, v1, v2, v3] := by cases args; simp_all
  obtain ⟨rfl, rfl⟩ := trodVars_none hV
  obtain ⟨p, rfl, rfl, rfl, k0⟩ := open_int Try.underlying2 (hval 0 2 v0 rfl rfl) h0
  obtain ⟨d, rfl, rfl, rfl, k1⟩ := open_int Try.underlying2 (hval 1 2 v1 rfl rfl) h1
  obtain ⟨n, rfl, rfl, rfl, k2⟩ := open_int Try.underlying2 (hval 2 2 v2 rfl rfl) h2
  obtain ⟨r, rfl, rfl, rfl, k3⟩ := open_int Try.underlying2 (hval 3 2 v3 rfl rfl) h3
  clear hA0 hval0
  refine (walk p d n r W).mono fun e W' ⟨he, bel⟩ => ?_
  subst he
  exact ⟨_, rfl, _, _, _, [], _, [], hW', trodAll_mk1 (shut_bool Try.underlying4 _), (trodAll_cons_mk (shut_int Try.underlying2 k0) (trodAll_cons_mk (shut_int Try.underlying2 k1) (trodAll_cons_mk (shut_int Try.underlying2 k2) (trodAll_cons_mk (shut_int Try.underlying2 k3) trodAll_mk0)))), rfl, bel.frame _, fun h => by cases h⟩

theorem over : Rows.fnExactRosterRow.holds Try.pinned (OpenSpec.ofChange Rows.fnExactRosterSpec) :=
  OpenClaim.holds_of_wide 7 Try.f7 rfl rfl rfl rfl rfl rfl rfl ⟨rfl, rfl, rfl, rfl, rfl⟩ rfl rfl rfl rfl rfl (by kernel_rfl) Try.func7 (by kernel_rfl)
    (of_decide_eq_true (by kernel_rfl)) (by unfold Func.isWrapper; first | (rw [if_pos (by decide +kernel)]; kernel_rfl) | (rw [if_neg (by decide +kernel)]; exact ⟨rfl, rfl⟩))
    (fun os started H enc _ => lifted os started H enc)
end fnExactRoster
theorem fnExactRoster_holds : Rows.FnExactRosterSaid := fnExactRoster.over
end Go.Proofs.Ytgcpiinmcbdkmaa
