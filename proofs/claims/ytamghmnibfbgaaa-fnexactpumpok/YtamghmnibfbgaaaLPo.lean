/-
  Proved: for every pump, the program's PumpOk answers as the specification's (FnExactPumpOk returns true). No conditions.
-/
import Derived.Test.YtamghmnibfbgaaaCr
import Derived.Test.YtamghmnibfbgaaaCb
namespace Go.Proofs.Ytamghmnibfbgaaa
open Go.RowKit Va Ba

namespace fnExactPumpOk
open Go.ChangeShapes Go.WideShapes Go.ChangeAt Go.Joins
set_option linter.unusedVariables false

theorem own : ownKnob Try.prog.godebug = none := by kernel_rfl
theorem laidOut : laidOutB Try.prog = true := by kernel_rfl

set_option maxRecDepth 20000 in
set_option maxHeartbeats 4000000 in
theorem walk (x : Pm) (w : World) : Calls Try.prog 6 #[aPm x] w fun e w' => e = .returned (.bool true) ∧ Below w.heap.size w w' := by
  have hT := topump_any x
  have hS := spok_any x
  have hI := iok_any x
  unfold aPm
  generalize pmOk x = t at *
  go_enter Try.func6, Try.ntmps6
  go_upto_region 1 with fail
  have hP := PB.new w #[.int .i64 x.lim.sl, .int .i64 x.lim.sh, .int .i64 x.lim.hl, .int .i64 x.lim.hh, .int .i64 x.rate, .int .i64 x.asked, .int .i64 x.st, .bool x.door, .int .i64 x.left, .int .i64 x.given] 47
  have hb0 : Below w.heap.size w (w.alloc (.cells #[.int .i64 x.lim.sl, .int .i64 x.lim.sh, .int .i64 x.lim.hl, .int .i64 x.lim.hh, .int .i64 x.rate, .int .i64 x.asked, .int .i64 x.st, .bool x.door, .int .i64 x.left, .int .i64 x.given] 47)) := (Below.refl _ _).alloc (Nat.le_refl _) _
  generalize w.alloc (.cells #[.int .i64 x.lim.sl, .int .i64 x.lim.sh, .int .i64 x.lim.hl, .int .i64 x.lim.hh, .int .i64 x.rate, .int .i64 x.asked, .int .i64 x.st, .bool x.door, .int .i64 x.left, .int .i64 x.given] 47) = wA at *
  have K1 := box_call hT hP
  have K2 := box_call hS hP
  have K3 := box_call hI hP
  have hr := Below.refl wA.heap.size wA
  have hle := hb0.size
  obtain ⟨c0, c1, c2, c3, c4, c5, c6, c7, c8, c9⟩ := hP.ten
  have HB := hidden hb0
  clear hP hb0 hT hS hI
  unfold aPm at K1 K2 K3
  unfold Ten at K1 K2 K3
  generalize hBB : w.heap.size = B at *
  go_wp2_with (with_reducible (first | refine (K1 _ (by assumption)).mono ?_ | refine (K2 _ (by assumption)).mono ?_ | refine (K3 _ (by assumption)).mono ?_); rintro e w2 ⟨rfl, hb2, d0, d1, d2, d3, d4, d5, d6, d7, d8, d9⟩)
  all_goals go_ret
  all_goals exact ⟨rfl, by first | exact HB.out.trans (Below.mono (by assumption) hle) | (rw [hBB]; exact HB.out.trans (Below.mono (by assumption) hle))⟩

set_option maxRecDepth 100000 in
theorem lifted (os : Os) (started : os.Started) (H : Type) (enc : TypeId × Value → H) :
    ReturnsInHanded {} Try.checked os 6 .any (Rows.fnExactPumpOkSpec.pre6 enc Try.prog Try.f6 Rows.fnExactPumpOkRow.domain false) (Rows.fnExactPumpOkSpec.post enc Try.prog Try.f6 false true false false) := by
  refine returnsInHanded_of_change (C := Try.checked) own started (by kernel_rfl) Try.func6
    (ChangeSpec.witness6 (enc := enc) (C := Try.checked) false ⟨#[], #[.agg #[.int .i64 0, .int .i64 0, .int .i64 0, .int .i64 0, .int .i64 0, .int .i64 0, .int .i64 0, .bool false, .int .i64 0, .int .i64 0]], []⟩ 8 (by kernel_rfl) (by kernel_rfl) (by kernel_rfl) (by kernel_rfl)) ?_
  intro W base args ds gs before hval0 hW hcnd _
  have hval : ∀ (j : Nat) t v, Try.f6.params[j]? = some t → args[j]? = some v → Value.okWide Try.prog W .any base t v := hval0
  have hW' := hW
  obtain ⟨p, q, hA0, hV, rfl, hfz, hnd⟩ := hW
  have hA : DataW.TrodAll enc Try.prog W 0 (fun _ => true) true Try.f6.params.toList args.toList ds p := hA0
  rw [Try.params6] at hA hval
  obtain ⟨v0, vs0, d0, ds0, p0, q0, hargs, rfl, rfl, h0, r0⟩ := trodAll_cons hA
  obtain ⟨rfl, rfl, rfl⟩ := trodAll_nil r0
  obtain rfl : args = #[v0] := by cases args; simp_all
  obtain ⟨rfl, rfl⟩ := trodVars_none hV
  have k0 := h0
  have lt0 : ∀ x ∈ p0, x.block < W.heap.size := by obtain ⟨m, hm⟩ := k0; exact DataW.trod_lt m _ _ _ hm
  obtain ⟨x, rfl⟩ := pump_of_read (hval 0 47 v0 rfl rfl) h0
  clear hA0 hval0
  refine (walk x W).mono fun e W' ⟨he, bel⟩ => ?_
  subst he
  exact ⟨_, rfl, _, _, _, [], _, [], hW', trodAll_mk1 (shut_bool Try.underlying4 _), (trodAll_cons_mk (Below.trod laidOut (by kernel_rfl) (of_decide_eq_true (by kernel_rfl)) k0 bel lt0) trodAll_mk0), rfl, bel.frame _, fun h => by cases h⟩

theorem over : Rows.fnExactPumpOkRow.holds Try.pinned (OpenSpec.ofChange Rows.fnExactPumpOkSpec) :=
  OpenClaim.holds_of_wide 6 Try.f6 rfl rfl rfl rfl rfl rfl rfl ⟨rfl, rfl, rfl, rfl, rfl⟩ rfl rfl rfl rfl rfl (by kernel_rfl) Try.func6 (by kernel_rfl)
    (of_decide_eq_true (by kernel_rfl)) (by unfold Func.isWrapper; first | (rw [if_pos (by decide +kernel)]; kernel_rfl) | (rw [if_neg (by decide +kernel)]; exact ⟨rfl, rfl⟩))
    (fun os started H enc _ => lifted os started H enc)
end fnExactPumpOk
theorem fnExactPumpOk_holds : Rows.FnExactPumpOkSaid := fnExactPumpOk.over
end Go.Proofs.Ytamghmnibfbgaaa
