/-
  Proved: for every amount, the program's AmountOk answers as the specification's (FnExactAmountOk returns true). No conditions.
-/
import Derived.Test.YtiopmlepdjiapaiOk2
import Derived.ProofKit
import Derived.OpenShut
import Derived.ShutString
import Derived.ChangeOld
import Derived.Below
import Derived.Lib.SmallJoins
namespace Go.Proofs.Ytiopmlepdjiapai
open Go.RowKit Am

set_option maxHeartbeats 400000 in
theorem to_any (n d u : Int) (w : World) :
    Calls Try.prog 5 #[.agg #[.int .i64 n, .int .i64 d, .int .i64 u]] w fun r w' => r = .returned (.agg #[.int .i64 n, .int .i64 d, .int .i64 u]) ∧ Below w.heap.size w w' := by
  go_enter Try.func5, Try.ntmps5
  go_wp2
  exact bodyPost_ret (v := .agg #[.int .i64 n, .int .i64 d, .int .i64 u]) (by simp [results, Try.results5, go_sem]) rfl
    ⟨rfl, by repeat (first | exact Below.refl _ _ | refine Below.setCell ?_ (by first | (simp; done) | (simp; omega)) _ | refine Below.alloc ?_ (by first | (simp; done) | (simp; omega)) _)⟩

namespace fnExactAmountOk
open Go.ChangeShapes Go.WideShapes Go.ChangeAt Go.Joins
set_option linter.unusedVariables false

theorem own : ownKnob Try.prog.godebug = none := by kernel_rfl
theorem cells23 : Try.prog.cellsOf 23 = 3 := by kernel_rfl

set_option maxHeartbeats 1000000 in
theorem walk (n d u : Int) (w : World) :
    Calls Try.prog 3 #[.agg #[.int .i64 n, .int .i64 d, .int .i64 u]] w fun r w' => r = .returned (.bool true) ∧ Below w.heap.size w w' := by
  go_enter Try.func3, Try.ntmps3
  go_wp2_with fail
  refine (to_any n d u _).mono ?_
  rintro r w1 ⟨rfl, hb1⟩
  go_wp2_with fail
  refine (sok_any n d u _).mono ?_
  rintro r w2 ⟨rfl, hb2⟩
  have hB2 := hop hb1 (Below.refl _ _) hb2
  obtain ⟨hc2, hf2⟩ := bcell hB2
  go_wp2_with fail
  refine (to_any n d u _).mono ?_
  rintro r w3 ⟨rfl, hb3⟩
  go_wp2_with fail
  refine (iok_any n d u _).mono ?_
  rintro r w4 ⟨rfl, hb4⟩
  go_wp2
  go_ret
  exact ⟨rfl, onto (onto (onto ((Below.refl _ _).alloc (Nat.le_refl _) _) hB2) hb3) hb4⟩

set_option maxRecDepth 100000 in
theorem lifted (os : Os) (started : os.Started) (H : Type) (enc : TypeId × Value → H) :
    ReturnsInHanded {} Try.checked os 3 .any (Rows.fnExactAmountOkSpec.pre6 enc Try.prog Try.f3 Rows.fnExactAmountOkRow.domain false) (Rows.fnExactAmountOkSpec.post enc Try.prog Try.f3 false true false false) := by
  refine returnsInHanded_of_change (C := Try.checked) own started (by kernel_rfl) Try.func3
    (ChangeSpec.witness6 (enc := enc) (C := Try.checked) false ⟨#[], #[.agg #[.int .i64 0, .int .i64 0, .int .i64 0]], []⟩ 8 (by kernel_rfl) (by kernel_rfl) (by kernel_rfl) (by kernel_rfl)) ?_
  intro W base args ds gs before hval0 hW hcnd _
  have hval : ∀ (j : Nat) t v, Try.f3.params[j]? = some t → args[j]? = some v → Value.okWide Try.prog W .any base t v := hval0
  have hW' := hW
  obtain ⟨p, q, hA0, hV, rfl, hfz, hnd⟩ := hW
  have hA : DataW.TrodAll enc Try.prog W 0 (fun _ => true) true Try.f3.params.toList args.toList ds p := hA0
  rw [Try.params3] at hA hval
  obtain ⟨v0, vs0, d0, ds0, p0, q0, hargs, rfl, rfl, h0, r0⟩ := trodAll_cons hA
  obtain ⟨rfl, rfl, rfl⟩ := trodAll_nil r0
  obtain rfl : args = #[v0] := by cases args; simp_all
  obtain ⟨rfl, rfl⟩ := trodVars_none hV
  obtain ⟨c00, c01, c02, y00, y01, y02, m0, rfl, rfl, rfl, hy00, hy01, hy02⟩ := open_agg3 Try.underlying23 (by kernel_rfl) cells23 (hval 0 23 v0 rfl rfl) h0
  obtain ⟨a0n, e00, rfl, w0n⟩ := DataW.trod_int Try.underlying2 hy00
  obtain ⟨a0d, e01, rfl, w0d⟩ := DataW.trod_int Try.underlying2 hy01
  obtain ⟨a0u, e02, rfl, w0u⟩ := DataW.trod_int Try.underlying2 hy02
  simp at e00 e01 e02
  subst e00 e01 e02
  have sr0 : ∀ (W' : World) (sp : Nat → Bool), DataW.Trod enc Try.prog W' 0 sp true 23 (.agg #[.int .i64 a0n, .int .i64 a0d, .int .i64 a0u]) (.agg [.lit (.int .i64 a0n), .lit (.int .i64 a0d), .lit (.int .i64 a0u)]) [] := fun W' sp =>
    shut_agg3 (y0 := (.lit (.int .i64 a0n), [])) (y1 := (.lit (.int .i64 a0d), [])) (y2 := (.lit (.int .i64 a0u), [])) Try.underlying23 (by kernel_rfl) cells23 ⟨1, by simp [DataW.trod, Try.underlying2, w0n]⟩ ⟨1, by simp [DataW.trod, Try.underlying2, w0d]⟩ ⟨1, by simp [DataW.trod, Try.underlying2, w0u]⟩
  clear hA0 hval0
  refine (walk a0n a0d a0u W).mono fun e W' ⟨he, bel⟩ => ?_
  subst he
  exact ⟨_, rfl, _, _, _, [], _, [], hW', trodAll_mk1 (shut_bool Try.underlying4 _), (trodAll_cons_mk (sr0 _ _) trodAll_mk0), rfl, bel.frame _, fun h => by cases h⟩

theorem over : Rows.fnExactAmountOkRow.holds Try.pinned (OpenSpec.ofChange Rows.fnExactAmountOkSpec) :=
  OpenClaim.holds_of_wide 3 Try.f3 rfl rfl rfl rfl rfl rfl rfl ⟨rfl, rfl, rfl, rfl, rfl⟩ rfl rfl rfl rfl rfl (by kernel_rfl) Try.func3 (by kernel_rfl)
    (of_decide_eq_true (by kernel_rfl)) (by unfold Func.isWrapper; first | (rw [if_pos (by decide +kernel)]; kernel_rfl) | (rw [if_neg (by decide +kernel)]; exact ⟨rfl, rfl⟩))
    (fun os started H enc _ => lifted os started H enc)

end fnExactAmountOk
theorem fnExactAmountOk_holds : Rows.FnExactAmountOkSaid := fnExactAmountOk.over
end Go.Proofs.Ytiopmlepdjiapai
