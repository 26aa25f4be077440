/-
  Proved: for every alarm, the program's AlarmOk answers as the specification's (FnExactAlarmOk returns true). No conditions.
-/
import Derived.Test.YtohedolfefklfaaAp
namespace Go.Proofs.Ytohedolfefklfaa
open Go.RowKit Va

namespace fnExactAlarmOk
open Go.ChangeShapes Go.WideShapes Go.ChangeAt Go.Joins
set_option linter.unusedVariables false

theorem own : ownKnob Try.prog.godebug = none := by kernel_rfl
theorem laidOut : laidOutB Try.prog = true := by kernel_rfl

set_option maxRecDepth 20000 in
set_option maxHeartbeats 4000000 in
theorem walk (x : Al) (w : World) : Calls Try.prog 4 #[aA x] w fun e w' => e = .returned (.bool true) ∧ Below w.heap.size w w' := by
  have hT := toal_any x
  have hS := fun W => saok_any x W
  have hI := fun W => iaok_any x W
  unfold aA at *
  generalize alOk x = t at *
  go_enter Try.func4, Try.ntmps4
  have hb0 : Below w.heap.size w (w.alloc (.cells #[.int .i64 x.hi, .int .i64 x.lo, .int .i64 x.sl, .int .i64 x.dl] 29)) := (Below.refl _ _).alloc (Nat.le_refl _) _
  go_wp2_with fail
  refine (hT _).mono ?_
  rintro e w1 ⟨rfl, hb1⟩
  have b1 := onto hb0 hb1
  go_wp2_with fail
  refine (hS _).mono ?_
  rintro e w2 ⟨rfl, hb2⟩
  have b2 := onto b1 hb2
  have z1 := hb1.size
  have z2 := hb2.size
  simp only [World.size_alloc] at z1
  have c0 : w2.cell? ⟨w.heap.size, 0, none⟩ = some (.int .i64 x.hi) := ((bcell hb2).1 _ _ (by omega)).trans (((bcell hb1).1 _ _ (by first | omega | (simp; done) | (simp; omega))).trans (by simp))
  have c1 : w2.cell? ⟨w.heap.size, 1, none⟩ = some (.int .i64 x.lo) := ((bcell hb2).1 _ _ (by omega)).trans (((bcell hb1).1 _ _ (by first | omega | (simp; done) | (simp; omega))).trans (by simp))
  have c2 : w2.cell? ⟨w.heap.size, 2, none⟩ = some (.int .i64 x.sl) := ((bcell hb2).1 _ _ (by omega)).trans (((bcell hb1).1 _ _ (by first | omega | (simp; done) | (simp; omega))).trans (by simp))
  have c3 : w2.cell? ⟨w.heap.size, 3, none⟩ = some (.int .i64 x.dl) := ((bcell hb2).1 _ _ (by omega)).trans (((bcell hb1).1 _ _ (by first | omega | (simp; done) | (simp; omega))).trans (by simp))
  clear hb1 hb2 z1 z2 b1 hb0
  go_wp2_with fail
  refine (hT _).mono ?_
  rintro e w3 ⟨rfl, hb3⟩
  have b3 := onto b2 hb3
  go_wp2_with fail
  refine (hI _).mono ?_
  rintro e w4 ⟨rfl, hb4⟩
  have b4 := onto b3 hb4
  go_wp2_with fail
  go_ret
  exact ⟨rfl, b4⟩

set_option maxRecDepth 100000 in
theorem lifted (os : Os) (started : os.Started) (H : Type) (enc : TypeId × Value → H) :
    ReturnsInHanded {} Try.checked os 4 .any (Rows.fnExactAlarmOkSpec.pre6 enc Try.prog Try.f4 Rows.fnExactAlarmOkRow.domain false) (Rows.fnExactAlarmOkSpec.post enc Try.prog Try.f4 false true false false) := by
  refine returnsInHanded_of_change (C := Try.checked) own started (by kernel_rfl) Try.func4
    (ChangeSpec.witness6 (enc := enc) (C := Try.checked) false ⟨#[], #[.agg #[.int .i64 0, .int .i64 0, .int .i64 0, .int .i64 0]], []⟩ 8 (by kernel_rfl) (by kernel_rfl) (by kernel_rfl) (by kernel_rfl)) ?_
  intro W base args ds gs before hval0 hW hcnd _
  have hval : ∀ (j : Nat) t v, Try.f4.params[j]? = some t → args[j]? = some v → Value.okWide Try.prog W .any base t v := hval0
  have hW' := hW
  obtain ⟨p, q, hA0, hV, rfl, hfz, hnd⟩ := hW
  have hA : DataW.TrodAll enc Try.prog W 0 (fun _ => true) true Try.f4.params.toList args.toList ds p := hA0
  rw [Try.params4] at hA hval
  obtain ⟨v0, vs0, d0, ds0, p0, q0, hargs, rfl, rfl, h0, r0⟩ := trodAll_cons hA
  obtain ⟨rfl, rfl, rfl⟩ := trodAll_nil r0
  obtain rfl : args = #[v0] := by cases args; simp_all
  obtain ⟨rfl, rfl⟩ := trodVars_none hV
  have k0 := h0
  have lt0 : ∀ x ∈ p0, x.block < W.heap.size := by obtain ⟨m, hm⟩ := k0; exact DataW.trod_lt m _ _ _ hm
  obtain ⟨x, rfl⟩ := alarm_of_read (hval 0 29 v0 rfl rfl) h0
  clear hA0 hval0
  refine (walk x W).mono fun e W' ⟨he, bel⟩ => ?_
  subst he
  exact ⟨_, rfl, _, _, _, [], _, [], hW', trodAll_mk1 (shut_bool Try.underlying4 _), (trodAll_cons_mk (Below.trod laidOut (by kernel_rfl) (of_decide_eq_true (by kernel_rfl)) k0 bel lt0) trodAll_mk0), rfl, bel.frame _, fun h => by cases h⟩

theorem over : Rows.fnExactAlarmOkRow.holds Try.pinned (OpenSpec.ofChange Rows.fnExactAlarmOkSpec) :=
  OpenClaim.holds_of_wide 4 Try.f4 rfl rfl rfl rfl rfl rfl rfl ⟨rfl, rfl, rfl, rfl, rfl⟩ rfl rfl rfl rfl rfl (by kernel_rfl) Try.func4 (by kernel_rfl)
    (of_decide_eq_true (by kernel_rfl)) (by unfold Func.isWrapper; first | (rw [if_pos (by decide +kernel)]; kernel_rfl) | (rw [if_neg (by decide +kernel)]; exact ⟨rfl, rfl⟩))
    (fun os started H enc _ => lifted os started H enc)
end fnExactAlarmOk
theorem fnExactAlarmOk_holds : Rows.FnExactAlarmOkSaid := fnExactAlarmOk.over
end Go.Proofs.Ytohedolfefklfaa
