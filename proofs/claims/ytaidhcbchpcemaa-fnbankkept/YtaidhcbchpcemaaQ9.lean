/-
  Groups: red cells and plasma; the program and the specification.
-/
import Derived.Test.YtaidhcbchpcemaaVb
import Derived.Test.YtaidhcbchpcemaaQ1
namespace Go.Proofs.Ytaidhcbchpcemaa
open Go.RowKit Va Bl
set_option linter.unusedVariables false

theorem ret_boolQ {a b : Bool} (h : a = b) : Ending.returned (.bool a) = .returned (.bool b) := by rw [h]
theorem fin8 {u : Int} (h : rng u 0 7 = true) : ∃ a : Fin 8, u = (a.val : Int) := by
  have := rng_iff.1 h
  exact ⟨⟨u.toNat, by omega⟩, by simp; omega⟩

theorem red_bits {u p : Int} (hu : rng u 0 7 = true) (hp : rng p 0 7 = true) : (bits BinOp.andNot IntKind.i64 u p == 0) = redB u p := by
  obtain ⟨a, rfl⟩ := fin8 hu
  obtain ⟨b, rfl⟩ := fin8 hp
  revert a b
  decide +kernel
theorem pla_bits {u p : Int} (hu : rng u 0 7 = true) (hp : rng p 0 7 = true) : (bits BinOp.and IntKind.i64 (bits BinOp.andNot IntKind.i64 p u) 3 == 0) = plaB u p := by
  obtain ⟨a, rfl⟩ := fin8 hu
  obtain ⟨b, rfl⟩ := fin8 hp
  revert a b
  decide +kernel

set_option maxHeartbeats 400000 in
theorem igroup_any (x : Int) (w : World) : Calls Try.prog 29 #[.int .i64 x] w fun e w' => e = .returned (.bool (rng x 0 7)) ∧ w' = w := by
  unfold rng
  go_enter Try.func29, Try.ntmps29
  go_wp2
  all_goals (go_ret; exact ⟨ret_boolQ (by first | (simp; done) | (simp; omega) | (simp_all; done) | (simp_all; omega) | (rw [Bool.eq_iff_iff]; simp; omega) | (rw [Bool.eq_iff_iff]; simp_all; omega)), rfl⟩)

set_option maxHeartbeats 400000 in
theorem sgroup_any (x : Int) (w : World) : Calls Try.prog 30 #[.int .i64 x] w fun e w' => e = .returned (.bool (rng x 0 7)) ∧ w' = w := by
  have hK := lin_any x 0 7
  go_enter Try.func30, Try.ntmps30
  go_wp2_with (go_at_call 41; refine (hK _).mono ?_; rintro e w1 ⟨rfl, rfl⟩)
  all_goals (go_ret; exact ⟨rfl, rfl⟩)

set_option maxRecDepth 20000 in
set_option maxHeartbeats 1000000 in
theorem ired_any (u p : Int) (w : World) : Calls Try.prog 10 #[.int .i64 u, .int .i64 p] w fun e w' => e = .returned (.bool (redB u p)) ∧ w' = w := by
  have k1 := igroup_any u
  have k2 := igroup_any p
  cases hu : rng u 0 7 with
  | false =>
    rw [hu] at k1
    have hno : Hid (redB u p = false) := by rw [Hid, redB, hu]; rfl
    clear hu
    go_enter Try.func10, Try.ntmps10
    go_wp2_with (go_at_call 29; with_reducible (first | refine (k1 _).mono ?_ | refine (k2 _).mono ?_); rintro e w1 ⟨rfl, rfl⟩)
    go_ret
    exact ⟨ret_boolQ hno.out.symm, rfl⟩
  | true =>
    cases hp : rng p 0 7 with
    | false =>
      rw [hu] at k1
      rw [hp] at k2
      have hno : Hid (redB u p = false) := by rw [Hid, redB, hu, hp]; rfl
      clear hu hp
      go_enter Try.func10, Try.ntmps10
      go_wp2_with (go_at_call 29; with_reducible (first | refine (k1 _).mono ?_ | refine (k2 _).mono ?_); rintro e w1 ⟨rfl, rfl⟩)
      go_ret
      exact ⟨ret_boolQ hno.out.symm, rfl⟩
    | true =>
      have hb := hidden (red_bits hu hp)
      rw [hu] at k1
      rw [hp] at k2
      clear hu hp
      go_enter Try.func10, Try.ntmps10
      go_wp2_with (go_at_call 29; with_reducible (first | refine (k1 _).mono ?_ | refine (k2 _).mono ?_); rintro e w1 ⟨rfl, rfl⟩)
      go_ret
      exact ⟨ret_boolQ (by first | exact hb.out | (rw [← hb.out]; simp)), rfl⟩

set_option maxRecDepth 20000 in
set_option maxHeartbeats 1000000 in
theorem ipla_any (u p : Int) (w : World) : Calls Try.prog 12 #[.int .i64 u, .int .i64 p] w fun e w' => e = .returned (.bool (plaB u p)) ∧ w' = w := by
  have k1 := igroup_any u
  have k2 := igroup_any p
  cases hu : rng u 0 7 with
  | false =>
    rw [hu] at k1
    have hno : Hid (plaB u p = false) := by rw [Hid, plaB, hu]; rfl
    clear hu
    go_enter Try.func12, Try.ntmps12
    go_wp2_with (go_at_call 29; with_reducible (first | refine (k1 _).mono ?_ | refine (k2 _).mono ?_); rintro e w1 ⟨rfl, rfl⟩)
    go_ret
    exact ⟨ret_boolQ hno.out.symm, rfl⟩
  | true =>
    cases hp : rng p 0 7 with
    | false =>
      rw [hu] at k1
      rw [hp] at k2
      have hno : Hid (plaB u p = false) := by rw [Hid, plaB, hu, hp]; rfl
      clear hu hp
      go_enter Try.func12, Try.ntmps12
      go_wp2_with (go_at_call 29; with_reducible (first | refine (k1 _).mono ?_ | refine (k2 _).mono ?_); rintro e w1 ⟨rfl, rfl⟩)
      go_ret
      exact ⟨ret_boolQ hno.out.symm, rfl⟩
    | true =>
      have hb := hidden (pla_bits hu hp)
      rw [hu] at k1
      rw [hp] at k2
      clear hu hp
      go_enter Try.func12, Try.ntmps12
      go_wp2_with (go_at_call 29; with_reducible (first | refine (k1 _).mono ?_ | refine (k2 _).mono ?_); rintro e w1 ⟨rfl, rfl⟩)
      go_ret
      exact ⟨ret_boolQ (by first | exact hb.out | (rw [← hb.out]; simp)), rfl⟩
end Go.Proofs.Ytaidhcbchpcemaa
