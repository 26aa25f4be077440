/-
  A letter that is as told; the greater of two numbers.
-/
import Derived.Test.YtbabknhccapaoaaM2w
namespace Go.Proofs.Ytbabknhccapaoaa
open Go.RowKit Va Mg
set_option linter.all false

set_option maxRecDepth 20000 in
set_option maxHeartbeats 8000000 in
theorem sletter_any (x : Lt) (w : World) : Calls Try.prog 23 #[aLt x] w fun e w' => e = .returned (.bool (ltB x)) ∧ Below w.heap.size w w' := by
  obtain ⟨f, s, c, k, v⟩ := x
  have hb0 : Below w.heap.size w (w.alloc (.cells #[.int .i64 f, .int .i64 s, .int .i64 c, .int .i64 k, .int .i64 v] 29)) := (Below.refl _ _).alloc (Nat.le_refl _) _
  have k0 := lin_any f 0 19
  have k1 := lin_any s 0 9999
  have k2 := lin_any c (-1) (s - 1)
  have k3 := lin_any k 0 99
  have k4 := lin_any v (-100000) 100000
  unfold aLt ltB
  dsimp only
  generalize rng f 0 19 = t0 at *
  generalize ht1 : rng s 0 9999 = t1 at *
  generalize rng c (-1) (s - 1) = t2 at *
  generalize rng k 0 99 = t3 at *
  generalize rng v (-100000) 100000 = t4 at *
  rcases t0 with _ | _
  · skip
    go_enter Try.func23, Try.ntmps23
    go_wp2_with (with_reducible (first | refine (k0 _).mono ?_ | refine (k1 _).mono ?_ | refine (k2 _).mono ?_ | refine (k3 _).mono ?_ | refine (k4 _).mono ?_); rintro e w1 ⟨rfl, rfl⟩)
    all_goals (go_ret; exact ⟨by first | rfl | (simp; done), hb0⟩)
  rcases t1 with _ | _
  · clear ht1
    go_enter Try.func23, Try.ntmps23
    go_wp2_with (with_reducible (first | refine (k0 _).mono ?_ | refine (k1 _).mono ?_ | refine (k2 _).mono ?_ | refine (k3 _).mono ?_ | refine (k4 _).mono ?_); rintro e w1 ⟨rfl, rfl⟩)
    all_goals (go_ret; exact ⟨by first | rfl | (simp; done), hb0⟩)
  obtain ⟨hs0, hs1⟩ := rng_iff.1 ht1
  clear ht1
  rcases t2 with _ | _
  · skip
    go_enter Try.func23, Try.ntmps23
    go_wp2_with (with_reducible (first | refine (k0 _).mono ?_ | refine (k1 _).mono ?_ | refine (k2 _).mono ?_ | refine (k3 _).mono ?_ | refine (k4 _).mono ?_); rintro e w1 ⟨rfl, rfl⟩)
    all_goals (go_ret; exact ⟨by first | rfl | (simp; done), hb0⟩)
  rcases t3 with _ | _
  · skip
    go_enter Try.func23, Try.ntmps23
    go_wp2_with (with_reducible (first | refine (k0 _).mono ?_ | refine (k1 _).mono ?_ | refine (k2 _).mono ?_ | refine (k3 _).mono ?_ | refine (k4 _).mono ?_); rintro e w1 ⟨rfl, rfl⟩)
    all_goals (go_ret; exact ⟨by first | rfl | (simp; done), hb0⟩)
  rcases t4 with _ | _
  · skip
    go_enter Try.func23, Try.ntmps23
    go_wp2_with (with_reducible (first | refine (k0 _).mono ?_ | refine (k1 _).mono ?_ | refine (k2 _).mono ?_ | refine (k3 _).mono ?_ | refine (k4 _).mono ?_); rintro e w1 ⟨rfl, rfl⟩)
    all_goals (go_ret; exact ⟨by first | rfl | (simp; done), hb0⟩)
  go_enter Try.func23, Try.ntmps23
  go_wp2_with (with_reducible (first | refine (k0 _).mono ?_ | refine (k1 _).mono ?_ | refine (k2 _).mono ?_ | refine (k3 _).mono ?_ | refine (k4 _).mono ?_); rintro e w1 ⟨rfl, rfl⟩)
  all_goals (go_ret; exact ⟨by first | rfl | (simp; done), hb0⟩)

set_option maxHeartbeats 400000 in
theorem smax_any (a b : Int) (w : World) : Calls Try.prog 28 #[.int .i64 a, .int .i64 b] w fun e w' => e = .returned (.int .i64 (if b < a then a else b)) ∧ w = w' := by
  by_cases h : b < a
  · rw [if_pos h]
    go_enter Try.func28, Try.ntmps28
    go_wp2
    go_ret
    exact ⟨rfl, rfl⟩
  · rw [if_neg h]
    go_enter Try.func28, Try.ntmps28
    go_wp2
    go_ret
    exact ⟨rfl, rfl⟩

set_option maxHeartbeats 400000 in
theorem ival_any (n : Int) (w : World) : Calls Try.prog 45 #[.int .i64 n] w fun e w' => e = .returned (.bool (rng n (-100000) 100000)) ∧ w = w' := by
  unfold rng
  go_enter Try.func45, Try.ntmps45
  go_wp2
  all_goals (go_ret; exact ⟨ret_boolT (by first | (simp; done) | (simp; omega) | (simp_all; done) | (simp_all; omega) | (rw [Bool.eq_iff_iff]; simp; omega) | (rw [Bool.eq_iff_iff]; simp_all; omega)), rfl⟩)
end Go.Proofs.Ytbabknhccapaoaa
