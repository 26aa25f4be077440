/-
  A letter that is as told: the program's.
-/
import Derived.Test.YtbabknhccapaoaaM3
namespace Go.Proofs.Ytbabknhccapaoaa
open Go.RowKit Va Mg
set_option linter.all false

set_option maxRecDepth 20000 in
set_option maxHeartbeats 8000000 in
theorem iright_any (x : Lt) (w : World) : Calls Try.prog 25 #[aLt x] w fun e w' => e = .returned (.bool (ltB x)) ∧ Below w.heap.size w w' := by
  obtain ⟨f, s, c, k, v⟩ := x
  have hb0 : Below w.heap.size w (w.alloc (.cells #[.int .i64 f, .int .i64 s, .int .i64 c, .int .i64 k, .int .i64 v] 29)) := (Below.refl _ _).alloc (Nat.le_refl _) _
  have k4 := ival_any v
  have HV : Hid (ltB ⟨f, s, c, k, v⟩ = (decide ((0 ≤ f ∧ f < 20) ∧ (0 ≤ s ∧ s < 10000) ∧ (0 ≤ k ∧ k < 100) ∧ (-1 ≤ c ∧ c < s)) && rng v (-100000) 100000)) := by
    unfold Hid ltB
    dsimp only
    rw [Bool.eq_iff_iff]
    simp only [Bool.and_eq_true, decide_eq_true_eq, rng_iff]
    omega
  rw [HV.out]
  clear HV
  unfold aLt
  dsimp only
  generalize rng v (-100000) 100000 = t4 at *
  by_cases h0 : ¬ (0 ≤ f)
  · rw [decide_eq_false (by omega), Bool.false_and]
    rcases t4 with _ | _
    · go_enter Try.func25, Try.ntmps25
      go_wp2_with (with_reducible (refine (k4 _).mono ?_); rintro e w1 ⟨rfl, rfl⟩)
      all_goals (go_ret; exact ⟨by first | rfl | (simp; done) | (simp; omega), hb0⟩)
    · go_enter Try.func25, Try.ntmps25
      go_wp2_with (with_reducible (refine (k4 _).mono ?_); rintro e w1 ⟨rfl, rfl⟩)
      all_goals (go_ret; exact ⟨by first | rfl | (simp; done) | (simp; omega), hb0⟩)
  have h0' := Decidable.not_not.1 h0
  clear h0
  by_cases h1 : ¬ (f < 20)
  · rw [decide_eq_false (by omega), Bool.false_and]
    rcases t4 with _ | _
    · go_enter Try.func25, Try.ntmps25
      go_wp2_with (with_reducible (refine (k4 _).mono ?_); rintro e w1 ⟨rfl, rfl⟩)
      all_goals (go_ret; exact ⟨by first | rfl | (simp; done) | (simp; omega), hb0⟩)
    · go_enter Try.func25, Try.ntmps25
      go_wp2_with (with_reducible (refine (k4 _).mono ?_); rintro e w1 ⟨rfl, rfl⟩)
      all_goals (go_ret; exact ⟨by first | rfl | (simp; done) | (simp; omega), hb0⟩)
  have h1' := Decidable.not_not.1 h1
  clear h1
  by_cases h2 : ¬ (0 ≤ s)
  · rw [decide_eq_false (by omega), Bool.false_and]
    rcases t4 with _ | _
    · go_enter Try.func25, Try.ntmps25
      go_wp2_with (with_reducible (refine (k4 _).mono ?_); rintro e w1 ⟨rfl, rfl⟩)
      all_goals (go_ret; exact ⟨by first | rfl | (simp; done) | (simp; omega), hb0⟩)
    · go_enter Try.func25, Try.ntmps25
      go_wp2_with (with_reducible (refine (k4 _).mono ?_); rintro e w1 ⟨rfl, rfl⟩)
      all_goals (go_ret; exact ⟨by first | rfl | (simp; done) | (simp; omega), hb0⟩)
  have h2' := Decidable.not_not.1 h2
  clear h2
  by_cases h3 : ¬ (s < 10000)
  · rw [decide_eq_false (by omega), Bool.false_and]
    rcases t4 with _ | _
    · go_enter Try.func25, Try.ntmps25
      go_wp2_with (with_reducible (refine (k4 _).mono ?_); rintro e w1 ⟨rfl, rfl⟩)
      all_goals (go_ret; exact ⟨by first | rfl | (simp; done) | (simp; omega), hb0⟩)
    · go_enter Try.func25, Try.ntmps25
      go_wp2_with (with_reducible (refine (k4 _).mono ?_); rintro e w1 ⟨rfl, rfl⟩)
      all_goals (go_ret; exact ⟨by first | rfl | (simp; done) | (simp; omega), hb0⟩)
  have h3' := Decidable.not_not.1 h3
  clear h3
  by_cases h4 : ¬ (0 ≤ k)
  · rw [decide_eq_false (by omega), Bool.false_and]
    rcases t4 with _ | _
    · go_enter Try.func25, Try.ntmps25
      go_wp2_with (with_reducible (refine (k4 _).mono ?_); rintro e w1 ⟨rfl, rfl⟩)
      all_goals (go_ret; exact ⟨by first | rfl | (simp; done) | (simp; omega), hb0⟩)
    · go_enter Try.func25, Try.ntmps25
      go_wp2_with (with_reducible (refine (k4 _).mono ?_); rintro e w1 ⟨rfl, rfl⟩)
      all_goals (go_ret; exact ⟨by first | rfl | (simp; done) | (simp; omega), hb0⟩)
  have h4' := Decidable.not_not.1 h4
  clear h4
  by_cases h5 : ¬ (k < 100)
  · rw [decide_eq_false (by omega), Bool.false_and]
    rcases t4 with _ | _
    · go_enter Try.func25, Try.ntmps25
      go_wp2_with (with_reducible (refine (k4 _).mono ?_); rintro e w1 ⟨rfl, rfl⟩)
      all_goals (go_ret; exact ⟨by first | rfl | (simp; done) | (simp; omega), hb0⟩)
    · go_enter Try.func25, Try.ntmps25
      go_wp2_with (with_reducible (refine (k4 _).mono ?_); rintro e w1 ⟨rfl, rfl⟩)
      all_goals (go_ret; exact ⟨by first | rfl | (simp; done) | (simp; omega), hb0⟩)
  have h5' := Decidable.not_not.1 h5
  clear h5
  rcases t4 with _ | _
  · rw [Bool.and_false]
    go_enter Try.func25, Try.ntmps25
    go_wp2_with (with_reducible (refine (k4 _).mono ?_); rintro e w1 ⟨rfl, rfl⟩)
    all_goals (go_ret; exact ⟨by first | rfl | (simp; done) | (simp; omega), hb0⟩)
  by_cases g0 : ¬ (-1 ≤ c)
  · rw [decide_eq_false (by omega), Bool.false_and]
    go_enter Try.func25, Try.ntmps25
    go_wp2_with (with_reducible (refine (k4 _).mono ?_); rintro e w1 ⟨rfl, rfl⟩)
    all_goals (go_ret; exact ⟨by first | rfl | (simp; done) | (simp; omega), hb0⟩)
  have g0' := Decidable.not_not.1 g0
  clear g0
  by_cases g1 : ¬ (c < s)
  · rw [decide_eq_false (by omega), Bool.false_and]
    go_enter Try.func25, Try.ntmps25
    go_wp2_with (with_reducible (refine (k4 _).mono ?_); rintro e w1 ⟨rfl, rfl⟩)
    all_goals (go_ret; exact ⟨by first | rfl | (simp; done) | (simp; omega), hb0⟩)
  have g1' := Decidable.not_not.1 g1
  clear g1
  rw [decide_eq_true (by omega), Bool.true_and]
  go_enter Try.func25, Try.ntmps25
  go_wp2_with (with_reducible (refine (k4 _).mono ?_); rintro e w1 ⟨rfl, rfl⟩)
  all_goals (go_ret; exact ⟨by first | rfl | (simp; done) | (simp; omega), hb0⟩)
end Go.Proofs.Ytbabknhccapaoaa
