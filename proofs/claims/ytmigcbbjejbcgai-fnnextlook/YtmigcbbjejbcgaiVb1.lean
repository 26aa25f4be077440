/-
  Vital signs: the specification's VitalOk.
-/
import Derived.Test.YtmigcbbjejbcgaiVb
namespace Go.Proofs.Ytmigcbbjejbcgai
open Go.RowKit Va
set_option linter.unusedVariables false

set_option maxHeartbeats 4000000 in
theorem svok_any (v : Vt) (w : World) : Calls Try.prog 31 #[aV v] w fun e w' => e = .returned (.bool (vOk v)) ∧ Below w.heap.size w w' := by
  have h1 := lin_any v.b (-1) 99
  have h2 := lin_any v.o (-1) 100
  have h3 := lin_any v.p (-1) 400
  have h4 := lin_any v.u (-1) 400
  have h5 := lin_any v.a (-1) 1
  have h6 := lin_any v.h 200 460
  unfold vOk aV
  obtain ⟨b, o, p, u, a, h⟩ := v
  simp only at *
  generalize rng b (-1) 99 = t1 at *
  generalize rng o (-1) 100 = t2 at *
  generalize rng p (-1) 400 = t3 at *
  generalize rng u (-1) 400 = t4 at *
  generalize rng a (-1) 1 = t5 at *
  generalize rng h 200 460 = t6 at *
  have hb0 : Below w.heap.size w (w.alloc (.cells #[.int .i64 b, .int .i64 o, .int .i64 p, .int .i64 u, .int .i64 a, .int .i64 h] 25)) := (Below.refl _ _).alloc (Nat.le_refl _) _
  rcases t1 with _ | _
  · go_enter Try.func31, Try.ntmps31
    go_wp2_with (go_at_call 23; (with_reducible (first | refine (h1 _).mono ?_ | refine (h2 _).mono ?_ | refine (h3 _).mono ?_ | refine (h4 _).mono ?_ | refine (h5 _).mono ?_ | refine (h6 _).mono ?_)); rintro e w1 ⟨rfl, rfl⟩)
    all_goals go_ret
    all_goals exact ⟨ret_bool (by first | (simp; done) | (simp; omega) | (simp_all; done) | (simp_all; omega) | (rw [Bool.eq_iff_iff]; simp; omega) | (rw [Bool.eq_iff_iff]; simp_all; omega)), by repeat (first | exact Below.refl _ _ | assumption | refine st_drew ?_ | refine st_drewN ?_ _ | refine Below.setCell ?_ (by first | omega | (simp; done) | (simp; omega)) _ | refine Below.alloc ?_ (by first | omega | (simp; done) | (simp; omega)) _)⟩
  rcases t2 with _ | _
  · go_enter Try.func31, Try.ntmps31
    go_wp2_with (go_at_call 23; (with_reducible (first | refine (h1 _).mono ?_ | refine (h2 _).mono ?_ | refine (h3 _).mono ?_ | refine (h4 _).mono ?_ | refine (h5 _).mono ?_ | refine (h6 _).mono ?_)); rintro e w1 ⟨rfl, rfl⟩)
    all_goals go_ret
    all_goals exact ⟨ret_bool (by first | (simp; done) | (simp; omega) | (simp_all; done) | (simp_all; omega) | (rw [Bool.eq_iff_iff]; simp; omega) | (rw [Bool.eq_iff_iff]; simp_all; omega)), by repeat (first | exact Below.refl _ _ | assumption | refine st_drew ?_ | refine st_drewN ?_ _ | refine Below.setCell ?_ (by first | omega | (simp; done) | (simp; omega)) _ | refine Below.alloc ?_ (by first | omega | (simp; done) | (simp; omega)) _)⟩
  rcases t3 with _ | _
  · go_enter Try.func31, Try.ntmps31
    go_wp2_with (go_at_call 23; (with_reducible (first | refine (h1 _).mono ?_ | refine (h2 _).mono ?_ | refine (h3 _).mono ?_ | refine (h4 _).mono ?_ | refine (h5 _).mono ?_ | refine (h6 _).mono ?_)); rintro e w1 ⟨rfl, rfl⟩)
    all_goals go_ret
    all_goals exact ⟨ret_bool (by first | (simp; done) | (simp; omega) | (simp_all; done) | (simp_all; omega) | (rw [Bool.eq_iff_iff]; simp; omega) | (rw [Bool.eq_iff_iff]; simp_all; omega)), by repeat (first | exact Below.refl _ _ | assumption | refine st_drew ?_ | refine st_drewN ?_ _ | refine Below.setCell ?_ (by first | omega | (simp; done) | (simp; omega)) _ | refine Below.alloc ?_ (by first | omega | (simp; done) | (simp; omega)) _)⟩
  rcases t4 with _ | _
  · go_enter Try.func31, Try.ntmps31
    go_wp2_with (go_at_call 23; (with_reducible (first | refine (h1 _).mono ?_ | refine (h2 _).mono ?_ | refine (h3 _).mono ?_ | refine (h4 _).mono ?_ | refine (h5 _).mono ?_ | refine (h6 _).mono ?_)); rintro e w1 ⟨rfl, rfl⟩)
    all_goals go_ret
    all_goals exact ⟨ret_bool (by first | (simp; done) | (simp; omega) | (simp_all; done) | (simp_all; omega) | (rw [Bool.eq_iff_iff]; simp; omega) | (rw [Bool.eq_iff_iff]; simp_all; omega)), by repeat (first | exact Below.refl _ _ | assumption | refine st_drew ?_ | refine st_drewN ?_ _ | refine Below.setCell ?_ (by first | omega | (simp; done) | (simp; omega)) _ | refine Below.alloc ?_ (by first | omega | (simp; done) | (simp; omega)) _)⟩
  rcases t5 with _ | _
  · go_enter Try.func31, Try.ntmps31
    go_wp2_with (go_at_call 23; (with_reducible (first | refine (h1 _).mono ?_ | refine (h2 _).mono ?_ | refine (h3 _).mono ?_ | refine (h4 _).mono ?_ | refine (h5 _).mono ?_ | refine (h6 _).mono ?_)); rintro e w1 ⟨rfl, rfl⟩)
    all_goals go_ret
    all_goals exact ⟨ret_bool (by first | (simp; done) | (simp; omega) | (simp_all; done) | (simp_all; omega) | (rw [Bool.eq_iff_iff]; simp; omega) | (rw [Bool.eq_iff_iff]; simp_all; omega)), by repeat (first | exact Below.refl _ _ | assumption | refine st_drew ?_ | refine st_drewN ?_ _ | refine Below.setCell ?_ (by first | omega | (simp; done) | (simp; omega)) _ | refine Below.alloc ?_ (by first | omega | (simp; done) | (simp; omega)) _)⟩
  by_cases hh : h = -1
  · subst hh
    go_enter Try.func31, Try.ntmps31
    go_wp2_with (go_at_call 23; (with_reducible (first | refine (h1 _).mono ?_ | refine (h2 _).mono ?_ | refine (h3 _).mono ?_ | refine (h4 _).mono ?_ | refine (h5 _).mono ?_ | refine (h6 _).mono ?_)); rintro e w1 ⟨rfl, rfl⟩)
    all_goals go_ret
    all_goals exact ⟨ret_bool (by first | (simp; done) | (simp; omega) | (simp_all; done) | (simp_all; omega) | (rw [Bool.eq_iff_iff]; simp; omega) | (rw [Bool.eq_iff_iff]; simp_all; omega)), by repeat (first | exact Below.refl _ _ | assumption | refine st_drew ?_ | refine st_drewN ?_ _ | refine Below.setCell ?_ (by first | omega | (simp; done) | (simp; omega)) _ | refine Below.alloc ?_ (by first | omega | (simp; done) | (simp; omega)) _)⟩
  have hh1 : (h == -1) = false := by simpa using hh
  have hh2 : decide (h = -1) = false := decide_eq_false hh
  go_enter Try.func31, Try.ntmps31
  go_wp2_with (go_at_call 23; (with_reducible (first | refine (h1 _).mono ?_ | refine (h2 _).mono ?_ | refine (h3 _).mono ?_ | refine (h4 _).mono ?_ | refine (h5 _).mono ?_ | refine (h6 _).mono ?_)); rintro e w1 ⟨rfl, rfl⟩)
  all_goals go_ret
  all_goals exact ⟨ret_bool (by first | (simp; done) | (simp; omega) | (simp_all; done) | (simp_all; omega) | (rw [Bool.eq_iff_iff]; simp; omega) | (rw [Bool.eq_iff_iff]; simp_all; omega)), by repeat (first | exact Below.refl _ _ | assumption | refine st_drew ?_ | refine st_drewN ?_ _ | refine Below.setCell ?_ (by first | omega | (simp; done) | (simp; omega)) _ | refine Below.alloc ?_ (by first | omega | (simp; done) | (simp; omega)) _)⟩
end Go.Proofs.Ytmigcbbjejbcgai
