/-
  AlarmOk: the specification's and the program's.
-/
import Derived.Test.YtohedolfefklfaaVb
import Derived.Test.YtohedolfefklfaaAa
import Derived.Deep.RegionWith
namespace Go.Proofs.Ytohedolfefklfaa
open Go.RowKit Va
set_option linter.unusedVariables false

def aA (a : Al) : Value := .agg #[.int .i64 a.hi, .int .i64 a.lo, .int .i64 a.sl, .int .i64 a.dl]

set_option maxHeartbeats 400000 in
theorem ival_any (n : Int) (w : World) : Calls Try.prog 36 #[.int .i64 n] w fun e w' => e = .returned (.bool (rng n (-100000) 100000)) ∧ w = w' := by
  unfold rng
  go_enter Try.func36, Try.ntmps36
  go_wp2
  all_goals (go_ret; exact ⟨ret_bool (by first | (simp; done) | (simp; omega) | (simp_all; done) | (simp_all; omega) | (rw [Bool.eq_iff_iff]; simp; omega) | (rw [Bool.eq_iff_iff]; simp_all; omega)), rfl⟩)

set_option maxHeartbeats 4000000 in
theorem saok_any (a : Al) (w : World) : Calls Try.prog 13 #[aA a] w fun e w' => e = .returned (.bool (alOk a)) ∧ Below w.heap.size w w' := by
  have h1 := lin_any a.hi (-100000) 100000
  have h2 := lin_any a.lo (-100000) 100000
  have h4 := lin_any a.sl 0 ((a.hi - a.lo) / 2)
  have h5 := lin_any a.dl 0 100
  obtain ⟨hi, lo, sl, dl⟩ := a
  unfold alOk aA
  simp only at *
  have hb0 : Below w.heap.size w (w.alloc (.cells #[.int .i64 hi, .int .i64 lo, .int .i64 sl, .int .i64 dl] 31)) := (Below.refl _ _).alloc (Nat.le_refl _) _
  by_cases c1 : rng hi (-100000) 100000 = true
  · by_cases c2 : rng lo (-100000) 100000 = true
    · by_cases c3 : lo < hi
      · have k1 := rng_iff.1 c1
        have k2 := rng_iff.1 c2
        have q0 : Int.tdiv (hi - lo) 2 = (hi - lo) / 2 := Int.tdiv_eq_ediv_of_nonneg (by omega)
        rw [c1] at h1
        rw [c2] at h2
        generalize rng sl 0 ((hi - lo) / 2) = t4 at *
        generalize rng dl 0 100 = t5 at *
        rw [c1, c2]
        rcases t4 with _ | _
        · go_enter Try.func13, Try.ntmps13
          go_wp2_with (go_at_call 35; (with_reducible (first | refine (h1 _).mono ?_ | refine (h2 _).mono ?_ | refine (h4 _).mono ?_ | refine (h5 _).mono ?_)); rintro e w1 ⟨rfl, rfl⟩)
          all_goals go_ret
          all_goals exact ⟨ret_bool (by first | (simp; done) | (simp; omega) | (simp_all; done) | (simp_all; omega) | (rw [Bool.eq_iff_iff]; simp; omega) | (rw [Bool.eq_iff_iff]; simp_all; omega)), by repeat (first | exact Below.refl _ _ | assumption | refine st_drew ?_ | refine st_drewN ?_ _ | refine Below.setCell ?_ (by first | omega | (simp; done) | (simp; omega)) _ | refine Below.alloc ?_ (by first | omega | (simp; done) | (simp; omega)) _)⟩
        · go_enter Try.func13, Try.ntmps13
          go_wp2_with (go_at_call 35; (with_reducible (first | refine (h1 _).mono ?_ | refine (h2 _).mono ?_ | refine (h4 _).mono ?_ | refine (h5 _).mono ?_)); rintro e w1 ⟨rfl, rfl⟩)
          all_goals go_ret
          all_goals exact ⟨ret_bool (by first | (simp; done) | (simp; omega) | (simp_all; done) | (simp_all; omega) | (rw [Bool.eq_iff_iff]; simp; omega) | (rw [Bool.eq_iff_iff]; simp_all; omega)), by repeat (first | exact Below.refl _ _ | assumption | refine st_drew ?_ | refine st_drewN ?_ _ | refine Below.setCell ?_ (by first | omega | (simp; done) | (simp; omega)) _ | refine Below.alloc ?_ (by first | omega | (simp; done) | (simp; omega)) _)⟩
      · rw [c1] at h1
        rw [c2] at h2
        rw [c1, c2]
        go_enter Try.func13, Try.ntmps13
        go_wp2_with (go_at_call 35; (with_reducible (first | refine (h1 _).mono ?_ | refine (h2 _).mono ?_)); rintro e w1 ⟨rfl, rfl⟩)
        all_goals go_ret
        all_goals exact ⟨ret_bool (by first | (simp; done) | (simp; omega) | (simp_all; done) | (simp_all; omega) | (rw [Bool.eq_iff_iff]; simp; omega) | (rw [Bool.eq_iff_iff]; simp_all; omega)), by repeat (first | exact Below.refl _ _ | assumption | refine st_drew ?_ | refine st_drewN ?_ _ | refine Below.setCell ?_ (by first | omega | (simp; done) | (simp; omega)) _ | refine Below.alloc ?_ (by first | omega | (simp; done) | (simp; omega)) _)⟩
    · have c2' : rng lo (-100000) 100000 = false := by simpa using c2
      rw [c1] at h1
      rw [c2'] at h2
      rw [c1, c2']
      go_enter Try.func13, Try.ntmps13
      go_wp2_with (go_at_call 35; (with_reducible (first | refine (h1 _).mono ?_ | refine (h2 _).mono ?_)); rintro e w1 ⟨rfl, rfl⟩)
      all_goals go_ret
      all_goals exact ⟨ret_bool (by first | (simp; done) | (simp; omega) | (simp_all; done) | (simp_all; omega) | (rw [Bool.eq_iff_iff]; simp; omega) | (rw [Bool.eq_iff_iff]; simp_all; omega)), by repeat (first | exact Below.refl _ _ | assumption | refine st_drew ?_ | refine st_drewN ?_ _ | refine Below.setCell ?_ (by first | omega | (simp; done) | (simp; omega)) _ | refine Below.alloc ?_ (by first | omega | (simp; done) | (simp; omega)) _)⟩
  · have c1' : rng hi (-100000) 100000 = false := by simpa using c1
    rw [c1'] at h1
    rw [c1']
    go_enter Try.func13, Try.ntmps13
    go_wp2_with (go_at_call 35; (with_reducible (first | refine (h1 _).mono ?_ | refine (h2 _).mono ?_)); rintro e w1 ⟨rfl, rfl⟩)
    all_goals go_ret
    all_goals exact ⟨ret_bool (by first | (simp; done) | (simp; omega) | (simp_all; done) | (simp_all; omega) | (rw [Bool.eq_iff_iff]; simp; omega) | (rw [Bool.eq_iff_iff]; simp_all; omega)), by repeat (first | exact Below.refl _ _ | assumption | refine st_drew ?_ | refine st_drewN ?_ _ | refine Below.setCell ?_ (by first | omega | (simp; done) | (simp; omega)) _ | refine Below.alloc ?_ (by first | omega | (simp; done) | (simp; omega)) _)⟩

set_option maxHeartbeats 4000000 in
theorem iaok_any (a : Al) (w : World) : Calls Try.prog 15 #[aA a] w fun e w' => e = .returned (.bool (alOk a)) ∧ Below w.heap.size w w' := by
  have h1 := ival_any a.hi
  have h2 := ival_any a.lo
  obtain ⟨hi, lo, sl, dl⟩ := a
  unfold alOk aA
  simp only at *
  have hb0 : Below w.heap.size w (w.alloc (.cells #[.int .i64 hi, .int .i64 lo, .int .i64 sl, .int .i64 dl] 31)) := (Below.refl _ _).alloc (Nat.le_refl _) _
  by_cases c1 : rng hi (-100000) 100000 = true
  · by_cases c2 : rng lo (-100000) 100000 = true
    · by_cases c3 : lo < hi
      · have k1 := rng_iff.1 c1
        have k2 := rng_iff.1 c2
        have q0 : Int.tdiv (hi - lo) 2 = (hi - lo) / 2 := Int.tdiv_eq_ediv_of_nonneg (by omega)
        rw [c1] at h1
        rw [c2] at h2
        rw [c1, c2]
        unfold rng
        go_enter Try.func15, Try.ntmps15
        go_wp2_with (go_at_call 36; (with_reducible (first | refine (h1 _).mono ?_ | refine (h2 _).mono ?_)); rintro e w1 ⟨rfl, rfl⟩)
        all_goals go_ret
        all_goals exact ⟨ret_bool (by first | (simp; done) | (simp; omega) | (simp_all; done) | (simp_all; omega) | (rw [Bool.eq_iff_iff]; simp; omega) | (rw [Bool.eq_iff_iff]; simp_all; omega)), by repeat (first | exact Below.refl _ _ | assumption | refine st_drew ?_ | refine st_drewN ?_ _ | refine Below.setCell ?_ (by first | omega | (simp; done) | (simp; omega)) _ | refine Below.alloc ?_ (by first | omega | (simp; done) | (simp; omega)) _)⟩
      · rw [c1] at h1
        rw [c2] at h2
        rw [c1, c2]
        have c4 : hi ≤ lo := by omega
        go_enter Try.func15, Try.ntmps15
        go_wp2_with (go_at_call 36; (with_reducible (first | refine (h1 _).mono ?_ | refine (h2 _).mono ?_)); rintro e w1 ⟨rfl, rfl⟩)
        all_goals go_ret
        all_goals exact ⟨ret_bool (by first | (simp; done) | (simp; omega) | (simp_all; done) | (simp_all; omega) | (rw [Bool.eq_iff_iff]; simp; omega) | (rw [Bool.eq_iff_iff]; simp_all; omega)), by repeat (first | exact Below.refl _ _ | assumption | refine st_drew ?_ | refine st_drewN ?_ _ | refine Below.setCell ?_ (by first | omega | (simp; done) | (simp; omega)) _ | refine Below.alloc ?_ (by first | omega | (simp; done) | (simp; omega)) _)⟩
    · have c2' : rng lo (-100000) 100000 = false := by simpa using c2
      rw [c1] at h1
      rw [c2'] at h2
      rw [c1, c2']
      go_enter Try.func15, Try.ntmps15
      go_wp2_with (go_at_call 36; (with_reducible (first | refine (h1 _).mono ?_ | refine (h2 _).mono ?_)); rintro e w1 ⟨rfl, rfl⟩)
      all_goals go_ret
      all_goals exact ⟨ret_bool (by first | (simp; done) | (simp; omega) | (simp_all; done) | (simp_all; omega) | (rw [Bool.eq_iff_iff]; simp; omega) | (rw [Bool.eq_iff_iff]; simp_all; omega)), by repeat (first | exact Below.refl _ _ | assumption | refine st_drew ?_ | refine st_drewN ?_ _ | refine Below.setCell ?_ (by first | omega | (simp; done) | (simp; omega)) _ | refine Below.alloc ?_ (by first | omega | (simp; done) | (simp; omega)) _)⟩
  · have c1' : rng hi (-100000) 100000 = false := by simpa using c1
    rw [c1'] at h1
    rw [c1']
    go_enter Try.func15, Try.ntmps15
    go_wp2_with (go_at_call 36; (with_reducible (first | refine (h1 _).mono ?_ | refine (h2 _).mono ?_)); rintro e w1 ⟨rfl, rfl⟩)
    all_goals go_ret
    all_goals exact ⟨ret_bool (by first | (simp; done) | (simp; omega) | (simp_all; done) | (simp_all; omega) | (rw [Bool.eq_iff_iff]; simp; omega) | (rw [Bool.eq_iff_iff]; simp_all; omega)), by repeat (first | exact Below.refl _ _ | assumption | refine st_drew ?_ | refine st_drewN ?_ _ | refine Below.setCell ?_ (by first | omega | (simp; done) | (simp; omega)) _ | refine Below.alloc ?_ (by first | omega | (simp; done) | (simp; omega)) _)⟩

end Go.Proofs.Ytohedolfefklfaa
