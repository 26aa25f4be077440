/-
  Vital signs: the time of the next look, the specification's and the program's.
-/
import Derived.Test.YtmigcbbjejbcgaiVi
namespace Go.Proofs.Ytmigcbbjejbcgai
open Go.RowKit Va
set_option linter.unusedVariables false

set_option maxHeartbeats 400000 in
theorem stm_any (x : Int) (w : World) : Calls Try.prog 21 #[.int .i64 x] w fun e w' => e = .returned (.bool (tmv x)) ∧ w = w' := by
  have h := lin_any x 0 10000000
  rw [show rng x 0 10000000 = tmv x from rfl] at h
  generalize tmv x = t at *
  go_enter Try.func21, Try.ntmps21
  go_wp2_with (go_at_call 23; refine (h _).mono ?_; rintro e w1 ⟨rfl, rfl⟩)
  go_ret
  exact ⟨rfl, rfl⟩

set_option maxHeartbeats 400000 in
theorem itm_any (x : Int) (w : World) : Calls Try.prog 18 #[.int .i64 x] w fun e w' => e = .returned (.bool (tmv x)) ∧ w = w' := by
  unfold tmv
  go_enter Try.func18, Try.ntmps18
  go_wp2
  all_goals (go_ret; exact ⟨ret_bool (by first | (simp; done) | (simp; omega) | (simp_all; done) | (simp_all; omega) | (rw [Bool.eq_iff_iff]; simp; omega) | (rw [Bool.eq_iff_iff]; simp_all; omega)), rfl⟩)

set_option maxHeartbeats 1000000 in
theorem mtl_any (x : Int) (w : World) : Calls Try.prog 19 #[.int .i64 x] w fun e w' => e = .returned (.int .i64 (mtl x)) ∧ w = w' := by
  by_cases h2 : x = 2
  · subst h2
    go_enter Try.func19, Try.ntmps19
    go_wp2
    go_ret
    exact ⟨rfl, rfl⟩
  have e2 : (x == 2) = false := by simpa using h2
  by_cases h3 : x = 3
  · subst h3
    go_enter Try.func19, Try.ntmps19
    go_wp2
    go_ret
    exact ⟨rfl, rfl⟩
  have e3 : (x == 3) = false := by simpa using h3
  by_cases h4 : x = 4
  · subst h4
    go_enter Try.func19, Try.ntmps19
    go_wp2
    go_ret
    exact ⟨rfl, rfl⟩
  have e4 : (x == 4) = false := by simpa using h4
  by_cases h5 : x = 5
  · subst h5
    go_enter Try.func19, Try.ntmps19
    go_wp2
    go_ret
    exact ⟨rfl, rfl⟩
  have e5 : (x == 5) = false := by simpa using h5
  have e : Hid (mtl x = 0) := by unfold mtl; rw [if_neg h2, if_neg h3, if_neg h4, if_neg h5]; rfl
  go_enter Try.func19, Try.ntmps19
  go_wp2
  go_ret
  exact ⟨by rw [e.out]; rfl, rfl⟩

set_option maxRecDepth 20000 in
set_option maxHeartbeats 4000000 in
theorem slook_any (v : Vt) (t : Int) (w : World) : Calls Try.prog 8 #[aV v, .int .i64 t] w fun e w' => e = .returned (.int .i64 (Va.look v t)) ∧ Below w.heap.size w w' := by
  have hU := surg_any v
  have hT := stm_any t
  cases hv : vOk v with
  | false =>
    have e0 : urg v = 0 := by unfold urg; rw [hv]; rfl
    have e1 : Va.look v t = -1 := by unfold Va.look; rw [hv]; rfl
    rw [e0] at hU
    rw [e1]
    clear hT
    unfold aV at hU ⊢
    go_enter Try.func8, Try.ntmps8
    go_wp2_with (go_at_call 20; refine (hU _).mono ?_; rintro e w1 ⟨rfl, hb1⟩; have b1 := onto (show Below w.heap.size w _ from by repeat (first | exact Below.refl _ _ | assumption | refine st_drew ?_ | refine st_drewN ?_ _ | refine Below.setCell ?_ (by first | omega | (simp; done) | (simp; omega)) _ | refine Below.alloc ?_ (by first | omega | (simp; done) | (simp; omega)) _)) hb1)
    go_ret
    exact ⟨rfl, b1⟩
  | true =>
    have HL := hidden (show Va.look v t = if tmv t then (if tmv (t + mtl (urg v)) then t + mtl (urg v) else -1) else -1 by unfold Va.look; rw [hv]; rfl)
    have hu1 := urg_pos hv
    have hu2 := (urg_bd v).2
    clear hv
    unfold aV at hU ⊢
    generalize urg v = u at *
    cases ht : tmv t with
    | false =>
      have hu0 : (u == 0) = false := by simp; omega
      rw [ht] at hT
      go_enter Try.func8, Try.ntmps8
      go_wp2_with (first | (go_at_call 20; refine (hU _).mono ?_; rintro e w1 ⟨rfl, hb1⟩; have b1 := onto (show Below w.heap.size w _ from by repeat (first | exact Below.refl _ _ | assumption | refine st_drew ?_ | refine st_drewN ?_ _ | refine Below.setCell ?_ (by first | omega | (simp; done) | (simp; omega)) _ | refine Below.alloc ?_ (by first | omega | (simp; done) | (simp; omega)) _)) hb1) | (go_at_call 21; refine (hT _).mono ?_; rintro e w2 ⟨rfl, rfl⟩))
      go_ret
      exact ⟨ret_int (by rw [HL.out, if_neg (by simp [ht])]), b1⟩
    | true =>
      obtain ⟨t1, t2⟩ := tmv_iff.1 ht
      rw [ht] at hT
      have HT := hidden ht
      clear ht
      rcases (show u = 1 ∨ u = 2 ∨ u = 3 ∨ u = 4 ∨ u = 5 by omega) with rfl | rfl | rfl | rfl | rfl
      · have HL2 := hidden (HL.out.trans (by rw [if_pos HT.out, show t + mtl 1 = t from by show t + 0 = _; omega, if_pos HT.out]))
        clear HL
        go_enter Try.func8, Try.ntmps8
        go_wp2_with (first | (go_at_call 20; refine (hU _).mono ?_; rintro e w1 ⟨rfl, hb1⟩; have z1 := hb1.size; simp only [World.size_alloc] at z1; have b1 := onto (show Below w.heap.size w _ from by repeat (first | exact Below.refl _ _ | assumption | refine st_drew ?_ | refine st_drewN ?_ _ | refine Below.setCell ?_ (by first | omega | (simp; done) | (simp; omega)) _ | refine Below.alloc ?_ (by first | omega | (simp; done) | (simp; omega)) _)) hb1) | (go_at_call 21; refine (hT _).mono ?_; rintro e w2 ⟨rfl, rfl⟩))
        go_ret
        exact ⟨ret_int (by rw [HL2.out]), by repeat (first | exact Below.refl _ _ | assumption | refine st_drew ?_ | refine st_drewN ?_ _ | refine Below.setCell ?_ (by first | omega | (simp; done) | (simp; omega)) _ | refine Below.alloc ?_ (by first | omega | (simp; done) | (simp; omega)) _)⟩
      · have hT2 := stm_any (t + 30)
        have HL2 := hidden (HL.out.trans (by rw [if_pos HT.out, show t + mtl 2 = t + 30 from by show t + 30 = _; first | rfl | omega]))
        clear HL
        generalize tmv (t + 30) = tt at *
        rcases tt with _ | _
        all_goals go_enter Try.func8, Try.ntmps8
        all_goals go_wp2_with (first | (go_at_call 20; refine (hU _).mono ?_; rintro e w1 ⟨rfl, hb1⟩; have z1 := hb1.size; simp only [World.size_alloc] at z1; have b1 := onto (show Below w.heap.size w _ from by repeat (first | exact Below.refl _ _ | assumption | refine st_drew ?_ | refine st_drewN ?_ _ | refine Below.setCell ?_ (by first | omega | (simp; done) | (simp; omega)) _ | refine Below.alloc ?_ (by first | omega | (simp; done) | (simp; omega)) _)) hb1) | (go_at_call 21; (with_reducible (first | refine (hT _).mono ?_ | refine (hT2 _).mono ?_)); rintro e w2 ⟨rfl, rfl⟩))
        all_goals go_ret
        all_goals exact ⟨ret_int (by rw [HL2.out]; rfl), by repeat (first | exact Below.refl _ _ | assumption | refine st_drew ?_ | refine st_drewN ?_ _ | refine Below.setCell ?_ (by first | omega | (simp; done) | (simp; omega)) _ | refine Below.alloc ?_ (by first | omega | (simp; done) | (simp; omega)) _)⟩
      · have hT2 := stm_any (t + 60)
        have HL2 := hidden (HL.out.trans (by rw [if_pos HT.out, show t + mtl 3 = t + 60 from by show t + 60 = _; first | rfl | omega]))
        clear HL
        generalize tmv (t + 60) = tt at *
        rcases tt with _ | _
        all_goals go_enter Try.func8, Try.ntmps8
        all_goals go_wp2_with (first | (go_at_call 20; refine (hU _).mono ?_; rintro e w1 ⟨rfl, hb1⟩; have z1 := hb1.size; simp only [World.size_alloc] at z1; have b1 := onto (show Below w.heap.size w _ from by repeat (first | exact Below.refl _ _ | assumption | refine st_drew ?_ | refine st_drewN ?_ _ | refine Below.setCell ?_ (by first | omega | (simp; done) | (simp; omega)) _ | refine Below.alloc ?_ (by first | omega | (simp; done) | (simp; omega)) _)) hb1) | (go_at_call 21; (with_reducible (first | refine (hT _).mono ?_ | refine (hT2 _).mono ?_)); rintro e w2 ⟨rfl, rfl⟩))
        all_goals go_ret
        all_goals exact ⟨ret_int (by rw [HL2.out]; rfl), by repeat (first | exact Below.refl _ _ | assumption | refine st_drew ?_ | refine st_drewN ?_ _ | refine Below.setCell ?_ (by first | omega | (simp; done) | (simp; omega)) _ | refine Below.alloc ?_ (by first | omega | (simp; done) | (simp; omega)) _)⟩
      · have hT2 := stm_any (t + 240)
        have HL2 := hidden (HL.out.trans (by rw [if_pos HT.out, show t + mtl 4 = t + 240 from by show t + 240 = _; first | rfl | omega]))
        clear HL
        generalize tmv (t + 240) = tt at *
        rcases tt with _ | _
        all_goals go_enter Try.func8, Try.ntmps8
        all_goals go_wp2_with (first | (go_at_call 20; refine (hU _).mono ?_; rintro e w1 ⟨rfl, hb1⟩; have z1 := hb1.size; simp only [World.size_alloc] at z1; have b1 := onto (show Below w.heap.size w _ from by repeat (first | exact Below.refl _ _ | assumption | refine st_drew ?_ | refine st_drewN ?_ _ | refine Below.setCell ?_ (by first | omega | (simp; done) | (simp; omega)) _ | refine Below.alloc ?_ (by first | omega | (simp; done) | (simp; omega)) _)) hb1) | (go_at_call 21; (with_reducible (first | refine (hT _).mono ?_ | refine (hT2 _).mono ?_)); rintro e w2 ⟨rfl, rfl⟩))
        all_goals go_ret
        all_goals exact ⟨ret_int (by rw [HL2.out]; rfl), by repeat (first | exact Below.refl _ _ | assumption | refine st_drew ?_ | refine st_drewN ?_ _ | refine Below.setCell ?_ (by first | omega | (simp; done) | (simp; omega)) _ | refine Below.alloc ?_ (by first | omega | (simp; done) | (simp; omega)) _)⟩
      · have hT2 := stm_any (t + 15)
        have HL2 := hidden (HL.out.trans (by rw [if_pos HT.out, show t + mtl 5 = t + 15 from by show t + 15 = _; first | rfl | omega]))
        clear HL
        generalize tmv (t + 15) = tt at *
        rcases tt with _ | _
        all_goals go_enter Try.func8, Try.ntmps8
        all_goals go_wp2_with (first | (go_at_call 20; refine (hU _).mono ?_; rintro e w1 ⟨rfl, hb1⟩; have z1 := hb1.size; simp only [World.size_alloc] at z1; have b1 := onto (show Below w.heap.size w _ from by repeat (first | exact Below.refl _ _ | assumption | refine st_drew ?_ | refine st_drewN ?_ _ | refine Below.setCell ?_ (by first | omega | (simp; done) | (simp; omega)) _ | refine Below.alloc ?_ (by first | omega | (simp; done) | (simp; omega)) _)) hb1) | (go_at_call 21; (with_reducible (first | refine (hT _).mono ?_ | refine (hT2 _).mono ?_)); rintro e w2 ⟨rfl, rfl⟩))
        all_goals go_ret
        all_goals exact ⟨ret_int (by rw [HL2.out]; rfl), by repeat (first | exact Below.refl _ _ | assumption | refine st_drew ?_ | refine st_drewN ?_ _ | refine Below.setCell ?_ (by first | omega | (simp; done) | (simp; omega)) _ | refine Below.alloc ?_ (by first | omega | (simp; done) | (simp; omega)) _)⟩

set_option maxRecDepth 20000 in
set_option maxHeartbeats 4000000 in
theorem ilook_any (v : Vt) (t : Int) (w : World) : Calls Try.prog 7 #[aV v, .int .i64 t] w fun e w' => e = .returned (.int .i64 (Va.look v t)) ∧ Below w.heap.size w w' := by
  have hV := ivok_any v
  have hU := iurg_any v
  have hT := itm_any t
  have hM := mtl_any (urg v)
  cases hv : vOk v with
  | false =>
    have e1 : Va.look v t = -1 := by unfold Va.look; rw [hv]; rfl
    rw [hv] at hV
    rw [e1]
    clear hT hU hM
    unfold aV at hV ⊢
    go_enter Try.func7, Try.ntmps7
    go_wp2_with (go_at_call 17; refine (hV _).mono ?_; rintro e w1 ⟨rfl, hb1⟩; have b1 := onto (show Below w.heap.size w _ from by repeat (first | exact Below.refl _ _ | assumption | refine st_drew ?_ | refine st_drewN ?_ _ | refine Below.setCell ?_ (by first | omega | (simp; done) | (simp; omega)) _ | refine Below.alloc ?_ (by first | omega | (simp; done) | (simp; omega)) _)) hb1)
    go_ret
    exact ⟨rfl, b1⟩
  | true =>
    have HL := hidden (show Va.look v t = if tmv t then (if tmv (t + mtl (urg v)) then t + mtl (urg v) else -1) else -1 by unfold Va.look; rw [hv]; rfl)
    have hm := mtl_bd (urg v)
    rw [hv] at hV
    clear hv
    unfold aV at hU hV ⊢
    generalize urg v = u at *
    generalize mtl u = m at *
    cases ht : tmv t with
    | false =>
      rw [ht] at hT
      go_enter Try.func7, Try.ntmps7
      go_wp2_with (first | (go_at_call 17; refine (hV _).mono ?_; rintro e w1 ⟨rfl, hb1⟩; have b1 := onto (show Below w.heap.size w _ from by repeat (first | exact Below.refl _ _ | assumption | refine st_drew ?_ | refine st_drewN ?_ _ | refine Below.setCell ?_ (by first | omega | (simp; done) | (simp; omega)) _ | refine Below.alloc ?_ (by first | omega | (simp; done) | (simp; omega)) _)) hb1) | (go_at_call 18; refine (hT _).mono ?_; rintro e w2 ⟨rfl, rfl⟩))
      go_ret
      exact ⟨ret_int (by rw [HL.out, if_neg (by simp [ht])]), b1⟩
    | true =>
      obtain ⟨t1, t2⟩ := tmv_iff.1 ht
      rw [ht] at hT
      have hT2 := itm_any (t + m)
      have HL2 := hidden (HL.out.trans (by rw [if_pos ht]))
      clear ht HL
      generalize tmv (t + m) = tt at *
      rcases tt with _ | _
      all_goals go_enter Try.func7, Try.ntmps7
      all_goals go_wp2_with (first | (go_at_call 17; refine (hV _).mono ?_; rintro e w1 ⟨rfl, hb1⟩; have b1 := onto (show Below w.heap.size w _ from by repeat (first | exact Below.refl _ _ | assumption | refine st_drew ?_ | refine st_drewN ?_ _ | refine Below.setCell ?_ (by first | omega | (simp; done) | (simp; omega)) _ | refine Below.alloc ?_ (by first | omega | (simp; done) | (simp; omega)) _)) hb1; have z1 := hb1.size; simp only [World.size_alloc] at z1; have c0 : w1.cell? ⟨w.heap.size, 0, none⟩ = some (.int .i64 v.b) := ((bcell hb1).1 _ _ (by first | omega | (simp; done) | (simp; omega))).trans (by simp); have c1 : w1.cell? ⟨w.heap.size, 1, none⟩ = some (.int .i64 v.o) := ((bcell hb1).1 _ _ (by first | omega | (simp; done) | (simp; omega))).trans (by simp); have c2 : w1.cell? ⟨w.heap.size, 2, none⟩ = some (.int .i64 v.p) := ((bcell hb1).1 _ _ (by first | omega | (simp; done) | (simp; omega))).trans (by simp); have c3 : w1.cell? ⟨w.heap.size, 3, none⟩ = some (.int .i64 v.u) := ((bcell hb1).1 _ _ (by first | omega | (simp; done) | (simp; omega))).trans (by simp); have c4 : w1.cell? ⟨w.heap.size, 4, none⟩ = some (.int .i64 v.a) := ((bcell hb1).1 _ _ (by first | omega | (simp; done) | (simp; omega))).trans (by simp); have c5 : w1.cell? ⟨w.heap.size, 5, none⟩ = some (.int .i64 v.h) := ((bcell hb1).1 _ _ (by first | omega | (simp; done) | (simp; omega))).trans (by simp)) | (go_at_call 18; (with_reducible (first | refine (hT _).mono ?_ | refine (hT2 _).mono ?_)); rintro e w2 ⟨rfl, rfl⟩) | (go_at_call 9; refine (hU _).mono ?_; rintro e w3 ⟨rfl, hb3⟩; have b3 := onto b1 hb3) | (go_at_call 19; refine (hM _).mono ?_; rintro e w4 ⟨rfl, rfl⟩))
      all_goals go_ret
      all_goals exact ⟨ret_int (by rw [HL2.out]; rfl), by repeat (first | exact Below.refl _ _ | assumption | refine st_drew ?_ | refine st_drewN ?_ _ | refine Below.setCell ?_ (by first | omega | (simp; done) | (simp; omega)) _ | refine Below.alloc ?_ (by first | omega | (simp; done) | (simp; omega)) _)⟩
end Go.Proofs.Ytmigcbbjejbcgai
