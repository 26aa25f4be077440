/-
  Vital signs: how urgent, the specification's and the program's.
-/
import Derived.Test.YtmigcbbjejbcgabVg
namespace Go.Proofs.Ytmigcbbjejbcgab
open Go.RowKit Va
set_option linter.unusedVariables false

set_option maxRecDepth 20000 in
set_option maxHeartbeats 4000000 in
theorem iurg_any (v : Vt) (w : World) : Calls Try.prog 26 #[aV v] w fun e w' => e = .returned (.int .i64 (urg v)) ∧ Below w.heap.size w w' := by
  have hS := ivok_any v
  have hP := ipts_any v
  cases hv : vOk v with
  | false =>
    have e1 : urg v = 0 := by unfold urg; rw [hv]; rfl
    rw [hv] at hS
    rw [e1]
    clear hP
    unfold aV at hS ⊢
    go_enter Try.func26, Try.ntmps26
    go_wp2_with (go_at_call 55; refine (hS _).mono ?_; rintro e w1 ⟨rfl, hb1⟩)
    have b1 := onto (show Below w.heap.size w _ from by repeat (first | exact Below.refl _ _ | assumption | refine st_drew ?_ | refine st_drewN ?_ _ | refine Below.setCell ?_ (by first | omega | (simp; done) | (simp; omega)) _ | refine Below.alloc ?_ (by first | omega | (simp; done) | (simp; omega)) _)) hb1
    go_ret
    exact ⟨rfl, b1⟩
  | true =>
    have hu : urg v = (if 7 ≤ psum v then 1 else if 5 ≤ psum v ∨ pthree v = true then 2 else if 1 ≤ psum v then 3 else if pnone v = 0 then 4 else 5) := by unfold urg; rw [if_pos hv]
    rw [hv] at hS
    clear hv
    have HU := hidden hu
    clear hu
    unfold aV at hS hP ⊢
    have hbd := psum_bd v
    have hbn := pnone_bd v
    generalize psum v = s at *
    generalize pnone v = n at *
    generalize pthree v = t at *
    go_enter Try.func26, Try.ntmps26
    by_cases q1 : 7 ≤ s
    · go_wp2_with (first | (go_at_call 55; refine (hS _).mono ?_; rintro e w1 ⟨rfl, hb1⟩; have z1 := hb1.size; simp only [World.size_alloc] at z1; have b1 := onto (show Below w.heap.size w _ from by repeat (first | exact Below.refl _ _ | assumption | refine st_drew ?_ | refine st_drewN ?_ _ | refine Below.setCell ?_ (by first | omega | (simp; done) | (simp; omega)) _ | refine Below.alloc ?_ (by first | omega | (simp; done) | (simp; omega)) _)) hb1; have c0 : w1.cell? ⟨w.heap.size, 0, none⟩ = some (.int .i64 v.b) := ((bcell hb1).1 _ _ (by first | omega | (simp; done) | (simp; omega))).trans (by simp); have c1 : w1.cell? ⟨w.heap.size, 1, none⟩ = some (.int .i64 v.o) := ((bcell hb1).1 _ _ (by first | omega | (simp; done) | (simp; omega))).trans (by simp); have c2 : w1.cell? ⟨w.heap.size, 2, none⟩ = some (.int .i64 v.p) := ((bcell hb1).1 _ _ (by first | omega | (simp; done) | (simp; omega))).trans (by simp); have c3 : w1.cell? ⟨w.heap.size, 3, none⟩ = some (.int .i64 v.u) := ((bcell hb1).1 _ _ (by first | omega | (simp; done) | (simp; omega))).trans (by simp); have c4 : w1.cell? ⟨w.heap.size, 4, none⟩ = some (.int .i64 v.a) := ((bcell hb1).1 _ _ (by first | omega | (simp; done) | (simp; omega))).trans (by simp); have c5 : w1.cell? ⟨w.heap.size, 5, none⟩ = some (.int .i64 v.h) := ((bcell hb1).1 _ _ (by first | omega | (simp; done) | (simp; omega))).trans (by simp)) | (go_at_call 23; refine (hP _).mono ?_; rintro e w2 ⟨rfl, hb2⟩; have b2 := onto b1 hb2))
      go_ret
      exact ⟨ret_int (by rw [HU.out, if_pos (by omega)]), b2⟩
    by_cases q2 : 5 ≤ s
    · go_wp2_with (first | (go_at_call 55; refine (hS _).mono ?_; rintro e w1 ⟨rfl, hb1⟩; have z1 := hb1.size; simp only [World.size_alloc] at z1; have b1 := onto (show Below w.heap.size w _ from by repeat (first | exact Below.refl _ _ | assumption | refine st_drew ?_ | refine st_drewN ?_ _ | refine Below.setCell ?_ (by first | omega | (simp; done) | (simp; omega)) _ | refine Below.alloc ?_ (by first | omega | (simp; done) | (simp; omega)) _)) hb1; have c0 : w1.cell? ⟨w.heap.size, 0, none⟩ = some (.int .i64 v.b) := ((bcell hb1).1 _ _ (by first | omega | (simp; done) | (simp; omega))).trans (by simp); have c1 : w1.cell? ⟨w.heap.size, 1, none⟩ = some (.int .i64 v.o) := ((bcell hb1).1 _ _ (by first | omega | (simp; done) | (simp; omega))).trans (by simp); have c2 : w1.cell? ⟨w.heap.size, 2, none⟩ = some (.int .i64 v.p) := ((bcell hb1).1 _ _ (by first | omega | (simp; done) | (simp; omega))).trans (by simp); have c3 : w1.cell? ⟨w.heap.size, 3, none⟩ = some (.int .i64 v.u) := ((bcell hb1).1 _ _ (by first | omega | (simp; done) | (simp; omega))).trans (by simp); have c4 : w1.cell? ⟨w.heap.size, 4, none⟩ = some (.int .i64 v.a) := ((bcell hb1).1 _ _ (by first | omega | (simp; done) | (simp; omega))).trans (by simp); have c5 : w1.cell? ⟨w.heap.size, 5, none⟩ = some (.int .i64 v.h) := ((bcell hb1).1 _ _ (by first | omega | (simp; done) | (simp; omega))).trans (by simp)) | (go_at_call 23; refine (hP _).mono ?_; rintro e w2 ⟨rfl, hb2⟩; have b2 := onto b1 hb2))
      all_goals go_ret
      all_goals exact ⟨ret_int (by rw [HU.out, if_neg (by omega), if_pos (Or.inl (by omega))]), b2⟩
    rcases t with _ | _
    · by_cases q3 : 1 ≤ s
      · go_wp2_with (first | (go_at_call 55; refine (hS _).mono ?_; rintro e w1 ⟨rfl, hb1⟩; have z1 := hb1.size; simp only [World.size_alloc] at z1; have b1 := onto (show Below w.heap.size w _ from by repeat (first | exact Below.refl _ _ | assumption | refine st_drew ?_ | refine st_drewN ?_ _ | refine Below.setCell ?_ (by first | omega | (simp; done) | (simp; omega)) _ | refine Below.alloc ?_ (by first | omega | (simp; done) | (simp; omega)) _)) hb1; have c0 : w1.cell? ⟨w.heap.size, 0, none⟩ = some (.int .i64 v.b) := ((bcell hb1).1 _ _ (by first | omega | (simp; done) | (simp; omega))).trans (by simp); have c1 : w1.cell? ⟨w.heap.size, 1, none⟩ = some (.int .i64 v.o) := ((bcell hb1).1 _ _ (by first | omega | (simp; done) | (simp; omega))).trans (by simp); have c2 : w1.cell? ⟨w.heap.size, 2, none⟩ = some (.int .i64 v.p) := ((bcell hb1).1 _ _ (by first | omega | (simp; done) | (simp; omega))).trans (by simp); have c3 : w1.cell? ⟨w.heap.size, 3, none⟩ = some (.int .i64 v.u) := ((bcell hb1).1 _ _ (by first | omega | (simp; done) | (simp; omega))).trans (by simp); have c4 : w1.cell? ⟨w.heap.size, 4, none⟩ = some (.int .i64 v.a) := ((bcell hb1).1 _ _ (by first | omega | (simp; done) | (simp; omega))).trans (by simp); have c5 : w1.cell? ⟨w.heap.size, 5, none⟩ = some (.int .i64 v.h) := ((bcell hb1).1 _ _ (by first | omega | (simp; done) | (simp; omega))).trans (by simp)) | (go_at_call 23; refine (hP _).mono ?_; rintro e w2 ⟨rfl, hb2⟩; have b2 := onto b1 hb2))
        go_ret
        exact ⟨ret_int (by rw [HU.out, if_neg (by omega), if_neg (by simp; omega), if_pos (by omega)]), b2⟩
      · by_cases q4 : n = 0
        · subst q4
          go_wp2_with (first | (go_at_call 55; refine (hS _).mono ?_; rintro e w1 ⟨rfl, hb1⟩; have z1 := hb1.size; simp only [World.size_alloc] at z1; have b1 := onto (show Below w.heap.size w _ from by repeat (first | exact Below.refl _ _ | assumption | refine st_drew ?_ | refine st_drewN ?_ _ | refine Below.setCell ?_ (by first | omega | (simp; done) | (simp; omega)) _ | refine Below.alloc ?_ (by first | omega | (simp; done) | (simp; omega)) _)) hb1; have c0 : w1.cell? ⟨w.heap.size, 0, none⟩ = some (.int .i64 v.b) := ((bcell hb1).1 _ _ (by first | omega | (simp; done) | (simp; omega))).trans (by simp); have c1 : w1.cell? ⟨w.heap.size, 1, none⟩ = some (.int .i64 v.o) := ((bcell hb1).1 _ _ (by first | omega | (simp; done) | (simp; omega))).trans (by simp); have c2 : w1.cell? ⟨w.heap.size, 2, none⟩ = some (.int .i64 v.p) := ((bcell hb1).1 _ _ (by first | omega | (simp; done) | (simp; omega))).trans (by simp); have c3 : w1.cell? ⟨w.heap.size, 3, none⟩ = some (.int .i64 v.u) := ((bcell hb1).1 _ _ (by first | omega | (simp; done) | (simp; omega))).trans (by simp); have c4 : w1.cell? ⟨w.heap.size, 4, none⟩ = some (.int .i64 v.a) := ((bcell hb1).1 _ _ (by first | omega | (simp; done) | (simp; omega))).trans (by simp); have c5 : w1.cell? ⟨w.heap.size, 5, none⟩ = some (.int .i64 v.h) := ((bcell hb1).1 _ _ (by first | omega | (simp; done) | (simp; omega))).trans (by simp)) | (go_at_call 23; refine (hP _).mono ?_; rintro e w2 ⟨rfl, hb2⟩; have b2 := onto b1 hb2))
          go_ret
          exact ⟨ret_int (by rw [HU.out, if_neg (by omega), if_neg (by simp; omega), if_neg (by omega), if_pos (by trivial)]), b2⟩
        · have q5 : (n == 0) = false := by simpa using q4
          go_wp2_with (first | (go_at_call 55; refine (hS _).mono ?_; rintro e w1 ⟨rfl, hb1⟩; have z1 := hb1.size; simp only [World.size_alloc] at z1; have b1 := onto (show Below w.heap.size w _ from by repeat (first | exact Below.refl _ _ | assumption | refine st_drew ?_ | refine st_drewN ?_ _ | refine Below.setCell ?_ (by first | omega | (simp; done) | (simp; omega)) _ | refine Below.alloc ?_ (by first | omega | (simp; done) | (simp; omega)) _)) hb1; have c0 : w1.cell? ⟨w.heap.size, 0, none⟩ = some (.int .i64 v.b) := ((bcell hb1).1 _ _ (by first | omega | (simp; done) | (simp; omega))).trans (by simp); have c1 : w1.cell? ⟨w.heap.size, 1, none⟩ = some (.int .i64 v.o) := ((bcell hb1).1 _ _ (by first | omega | (simp; done) | (simp; omega))).trans (by simp); have c2 : w1.cell? ⟨w.heap.size, 2, none⟩ = some (.int .i64 v.p) := ((bcell hb1).1 _ _ (by first | omega | (simp; done) | (simp; omega))).trans (by simp); have c3 : w1.cell? ⟨w.heap.size, 3, none⟩ = some (.int .i64 v.u) := ((bcell hb1).1 _ _ (by first | omega | (simp; done) | (simp; omega))).trans (by simp); have c4 : w1.cell? ⟨w.heap.size, 4, none⟩ = some (.int .i64 v.a) := ((bcell hb1).1 _ _ (by first | omega | (simp; done) | (simp; omega))).trans (by simp); have c5 : w1.cell? ⟨w.heap.size, 5, none⟩ = some (.int .i64 v.h) := ((bcell hb1).1 _ _ (by first | omega | (simp; done) | (simp; omega))).trans (by simp)) | (go_at_call 23; refine (hP _).mono ?_; rintro e w2 ⟨rfl, hb2⟩; have b2 := onto b1 hb2))
          go_ret
          exact ⟨ret_int (by rw [HU.out, if_neg (by omega), if_neg (by simp; omega), if_neg (by omega), if_neg (by omega)]), b2⟩
    · go_wp2_with (first | (go_at_call 55; refine (hS _).mono ?_; rintro e w1 ⟨rfl, hb1⟩; have z1 := hb1.size; simp only [World.size_alloc] at z1; have b1 := onto (show Below w.heap.size w _ from by repeat (first | exact Below.refl _ _ | assumption | refine st_drew ?_ | refine st_drewN ?_ _ | refine Below.setCell ?_ (by first | omega | (simp; done) | (simp; omega)) _ | refine Below.alloc ?_ (by first | omega | (simp; done) | (simp; omega)) _)) hb1; have c0 : w1.cell? ⟨w.heap.size, 0, none⟩ = some (.int .i64 v.b) := ((bcell hb1).1 _ _ (by first | omega | (simp; done) | (simp; omega))).trans (by simp); have c1 : w1.cell? ⟨w.heap.size, 1, none⟩ = some (.int .i64 v.o) := ((bcell hb1).1 _ _ (by first | omega | (simp; done) | (simp; omega))).trans (by simp); have c2 : w1.cell? ⟨w.heap.size, 2, none⟩ = some (.int .i64 v.p) := ((bcell hb1).1 _ _ (by first | omega | (simp; done) | (simp; omega))).trans (by simp); have c3 : w1.cell? ⟨w.heap.size, 3, none⟩ = some (.int .i64 v.u) := ((bcell hb1).1 _ _ (by first | omega | (simp; done) | (simp; omega))).trans (by simp); have c4 : w1.cell? ⟨w.heap.size, 4, none⟩ = some (.int .i64 v.a) := ((bcell hb1).1 _ _ (by first | omega | (simp; done) | (simp; omega))).trans (by simp); have c5 : w1.cell? ⟨w.heap.size, 5, none⟩ = some (.int .i64 v.h) := ((bcell hb1).1 _ _ (by first | omega | (simp; done) | (simp; omega))).trans (by simp)) | (go_at_call 23; refine (hP _).mono ?_; rintro e w2 ⟨rfl, hb2⟩; have b2 := onto b1 hb2))
      go_ret
      exact ⟨ret_int (by rw [HU.out, if_neg (by omega), if_pos (by simp)]), b2⟩

end Go.Proofs.Ytmigcbbjejbcgab
