/-
  Steps of trays: their cells, whether one is right, whether a history is.
-/
import Derived.Test.YtklgadaefngnnaaQb
import Derived.Test.YtklgadaefngnnaaWa
namespace Go.Proofs.Ytklgadaefngnnaa
open Go.RowKit Va Wa
set_option linter.unusedVariables false

def csT (x : Stp) (k : Nat) : Int := match k with | 0 => x.kind | 1 => x.tray | 2 => x.cyc | _ => x.per
def aT (x : Stp) : Value := .agg #[.int .i64 x.kind, .int .i64 x.tray, .int .i64 x.cyc, .int .i64 x.per]
/-- The four cells of a step. -/
theorem step_cells {w : World} {ao : Option Addr} {n cap : Nat} {l : List Stp} {k : Nat} {s : Stp} (h : Rw 4 csT w (.slice ao n cap) l) (hk : l[k]? = some s) :
    ∃ g off, ao = some ⟨g, off, none⟩ ∧ g < w.heap.size ∧ w.cell? ⟨g, off + k * 4, none⟩ = some (.int .i64 s.kind) ∧ w.cell? ⟨g, off + k * 4 + 1, none⟩ = some (.int .i64 s.tray) ∧ w.cell? ⟨g, off + k * 4 + 2, none⟩ = some (.int .i64 s.cyc) ∧ w.cell? ⟨g, off + k * 4 + 3, none⟩ = some (.int .i64 s.per) := by
  obtain ⟨g, off, h1, h2, h3⟩ := h.at hk
  exact ⟨g, off, h1, h2, h3 0 (by omega), h3 1 (by omega), h3 2 (by omega), h3 3 (by omega)⟩

set_option maxHeartbeats 400000 in
theorem itn_any (x : Int) (w : World) : Calls Try.prog 73 #[.int .i64 x] w fun e w' => e = .returned (.bool (prs x)) ∧ w = w' := by
  by_cases h0 : 0 ≤ x
  · by_cases h1 : x ≤ 999
    · have e : Hid (prs x = true) := prs_iff.2 ⟨h0, h1⟩
      have h2 : x < 1000 := by omega
      go_enter Try.func73, Try.ntmps73
      go_wp2
      go_ret
      exact ⟨ret_bool e.out.symm, rfl⟩
    · have e : Hid (prs x = false) := by unfold prs; simp; rw [Hid]; omega
      have h2 : ¬ x < 1000 := by omega
      go_enter Try.func73, Try.ntmps73
      go_wp2
      go_ret
      exact ⟨ret_bool e.out.symm, rfl⟩
  · have e : Hid (prs x = false) := by unfold prs; simp; rw [Hid]; omega
    go_enter Try.func73, Try.ntmps73
    go_wp2
    go_ret
    exact ⟨ret_bool e.out.symm, rfl⟩

theorem prs_f {x : Int} (h : prs x = false) : ¬ (0 ≤ x ∧ x ≤ 999) := fun k => by rw [prs_iff.2 k] at h; cases h

set_option maxRecDepth 20000 in
set_option maxHeartbeats 4000000 in
theorem istep_any (s : Stp) (w : World) : Calls Try.prog 99 #[aT s] w fun e w' => e = .returned (.bool (stB s)) ∧ Below w.heap.size w w' := by
  obtain ⟨k, t, c, p⟩ := s
  unfold aT
  simp only
  have k1 := itn_any t
  have k2 := itn_any c
  have k3 := iprs_any p
  cases h1 : prs t with
  | false =>
    have e : Hid (stB ⟨k, t, c, p⟩ = false) := stB_false (by have := prs_f h1; unfold StOk n3; simp only; omega)
    have z : (t == 0) = false := by have := prs_f h1; simp; omega
    rw [h1] at k1
    clear h1
    go_enter Try.func99, Try.ntmps99
    go_wp2_with (first | (go_at_call 73; with_reducible (first | refine (k1 _).mono ?_ | refine (k2 _).mono ?_); rintro e0 w1 ⟨rfl, rfl⟩) | (go_at_call 107; refine (k3 _).mono ?_; rintro e0 w1 ⟨rfl, rfl⟩))
    all_goals go_ret
    all_goals exact ⟨ret_bool (by first | exact e.out.symm | (rw [e.out]; simp; done) | (rw [e.out]; simp; omega)), by repeat (first | exact Below.refl _ _ | assumption | refine st_drew ?_ | refine st_drewN ?_ _ | refine Below.setCell ?_ (by first | omega | (simp; done) | (simp; omega)) _ | refine Below.alloc ?_ (by first | omega | (simp; done) | (simp; omega)) _)⟩
  | true =>
  cases h2 : prs c with
  | false =>
    have e : Hid (stB ⟨k, t, c, p⟩ = false) := stB_false (by have := prs_f h2; unfold StOk n3; simp only; omega)
    have z : (c == 0) = false := by have := prs_f h2; simp; omega
    rw [h2] at k2; rw [h1] at k1
    clear h1 h2
    go_enter Try.func99, Try.ntmps99
    go_wp2_with (first | (go_at_call 73; with_reducible (first | refine (k1 _).mono ?_ | refine (k2 _).mono ?_); rintro e0 w1 ⟨rfl, rfl⟩) | (go_at_call 107; refine (k3 _).mono ?_; rintro e0 w1 ⟨rfl, rfl⟩))
    all_goals go_ret
    all_goals exact ⟨ret_bool (by first | exact e.out.symm | (rw [e.out]; simp; done) | (rw [e.out]; simp; omega)), by repeat (first | exact Below.refl _ _ | assumption | refine st_drew ?_ | refine st_drewN ?_ _ | refine Below.setCell ?_ (by first | omega | (simp; done) | (simp; omega)) _ | refine Below.alloc ?_ (by first | omega | (simp; done) | (simp; omega)) _)⟩
  | true =>
  cases h3 : prs p with
  | false =>
    have e : Hid (stB ⟨k, t, c, p⟩ = false) := stB_false (by have := prs_f h3; unfold StOk n3; simp only; omega)
    have z : (p == 0) = false := by have := prs_f h3; simp; omega
    rw [h2] at k2; rw [h1] at k1; rw [h3] at k3
    clear h1 h2 h3
    go_enter Try.func99, Try.ntmps99
    go_wp2_with (first | (go_at_call 73; with_reducible (first | refine (k1 _).mono ?_ | refine (k2 _).mono ?_); rintro e0 w1 ⟨rfl, rfl⟩) | (go_at_call 107; refine (k3 _).mono ?_; rintro e0 w1 ⟨rfl, rfl⟩))
    all_goals go_ret
    all_goals exact ⟨ret_bool (by first | exact e.out.symm | (rw [e.out]; simp; done) | (rw [e.out]; simp; omega)), by repeat (first | exact Below.refl _ _ | assumption | refine st_drew ?_ | refine st_drewN ?_ _ | refine Below.setCell ?_ (by first | omega | (simp; done) | (simp; omega)) _ | refine Below.alloc ?_ (by first | omega | (simp; done) | (simp; omega)) _)⟩
  | true =>
  have r1 := prs_iff.1 h1
  have r2 := prs_iff.1 h2
  have r3 := prs_iff.1 h3
  rw [h2] at k2; rw [h1] at k1; rw [h3] at k3
  clear h1 h2 h3
  have HR := hidden (And.intro r1 (And.intro r2 r3))
  clear r1 r2 r3
  by_cases q1 : k = 1
  · subst q1
    by_cases zc : c = 0
    · subst zc
      by_cases zp : p = 0
      · subst zp
        have e : Hid (stB ⟨1, t, 0, 0⟩ = true) := stB_true (by have := HR.out; exact ⟨⟨by simp only; omega, by simp only; omega⟩, ⟨by simp only; omega, by simp only; omega⟩, ⟨by simp only; omega, by simp only; omega⟩, by simp⟩)
        clear HR
        go_enter Try.func99, Try.ntmps99
        go_wp2_with (first | (go_at_call 73; with_reducible (first | refine (k1 _).mono ?_ | refine (k2 _).mono ?_); rintro e0 w1 ⟨rfl, rfl⟩) | (go_at_call 107; refine (k3 _).mono ?_; rintro e0 w1 ⟨rfl, rfl⟩))
        all_goals go_ret
        all_goals exact ⟨ret_bool (by first | exact e.out.symm | (rw [e.out]; simp; done) | (rw [e.out]; simp; omega)), by repeat (first | exact Below.refl _ _ | assumption | refine st_drew ?_ | refine st_drewN ?_ _ | refine Below.setCell ?_ (by first | omega | (simp; done) | (simp; omega)) _ | refine Below.alloc ?_ (by first | omega | (simp; done) | (simp; omega)) _)⟩
      · have e : Hid (stB ⟨1, t, 0, p⟩ = false) := stB_false (by unfold StOk n3; simp only; omega)
        clear HR
        go_enter Try.func99, Try.ntmps99
        go_wp2_with (first | (go_at_call 73; with_reducible (first | refine (k1 _).mono ?_ | refine (k2 _).mono ?_); rintro e0 w1 ⟨rfl, rfl⟩) | (go_at_call 107; refine (k3 _).mono ?_; rintro e0 w1 ⟨rfl, rfl⟩))
        all_goals go_ret
        all_goals exact ⟨ret_bool (by first | exact e.out.symm | (rw [e.out]; simp; done) | (rw [e.out]; simp; omega)), by repeat (first | exact Below.refl _ _ | assumption | refine st_drew ?_ | refine st_drewN ?_ _ | refine Below.setCell ?_ (by first | omega | (simp; done) | (simp; omega)) _ | refine Below.alloc ?_ (by first | omega | (simp; done) | (simp; omega)) _)⟩
    · have e : Hid (stB ⟨1, t, c, p⟩ = false) := stB_false (by unfold StOk n3; simp only; omega)
      clear HR
      go_enter Try.func99, Try.ntmps99
      go_wp2_with (first | (go_at_call 73; with_reducible (first | refine (k1 _).mono ?_ | refine (k2 _).mono ?_); rintro e0 w1 ⟨rfl, rfl⟩) | (go_at_call 107; refine (k3 _).mono ?_; rintro e0 w1 ⟨rfl, rfl⟩))
      all_goals go_ret
      all_goals exact ⟨ret_bool (by first | exact e.out.symm | (rw [e.out]; simp; done) | (rw [e.out]; simp; omega)), by repeat (first | exact Below.refl _ _ | assumption | refine st_drew ?_ | refine st_drewN ?_ _ | refine Below.setCell ?_ (by first | omega | (simp; done) | (simp; omega)) _ | refine Below.alloc ?_ (by first | omega | (simp; done) | (simp; omega)) _)⟩
  by_cases q6 : k = 6
  · subst q6
    by_cases zc : c = 0
    · subst zc
      by_cases zp : p = 0
      · subst zp
        have e : Hid (stB ⟨6, t, 0, 0⟩ = true) := stB_true (by have := HR.out; exact ⟨⟨by simp only; omega, by simp only; omega⟩, ⟨by simp only; omega, by simp only; omega⟩, ⟨by simp only; omega, by simp only; omega⟩, by simp⟩)
        clear HR
        go_enter Try.func99, Try.ntmps99
        go_wp2_with (first | (go_at_call 73; with_reducible (first | refine (k1 _).mono ?_ | refine (k2 _).mono ?_); rintro e0 w1 ⟨rfl, rfl⟩) | (go_at_call 107; refine (k3 _).mono ?_; rintro e0 w1 ⟨rfl, rfl⟩))
        all_goals go_ret
        all_goals exact ⟨ret_bool (by first | exact e.out.symm | (rw [e.out]; simp; done) | (rw [e.out]; simp; omega)), by repeat (first | exact Below.refl _ _ | assumption | refine st_drew ?_ | refine st_drewN ?_ _ | refine Below.setCell ?_ (by first | omega | (simp; done) | (simp; omega)) _ | refine Below.alloc ?_ (by first | omega | (simp; done) | (simp; omega)) _)⟩
      · have e : Hid (stB ⟨6, t, 0, p⟩ = false) := stB_false (by unfold StOk n3; simp only; omega)
        clear HR
        go_enter Try.func99, Try.ntmps99
        go_wp2_with (first | (go_at_call 73; with_reducible (first | refine (k1 _).mono ?_ | refine (k2 _).mono ?_); rintro e0 w1 ⟨rfl, rfl⟩) | (go_at_call 107; refine (k3 _).mono ?_; rintro e0 w1 ⟨rfl, rfl⟩))
        all_goals go_ret
        all_goals exact ⟨ret_bool (by first | exact e.out.symm | (rw [e.out]; simp; done) | (rw [e.out]; simp; omega)), by repeat (first | exact Below.refl _ _ | assumption | refine st_drew ?_ | refine st_drewN ?_ _ | refine Below.setCell ?_ (by first | omega | (simp; done) | (simp; omega)) _ | refine Below.alloc ?_ (by first | omega | (simp; done) | (simp; omega)) _)⟩
    · have e : Hid (stB ⟨6, t, c, p⟩ = false) := stB_false (by unfold StOk n3; simp only; omega)
      clear HR
      go_enter Try.func99, Try.ntmps99
      go_wp2_with (first | (go_at_call 73; with_reducible (first | refine (k1 _).mono ?_ | refine (k2 _).mono ?_); rintro e0 w1 ⟨rfl, rfl⟩) | (go_at_call 107; refine (k3 _).mono ?_; rintro e0 w1 ⟨rfl, rfl⟩))
      all_goals go_ret
      all_goals exact ⟨ret_bool (by first | exact e.out.symm | (rw [e.out]; simp; done) | (rw [e.out]; simp; omega)), by repeat (first | exact Below.refl _ _ | assumption | refine st_drew ?_ | refine st_drewN ?_ _ | refine Below.setCell ?_ (by first | omega | (simp; done) | (simp; omega)) _ | refine Below.alloc ?_ (by first | omega | (simp; done) | (simp; omega)) _)⟩
  by_cases q2 : k = 2
  · subst q2
    by_cases zp : p = 0
    · subst zp
      have e : Hid (stB ⟨2, t, c, 0⟩ = true) := stB_true (by have := HR.out; exact ⟨⟨by simp only; omega, by simp only; omega⟩, ⟨by simp only; omega, by simp only; omega⟩, ⟨by simp only; omega, by simp only; omega⟩, by simp⟩)
      clear HR
      go_enter Try.func99, Try.ntmps99
      go_wp2_with (first | (go_at_call 73; with_reducible (first | refine (k1 _).mono ?_ | refine (k2 _).mono ?_); rintro e0 w1 ⟨rfl, rfl⟩) | (go_at_call 107; refine (k3 _).mono ?_; rintro e0 w1 ⟨rfl, rfl⟩))
      all_goals go_ret
      all_goals exact ⟨ret_bool (by first | exact e.out.symm | (rw [e.out]; simp; done) | (rw [e.out]; simp; omega)), by repeat (first | exact Below.refl _ _ | assumption | refine st_drew ?_ | refine st_drewN ?_ _ | refine Below.setCell ?_ (by first | omega | (simp; done) | (simp; omega)) _ | refine Below.alloc ?_ (by first | omega | (simp; done) | (simp; omega)) _)⟩
    · have e : Hid (stB ⟨2, t, c, p⟩ = false) := stB_false (by unfold StOk n3; simp only; omega)
      clear HR
      go_enter Try.func99, Try.ntmps99
      go_wp2_with (first | (go_at_call 73; with_reducible (first | refine (k1 _).mono ?_ | refine (k2 _).mono ?_); rintro e0 w1 ⟨rfl, rfl⟩) | (go_at_call 107; refine (k3 _).mono ?_; rintro e0 w1 ⟨rfl, rfl⟩))
      all_goals go_ret
      all_goals exact ⟨ret_bool (by first | exact e.out.symm | (rw [e.out]; simp; done) | (rw [e.out]; simp; omega)), by repeat (first | exact Below.refl _ _ | assumption | refine st_drew ?_ | refine st_drewN ?_ _ | refine Below.setCell ?_ (by first | omega | (simp; done) | (simp; omega)) _ | refine Below.alloc ?_ (by first | omega | (simp; done) | (simp; omega)) _)⟩
  by_cases q3 : k = 3
  · subst q3
    by_cases zt : t = 0
    · subst zt
      by_cases zp : p = 0
      · subst zp
        have e : Hid (stB ⟨3, 0, c, 0⟩ = true) := stB_true (by have := HR.out; exact ⟨⟨by simp only; omega, by simp only; omega⟩, ⟨by simp only; omega, by simp only; omega⟩, ⟨by simp only; omega, by simp only; omega⟩, by simp⟩)
        clear HR
        go_enter Try.func99, Try.ntmps99
        go_wp2_with (first | (go_at_call 73; with_reducible (first | refine (k1 _).mono ?_ | refine (k2 _).mono ?_); rintro e0 w1 ⟨rfl, rfl⟩) | (go_at_call 107; refine (k3 _).mono ?_; rintro e0 w1 ⟨rfl, rfl⟩))
        all_goals go_ret
        all_goals exact ⟨ret_bool (by first | exact e.out.symm | (rw [e.out]; simp; done) | (rw [e.out]; simp; omega)), by repeat (first | exact Below.refl _ _ | assumption | refine st_drew ?_ | refine st_drewN ?_ _ | refine Below.setCell ?_ (by first | omega | (simp; done) | (simp; omega)) _ | refine Below.alloc ?_ (by first | omega | (simp; done) | (simp; omega)) _)⟩
      · have e : Hid (stB ⟨3, 0, c, p⟩ = false) := stB_false (by unfold StOk n3; simp only; omega)
        clear HR
        go_enter Try.func99, Try.ntmps99
        go_wp2_with (first | (go_at_call 73; with_reducible (first | refine (k1 _).mono ?_ | refine (k2 _).mono ?_); rintro e0 w1 ⟨rfl, rfl⟩) | (go_at_call 107; refine (k3 _).mono ?_; rintro e0 w1 ⟨rfl, rfl⟩))
        all_goals go_ret
        all_goals exact ⟨ret_bool (by first | exact e.out.symm | (rw [e.out]; simp; done) | (rw [e.out]; simp; omega)), by repeat (first | exact Below.refl _ _ | assumption | refine st_drew ?_ | refine st_drewN ?_ _ | refine Below.setCell ?_ (by first | omega | (simp; done) | (simp; omega)) _ | refine Below.alloc ?_ (by first | omega | (simp; done) | (simp; omega)) _)⟩
    · have e : Hid (stB ⟨3, t, c, p⟩ = false) := stB_false (by unfold StOk n3; simp only; omega)
      clear HR
      go_enter Try.func99, Try.ntmps99
      go_wp2_with (first | (go_at_call 73; with_reducible (first | refine (k1 _).mono ?_ | refine (k2 _).mono ?_); rintro e0 w1 ⟨rfl, rfl⟩) | (go_at_call 107; refine (k3 _).mono ?_; rintro e0 w1 ⟨rfl, rfl⟩))
      all_goals go_ret
      all_goals exact ⟨ret_bool (by first | exact e.out.symm | (rw [e.out]; simp; done) | (rw [e.out]; simp; omega)), by repeat (first | exact Below.refl _ _ | assumption | refine st_drew ?_ | refine st_drewN ?_ _ | refine Below.setCell ?_ (by first | omega | (simp; done) | (simp; omega)) _ | refine Below.alloc ?_ (by first | omega | (simp; done) | (simp; omega)) _)⟩
  by_cases q4 : k = 4
  · subst q4
    by_cases zt : t = 0
    · subst zt
      by_cases zp : p = 0
      · subst zp
        have e : Hid (stB ⟨4, 0, c, 0⟩ = true) := stB_true (by have := HR.out; exact ⟨⟨by simp only; omega, by simp only; omega⟩, ⟨by simp only; omega, by simp only; omega⟩, ⟨by simp only; omega, by simp only; omega⟩, by simp⟩)
        clear HR
        go_enter Try.func99, Try.ntmps99
        go_wp2_with (first | (go_at_call 73; with_reducible (first | refine (k1 _).mono ?_ | refine (k2 _).mono ?_); rintro e0 w1 ⟨rfl, rfl⟩) | (go_at_call 107; refine (k3 _).mono ?_; rintro e0 w1 ⟨rfl, rfl⟩))
        all_goals go_ret
        all_goals exact ⟨ret_bool (by first | exact e.out.symm | (rw [e.out]; simp; done) | (rw [e.out]; simp; omega)), by repeat (first | exact Below.refl _ _ | assumption | refine st_drew ?_ | refine st_drewN ?_ _ | refine Below.setCell ?_ (by first | omega | (simp; done) | (simp; omega)) _ | refine Below.alloc ?_ (by first | omega | (simp; done) | (simp; omega)) _)⟩
      · have e : Hid (stB ⟨4, 0, c, p⟩ = false) := stB_false (by unfold StOk n3; simp only; omega)
        clear HR
        go_enter Try.func99, Try.ntmps99
        go_wp2_with (first | (go_at_call 73; with_reducible (first | refine (k1 _).mono ?_ | refine (k2 _).mono ?_); rintro e0 w1 ⟨rfl, rfl⟩) | (go_at_call 107; refine (k3 _).mono ?_; rintro e0 w1 ⟨rfl, rfl⟩))
        all_goals go_ret
        all_goals exact ⟨ret_bool (by first | exact e.out.symm | (rw [e.out]; simp; done) | (rw [e.out]; simp; omega)), by repeat (first | exact Below.refl _ _ | assumption | refine st_drew ?_ | refine st_drewN ?_ _ | refine Below.setCell ?_ (by first | omega | (simp; done) | (simp; omega)) _ | refine Below.alloc ?_ (by first | omega | (simp; done) | (simp; omega)) _)⟩
    · have e : Hid (stB ⟨4, t, c, p⟩ = false) := stB_false (by unfold StOk n3; simp only; omega)
      clear HR
      go_enter Try.func99, Try.ntmps99
      go_wp2_with (first | (go_at_call 73; with_reducible (first | refine (k1 _).mono ?_ | refine (k2 _).mono ?_); rintro e0 w1 ⟨rfl, rfl⟩) | (go_at_call 107; refine (k3 _).mono ?_; rintro e0 w1 ⟨rfl, rfl⟩))
      all_goals go_ret
      all_goals exact ⟨ret_bool (by first | exact e.out.symm | (rw [e.out]; simp; done) | (rw [e.out]; simp; omega)), by repeat (first | exact Below.refl _ _ | assumption | refine st_drew ?_ | refine st_drewN ?_ _ | refine Below.setCell ?_ (by first | omega | (simp; done) | (simp; omega)) _ | refine Below.alloc ?_ (by first | omega | (simp; done) | (simp; omega)) _)⟩
  by_cases q5 : k = 5
  · subst q5
    by_cases zc : c = 0
    · subst zc
      have e : Hid (stB ⟨5, t, 0, p⟩ = true) := stB_true (by have := HR.out; exact ⟨⟨by simp only; omega, by simp only; omega⟩, ⟨by simp only; omega, by simp only; omega⟩, ⟨by simp only; omega, by simp only; omega⟩, by simp⟩)
      clear HR
      go_enter Try.func99, Try.ntmps99
      go_wp2_with (first | (go_at_call 73; with_reducible (first | refine (k1 _).mono ?_ | refine (k2 _).mono ?_); rintro e0 w1 ⟨rfl, rfl⟩) | (go_at_call 107; refine (k3 _).mono ?_; rintro e0 w1 ⟨rfl, rfl⟩))
      all_goals go_ret
      all_goals exact ⟨ret_bool (by first | exact e.out.symm | (rw [e.out]; simp; done) | (rw [e.out]; simp; omega)), by repeat (first | exact Below.refl _ _ | assumption | refine st_drew ?_ | refine st_drewN ?_ _ | refine Below.setCell ?_ (by first | omega | (simp; done) | (simp; omega)) _ | refine Below.alloc ?_ (by first | omega | (simp; done) | (simp; omega)) _)⟩
    · have e : Hid (stB ⟨5, t, c, p⟩ = false) := stB_false (by unfold StOk n3; simp only; omega)
      clear HR
      go_enter Try.func99, Try.ntmps99
      go_wp2_with (first | (go_at_call 73; with_reducible (first | refine (k1 _).mono ?_ | refine (k2 _).mono ?_); rintro e0 w1 ⟨rfl, rfl⟩) | (go_at_call 107; refine (k3 _).mono ?_; rintro e0 w1 ⟨rfl, rfl⟩))
      all_goals go_ret
      all_goals exact ⟨ret_bool (by first | exact e.out.symm | (rw [e.out]; simp; done) | (rw [e.out]; simp; omega)), by repeat (first | exact Below.refl _ _ | assumption | refine st_drew ?_ | refine st_drewN ?_ _ | refine Below.setCell ?_ (by first | omega | (simp; done) | (simp; omega)) _ | refine Below.alloc ?_ (by first | omega | (simp; done) | (simp; omega)) _)⟩
  have e : Hid (stB ⟨k, t, c, p⟩ = false) := stB_false (by unfold StOk n3; simp only; omega)
  clear HR
  go_enter Try.func99, Try.ntmps99
  go_wp2_with (first | (go_at_call 73; with_reducible (first | refine (k1 _).mono ?_ | refine (k2 _).mono ?_); rintro e0 w1 ⟨rfl, rfl⟩) | (go_at_call 107; refine (k3 _).mono ?_; rintro e0 w1 ⟨rfl, rfl⟩))
  all_goals go_ret
  all_goals exact ⟨ret_bool (by first | exact e.out.symm | (rw [e.out]; simp; done) | (rw [e.out]; simp; omega)), by repeat (first | exact Below.refl _ _ | assumption | refine st_drew ?_ | refine st_drewN ?_ _ | refine Below.setCell ?_ (by first | omega | (simp; done) | (simp; omega)) _ | refine Below.alloc ?_ (by first | omega | (simp; done) | (simp; omega)) _)⟩

set_option maxRecDepth 20000 in
set_option maxHeartbeats 4000000 in
theorem sstep_any (s : Stp) (w : World) : Calls Try.prog 72 #[aT s] w fun e w' => e = .returned (.bool (stB s)) ∧ Below w.heap.size w w' := by
  obtain ⟨k, t, c, p⟩ := s
  unfold aT
  simp only
  have k1 := lin_any t 0 999
  have k2 := lin_any c 0 999
  have k3 := lin_any p 0 999
  rw [show rng t 0 999 = prs t from rfl] at k1
  rw [show rng c 0 999 = prs c from rfl] at k2
  rw [show rng p 0 999 = prs p from rfl] at k3
  cases h1 : prs t with
  | false =>
    have e : Hid (stB ⟨k, t, c, p⟩ = false) := stB_false (by have := prs_f h1; unfold StOk n3; simp only; omega)
    have z : (t == 0) = false := by have := prs_f h1; simp; omega
    rw [h1] at k1
    clear h1
    generalize prs c = bc at *
    generalize prs p = bp at *
    go_enter Try.func72, Try.ntmps72
    go_wp2_with (first | (go_at_call 41; with_reducible (first | refine (k1 _).mono ?_ | refine (k2 _).mono ?_ | refine (k3 _).mono ?_); rintro e0 w1 ⟨rfl, rfl⟩))
    all_goals go_ret
    all_goals exact ⟨ret_bool (by first | exact e.out.symm | (rw [e.out]; simp; done) | (rw [e.out]; simp; omega)), by repeat (first | exact Below.refl _ _ | assumption | refine st_drew ?_ | refine st_drewN ?_ _ | refine Below.setCell ?_ (by first | omega | (simp; done) | (simp; omega)) _ | refine Below.alloc ?_ (by first | omega | (simp; done) | (simp; omega)) _)⟩
  | true =>
  cases h2 : prs c with
  | false =>
    have e : Hid (stB ⟨k, t, c, p⟩ = false) := stB_false (by have := prs_f h2; unfold StOk n3; simp only; omega)
    have z : (c == 0) = false := by have := prs_f h2; simp; omega
    rw [h2] at k2; rw [h1] at k1
    clear h1 h2
    generalize prs p = bp at *
    go_enter Try.func72, Try.ntmps72
    go_wp2_with (first | (go_at_call 41; with_reducible (first | refine (k1 _).mono ?_ | refine (k2 _).mono ?_ | refine (k3 _).mono ?_); rintro e0 w1 ⟨rfl, rfl⟩))
    all_goals go_ret
    all_goals exact ⟨ret_bool (by first | exact e.out.symm | (rw [e.out]; simp; done) | (rw [e.out]; simp; omega)), by repeat (first | exact Below.refl _ _ | assumption | refine st_drew ?_ | refine st_drewN ?_ _ | refine Below.setCell ?_ (by first | omega | (simp; done) | (simp; omega)) _ | refine Below.alloc ?_ (by first | omega | (simp; done) | (simp; omega)) _)⟩
  | true =>
  cases h3 : prs p with
  | false =>
    have e : Hid (stB ⟨k, t, c, p⟩ = false) := stB_false (by have := prs_f h3; unfold StOk n3; simp only; omega)
    have z : (p == 0) = false := by have := prs_f h3; simp; omega
    rw [h2] at k2; rw [h1] at k1; rw [h3] at k3
    clear h1 h2 h3
    go_enter Try.func72, Try.ntmps72
    go_wp2_with (first | (go_at_call 41; with_reducible (first | refine (k1 _).mono ?_ | refine (k2 _).mono ?_ | refine (k3 _).mono ?_); rintro e0 w1 ⟨rfl, rfl⟩))
    all_goals go_ret
    all_goals exact ⟨ret_bool (by first | exact e.out.symm | (rw [e.out]; simp; done) | (rw [e.out]; simp; omega)), by repeat (first | exact Below.refl _ _ | assumption | refine st_drew ?_ | refine st_drewN ?_ _ | refine Below.setCell ?_ (by first | omega | (simp; done) | (simp; omega)) _ | refine Below.alloc ?_ (by first | omega | (simp; done) | (simp; omega)) _)⟩
  | true =>
  have r1 := prs_iff.1 h1
  have r2 := prs_iff.1 h2
  have r3 := prs_iff.1 h3
  rw [h2] at k2; rw [h1] at k1; rw [h3] at k3
  clear h1 h2 h3
  have HR := hidden (And.intro r1 (And.intro r2 r3))
  clear r1 r2 r3
  by_cases q1 : k = 1
  · subst q1
    by_cases zc : c = 0
    · subst zc
      by_cases zp : p = 0
      · subst zp
        have e : Hid (stB ⟨1, t, 0, 0⟩ = true) := stB_true (by have := HR.out; exact ⟨⟨by simp only; omega, by simp only; omega⟩, ⟨by simp only; omega, by simp only; omega⟩, ⟨by simp only; omega, by simp only; omega⟩, by simp⟩)
        clear HR
        go_enter Try.func72, Try.ntmps72
        go_wp2_with (first | (go_at_call 41; with_reducible (first | refine (k1 _).mono ?_ | refine (k2 _).mono ?_ | refine (k3 _).mono ?_); rintro e0 w1 ⟨rfl, rfl⟩))
        all_goals go_ret
        all_goals exact ⟨ret_bool (by first | exact e.out.symm | (rw [e.out]; simp; done) | (rw [e.out]; simp; omega)), by repeat (first | exact Below.refl _ _ | assumption | refine st_drew ?_ | refine st_drewN ?_ _ | refine Below.setCell ?_ (by first | omega | (simp; done) | (simp; omega)) _ | refine Below.alloc ?_ (by first | omega | (simp; done) | (simp; omega)) _)⟩
      · have e : Hid (stB ⟨1, t, 0, p⟩ = false) := stB_false (by unfold StOk n3; simp only; omega)
        clear HR
        go_enter Try.func72, Try.ntmps72
        go_wp2_with (first | (go_at_call 41; with_reducible (first | refine (k1 _).mono ?_ | refine (k2 _).mono ?_ | refine (k3 _).mono ?_); rintro e0 w1 ⟨rfl, rfl⟩))
        all_goals go_ret
        all_goals exact ⟨ret_bool (by first | exact e.out.symm | (rw [e.out]; simp; done) | (rw [e.out]; simp; omega)), by repeat (first | exact Below.refl _ _ | assumption | refine st_drew ?_ | refine st_drewN ?_ _ | refine Below.setCell ?_ (by first | omega | (simp; done) | (simp; omega)) _ | refine Below.alloc ?_ (by first | omega | (simp; done) | (simp; omega)) _)⟩
    · have e : Hid (stB ⟨1, t, c, p⟩ = false) := stB_false (by unfold StOk n3; simp only; omega)
      clear HR
      go_enter Try.func72, Try.ntmps72
      go_wp2_with (first | (go_at_call 41; with_reducible (first | refine (k1 _).mono ?_ | refine (k2 _).mono ?_ | refine (k3 _).mono ?_); rintro e0 w1 ⟨rfl, rfl⟩))
      all_goals go_ret
      all_goals exact ⟨ret_bool (by first | exact e.out.symm | (rw [e.out]; simp; done) | (rw [e.out]; simp; omega)), by repeat (first | exact Below.refl _ _ | assumption | refine st_drew ?_ | refine st_drewN ?_ _ | refine Below.setCell ?_ (by first | omega | (simp; done) | (simp; omega)) _ | refine Below.alloc ?_ (by first | omega | (simp; done) | (simp; omega)) _)⟩
  by_cases q6 : k = 6
  · subst q6
    by_cases zc : c = 0
    · subst zc
      by_cases zp : p = 0
      · subst zp
        have e : Hid (stB ⟨6, t, 0, 0⟩ = true) := stB_true (by have := HR.out; exact ⟨⟨by simp only; omega, by simp only; omega⟩, ⟨by simp only; omega, by simp only; omega⟩, ⟨by simp only; omega, by simp only; omega⟩, by simp⟩)
        clear HR
        go_enter Try.func72, Try.ntmps72
        go_wp2_with (first | (go_at_call 41; with_reducible (first | refine (k1 _).mono ?_ | refine (k2 _).mono ?_ | refine (k3 _).mono ?_); rintro e0 w1 ⟨rfl, rfl⟩))
        all_goals go_ret
        all_goals exact ⟨ret_bool (by first | exact e.out.symm | (rw [e.out]; simp; done) | (rw [e.out]; simp; omega)), by repeat (first | exact Below.refl _ _ | assumption | refine st_drew ?_ | refine st_drewN ?_ _ | refine Below.setCell ?_ (by first | omega | (simp; done) | (simp; omega)) _ | refine Below.alloc ?_ (by first | omega | (simp; done) | (simp; omega)) _)⟩
      · have e : Hid (stB ⟨6, t, 0, p⟩ = false) := stB_false (by unfold StOk n3; simp only; omega)
        clear HR
        go_enter Try.func72, Try.ntmps72
        go_wp2_with (first | (go_at_call 41; with_reducible (first | refine (k1 _).mono ?_ | refine (k2 _).mono ?_ | refine (k3 _).mono ?_); rintro e0 w1 ⟨rfl, rfl⟩))
        all_goals go_ret
        all_goals exact ⟨ret_bool (by first | exact e.out.symm | (rw [e.out]; simp; done) | (rw [e.out]; simp; omega)), by repeat (first | exact Below.refl _ _ | assumption | refine st_drew ?_ | refine st_drewN ?_ _ | refine Below.setCell ?_ (by first | omega | (simp; done) | (simp; omega)) _ | refine Below.alloc ?_ (by first | omega | (simp; done) | (simp; omega)) _)⟩
    · have e : Hid (stB ⟨6, t, c, p⟩ = false) := stB_false (by unfold StOk n3; simp only; omega)
      clear HR
      go_enter Try.func72, Try.ntmps72
      go_wp2_with (first | (go_at_call 41; with_reducible (first | refine (k1 _).mono ?_ | refine (k2 _).mono ?_ | refine (k3 _).mono ?_); rintro e0 w1 ⟨rfl, rfl⟩))
      all_goals go_ret
      all_goals exact ⟨ret_bool (by first | exact e.out.symm | (rw [e.out]; simp; done) | (rw [e.out]; simp; omega)), by repeat (first | exact Below.refl _ _ | assumption | refine st_drew ?_ | refine st_drewN ?_ _ | refine Below.setCell ?_ (by first | omega | (simp; done) | (simp; omega)) _ | refine Below.alloc ?_ (by first | omega | (simp; done) | (simp; omega)) _)⟩
  by_cases q2 : k = 2
  · subst q2
    by_cases zp : p = 0
    · subst zp
      have e : Hid (stB ⟨2, t, c, 0⟩ = true) := stB_true (by have := HR.out; exact ⟨⟨by simp only; omega, by simp only; omega⟩, ⟨by simp only; omega, by simp only; omega⟩, ⟨by simp only; omega, by simp only; omega⟩, by simp⟩)
      clear HR
      go_enter Try.func72, Try.ntmps72
      go_wp2_with (first | (go_at_call 41; with_reducible (first | refine (k1 _).mono ?_ | refine (k2 _).mono ?_ | refine (k3 _).mono ?_); rintro e0 w1 ⟨rfl, rfl⟩))
      all_goals go_ret
      all_goals exact ⟨ret_bool (by first | exact e.out.symm | (rw [e.out]; simp; done) | (rw [e.out]; simp; omega)), by repeat (first | exact Below.refl _ _ | assumption | refine st_drew ?_ | refine st_drewN ?_ _ | refine Below.setCell ?_ (by first | omega | (simp; done) | (simp; omega)) _ | refine Below.alloc ?_ (by first | omega | (simp; done) | (simp; omega)) _)⟩
    · have e : Hid (stB ⟨2, t, c, p⟩ = false) := stB_false (by unfold StOk n3; simp only; omega)
      clear HR
      go_enter Try.func72, Try.ntmps72
      go_wp2_with (first | (go_at_call 41; with_reducible (first | refine (k1 _).mono ?_ | refine (k2 _).mono ?_ | refine (k3 _).mono ?_); rintro e0 w1 ⟨rfl, rfl⟩))
      all_goals go_ret
      all_goals exact ⟨ret_bool (by first | exact e.out.symm | (rw [e.out]; simp; done) | (rw [e.out]; simp; omega)), by repeat (first | exact Below.refl _ _ | assumption | refine st_drew ?_ | refine st_drewN ?_ _ | refine Below.setCell ?_ (by first | omega | (simp; done) | (simp; omega)) _ | refine Below.alloc ?_ (by first | omega | (simp; done) | (simp; omega)) _)⟩
  by_cases q3 : k = 3
  · subst q3
    by_cases zt : t = 0
    · subst zt
      by_cases zp : p = 0
      · subst zp
        have e : Hid (stB ⟨3, 0, c, 0⟩ = true) := stB_true (by have := HR.out; exact ⟨⟨by simp only; omega, by simp only; omega⟩, ⟨by simp only; omega, by simp only; omega⟩, ⟨by simp only; omega, by simp only; omega⟩, by simp⟩)
        clear HR
        go_enter Try.func72, Try.ntmps72
        go_wp2_with (first | (go_at_call 41; with_reducible (first | refine (k1 _).mono ?_ | refine (k2 _).mono ?_ | refine (k3 _).mono ?_); rintro e0 w1 ⟨rfl, rfl⟩))
        all_goals go_ret
        all_goals exact ⟨ret_bool (by first | exact e.out.symm | (rw [e.out]; simp; done) | (rw [e.out]; simp; omega)), by repeat (first | exact Below.refl _ _ | assumption | refine st_drew ?_ | refine st_drewN ?_ _ | refine Below.setCell ?_ (by first | omega | (simp; done) | (simp; omega)) _ | refine Below.alloc ?_ (by first | omega | (simp; done) | (simp; omega)) _)⟩
      · have e : Hid (stB ⟨3, 0, c, p⟩ = false) := stB_false (by unfold StOk n3; simp only; omega)
        clear HR
        go_enter Try.func72, Try.ntmps72
        go_wp2_with (first | (go_at_call 41; with_reducible (first | refine (k1 _).mono ?_ | refine (k2 _).mono ?_ | refine (k3 _).mono ?_); rintro e0 w1 ⟨rfl, rfl⟩))
        all_goals go_ret
        all_goals exact ⟨ret_bool (by first | exact e.out.symm | (rw [e.out]; simp; done) | (rw [e.out]; simp; omega)), by repeat (first | exact Below.refl _ _ | assumption | refine st_drew ?_ | refine st_drewN ?_ _ | refine Below.setCell ?_ (by first | omega | (simp; done) | (simp; omega)) _ | refine Below.alloc ?_ (by first | omega | (simp; done) | (simp; omega)) _)⟩
    · have e : Hid (stB ⟨3, t, c, p⟩ = false) := stB_false (by unfold StOk n3; simp only; omega)
      clear HR
      go_enter Try.func72, Try.ntmps72
      go_wp2_with (first | (go_at_call 41; with_reducible (first | refine (k1 _).mono ?_ | refine (k2 _).mono ?_ | refine (k3 _).mono ?_); rintro e0 w1 ⟨rfl, rfl⟩))
      all_goals go_ret
      all_goals exact ⟨ret_bool (by first | exact e.out.symm | (rw [e.out]; simp; done) | (rw [e.out]; simp; omega)), by repeat (first | exact Below.refl _ _ | assumption | refine st_drew ?_ | refine st_drewN ?_ _ | refine Below.setCell ?_ (by first | omega | (simp; done) | (simp; omega)) _ | refine Below.alloc ?_ (by first | omega | (simp; done) | (simp; omega)) _)⟩
  by_cases q4 : k = 4
  · subst q4
    by_cases zt : t = 0
    · subst zt
      by_cases zp : p = 0
      · subst zp
        have e : Hid (stB ⟨4, 0, c, 0⟩ = true) := stB_true (by have := HR.out; exact ⟨⟨by simp only; omega, by simp only; omega⟩, ⟨by simp only; omega, by simp only; omega⟩, ⟨by simp only; omega, by simp only; omega⟩, by simp⟩)
        clear HR
        go_enter Try.func72, Try.ntmps72
        go_wp2_with (first | (go_at_call 41; with_reducible (first | refine (k1 _).mono ?_ | refine (k2 _).mono ?_ | refine (k3 _).mono ?_); rintro e0 w1 ⟨rfl, rfl⟩))
        all_goals go_ret
        all_goals exact ⟨ret_bool (by first | exact e.out.symm | (rw [e.out]; simp; done) | (rw [e.out]; simp; omega)), by repeat (first | exact Below.refl _ _ | assumption | refine st_drew ?_ | refine st_drewN ?_ _ | refine Below.setCell ?_ (by first | omega | (simp; done) | (simp; omega)) _ | refine Below.alloc ?_ (by first | omega | (simp; done) | (simp; omega)) _)⟩
      · have e : Hid (stB ⟨4, 0, c, p⟩ = false) := stB_false (by unfold StOk n3; simp only; omega)
        clear HR
        go_enter Try.func72, Try.ntmps72
        go_wp2_with (first | (go_at_call 41; with_reducible (first | refine (k1 _).mono ?_ | refine (k2 _).mono ?_ | refine (k3 _).mono ?_); rintro e0 w1 ⟨rfl, rfl⟩))
        all_goals go_ret
        all_goals exact ⟨ret_bool (by first | exact e.out.symm | (rw [e.out]; simp; done) | (rw [e.out]; simp; omega)), by repeat (first | exact Below.refl _ _ | assumption | refine st_drew ?_ | refine st_drewN ?_ _ | refine Below.setCell ?_ (by first | omega | (simp; done) | (simp; omega)) _ | refine Below.alloc ?_ (by first | omega | (simp; done) | (simp; omega)) _)⟩
    · have e : Hid (stB ⟨4, t, c, p⟩ = false) := stB_false (by unfold StOk n3; simp only; omega)
      clear HR
      go_enter Try.func72, Try.ntmps72
      go_wp2_with (first | (go_at_call 41; with_reducible (first | refine (k1 _).mono ?_ | refine (k2 _).mono ?_ | refine (k3 _).mono ?_); rintro e0 w1 ⟨rfl, rfl⟩))
      all_goals go_ret
      all_goals exact ⟨ret_bool (by first | exact e.out.symm | (rw [e.out]; simp; done) | (rw [e.out]; simp; omega)), by repeat (first | exact Below.refl _ _ | assumption | refine st_drew ?_ | refine st_drewN ?_ _ | refine Below.setCell ?_ (by first | omega | (simp; done) | (simp; omega)) _ | refine Below.alloc ?_ (by first | omega | (simp; done) | (simp; omega)) _)⟩
  by_cases q5 : k = 5
  · subst q5
    by_cases zc : c = 0
    · subst zc
      have e : Hid (stB ⟨5, t, 0, p⟩ = true) := stB_true (by have := HR.out; exact ⟨⟨by simp only; omega, by simp only; omega⟩, ⟨by simp only; omega, by simp only; omega⟩, ⟨by simp only; omega, by simp only; omega⟩, by simp⟩)
      clear HR
      go_enter Try.func72, Try.ntmps72
      go_wp2_with (first | (go_at_call 41; with_reducible (first | refine (k1 _).mono ?_ | refine (k2 _).mono ?_ | refine (k3 _).mono ?_); rintro e0 w1 ⟨rfl, rfl⟩))
      all_goals go_ret
      all_goals exact ⟨ret_bool (by first | exact e.out.symm | (rw [e.out]; simp; done) | (rw [e.out]; simp; omega)), by repeat (first | exact Below.refl _ _ | assumption | refine st_drew ?_ | refine st_drewN ?_ _ | refine Below.setCell ?_ (by first | omega | (simp; done) | (simp; omega)) _ | refine Below.alloc ?_ (by first | omega | (simp; done) | (simp; omega)) _)⟩
    · have e : Hid (stB ⟨5, t, c, p⟩ = false) := stB_false (by unfold StOk n3; simp only; omega)
      clear HR
      go_enter Try.func72, Try.ntmps72
      go_wp2_with (first | (go_at_call 41; with_reducible (first | refine (k1 _).mono ?_ | refine (k2 _).mono ?_ | refine (k3 _).mono ?_); rintro e0 w1 ⟨rfl, rfl⟩))
      all_goals go_ret
      all_goals exact ⟨ret_bool (by first | exact e.out.symm | (rw [e.out]; simp; done) | (rw [e.out]; simp; omega)), by repeat (first | exact Below.refl _ _ | assumption | refine st_drew ?_ | refine st_drewN ?_ _ | refine Below.setCell ?_ (by first | omega | (simp; done) | (simp; omega)) _ | refine Below.alloc ?_ (by first | omega | (simp; done) | (simp; omega)) _)⟩
  have e : Hid (stB ⟨k, t, c, p⟩ = false) := stB_false (by unfold StOk n3; simp only; omega)
  clear HR
  go_enter Try.func72, Try.ntmps72
  go_wp2_with (first | (go_at_call 41; with_reducible (first | refine (k1 _).mono ?_ | refine (k2 _).mono ?_ | refine (k3 _).mono ?_); rintro e0 w1 ⟨rfl, rfl⟩))
  all_goals go_ret
  all_goals exact ⟨ret_bool (by first | exact e.out.symm | (rw [e.out]; simp; done) | (rw [e.out]; simp; omega)), by repeat (first | exact Below.refl _ _ | assumption | refine st_drew ?_ | refine st_drewN ?_ _ | refine Below.setCell ?_ (by first | omega | (simp; done) | (simp; omega)) _ | refine Below.alloc ?_ (by first | omega | (simp; done) | (simp; omega)) _)⟩
end Go.Proofs.Ytklgadaefngnnaa
