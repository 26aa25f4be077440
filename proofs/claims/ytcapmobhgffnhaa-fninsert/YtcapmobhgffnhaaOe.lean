/-
  Right operations, as the specification says.
-/
import Derived.Test.YtcapmobhgffnhaaOd
import Derived.BigQuiet
import Derived.Deep.QuietTactic
namespace Go.Proofs.Ytcapmobhgffnhaa
open Go.RowKit Va Oa
set_option linter.unusedVariables false

/-- Where an operation lies in a box. -/
theorem box_team {w : World} {ta : Option Addr} {n tc : Nat} {l : List Int} (h : IRw w (.slice ta n tc) l) {i : Nat} {x : Int} (hx : l[i]? = some x) :
    ∃ g off, ta = some ⟨g, off, none⟩ ∧ g < w.heap.size ∧ w.cell? ⟨g, off + i, none⟩ = some (.int .i64 x) := by
  obtain ⟨g, off, h1, h2, h3⟩ := h.at hx
  exact ⟨g, off, h1, h2, h3 i x hx⟩

set_option maxRecDepth 20000 in
set_option maxHeartbeats 4000000 in
theorem sright_any (x : Opn) (ta : Option Addr) (n tc : Nat) (w : World) (h : IRw w (.slice ta n tc) x.team) (hn : x.team.length ≤ 1048576) :
    Calls Try.prog 44 #[aO x (.slice ta n tc)] w fun e w' => e = .returned (.bool (opB x)) ∧ Below w.heap.size w w' := by
  obtain rfl := h.len
  have k0 := lin_any x.room 0 99
  have k1 := stmq_any x.fr
  have k2 := stmq_any x.to
  have HH := hidden h
  clear h
  unfold opB aO
  generalize rng x.room 0 99 = t0 at *
  generalize tmv x.fr = t1 at *
  generalize tmv x.to = t2 at *
  rcases t0 with _ | _
  · go_enter Try.func44, Try.ntmps44
    go_wp2_with (first | (go_at_call 39; refine (k0 _).mono ?_; rintro e w1 ⟨rfl, rfl⟩) | (go_at_call 70; with_reducible (first | refine (k1 _).mono ?_ | refine (k2 _).mono ?_); rintro e w1 ⟨rfl, rfl⟩))
    go_ret
    exact ⟨rfl, by repeat (first | exact Below.refl _ _ | assumption | refine st_drew ?_ | refine st_drewN ?_ _ | refine Below.setCell ?_ (by first | omega | (simp; done) | (simp; omega)) _ | refine Below.alloc ?_ (by first | omega | (simp; done) | (simp; omega)) _)⟩
  rcases t1 with _ | _
  · go_enter Try.func44, Try.ntmps44
    go_wp2_with (first | (go_at_call 39; refine (k0 _).mono ?_; rintro e w1 ⟨rfl, rfl⟩) | (go_at_call 70; with_reducible (first | refine (k1 _).mono ?_ | refine (k2 _).mono ?_); rintro e w1 ⟨rfl, rfl⟩))
    go_ret
    exact ⟨rfl, by repeat (first | exact Below.refl _ _ | assumption | refine st_drew ?_ | refine st_drewN ?_ _ | refine Below.setCell ?_ (by first | omega | (simp; done) | (simp; omega)) _ | refine Below.alloc ?_ (by first | omega | (simp; done) | (simp; omega)) _)⟩
  rcases t2 with _ | _
  · go_enter Try.func44, Try.ntmps44
    go_wp2_with (first | (go_at_call 39; refine (k0 _).mono ?_; rintro e w1 ⟨rfl, rfl⟩) | (go_at_call 70; with_reducible (first | refine (k1 _).mono ?_ | refine (k2 _).mono ?_); rintro e w1 ⟨rfl, rfl⟩))
    go_ret
    exact ⟨rfl, by repeat (first | exact Below.refl _ _ | assumption | refine st_drew ?_ | refine st_drewN ?_ _ | refine Below.setCell ?_ (by first | omega | (simp; done) | (simp; omega)) _ | refine Below.alloc ?_ (by first | omega | (simp; done) | (simp; omega)) _)⟩
  by_cases q3 : x.to ≤ x.fr
  · have hno : Hid (decide (x.fr < x.to) = false) := by rw [Hid]; simp; omega
    go_enter Try.func44, Try.ntmps44
    go_wp2_with (first | (go_at_call 39; refine (k0 _).mono ?_; rintro e w1 ⟨rfl, rfl⟩) | (go_at_call 70; with_reducible (first | refine (k1 _).mono ?_ | refine (k2 _).mono ?_); rintro e w1 ⟨rfl, rfl⟩))
    go_ret
    exact ⟨by rw [hno.out]; rfl, by repeat (first | exact Below.refl _ _ | assumption | refine st_drew ?_ | refine st_drewN ?_ _ | refine Below.setCell ?_ (by first | omega | (simp; done) | (simp; omega)) _ | refine Below.alloc ?_ (by first | omega | (simp; done) | (simp; omega)) _)⟩
  by_cases h1 : (x.team.length : Int) < 1
  · have hno : Hid (tmB x.team = false) := tmB_false fun q => by have := q.1; omega
    go_enter Try.func44, Try.ntmps44
    go_wp2_with (first | (go_at_call 39; refine (k0 _).mono ?_; rintro e w1 ⟨rfl, rfl⟩) | (go_at_call 70; with_reducible (first | refine (k1 _).mono ?_ | refine (k2 _).mono ?_); rintro e w1 ⟨rfl, rfl⟩))
    go_ret
    exact ⟨by rw [hno.out]; simp, by repeat (first | exact Below.refl _ _ | assumption | refine st_drew ?_ | refine st_drewN ?_ _ | refine Below.setCell ?_ (by first | omega | (simp; done) | (simp; omega)) _ | refine Below.alloc ?_ (by first | omega | (simp; done) | (simp; omega)) _)⟩
  by_cases h8 : (8 : Int) < (x.team.length : Int)
  · have hno : Hid (tmB x.team = false) := tmB_false fun q => by have := q.2.1; omega
    go_enter Try.func44, Try.ntmps44
    go_wp2_with (first | (go_at_call 39; refine (k0 _).mono ?_; rintro e w1 ⟨rfl, rfl⟩) | (go_at_call 70; with_reducible (first | refine (k1 _).mono ?_ | refine (k2 _).mono ?_); rintro e w1 ⟨rfl, rfl⟩))
    go_ret
    exact ⟨by rw [hno.out]; simp, by repeat (first | exact Below.refl _ _ | assumption | refine st_drew ?_ | refine st_drewN ?_ _ | refine Below.setCell ?_ (by first | omega | (simp; done) | (simp; omega)) _ | refine Below.alloc ?_ (by first | omega | (simp; done) | (simp; omega)) _)⟩
  have hlt : Hid (decide (x.fr < x.to) = true) := by rw [Hid]; simp; omega
  go_enter Try.func44, Try.ntmps44
  go_wp2_with (first | (go_at_call 39; refine (k0 _).mono ?_; rintro e w1 ⟨rfl, rfl⟩) | (go_at_call 70; with_reducible (first | refine (k1 _).mono ?_ | refine (k2 _).mono ?_); rintro e w1 ⟨rfl, rfl⟩))
  go_loopw [3] (fun iv wr => ∃ i : Nat, i ≤ x.team.length ∧ iv = .int .i64 i ∧ Below w.heap.size w wr ∧ w.heap.size < wr.heap.size ∧ wr.cell? ⟨w.heap.size, 3, none⟩ = some (.slice ta x.team.length tc) ∧ Hid (tTo x.team i)) (fun iv _ => x.team.length - (intOf iv).toNat)
  case atStart => exact ⟨0, Nat.zero_le _, rfl, by repeat (first | exact Below.refl _ _ | assumption | refine st_drew ?_ | refine st_drewN ?_ _ | refine Below.setCell ?_ (by first | omega | (simp; done) | (simp; omega)) _ | refine Below.alloc ?_ (by first | omega | (simp; done) | (simp; omega)) _), by simp, by simp, tTo_zero _⟩
  case round =>
    obtain ⟨i, hi, rfl, hb, hws, c3, hok⟩ := hrel
    have hsz := hb.size
    by_cases hti : i < x.team.length
    · have hlti : (i : Int) < (x.team.length : Int) := by omega
      obtain ⟨y, hy⟩ := some_of x.team i hti
      obtain ⟨g, off, rfl, hg, hc⟩ := (HH.out.below hb).at hy
      have c0 := hc i y hy
      have HX := hidden hy
      have hK := fun W => (sprs_any y W).mono (fun e w' (h : _ ∧ _) => (⟨h.1, h.2.symm⟩ : _ ∧ w' = W))
      cases hp : prs y with
      | false =>
        rw [hp] at hK
        have hno : Hid (tmB x.team = false) := tmB_false (t_not hy hp)
        clear hy hc hok hp
        go_wp2_with fail
        go_quiet ((go_at_call 71; exact Calls.quiet_of_same (hK _)))
        all_goals go_wp2_with fail
        all_goals go_ret
        all_goals exact ⟨by rw [hno.out]; simp, by repeat (first | exact Below.refl _ _ | assumption | refine st_drew ?_ | refine st_drewN ?_ _ | refine Below.setCell ?_ (by first | omega | (simp; done) | (simp; omega)) _ | refine Below.alloc ?_ (by first | omega | (simp; done) | (simp; omega)) _)⟩
      | true =>
        rw [hp] at hK
        by_cases h0 : (0 : Int) < (i : Int)
        · obtain ⟨z, hz⟩ := some_of x.team (i - 1) (by omega)
          have c1 := hc (i - 1) z hz
          have hgi : decide (0 < i) = true := by simp; omega
          have i1 : ((i : Int) - 1).toNat = i - 1 := by omega
          have i2 : (0 : Int) ≤ (i : Int) - 1 := by omega
          have i3 : (i : Int) - 1 < (x.team.length : Int) := by omega
          by_cases hxy : y ≤ z
          · have hno : Hid (tmB x.team = false) := tmB_false (t_not2 hy (by omega) hz hxy)
            clear hc hok hp hy hz
            go_wp2_with fail
            go_quiet ((go_at_call 71; exact Calls.quiet_of_same (hK _)))
            all_goals go_wp2_with fail
            all_goals go_ret
            all_goals exact ⟨by rw [hno.out]; simp, by repeat (first | exact Below.refl _ _ | assumption | refine st_drew ?_ | refine st_drewN ?_ _ | refine Below.setCell ?_ (by first | omega | (simp; done) | (simp; omega)) _ | refine Below.alloc ?_ (by first | omega | (simp; done) | (simp; omega)) _)⟩
          · have hok2 : Hid (tTo x.team (i + 1)) := tTo_succ hok.out hy hp (fun v _ hv => by rw [hz] at hv; cases hv; omega)
            clear hc hok hp hy hz
            go_wp2_with fail
            go_quiet ((go_at_call 71; exact Calls.quiet_of_same (hK _)))
            all_goals go_wp2_with fail
            all_goals go_roundw
            all_goals first
              | exact ⟨i + 1, by omega, rfl, by repeat (first | exact Below.refl _ _ | assumption | refine st_drew ?_ | refine st_drewN ?_ _ | refine Below.setCell ?_ (by first | omega | (simp; done) | (simp; omega)) _ | refine Below.alloc ?_ (by first | omega | (simp; done) | (simp; omega)) _), by simpa using hws, by simpa using c3, hok2⟩
              | (simp [intOf]; omega)
        · have hok2 : Hid (tTo x.team (i + 1)) := tTo_succ hok.out hy hp (fun z hz _ => by omega)
          have hgi : decide (0 < i) = false := by simp; omega
          clear hc hok hp hy
          go_wp2_with fail
          go_quiet ((go_at_call 71; exact Calls.quiet_of_same (hK _)))
          all_goals go_wp2_with fail
          all_goals go_roundw
          all_goals first
            | exact ⟨i + 1, by omega, rfl, by repeat (first | exact Below.refl _ _ | assumption | refine st_drew ?_ | refine st_drewN ?_ _ | refine Below.setCell ?_ (by first | omega | (simp; done) | (simp; omega)) _ | refine Below.alloc ?_ (by first | omega | (simp; done) | (simp; omega)) _), by simpa using hws, by simpa using c3, hok2⟩
            | (simp [intOf]; omega)
    · have hlti : ¬ (i : Int) < (x.team.length : Int) := by omega
      have hil : i = x.team.length := by omega
      have hyes : Hid (tmB x.team = true) := tmB_true ⟨by omega, by omega, by rw [← hil]; exact hok.out⟩
      go_wp2_with fail
      go_ret
      exact ⟨by rw [hyes.out]; first | rfl | (rw [hlt.out]; rfl), hb⟩
end Go.Proofs.Ytcapmobhgffnhaa
