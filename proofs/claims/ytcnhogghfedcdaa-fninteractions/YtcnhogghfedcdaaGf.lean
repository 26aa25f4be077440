/-
  Right drugs, as the specification says.
-/
import Derived.Test.YtcnhogghfedcdaaGe
namespace Go.Proofs.Ytcnhogghfedcdaa
open Go.RowKit Va Ga
set_option linter.unusedVariables false

set_option maxRecDepth 20000 in
set_option maxHeartbeats 4000000 in
theorem sdrugok_any (x : Dg) (ta : Option Addr) (n tc : Nat) (w : World) (h : IRw w (.slice ta n tc) x.cls) (hn : x.cls.length ≤ 1048576) :
    Calls Try.prog 25 #[aD x (.slice ta n tc)] w fun e w' => e = .returned (.bool (drugB x)) ∧ Below w.heap.size w w' := by
  obtain rfl := h.len
  have k1 := lin_any x.id 1 1000
  have k2 := lin_any x.pk 1 1000000000
  have k3 := lin_any x.most 1 1000000000
  have k4 := lin_any x.day 1 1000000000
  have k5 := lin_any x.kid 0 100
  have HH := hidden h
  clear h
  unfold drugB headB numB aD
  generalize rng x.id 1 1000 = t1 at *
  generalize rng x.pk 1 1000000000 = t2 at *
  generalize rng x.most 1 1000000000 = t3 at *
  generalize rng x.day 1 1000000000 = t4 at *
  generalize rng x.kid 0 100 = t5 at *
  rcases t1 with _ | _
  · go_enter Try.func25, Try.ntmps25
    go_wp2_with (with_reducible (first | refine (k1 _).mono ?_ | refine (k2 _).mono ?_ | refine (k3 _).mono ?_ | refine (k4 _).mono ?_ | refine (k5 _).mono ?_); rintro e w1 ⟨rfl, rfl⟩)
    all_goals go_ret
    all_goals exact ⟨by simp, by repeat (first | exact Below.refl _ _ | assumption | refine st_drew ?_ | refine st_drewN ?_ _ | refine Below.setCell ?_ (by first | omega | (simp; done) | (simp; omega)) _ | refine Below.alloc ?_ (by first | omega | (simp; done) | (simp; omega)) _)⟩
  by_cases h8 : (10 : Int) < (x.cls.length : Int)
  · have hno : Hid (decide (x.cls.length ≤ 10) = false) := by rw [Hid]; simp; omega
    go_enter Try.func25, Try.ntmps25
    go_wp2_with (with_reducible (first | refine (k1 _).mono ?_ | refine (k2 _).mono ?_ | refine (k3 _).mono ?_ | refine (k4 _).mono ?_ | refine (k5 _).mono ?_); rintro e w1 ⟨rfl, rfl⟩)
    all_goals go_ret
    all_goals exact ⟨by rw [hno.out]; simp, by repeat (first | exact Below.refl _ _ | assumption | refine st_drew ?_ | refine st_drewN ?_ _ | refine Below.setCell ?_ (by first | omega | (simp; done) | (simp; omega)) _ | refine Below.alloc ?_ (by first | omega | (simp; done) | (simp; omega)) _)⟩
  have hlen : Hid (decide (x.cls.length ≤ 10) = true) := by rw [Hid]; simp; omega
  rcases t2 with _ | _
  · go_enter Try.func25, Try.ntmps25
    go_wp2_with (with_reducible (first | refine (k1 _).mono ?_ | refine (k2 _).mono ?_ | refine (k3 _).mono ?_ | refine (k4 _).mono ?_ | refine (k5 _).mono ?_); rintro e w1 ⟨rfl, rfl⟩)
    all_goals go_ret
    all_goals exact ⟨by simp, by repeat (first | exact Below.refl _ _ | assumption | refine st_drew ?_ | refine st_drewN ?_ _ | refine Below.setCell ?_ (by first | omega | (simp; done) | (simp; omega)) _ | refine Below.alloc ?_ (by first | omega | (simp; done) | (simp; omega)) _)⟩
  rcases t3 with _ | _
  · go_enter Try.func25, Try.ntmps25
    go_wp2_with (with_reducible (first | refine (k1 _).mono ?_ | refine (k2 _).mono ?_ | refine (k3 _).mono ?_ | refine (k4 _).mono ?_ | refine (k5 _).mono ?_); rintro e w1 ⟨rfl, rfl⟩)
    all_goals go_ret
    all_goals exact ⟨by simp, by repeat (first | exact Below.refl _ _ | assumption | refine st_drew ?_ | refine st_drewN ?_ _ | refine Below.setCell ?_ (by first | omega | (simp; done) | (simp; omega)) _ | refine Below.alloc ?_ (by first | omega | (simp; done) | (simp; omega)) _)⟩
  rcases t4 with _ | _
  · go_enter Try.func25, Try.ntmps25
    go_wp2_with (with_reducible (first | refine (k1 _).mono ?_ | refine (k2 _).mono ?_ | refine (k3 _).mono ?_ | refine (k4 _).mono ?_ | refine (k5 _).mono ?_); rintro e w1 ⟨rfl, rfl⟩)
    all_goals go_ret
    all_goals exact ⟨by simp, by repeat (first | exact Below.refl _ _ | assumption | refine st_drew ?_ | refine st_drewN ?_ _ | refine Below.setCell ?_ (by first | omega | (simp; done) | (simp; omega)) _ | refine Below.alloc ?_ (by first | omega | (simp; done) | (simp; omega)) _)⟩
  rcases t5 with _ | _
  · go_enter Try.func25, Try.ntmps25
    go_wp2_with (with_reducible (first | refine (k1 _).mono ?_ | refine (k2 _).mono ?_ | refine (k3 _).mono ?_ | refine (k4 _).mono ?_ | refine (k5 _).mono ?_); rintro e w1 ⟨rfl, rfl⟩)
    all_goals go_ret
    all_goals exact ⟨by simp, by repeat (first | exact Below.refl _ _ | assumption | refine st_drew ?_ | refine st_drewN ?_ _ | refine Below.setCell ?_ (by first | omega | (simp; done) | (simp; omega)) _ | refine Below.alloc ?_ (by first | omega | (simp; done) | (simp; omega)) _)⟩
  go_enter Try.func25, Try.ntmps25
  go_wp2_with (with_reducible (first | refine (k1 _).mono ?_ | refine (k2 _).mono ?_ | refine (k3 _).mono ?_ | refine (k4 _).mono ?_ | refine (k5 _).mono ?_); rintro e w1 ⟨rfl, rfl⟩)
  clear k1 k2 k3 k4 k5
  go_loopw [3] (fun iv wr => ∃ i : Nat, i ≤ x.cls.length ∧ iv = .int .i64 i ∧ Below w.heap.size w wr ∧ w.heap.size < wr.heap.size ∧ wr.cell? ⟨w.heap.size, 1, none⟩ = some (.slice ta x.cls.length tc) ∧ Hid (cTo x.cls i)) (fun iv _ => x.cls.length - (intOf iv).toNat)
  case atStart => exact ⟨0, Nat.zero_le _, rfl, by repeat (first | exact Below.refl _ _ | assumption | refine st_drew ?_ | refine st_drewN ?_ _ | refine Below.setCell ?_ (by first | omega | (simp; done) | (simp; omega)) _ | refine Below.alloc ?_ (by first | omega | (simp; done) | (simp; omega)) _), by simp, by simp, cTo_zero _⟩
  case round =>
    obtain ⟨i, hi, rfl, hb, hws, c3, hok⟩ := hrel
    have hsz := hb.size
    by_cases hti : i < x.cls.length
    · have hlti : (i : Int) < (x.cls.length : Int) := by omega
      obtain ⟨y, hy⟩ := some_of x.cls i hti
      obtain ⟨g, off, rfl, hg, hc⟩ := (HH.out.below hb).at hy
      have c0 := hc i y hy
      have HX := hidden hy
      have hK := fun W => (lin_any y 0 63 W).mono (fun e w' (h : _ ∧ _) => (⟨h.1, h.2.symm⟩ : _ ∧ w' = W))
      cases hp : rng y 0 63 with
      | false =>
        rw [hp] at hK
        have hno : Hid (clsB x.cls = false) := c_not hy hp
        clear hy hc hok hp
        go_wp2_with fail
        go_quiet ((go_at_call 34; exact Calls.quiet_of_same (hK _)))
        all_goals go_wp2_with fail
        all_goals go_ret
        all_goals exact ⟨by rw [hno.out]; simp, by repeat (first | exact Below.refl _ _ | assumption | refine st_drew ?_ | refine st_drewN ?_ _ | refine Below.setCell ?_ (by first | omega | (simp; done) | (simp; omega)) _ | refine Below.alloc ?_ (by first | omega | (simp; done) | (simp; omega)) _)⟩
      | true =>
        rw [hp] at hK
        by_cases h0 : (0 : Int) < (i : Int)
        · obtain ⟨z, hz⟩ := some_of x.cls (i - 1) (by omega)
          have c1 := hc (i - 1) z hz
          have hgi : decide (0 < i) = true := by simp; omega
          have i1 : ((i : Int) - 1).toNat = i - 1 := by omega
          have i2 : (0 : Int) ≤ (i : Int) - 1 := by omega
          have i3 : (i : Int) - 1 < (x.cls.length : Int) := by omega
          by_cases hxy : y ≤ z
          · have hno : Hid (clsB x.cls = false) := c_not2 hy (by omega) hz hxy
            clear hc hok hp hy hz
            go_wp2_with fail
            go_quiet ((go_at_call 34; exact Calls.quiet_of_same (hK _)))
            all_goals go_wp2_with fail
            all_goals go_ret
            all_goals exact ⟨by rw [hno.out]; simp, by repeat (first | exact Below.refl _ _ | assumption | refine st_drew ?_ | refine st_drewN ?_ _ | refine Below.setCell ?_ (by first | omega | (simp; done) | (simp; omega)) _ | refine Below.alloc ?_ (by first | omega | (simp; done) | (simp; omega)) _)⟩
          · have hok2 : Hid (cTo x.cls (i + 1)) := cTo_succ hok.out hy hp (fun v _ hv => by rw [hz] at hv; cases hv; omega)
            clear hc hok hp hy hz
            go_wp2_with fail
            go_quiet ((go_at_call 34; exact Calls.quiet_of_same (hK _)))
            all_goals go_wp2_with fail
            all_goals go_roundw
            all_goals first
              | exact ⟨i + 1, by omega, rfl, by repeat (first | exact Below.refl _ _ | assumption | refine st_drew ?_ | refine st_drewN ?_ _ | refine Below.setCell ?_ (by first | omega | (simp; done) | (simp; omega)) _ | refine Below.alloc ?_ (by first | omega | (simp; done) | (simp; omega)) _), by simpa using hws, by simpa using c3, hok2⟩
              | (simp [intOf]; omega)
        · have hok2 : Hid (cTo x.cls (i + 1)) := cTo_succ hok.out hy hp (fun z hz _ => by omega)
          have hgi : decide (0 < i) = false := by simp; omega
          clear hc hok hp hy
          go_wp2_with fail
          go_quiet ((go_at_call 34; exact Calls.quiet_of_same (hK _)))
          all_goals go_wp2_with fail
          all_goals go_roundw
          all_goals first
            | exact ⟨i + 1, by omega, rfl, by repeat (first | exact Below.refl _ _ | assumption | refine st_drew ?_ | refine st_drewN ?_ _ | refine Below.setCell ?_ (by first | omega | (simp; done) | (simp; omega)) _ | refine Below.alloc ?_ (by first | omega | (simp; done) | (simp; omega)) _), by simpa using hws, by simpa using c3, hok2⟩
            | (simp [intOf]; omega)
    · have hlti : ¬ (i : Int) < (x.cls.length : Int) := by omega
      have hil : i = x.cls.length := by omega
      have hyes : Hid (clsB x.cls = true) := cls_true (by rw [← hil]; exact hok.out)
      go_wp2_with fail
      go_ret
      exact ⟨by rw [hyes.out, hlen.out]; rfl, hb⟩
end Go.Proofs.Ytcnhogghfedcdaa
