/-
  Whether a history of steps is right: the program and the specification.
-/
import Derived.Test.YtklgadaefngnnaaWb
namespace Go.Proofs.Ytklgadaefngnnaa
open Go.RowKit Va Wa
set_option linter.unusedVariables false

set_option maxRecDepth 20000 in
set_option maxHeartbeats 2000000 in
theorem isteps_any (ao : Option Addr) (n cap : Nat) (l : List Stp) (w : World) (h : Rw 4 csT w (.slice ao n cap) l) (hn : l.length ≤ 1048576) :
    Calls Try.prog 65 #[.slice ao n cap] w fun e w' => e = .returned (.bool (ssB l)) ∧ Below w.heap.size w w' := by
  obtain rfl := h.len
  have HH := hidden h
  clear h
  by_cases hl : (1000 : Int) < (l.length : Int)
  · have hno : Hid (ssB l = false) := ssB_false fun q => by have := q.1; omega
    go_enter Try.func65, Try.ntmps65
    go_wp2_with fail
    go_ret
    exact ⟨by rw [hno.out]; rfl, Below.refl _ _⟩
  have hlen : l.length ≤ 1000 := by omega
  go_enter Try.func65, Try.ntmps65
  go_wp2_with fail
  go_loopw [10] (fun iv wr => ∃ i : Nat, i ≤ l.length ∧ iv = .int .i64 i ∧ Below w.heap.size w wr ∧ Hid (okTo l i)) (fun iv _ => l.length - (intOf iv).toNat)
  case atStart => exact ⟨0, Nat.zero_le _, rfl, Below.refl _ _, okTo_zero _⟩
  case round =>
    obtain ⟨i, hi, rfl, hb, hok⟩ := hrel
    have hsz := hb.size
    by_cases hlt : i < l.length
    · have hlti : (i : Int) < (l.length : Int) := by omega
      obtain ⟨x, hx⟩ := some_of l i hlt
      obtain ⟨g, off, rfl, hg, c0, c1, c2, c3⟩ := step_cells (HH.out.below hb) hx
      have HX := hidden hx
      clear hx
      have k1 := istep_any x
      unfold aT at k1
      cases hk : stB x with
      | false =>
        rw [hk] at k1
        have hno : Hid (ssB l = false) := ss_not HX.out hk
        clear hok hk
        go_wp2_with (go_at_call 99; refine (k1 _).mono ?_; rintro e w1 ⟨rfl, hb1⟩; have b1 := onto (show Below w.heap.size w _ from by repeat (first | exact Below.refl _ _ | assumption | refine st_drew ?_ | refine st_drewN ?_ _ | refine Below.setCell ?_ (by first | omega | (simp; done) | (simp; omega)) _ | refine Below.alloc ?_ (by first | omega | (simp; done) | (simp; omega)) _)) hb1; clear hb1)
        go_ret
        exact ⟨by rw [hno.out]; rfl, by repeat (first | exact Below.refl _ _ | assumption | refine st_drew ?_ | refine st_drewN ?_ _ | refine Below.setCell ?_ (by first | omega | (simp; done) | (simp; omega)) _ | refine Below.alloc ?_ (by first | omega | (simp; done) | (simp; omega)) _)⟩
      | true =>
        rw [hk] at k1
        have ok2 : Hid (okTo l (i + 1)) := okTo_succ hok.out HX.out hk
        clear hk hok
        go_wp2_with (go_at_call 99; refine (k1 _).mono ?_; rintro e w1 ⟨rfl, hb1⟩; have b1 := onto (show Below w.heap.size w _ from by repeat (first | exact Below.refl _ _ | assumption | refine st_drew ?_ | refine st_drewN ?_ _ | refine Below.setCell ?_ (by first | omega | (simp; done) | (simp; omega)) _ | refine Below.alloc ?_ (by first | omega | (simp; done) | (simp; omega)) _)) hb1; clear hb1)
        go_roundw
        case rel => exact ⟨i + 1, by omega, rfl, by repeat (first | exact Below.refl _ _ | assumption | refine st_drew ?_ | refine st_drewN ?_ _ | refine Below.setCell ?_ (by first | omega | (simp; done) | (simp; omega)) _ | refine Below.alloc ?_ (by first | omega | (simp; done) | (simp; omega)) _), ok2⟩
        case measure => simp [intOf]; omega
    · have hlti : ¬ (i : Int) < (l.length : Int) := by omega
      have hin : i = l.length := by omega
      have hyes : Hid (ssB l = true) := ss_of hlen (by rw [← hin]; exact hok.out)
      clear hin
      go_wp2_with fail
      go_ret
      exact ⟨by rw [hyes.out]; rfl, hb⟩

set_option maxRecDepth 20000 in
set_option maxHeartbeats 2000000 in
theorem ssteps_any (ao : Option Addr) (n cap : Nat) (l : List Stp) (w : World) (h : Rw 4 csT w (.slice ao n cap) l) (hn : l.length ≤ 1048576) :
    Calls Try.prog 30 #[.slice ao n cap] w fun e w' => e = .returned (.bool (ssB l)) ∧ Below w.heap.size w w' := by
  obtain rfl := h.len
  have HH := hidden h
  clear h
  by_cases hl : (1000 : Int) < (l.length : Int)
  · have hno : Hid (ssB l = false) := ssB_false fun q => by have := q.1; omega
    go_enter Try.func30, Try.ntmps30
    go_wp2_with fail
    go_ret
    exact ⟨by rw [hno.out]; rfl, Below.refl _ _⟩
  have hlen : l.length ≤ 1000 := by omega
  go_enter Try.func30, Try.ntmps30
  go_wp2_with fail
  go_loopw [3] (fun iv wr => ∃ i : Nat, i ≤ l.length ∧ iv = .int .i64 i ∧ Below w.heap.size w wr ∧ Hid (okTo l i)) (fun iv _ => l.length - (intOf iv).toNat)
  case atStart => exact ⟨0, Nat.zero_le _, rfl, Below.refl _ _, okTo_zero _⟩
  case round =>
    obtain ⟨i, hi, rfl, hb, hok⟩ := hrel
    have hsz := hb.size
    by_cases hlt : i < l.length
    · have hlti : (i : Int) < (l.length : Int) := by omega
      obtain ⟨x, hx⟩ := some_of l i hlt
      obtain ⟨g, off, rfl, hg, c0, c1, c2, c3⟩ := step_cells (HH.out.below hb) hx
      have HX := hidden hx
      clear hx
      have k1 := sstep_any x
      unfold aT at k1
      cases hk : stB x with
      | false =>
        rw [hk] at k1
        have hno : Hid (ssB l = false) := ss_not HX.out hk
        clear hok hk
        go_wp2_with (go_at_call 72; refine (k1 _).mono ?_; rintro e w1 ⟨rfl, hb1⟩; have b1 := onto (show Below w.heap.size w _ from by repeat (first | exact Below.refl _ _ | assumption | refine st_drew ?_ | refine st_drewN ?_ _ | refine Below.setCell ?_ (by first | omega | (simp; done) | (simp; omega)) _ | refine Below.alloc ?_ (by first | omega | (simp; done) | (simp; omega)) _)) hb1; clear hb1)
        go_ret
        exact ⟨by rw [hno.out]; rfl, by repeat (first | exact Below.refl _ _ | assumption | refine st_drew ?_ | refine st_drewN ?_ _ | refine Below.setCell ?_ (by first | omega | (simp; done) | (simp; omega)) _ | refine Below.alloc ?_ (by first | omega | (simp; done) | (simp; omega)) _)⟩
      | true =>
        rw [hk] at k1
        have ok2 : Hid (okTo l (i + 1)) := okTo_succ hok.out HX.out hk
        clear hk hok
        go_wp2_with (go_at_call 72; refine (k1 _).mono ?_; rintro e w1 ⟨rfl, hb1⟩; have b1 := onto (show Below w.heap.size w _ from by repeat (first | exact Below.refl _ _ | assumption | refine st_drew ?_ | refine st_drewN ?_ _ | refine Below.setCell ?_ (by first | omega | (simp; done) | (simp; omega)) _ | refine Below.alloc ?_ (by first | omega | (simp; done) | (simp; omega)) _)) hb1; clear hb1)
        go_roundw
        case rel => exact ⟨i + 1, by omega, rfl, by repeat (first | exact Below.refl _ _ | assumption | refine st_drew ?_ | refine st_drewN ?_ _ | refine Below.setCell ?_ (by first | omega | (simp; done) | (simp; omega)) _ | refine Below.alloc ?_ (by first | omega | (simp; done) | (simp; omega)) _), ok2⟩
        case measure => simp [intOf]; omega
    · have hlti : ¬ (i : Int) < (l.length : Int) := by omega
      have hin : i = l.length := by omega
      have hyes : Hid (ssB l = true) := ss_of hlen (by rw [← hin]; exact hok.out)
      clear hin
      go_wp2_with fail
      go_ret
      exact ⟨by rw [hyes.out]; rfl, hb⟩
end Go.Proofs.Ytklgadaefngnnaa
