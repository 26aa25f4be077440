/-
  What the program's CycleOf answers.
-/
import Derived.Test.YtklgadaefngnnaaWr
namespace Go.Proofs.Ytklgadaefngnnaa
open Go.RowKit Va Wa Go.Maps
set_option linter.unusedVariables false

set_option maxRecDepth 20000 in
set_option maxHeartbeats 4000000 in
theorem icycle_any (ao : Option Addr) (n cap : Nat) (l : List Stp) (a : Int) (w : World) (h : Rw 4 csT w (.slice ao n cap) l) (hn : l.length ≤ 1048576) :
    Calls Try.prog 26 #[.slice ao n cap, .int .i64 a] w fun e w' => e = .returned (.int .i64 (cycleOf l a)) ∧ Below w.heap.size w w' := by
  obtain rfl := h.len
  have k1 := iuses_any ao l.length cap l w h hn
  have hul := uses_len l
  clear h
  go_enter Try.func26, Try.ntmps26
  go_wp2_with (go_at_call 68; refine k1.mono ?_; rintro e w1 ⟨ad, c, rfl, ho1, hb1⟩)
  have HF := hidden (fun k u h1 h2 => cycle_found (l := l) (a := a) (k := k) (u := u) h1 h2)
  have HN := hidden (fun h => cycle_none (l := l) (a := a) h)
  have HR := hidden (own_of (cs := csU) rfl ho1).row
  generalize uses l = U at *
  clear k1 ho1
  go_loopw [10] (fun iv wr => ∃ i : Nat, i ≤ U.length ∧ iv = .int .i64 i ∧ Hid (noAt U a i) ∧ Below w1.heap.size w1 wr) (fun iv _ => U.length - (intOf iv).toNat)
  case atStart => exact ⟨0, Nat.zero_le _, rfl, fun j u hj => absurd hj (Nat.not_lt_zero _), Below.refl _ _⟩
  case round =>
    obtain ⟨i, hi, rfl, HA, hb⟩ := hrel
    have hsz := hb.size
    by_cases hlt : i < U.length
    · have hlti : (i : Int) < (U.length : Int) := by omega
      obtain ⟨x, hx⟩ := some_of U i hlt
      obtain ⟨g, off, rfl, hg, c0, c1, c2⟩ := use_cells (HR.out.below hb) hx
      by_cases q : x.at' = a
      · have HZ := hidden (HF.out i x hx q)
        rw [q] at c0
        clear hx q HA
        go_wp2_with fail
        go_ret
        exact ⟨by rw [HZ.out]; rfl, onto hb1 (show Below w1.heap.size w1 _ from by repeat (first | exact Below.refl _ _ | assumption | refine st_drew ?_ | refine st_drewN ?_ _ | refine Below.setCell ?_ (by first | omega | (simp; done) | (simp; omega)) _ | refine Below.alloc ?_ (by first | omega | (simp; done) | (simp; omega)) _))⟩
      · have HA2 : Hid (noAt U a (i + 1)) := fun j u hj hu => by
          rcases Nat.lt_succ_iff_lt_or_eq.1 hj with q2 | q2
          · exact HA.out j u q2 hu
          · rw [q2, hx] at hu; cases hu; exact q
        have qb : (x.at' == a) = false := by simp [q]
        clear hx q HA
        generalize x.at' = y at *
        go_wp2_with fail
        go_roundw
        case rel => exact ⟨i + 1, by omega, rfl, HA2, by repeat (first | exact Below.refl _ _ | assumption | refine st_drew ?_ | refine st_drewN ?_ _ | refine Below.setCell ?_ (by first | omega | (simp; done) | (simp; omega)) _ | refine Below.alloc ?_ (by first | omega | (simp; done) | (simp; omega)) _)⟩
        case measure => simp [intOf]; omega
    · have hlti : ¬ (i : Int) < (U.length : Int) := by omega
      have hin : i = U.length := by omega
      subst hin
      have HZ := hidden (HN.out HA.out)
      go_wp2_with fail
      go_ret
      exact ⟨by rw [HZ.out]; rfl, onto hb1 hb⟩
end Go.Proofs.Ytklgadaefngnnaa
