/-
  A taper begins and ends as told, and never goes up: the walk of the law.
-/
import Derived.Test.YtcnhogghfedcdaaJt
import Derived.Test.YtcnhogghfedcdaaJp
import Derived.Test.YtcnhogghfedcdaaGb
import Derived.Test.YtcnhogghfedcdaaGt
import Derived.Test.YtcnhogghfedcdaaGu
import Derived.BigQuiet
import Derived.Deep.QuietTactic
namespace Go.Proofs.Ytcnhogghfedcdaa
open Go.RowKit Va Ga
set_option linter.unusedVariables false

set_option maxRecDepth 20000 in
set_option maxHeartbeats 4000000 in
theorem fta_walk (ao : Option Addr) (cap : Nat) (bs : List Int) (w : World) (hb : Bytes w w.heap.size ao bs) :
    Calls Try.prog 6 #[.slice ao bs.length cap] w fun e w' => e = .returned (.bool true) ∧ Below w.heap.size w w' := by
  have hB := big_any ao cap bs.length
  have HBY := hidden hb
  clear hb
  by_cases hbig : (4096 : Int) < (bs.length : Int)
  · rw [decide_eq_true hbig] at hB
    go_enter Try.func6, Try.ntmps6
    go_wp2_with fail
    refine (hB _).mono ?_
    rintro e w1 ⟨rfl, rfl⟩
    go_wp2_with fail
    go_ret
    exact ⟨rfl, Below.refl _ _⟩
  rw [decide_eq_false hbig] at hB
  have hl : bs.length ≤ 4096 := by omega
  go_enter Try.func6, Try.ntmps6
  go_wp2_with fail
  refine (hB w).mono ?_
  rintro e w1 ⟨rfl, hw1⟩
  subst hw1
  clear hB
  go_wp2_with fail
  refine (dtaper_any ao cap bs _ HBY.out (by omega)).mono ?_
  rintro e w2 ⟨f, l, n, rfl, b2⟩
  have hS := fun W => staper_any f l n W
  have hI := fun W => itaper_any f l n W
  have hF := taper_facts f l n _ rfl
  generalize taper f l n = L at *
  obtain ⟨hL, hF⟩ := hF
  have HF := hidden hF
  clear hF
  go_wp2_with fail
  refine (hI _).mono ?_
  rintro e w3 ⟨v3, rfl, ho3, b3⟩
  obtain ⟨ad3, k3, rfl⟩ := ownW_slice ho3
  have V3 := hidden (ownI ho3).row
  have B3 := onto b2 b3
  clear ho3 b3 b2 hI
  go_wp2_with fail
  refine (hS _).mono ?_
  rintro e w4 ⟨v4, rfl, ho4, b4⟩
  obtain ⟨ad4, k4, rfl⟩ := ownW_slice ho4
  have V4 := hidden (V3.out.below b4)
  have B4 := onto B3 b4
  clear ho4 b4 B3 hS V3
  go_wp2_with fail
  go_loopw [7] (fun iv wr => Below w4.heap.size w4 wr ∧ ∃ i : Nat, 1 ≤ i ∧ iv = .int .i64 i ∧ (i ≤ L.length ∨ i = 1)) (fun iv _ => L.length - (intOf iv).toNat)
  case atStart => exact ⟨Below.refl _ _, 1, Nat.le_refl _, rfl, Or.inr rfl⟩
  case round =>
    obtain ⟨hb, i, hi1, rfl, hi⟩ := hrel
    by_cases hlt : i < L.length
    · have hlti : (i : Int) < (L.length : Int) := by omega
      obtain ⟨x, hx⟩ := some_of L i hlt
      obtain ⟨y, hy⟩ := some_of L (i - 1) (by omega)
      obtain ⟨g, off, rfl, hg, c0⟩ := int_cell (V4.out.below hb) hx
      obtain ⟨g', off', e', hg', c1⟩ := int_cell (V4.out.below hb) hy
      have he : g = g' ∧ off = off' := by simpa using e'
      obtain ⟨rfl, rfl⟩ := he
      have hxy : x ≤ y := by
        rcases HF.out with h0 | ⟨-, -, -, -, hm⟩
        · omega
        · exact hm (i - 1) y x hy (by rw [show i - 1 + 1 = i by omega]; exact hx)
      unfold csI at c0 c1
      have i1 : ((i : Int) - 1).toNat = i - 1 := by omega
      have i2 : (0 : Int) ≤ (i : Int) - 1 := by omega
      have i3 : (i : Int) - 1 < (L.length : Int) := by omega
      have hng : ¬ y < x := by omega
      clear hx hy hxy
      go_wp2_with fail
      go_quiet (fail)
      all_goals go_wp2_with fail
      all_goals go_roundw
      all_goals first
        | exact ⟨by repeat (first | exact Below.refl _ _ | assumption | refine st_drew ?_ | refine st_drewN ?_ _ | refine Below.setCell ?_ (by first | omega | (simp; done) | (simp; omega)) _ | refine Below.alloc ?_ (by first | omega | (simp; done) | (simp; omega)) _), i + 1, by omega, rfl, by omega⟩
        | (simp [intOf]; omega)
    · have hlti : ¬ (i : Int) < (L.length : Int) := by omega
      rcases HF.out with h0 | ⟨hn, h2, hx, hy, -⟩
      · have hz : (L.length : Int) = 0 := by omega
        go_wp2_with fail
        all_goals go_ret
        all_goals exact ⟨rfl, onto B4 hb⟩
      · have hz : ((L.length : Int) == 0) = false := by rw [beq_eq_false_iff_ne]; omega
        obtain ⟨g, off, rfl, hg, c0⟩ := int_cell (V4.out.below hb) hx
        obtain ⟨g', off', e', hg', c1⟩ := int_cell (V4.out.below hb) hy
        have he : g = g' ∧ off = off' := by simpa using e'
        obtain ⟨rfl, rfl⟩ := he
        unfold csI at c0 c1
        rw [Nat.add_zero] at c0
        subst hn
        have i1 : ((L.length : Int) - 1).toNat = L.length - 1 := by omega
        have i2 : (0 : Int) ≤ (L.length : Int) - 1 := by omega
        have i3 : (L.length : Int) - 1 < (L.length : Int) := by omega
        have i4 : (0 : Int) < (L.length : Int) := by omega
        clear hx hy
        go_wp2_with fail
        all_goals go_ret
        all_goals exact ⟨rfl, onto B4 hb⟩
end Go.Proofs.Ytcnhogghfedcdaa
