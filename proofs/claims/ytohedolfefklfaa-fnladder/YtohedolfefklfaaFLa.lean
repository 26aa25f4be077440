/-
  The longer it takes the more are called: the walk of the law.
-/
import Derived.Test.YtohedolfefklfaaAe
import Derived.Test.YtohedolfefklfaaAc
namespace Go.Proofs.Ytohedolfefklfaa
open Go.RowKit Va Oa
set_option linter.unusedVariables false

theorem ladder_facts (l : List Int) (h : Int) (hn : ¬ ladder l h = 0) : wtsOk l = true ∧ 0 ≤ h ∧ 1 ≤ ladder l h ∧ ladder l h ≤ ladder l (h + 1) ∧ ladder l (h + 1) ≤ ladder l h + 1 ∧ ladder l 100000 = (l.length : Int) + 1 ∧ (1000000 < h → ladder l h = (l.length : Int) + 1) ∧ ladder l h ≤ 21 := by
  by_cases hw : wtsOk l = true
  · by_cases h0 : 0 ≤ h
    · obtain ⟨k1, k2⟩ := wtsOk_iff.1 hw
      have hx : ∀ x ∈ l, 1 ≤ x := fun x q => (wtB_iff.1 (k2 x q)).1
      have hs := sum_bd l fun x q => wtB_iff.1 (k2 x q)
      have e : ∀ h, 0 ≤ h → ladder l h = lad l 0 h 1 := fun h q => by unfold ladder; rw [if_pos (by simp [hw, q])]
      have b := lad_bd l 0 h 1
      have n := lad_next l 0 h 1 hx
      rw [e h h0, e (h + 1) (by omega), e 100000 (by omega)]
      refine ⟨hw, h0, b.1, n.1, n.2, ?_, fun q => ?_, by omega⟩
      · rw [lad_all l 0 100000 1 hx (by omega)]; omega
      · rw [lad_all l 0 h 1 hx (by omega)]; omega
    · exact absurd (by unfold ladder; rw [if_neg (by simp; omega)]) hn
  · exact absurd (by unfold ladder; rw [if_neg (by simp [hw])]) hn

set_option maxRecDepth 20000 in
set_option maxHeartbeats 8000000 in
theorem fla_walk (ao : Option Addr) (cap : Nat) (bs : List Int) (w : World) (hb : Bytes w w.heap.size ao bs) :
    Calls Try.prog 3 #[.slice ao bs.length cap] w fun e w' => e = .returned (.bool true) ∧ Below w.heap.size w w' := by
  have hB := big_any ao cap bs.length
  have HBY := hidden hb
  clear hb
  by_cases hbig : (4096 : Int) < (bs.length : Int)
  · rw [decide_eq_true hbig] at hB
    go_enter Try.func3, Try.ntmps3
    go_wp2_with fail
    refine (hB _).mono ?_
    rintro e w1 ⟨rfl, rfl⟩
    go_wp2_with fail
    go_ret
    exact ⟨rfl, Below.refl _ _⟩
  rw [decide_eq_false hbig] at hB
  have hl : bs.length ≤ 4096 := by omega
  go_enter Try.func3, Try.ntmps3
  go_wp2_with fail
  refine (hB w).mono ?_
  rintro e w1 ⟨rfl, hw1⟩
  subst hw1
  clear hB
  go_wp2_with fail
  refine (dladder_any ao cap bs _ HBY.out (by omega)).mono ?_
  rintro e w2 ⟨v, l, h, rfl, hrow, hll, hh0, hh1, b2⟩
  obtain ⟨ad, c, rfl⟩ := hrow.form
  have HF := hidden (ladder_facts l h)
  have hI := fun h => iladder_any ad l.length c l h w2 hrow (by omega)
  have hS := fun h => sladder_any ad l.length c l h w2 hrow (by omega)
  have i1 := hI h
  have i2 := hI (h + 1)
  have i3 := hI 100000
  have s1 := hS h
  clear hI hS hrow
  generalize ladder l h = n at *
  generalize ladder l (h + 1) = m at *
  generalize ladder l 100000 = z at *
  by_cases hn0 : n = 0
  · subst hn0
    go_wp2_with (first | (go_at_call 11; refine i1.mono ?_; rintro e w3 ⟨rfl, rfl⟩) | (go_at_call 12; refine s1.mono ?_; rintro e w3 ⟨rfl, rfl⟩))
    go_ret
    exact ⟨rfl, b2⟩
  obtain ⟨f1, f2, f3, f4, f5, f6, f7, f8⟩ := HF.out hn0
  clear HF
  by_cases hbg : 1000000 < h
  · have f9 := f7 hbg
    subst f9
    clear f7 f1 f6
    go_wp2_with (first | (go_at_call 11; refine i1.mono ?_; rintro e w3 ⟨rfl, rfl⟩) | (go_at_call 12; refine s1.mono ?_; rintro e w3 ⟨rfl, rfl⟩))
    go_ret
    exact ⟨rfl, b2⟩
  clear f7 f1
  subst f6
  have g1 : n ≤ m := f4
  have g2 : m ≤ n + 1 := f5
  go_wp2_with (first | (go_at_call 11; with_reducible (first | refine i1.mono ?_ | refine i2.mono ?_ | refine i3.mono ?_); rintro e w3 ⟨rfl, rfl⟩) | (go_at_call 12; refine s1.mono ?_; rintro e w3 ⟨rfl, rfl⟩))
  all_goals go_ret
  all_goals exact ⟨rfl, b2⟩
end Go.Proofs.Ytohedolfefklfaa
