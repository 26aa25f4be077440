/-
  Plain facts on doses; no Go in sight.
-/
import Derived.Test.YtcnhogghfedcdaaGa
namespace Go.Proofs.Ytcnhogghfedcdaa.Ga
open Va
set_option linter.unusedVariables false

def frac (d : Dg) (k : Int) : Int := d.kid * (100 - k) + 100 * k
theorem frac_bd (d : Dg) (k : Int) (h0 : 0 ≤ d.kid) (h1 : d.kid ≤ 100) (k0 : 0 ≤ k) (k1 : k ≤ 100) : 0 ≤ frac d k ∧ frac d k ≤ 10000 := by
  unfold frac
  have a := Int.mul_nonneg h0 (show 0 ≤ 100 - k by omega)
  have b : d.kid * (100 - k) ≤ 100 * (100 - k) := Int.mul_le_mul_of_nonneg_right h1 (by omega)
  omega
theorem frac_less (d : Dg) (k : Int) (h1 : d.kid ≤ 100) : frac d (k - 1) ≤ frac d k := by
  unfold frac
  have : d.kid * (100 - (k - 1)) = d.kid * (100 - k) + d.kid := by
    rw [show (100 - (k - 1) : Int) = (100 - k) + 1 by omega, Int.mul_add, Int.mul_one]
  omega
theorem dose_eq (d : Dg) (g k : Int) (hp : 0 ≤ d.pk) (hm : 0 ≤ d.most) (hg : 0 ≤ g) (hf : 0 ≤ frac d k) : dose d g k = min (d.pk * g / 1000) d.most * frac d k / 10000 := by
  have a : 0 ≤ d.pk * g := Int.mul_nonneg hp hg
  unfold dose
  rw [Int.tdiv_eq_ediv_of_nonneg a]
  have b : 0 ≤ d.pk * g / 1000 := Int.ediv_nonneg a (by omega)
  have c : 0 ≤ min (d.pk * g / 1000) d.most := by omega
  rw [show d.kid * (100 - k) + 100 * k = frac d k from rfl, Int.tdiv_eq_ediv_of_nonneg (Int.mul_nonneg c hf)]
theorem dose_facts (d : Dg) (g k : Int) (h : (doseFor d g k).2 = true) :
    0 < (doseFor d g k).1 ∧ (doseFor d g k).1 ≤ d.most ∧ (1 ≤ g ∧ g ≤ 500000) ∧ (0 ≤ k ∧ k ≤ 100) ∧ (((doseFor d (g + 1) k).2 = false ∧ g = 500000) ∨ ((doseFor d (g + 1) k).2 = true ∧ (doseFor d g k).1 ≤ (doseFor d (g + 1) k).1)) ∧ ((doseFor d g (k - 1)).2 = false ∨ (doseFor d g (k - 1)).1 ≤ (doseFor d g k).1) := by
  by_cases hb : drugB d = true ∧ rng g 1 500000 = true ∧ rng k 0 100 = true
  · have e : doseFor d g k = (dose d g k, decide (0 < dose d g k)) := if_pos hb
    rw [e] at h ⊢
    obtain ⟨hd, hg, hk⟩ := hb
    have hh := hd
    simp only [drugB, headB, numB, Bool.and_eq_true, rng_iff] at hh
    obtain ⟨⟨-, -, hp, hm, -, hkd⟩, -⟩ := hh
    obtain ⟨g0, g1⟩ := rng_iff.1 hg
    obtain ⟨k0, k1⟩ := rng_iff.1 hk
    have hpos : 0 < dose d g k := by simpa using h
    obtain ⟨f0, f1⟩ := frac_bd d k hkd.1 hkd.2 k0 k1
    have eD := dose_eq d g k (by omega) (by omega) (by omega) f0
    have a0 : 0 ≤ d.pk * g := Int.mul_nonneg (by omega) (by omega)
    have q0 : 0 ≤ d.pk * g / 1000 := Int.ediv_nonneg a0 (by omega)
    have m0 : 0 ≤ min (d.pk * g / 1000) d.most := by omega
    have m1 : min (d.pk * g / 1000) d.most ≤ d.most := by omega
    refine ⟨hpos, ?_, ⟨g0, g1⟩, ⟨k0, k1⟩, ?_, ?_⟩
    · show dose d g k ≤ d.most
      have b : min (d.pk * g / 1000) d.most * frac d k ≤ min (d.pk * g / 1000) d.most * 10000 := Int.mul_le_mul_of_nonneg_left f1 m0
      have c := Int.ediv_le_ediv (show (0 : Int) < 10000 by omega) b
      rw [Int.mul_ediv_cancel _ (by omega)] at c
      omega
    · by_cases hq : g = 500000
      · left
        refine ⟨?_, hq⟩
        unfold doseFor
        rw [if_neg (fun hh => by have := (rng_iff.1 hh.2.1).2; omega)]
      · right
        have e2 : doseFor d (g + 1) k = (dose d (g + 1) k, decide (0 < dose d (g + 1) k)) := if_pos ⟨hd, rng_iff.2 (by omega), hk⟩
        have eD2 := dose_eq d (g + 1) k (by omega) (by omega) (by omega) f0
        have b : d.pk * g ≤ d.pk * (g + 1) := Int.mul_le_mul_of_nonneg_left (by omega) (by omega)
        have c := Int.ediv_le_ediv (show (0 : Int) < 1000 by omega) b
        have mm : min (d.pk * g / 1000) d.most ≤ min (d.pk * (g + 1) / 1000) d.most := by omega
        have n := Int.mul_le_mul_of_nonneg_right mm f0
        have o := Int.ediv_le_ediv (show (0 : Int) < 10000 by omega) n
        have p : dose d g k ≤ dose d (g + 1) k := by rw [eD, eD2]; exact o
        rw [e2]
        exact ⟨by simp; omega, p⟩
    · by_cases hq : k = 0
      · left
        unfold doseFor
        rw [if_neg (fun hh => by have := (rng_iff.1 hh.2.2).1; omega)]
      · right
        have e2 : doseFor d g (k - 1) = (dose d g (k - 1), decide (0 < dose d g (k - 1))) := if_pos ⟨hd, hg, rng_iff.2 (by omega)⟩
        obtain ⟨f2, f3⟩ := frac_bd d (k - 1) hkd.1 hkd.2 (by omega) (by omega)
        have eD2 := dose_eq d g (k - 1) (by omega) (by omega) (by omega) f2
        have n := Int.mul_le_mul_of_nonneg_left (frac_less d k hkd.2) m0
        have o := Int.ediv_le_ediv (show (0 : Int) < 10000 by omega) n
        rw [e2]
        show dose d g (k - 1) ≤ dose d g k
        rw [eD, eD2]
        exact o
  · have e : doseFor d g k = (0, false) := if_neg hb
    rw [e] at h
    cases h
end Go.Proofs.Ytcnhogghfedcdaa.Ga
