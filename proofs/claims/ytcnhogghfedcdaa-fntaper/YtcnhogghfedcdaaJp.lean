/-
  Plain facts on tapers; no Go in sight.
-/
import Derived.Test.YtcnhogghfedcdaaGa
namespace Go.Proofs.Ytcnhogghfedcdaa.Ga
open Va
set_option linter.unusedVariables false

theorem tapTo_get (f l s : Int) : ∀ n i, i < n → (tapTo f l s n)[i]? = some (tapAt f l s i)
  | 0, i, h => absurd h (Nat.not_lt_zero _)
  | n + 1, i, h => by
    rw [tapTo]
    rcases Nat.lt_succ_iff_lt_or_eq.1 h with k | rfl
    · rw [List.getElem?_append_left (by rw [tapTo_len]; exact k)]
      exact tapTo_get f l s n i k
    · rw [List.getElem?_append_right (by rw [tapTo_len]; exact Nat.le_refl _), tapTo_len]
      simp
theorem tapAt_zero (f l s : Int) : tapAt f l s 0 = f := by simp [tapAt]
theorem tapAt_last (f l : Int) (n : Nat) (h : 2 ≤ n) : tapAt f l (n : Int) (n - 1) = l := by
  unfold tapAt
  rw [show ((n - 1 : Nat) : Int) = (n : Int) - 1 by omega, Int.mul_tdiv_cancel _ (by omega)]
  omega
theorem tapAt_mono (f l s : Int) (hs : 2 ≤ s) (hfl : l ≤ f) (i : Nat) : tapAt f l s (i + 1) ≤ tapAt f l s i := by
  unfold tapAt
  have h0 : 0 ≤ (f - l) * (i : Int) := Int.mul_nonneg (by omega) (by omega)
  have h1 : (f - l) * (i : Int) ≤ (f - l) * ((i + 1 : Nat) : Int) := Int.mul_le_mul_of_nonneg_left (by omega) (by omega)
  rw [Int.tdiv_eq_ediv_of_nonneg h0, Int.tdiv_eq_ediv_of_nonneg (by omega)]
  have := Int.ediv_le_ediv (show 0 < s - 1 by omega) h1
  omega
theorem taper_facts (f l s : Int) (L : List Int) (h : L = taper f l s) : L.length ≤ 100 ∧ (L.length = 0 ∨ (s = (L.length : Int) ∧ 2 ≤ L.length ∧ L[0]? = some f ∧ L[L.length - 1]? = some l ∧ ∀ i x y, L[i]? = some x → L[i + 1]? = some y → y ≤ x)) := by
  unfold taper at h
  split at h
  · rename_i hb
    simp only [tapB, Bool.and_eq_true, rng_iff] at hb
    obtain ⟨n, rfl⟩ := Int.eq_ofNat_of_zero_le (show 0 ≤ s by omega)
    have hn : (n : Int).toNat = n := rfl
    rw [hn] at h
    have hlen : L.length = n := by rw [h, tapTo_len]
    refine ⟨by omega, Or.inr ⟨by omega, by omega, ?_, ?_, ?_⟩⟩
    · rw [h, tapTo_get _ _ _ _ _ (by omega), tapAt_zero]
    · rw [hlen, h, tapTo_get _ _ _ _ _ (by omega), tapAt_last _ _ _ (by omega)]
    · intro i x y hx hy
      have hi : i + 1 < n := by have := (List.getElem?_eq_some_iff.1 hy).1; omega
      rw [h, tapTo_get _ _ _ _ _ (by omega)] at hx hy
      cases hx
      cases hy
      exact tapAt_mono f l n (by omega) (by omega) i
  · subst h
    exact ⟨by simp, Or.inl rfl⟩
end Go.Proofs.Ytcnhogghfedcdaa.Ga
