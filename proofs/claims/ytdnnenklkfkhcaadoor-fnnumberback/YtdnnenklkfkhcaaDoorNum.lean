/-
  Plain facts on numbers written in nine digits with their check digit: no Go in sight.
-/
import Derived.Test.YtdnnenklkfkhcaaDoorLu
import Derived.Lib.ParseIntB
import Derived.Lib.ItoaNum
import Derived.Lib.Repeat
namespace Go.Proofs.YtdnnenklkfkhcaaDoor.Nb

/-- The sign of a digit. -/
def ch (d : Nat) : UInt8 := UInt8.ofNat (48 + d)
theorem ch_toNat (d : Nat) (h : d < 10) : (ch d).toNat = 48 + d := by
  unfold ch; rw [UInt8.toNat_ofNat']; omega
theorem ch_inj (a b : Nat) (ha : a < 10) (hb : b < 10) (h : ch a = ch b) : a = b := by
  have := congrArg UInt8.toNat h
  rw [ch_toNat a ha, ch_toNat b hb] at this
  omega

/-- n in k digits. -/
def pad : Nat → Nat → List UInt8
  | 0, _ => []
  | k + 1, n => pad k (n / 10) ++ [ch (n % 10)]
theorem pad_length (k n : Nat) : (pad k n).length = k := by
  induction k generalizing n with
  | zero => rfl
  | succ k ih => simp [pad, ih]
theorem pad_zero (k : Nat) : pad k 0 = List.replicate k 48 := by
  induction k with
  | zero => rfl
  | succ k ih => rw [pad, Nat.zero_div, ih, List.replicate_succ']; rfl

theorem dec_small (n : Nat) (h : n < 10) : Lib.decDigits n = [ch n] := by rw [Lib.decDigits, dif_pos h]; rfl
theorem dec_big (n : Nat) (h : ¬ n < 10) : Lib.decDigits n = Lib.decDigits (n / 10) ++ [ch (n % 10)] := by rw [Lib.decDigits, dif_neg h]; rfl
theorem dec_pad (k n : Nat) (h : n < 10 ^ (k + 1)) : (Lib.decDigits n).length ≤ k + 1 ∧ List.replicate (k + 1 - (Lib.decDigits n).length) 48 ++ Lib.decDigits n = pad (k + 1) n := by
  induction k generalizing n with
  | zero =>
    have h1 : n < 10 := by simpa using h
    rw [dec_small n h1]
    refine ⟨by simp, ?_⟩
    simp [pad, Nat.mod_eq_of_lt h1]
  | succ k ih =>
    by_cases h1 : n < 10
    · rw [dec_small n h1]
      refine ⟨by simp, ?_⟩
      have : n / 10 = 0 := by omega
      rw [pad, this, pad_zero, Nat.mod_eq_of_lt h1]
      simp
    · have h2 := ih (n / 10) (by rw [Nat.pow_succ] at h; omega)
      rw [dec_big n h1]
      refine ⟨by simp; omega, ?_⟩
      rw [pad, ← h2.2]
      simp
theorem dec_len (n : Nat) (h : n < 1000000000) : (Lib.decDigits n).length ≤ 9 := (dec_pad 8 n (by omega)).1
theorem dec_pos (n : Nat) : 1 ≤ (Lib.decDigits n).length := by
  by_cases h : n < 10
  · rw [dec_small n h]; simp
  · rw [dec_big n h]; simp
theorem rep_dec (n : Nat) (h : n < 1000000000) : Lib.repeatL [48] (9 - (Lib.decDigits n).length) ++ Lib.decDigits n = pad 9 n := by
  rw [← (dec_pad 8 n (by omega)).2]
  congr 1
  have := Lib.repeatL_replicate 48 1 (9 - (Lib.decDigits n).length)
  rw [show List.replicate 1 (48 : UInt8) = [48] from rfl] at this
  rw [this, Nat.mul_one]

theorem pad_mod (k n : Nat) : pad k (n % 10 ^ k) = pad k n := by
  induction k generalizing n with
  | zero => rfl
  | succ k ih =>
    rw [pad, pad]
    have e1 : n % 10 ^ (k + 1) % 10 = n % 10 := by rw [Nat.pow_succ, Nat.mul_comm, Nat.mod_mul_right_mod]
    have e2 : n % 10 ^ (k + 1) / 10 = (n / 10) % 10 ^ k := by rw [Nat.pow_succ, Nat.mul_comm, Nat.mod_mul_right_div_self]
    rw [e1, e2, ih]

/-- Reading digits: the value of k digits behind acc. -/
theorem parse_pad (M : Nat) (k n : Nat) : ∀ (acc : Nat) (r : List UInt8), n < 10 ^ k → acc * 10 ^ k + n ≤ M → M < 18446744073709551616 → acc * 10 ^ k + n < 18446744073709551610 →
    Lib.parseUintM M acc (pad k n ++ r) = Lib.parseUintM M (acc * 10 ^ k + n) r := by
  induction k generalizing n with
  | zero =>
    intro acc r h1 _ _ _
    have : n = 0 := by simpa using h1
    subst this
    simp [pad]
  | succ k ih =>
    intro acc r h1 h2 h3 h4
    have hp : (10 : Nat) ^ (k + 1) = 10 * 10 ^ k := by rw [Nat.pow_succ, Nat.mul_comm]
    rw [hp] at h1 h2 h4 ⊢
    have e0 : acc * (10 * 10 ^ k) = 10 * (acc * 10 ^ k) := by rw [Nat.mul_left_comm]
    rw [e0] at h2 h4 ⊢
    rw [pad, List.append_assoc, ih (n / 10) acc ([ch (n % 10)] ++ r) (by omega) (by omega) h3 (by omega)]
    generalize acc * 10 ^ k = q at *
    have hc := ch_toNat (n % 10) (by omega)
    simp only [List.cons_append, List.nil_append, Lib.parseUintM]
    rw [hc, if_pos (by omega), if_neg (by omega), if_neg (by omega)]
    congr 1
    omega

theorem parse9 (n : Nat) (h : n < 1000000000) : Lib.parseIntB 64 (pad 9 n) = .ok (n : Int) := by
  have h1 := parse_pad (2 ^ 64 - 1) 9 n 0 [] (by omega) (by omega) (by decide) (by omega)
  simp only [List.append_nil, Lib.parseUintM] at h1
  obtain ⟨c, r, hcr⟩ : ∃ c r, pad 9 n = c :: r := by
    cases hh : pad 9 n with
    | nil => have := pad_length 9 n; rw [hh] at this; simp at this
    | cons c r => exact ⟨c, r, rfl⟩
  have hc : 48 ≤ c.toNat ∧ c.toNat ≤ 57 := by
    have : c = ch (n / 10 / 10 / 10 / 10 / 10 / 10 / 10 / 10 % 10) := by
      have h2 := hcr
      simp only [pad, List.nil_append, List.cons_append, List.cons.injEq] at h2
      exact h2.1.symm
    rw [this, ch_toNat _ (by omega)]
    omega
  rw [hcr] at h1 ⊢
  unfold Lib.parseIntB Lib.parseUintB
  simp only [show ¬ (c.toNat = 43 ∨ c.toNat = 45) by omega, if_false, h1]
  rw [if_neg (by simp)]
  simp only [show ¬ c.toNat = 45 by omega]
  rw [if_neg (by simp; omega), if_neg (by simp)]
  simp

/-- The number's text. -/
def mkL (n : Nat) : List UInt8 := [77, 82, 78] ++ pad 9 n ++ [45] ++ [ch (chk n).toNat]
theorem mkL_length (n : Nat) : (mkL n).length = 14 := by simp [mkL, pad_length]
theorem chk_range (n : Nat) (h : n < 1000000000) : 0 ≤ chk n ∧ chk n < 10 := by
  unfold chk; rw [if_pos (by omega)]; omega
theorem pad_inj (k a b : Nat) (ha : a < 10 ^ k) (hb : b < 10 ^ k) (h : pad k a = pad k b) : a = b := by
  induction k generalizing a b with
  | zero => simp at ha hb; omega
  | succ k ih =>
    rw [pad, pad] at h
    have h1 := List.append_inj h (by simp [pad_length])
    rw [Nat.pow_succ] at ha hb
    have h2 := ih (a / 10) (b / 10) (by omega) (by omega) h1.1
    have h3 := ch_inj (a % 10) (b % 10) (by omega) (by omega) (by simpa using h1.2)
    omega
theorem mkL_inj (a b : Nat) (ha : a < 1000000000) (hb : b < 1000000000) (h : mkL a = mkL b) : a = b := by
  unfold mkL at h
  have h1 := (List.append_inj h (by simp [pad_length])).1
  have h2 := (List.append_inj h1 (by simp [pad_length])).1
  have h3 := (List.append_inj h2 (by simp)).2
  exact pad_inj 9 a b (by omega) (by omega) h3

/-- The number of which this is the text; 0 and false where there is none. -/
def rdOk (t : List UInt8) (n : Nat) (ok : Bool) : Prop :=
  (ok = true → n < 1000000000 ∧ mkL n = t) ∧ (ok = false → n = 0 ∧ ∀ k, k < 1000000000 → mkL k ≠ t)
theorem rdOk_uniq {t : List UInt8} {n m : Nat} {a b : Bool} (h : rdOk t n a) (k : rdOk t m b) : n = m ∧ a = b := by
  cases a <;> cases b
  · exact ⟨(h.2 rfl).1.trans (k.2 rfl).1.symm, rfl⟩
  · exact absurd (k.1 rfl).2 ((h.2 rfl).2 m (k.1 rfl).1)
  · exact absurd (h.1 rfl).2 ((k.2 rfl).2 n (h.1 rfl).1)
  · exact ⟨mkL_inj n m (h.1 rfl).1 (k.1 rfl).1 ((h.1 rfl).2.trans (k.1 rfl).2.symm), rfl⟩

end Go.Proofs.YtdnnenklkfkhcaaDoor.Nb
