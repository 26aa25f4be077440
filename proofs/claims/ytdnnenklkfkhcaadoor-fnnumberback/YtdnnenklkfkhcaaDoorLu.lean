/-
  Plain arithmetic of the check digit: the sum of the digits, those at even places by the digits of their doubles; no Go in sight.
-/
namespace Go.Proofs.YtdnnenklkfkhcaaDoor.Nb

/-- What a digit adds: at an even place the digits of its double. -/
def dg (e : Bool) (d : Int) : Int := if e then 2 * d / 10 + 2 * d % 10 else d
def luN : Nat → Nat → Bool → Int
  | 0, _, _ => 0
  | f + 1, n, e => if n = 0 then 0 else dg e ((n % 10 : Nat) : Int) + luN f (n / 10) (!e)
theorem luN_more (f g n : Nat) (e : Bool) (hf : n ≤ f) (hg : n ≤ g) : luN f n e = luN g n e := by
  induction f generalizing g n e with
  | zero =>
    have : n = 0 := by omega
    subst this
    cases g <;> simp [luN]
  | succ f ih =>
    cases g with
    | zero => have : n = 0 := by omega
              subst this; simp [luN]
    | succ g =>
      simp only [luN]
      by_cases h : n = 0
      · simp [h]
      · rw [if_neg h, if_neg h, ih g (n / 10) (!e) (by omega) (by omega)]
/-- The sum of a number's digits, its last place even as e says. -/
def lu (n : Int) (e : Bool) : Int := luN n.toNat n.toNat e
theorem lu_zero (e : Bool) : lu 0 e = 0 := by simp [lu, luN]
theorem lu_step (n : Int) (e : Bool) (h : 0 < n) : lu n e = dg e (n % 10) + lu (n / 10) (!e) := by
  obtain ⟨k, rfl⟩ := Int.eq_ofNat_of_zero_le (Int.le_of_lt h)
  have e1 : ((k : Int) / 10).toNat = k / 10 := by omega
  have e2 : ((k : Int)).toNat = k := by omega
  unfold lu
  rw [e1, e2]
  cases k with
  | zero => omega
  | succ k =>
    rw [luN, if_neg (by omega), luN_more k ((k + 1) / 10) ((k + 1) / 10) (!e) (by omega) (by omega)]
    congr 1
theorem dg_nonneg (e : Bool) (d : Int) (h : 0 ≤ d) : 0 ≤ dg e d := by unfold dg; split <;> omega
theorem dg_le (e : Bool) (d : Int) (h : 0 ≤ d) : dg e d ≤ 2 * d := by unfold dg; split <;> omega
theorem lu_bounds (k : Nat) : ∀ (n : Int) (e : Bool), 0 ≤ n → n ≤ k → 0 ≤ lu n e ∧ lu n e ≤ 2 * n := by
  induction k with
  | zero => intro n e h0 h1; have : n = 0 := by omega
            subst this; rw [lu_zero]; omega
  | succ k ih =>
    intro n e h0 h1
    by_cases h : n = 0
    · subst h; rw [lu_zero]; omega
    · rw [lu_step n e (by omega)]
      have a := ih (n / 10) (!e) (by omega) (by omega)
      have b := dg_nonneg e (n % 10) (by omega)
      have c := dg_le e (n % 10) (by omega)
      omega
theorem lu_nonneg (n : Int) (e : Bool) (h : 0 ≤ n) : 0 ≤ lu n e := (lu_bounds n.toNat n e h (by omega)).1
theorem lu_le (n : Int) (e : Bool) (h : 0 ≤ n) : lu n e ≤ 2 * n := (lu_bounds n.toNat n e h (by omega)).2

/-- The check digit's sum, digit by digit. -/
theorem lu_any (n : Int) (e : Bool) (h : 0 ≤ n) : lu n e = dg e (n % 10) + lu (n / 10) (!e) := by
  by_cases h0 : n = 0
  · subst h0; simp [lu_zero, dg]
  · exact lu_step n e (by omega)

/-- The check digit. -/
def chk (n : Int) : Int := if 0 ≤ n ∧ n ≤ 1000000000 then (10 - lu n true % 10) % 10 else -1
end Go.Proofs.YtdnnenklkfkhcaaDoor.Nb
