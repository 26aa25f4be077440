/-
  Plain arithmetic of amounts: greatest common divisors, lowest terms; no Go in sight.
-/
namespace Go.Proofs.Ytiopmlepdjiapaa.Am

/-- The greatest common divisor, as an Int. -/
def gc (a b : Int) : Int := (Int.gcd a b : Nat)

theorem gc_zero (x : Int) (h : 0 ≤ x) : gc x 0 = x := by
  unfold gc; rw [Int.gcd_zero_right]; omega
theorem gc_step (x y : Int) (hx : 0 ≤ x) (hy : 0 < y) : gc y (x % y) = gc x y := by
  unfold gc
  obtain ⟨a, rfl⟩ := Int.eq_ofNat_of_zero_le hx
  obtain ⟨b, rfl⟩ := Int.eq_ofNat_of_zero_le (Int.le_of_lt hy)
  have e : ((a : Int) % (b : Int)) = ((a % b : Nat) : Int) := by omega
  rw [e]
  simp only [Int.gcd_natCast_natCast]
  have := Nat.gcd_rec b a
  rw [Nat.gcd_comm b (a % b), Nat.gcd_comm a b]
  omega
theorem gc_nonneg (a b : Int) : 0 ≤ gc a b := by unfold gc; omega
theorem gc_pos (a b : Int) (h : 0 < b) : 1 ≤ gc a b := by
  unfold gc
  have : 0 < Int.gcd a b := Int.gcd_pos_of_ne_zero_right a (by omega)
  omega
theorem gc_comm (a b : Int) : gc a b = gc b a := by unfold gc; rw [Int.gcd_comm]
theorem gc_dvd_l (a b : Int) : gc a b ∣ a := by unfold gc; exact Int.gcd_dvd_left ..
theorem gc_dvd_r (a b : Int) : gc a b ∣ b := by unfold gc; exact Int.gcd_dvd_right ..

/-- Both parts by their greatest common divisor: what came, in two factors. -/
theorem parts (n d : Int) (hn : 0 ≤ n) (hd : 1 ≤ d) :
    ∃ a b : Int, 0 ≤ a ∧ 1 ≤ b ∧ n = gc n d * a ∧ d = gc n d * b ∧ n / gc n d = a ∧ d / gc n d = b ∧ gc a b = 1 := by
  have hg := gc_pos n d (by omega)
  obtain ⟨a, ha⟩ := gc_dvd_l n d
  obtain ⟨b, hb⟩ := gc_dvd_r n d
  have ea : n / gc n d = a := by
    conv => lhs; lhs; rw [ha]
    exact Int.mul_ediv_cancel_left a (by omega)
  have eb : d / gc n d = b := by
    conv => lhs; lhs; rw [hb]
    exact Int.mul_ediv_cancel_left b (by omega)
  have a0 : 0 ≤ a := by rw [← ea]; exact Int.ediv_nonneg hn (by omega)
  have b0 : 0 ≤ b := by rw [← eb]; exact Int.ediv_nonneg (by omega) (by omega)
  have b1 : 1 ≤ b := by
    rcases Int.lt_or_le 0 b with h | h
    · omega
    · have : b = 0 := by omega
      rw [this] at hb; simp at hb; omega
  refine ⟨a, b, a0, b1, ha, hb, ea, eb, ?_⟩
  have hm : gc n d = gc n d * gc a b := by
    have := Int.gcd_mul_left (gc n d) a b
    rw [← ha, ← hb] at this
    have h2 : ((Int.gcd n d : Nat) : Int) = ((gc n d).natAbs : Int) * (Int.gcd a b : Nat) := by rw [this]; simp
    have h3 : ((gc n d).natAbs : Int) = gc n d := by omega
    rw [h3] at h2
    exact h2
  have h1 : gc n d * gc a b = gc n d * 1 := by rw [← hm]; simp
  exact Int.eq_of_mul_eq_mul_left (by omega) h1

/-- Lowest terms hang on the ratio alone. -/
theorem low_congr (n d n' d' : Int) (hn : 0 ≤ n) (hd : 1 ≤ d) (hn' : 0 ≤ n') (hd' : 1 ≤ d') (h : n * d' = n' * d) :
    n / gc n d = n' / gc n' d' ∧ d / gc n d = d' / gc n' d' := by
  obtain ⟨a, b, a0, b1, e1, e2, ea, eb, co⟩ := parts n d hn hd
  obtain ⟨a', b', a0', b1', e1', e2', ea', eb', co'⟩ := parts n' d' hn' hd'
  rw [ea, eb, ea', eb']
  have hg := gc_pos n d (by omega)
  have hg' := gc_pos n' d' (by omega)
  generalize gc n d = g at *
  generalize gc n' d' = g' at *
  have hx : a * b' = a' * b := by
    have : (g * g') * (a * b') = (g * g') * (a' * b) := by
      have l : n * d' = (g * g') * (a * b') := by rw [e1, e2']; simp only [Int.mul_left_comm, Int.mul_comm]
      have r : n' * d = (g * g') * (a' * b) := by rw [e1', e2]; simp only [Int.mul_left_comm, Int.mul_comm]
      rw [← l, ← r, h]
    exact Int.eq_of_mul_eq_mul_left (by have := Int.mul_pos (a := g) (b := g') (by omega) (by omega); omega) this
  clear h e1 e2 e1' e2' ea eb ea' eb' hn hd hn' hd' hg hg'
  obtain ⟨p, rfl⟩ := Int.eq_ofNat_of_zero_le a0
  obtain ⟨q, rfl⟩ := Int.eq_ofNat_of_zero_le (a := b) (by omega)
  obtain ⟨p', rfl⟩ := Int.eq_ofNat_of_zero_le a0'
  obtain ⟨q', rfl⟩ := Int.eq_ofNat_of_zero_le (a := b') (by omega)
  unfold gc at co co'
  simp only [Int.gcd_natCast_natCast] at co co'
  have co1 : Nat.Coprime p q := by unfold Nat.Coprime; omega
  have co2 : Nat.Coprime p' q' := by unfold Nat.Coprime; omega
  have hx' : p * q' = p' * q := by exact_mod_cast hx
  have d1 : q ∣ q' := co1.symm.dvd_of_dvd_mul_left (by rw [hx']; exact Nat.dvd_mul_left q p')
  have d2 : q' ∣ q := co2.symm.dvd_of_dvd_mul_left (by rw [← hx']; exact Nat.dvd_mul_left q' p)
  have hq : q = q' := Nat.dvd_antisymm d1 d2
  subst hq
  have hp : p = p' := Nat.eq_of_mul_eq_mul_right (by omega) hx'
  subst hp
  exact ⟨rfl, rfl⟩

/-- An amount that is right. -/
def okB (n d u : Int) : Bool := decide (0 ≤ n ∧ n ≤ 1000000000 ∧ 1 ≤ d ∧ d ≤ 1000000000 ∧ 1 ≤ u ∧ u ≤ 7 ∧ gc n d = 1)
theorem okB_true {n d u : Int} (h : okB n d u = true) : 0 ≤ n ∧ n ≤ 1000000000 ∧ 1 ≤ d ∧ d ≤ 1000000000 ∧ 1 ≤ u ∧ u ≤ 7 ∧ gc n d = 1 := by
  unfold okB at h; exact of_decide_eq_true h
theorem okB_mk {n d u : Int} (h : 0 ≤ n ∧ n ≤ 1000000000 ∧ 1 ≤ d ∧ d ≤ 1000000000 ∧ 1 ≤ u ∧ u ≤ 7 ∧ gc n d = 1) : okB n d u = true := by
  unfold okB; exact decide_eq_true h
theorem okB_not {n d u : Int} (h : ¬ (0 ≤ n ∧ n ≤ 1000000000 ∧ 1 ≤ d ∧ d ≤ 1000000000 ∧ 1 ≤ u ∧ u ≤ 7 ∧ gc n d = 1)) : okB n d u = false := by
  unfold okB; exact decide_eq_false h

/-- Of n / d of a unit: is there a right amount; its parts (all nought where there is none). -/
def rB (n d u : Int) : Bool := okB (n / gc n d) (d / gc n d) u
def rN (n d u : Int) : Int := if rB n d u = true then n / gc n d else 0
def rD (n d u : Int) : Int := if rB n d u = true then d / gc n d else 0
def rU (n d u : Int) : Int := if rB n d u = true then u else 0

theorem r_congr (n d n' d' u : Int) (hn : 0 ≤ n) (hd : 1 ≤ d) (hn' : 0 ≤ n') (hd' : 1 ≤ d') (h : n * d' = n' * d) :
    rN n d u = rN n' d' u ∧ rD n d u = rD n' d' u ∧ rU n d u = rU n' d' u ∧ rB n d u = rB n' d' u := by
  obtain ⟨e1, e2⟩ := low_congr n d n' d' hn hd hn' hd' h
  unfold rN rD rU rB
  rw [e1, e2]
  exact ⟨rfl, rfl, rfl, rfl⟩
theorem r_none (n d u : Int) (h : rB n d u = false) : rN n d u = 0 ∧ rD n d u = 0 ∧ rU n d u = 0 := by
  unfold rN rD rU; simp [h]
theorem r_some (n d u : Int) (h : rB n d u = true) : rN n d u = n / gc n d ∧ rD n d u = d / gc n d ∧ rU n d u = u := by
  unfold rN rD rU; simp [h]

theorem div_le (n g : Int) (hn : 0 ≤ n) : n / g ≤ n ∨ g < 0 := by
  rcases Int.lt_or_le g 0 with h | h
  · exact Or.inr h
  · exact Or.inl (Int.ediv_le_self g hn)

/-- A product reduced crosswise: as much, no greater. -/
theorem product (n1 n2 d1 d2 : Int) (h1 : 0 ≤ n1) (h2 : 0 ≤ n2) (k1 : 1 ≤ d1) (k2 : 1 ≤ d2) :
    0 ≤ (n1 / gc n1 d2) * (n2 / gc n2 d1) ∧ 1 ≤ (d1 / gc n2 d1) * (d2 / gc n1 d2) ∧
    (n1 / gc n1 d2) * (n2 / gc n2 d1) ≤ n1 * n2 ∧ (d1 / gc n2 d1) * (d2 / gc n1 d2) ≤ d1 * d2 ∧
    (n1 / gc n1 d2) * (n2 / gc n2 d1) * (d1 * d2) = n1 * n2 * ((d1 / gc n2 d1) * (d2 / gc n1 d2)) ∧
    0 ≤ n1 / gc n1 d2 ∧ n1 / gc n1 d2 ≤ n1 ∧ 0 ≤ n2 / gc n2 d1 ∧ n2 / gc n2 d1 ≤ n2 ∧
    1 ≤ d1 / gc n2 d1 ∧ d1 / gc n2 d1 ≤ d1 ∧ 1 ≤ d2 / gc n1 d2 ∧ d2 / gc n1 d2 ≤ d2 := by
  obtain ⟨a, b, a0, b1, e1, e2, ea, eb, _⟩ := parts n1 d2 h1 k2
  obtain ⟨a', b', a0', b1', e1', e2', ea', eb', _⟩ := parts n2 d1 h2 k1
  have g0 := gc_pos n1 d2 (by omega)
  have g0' := gc_pos n2 d1 (by omega)
  rw [ea, eb, ea', eb']
  have la : a ≤ n1 := by rw [← ea]; exact Int.ediv_le_self _ h1
  have lb : b ≤ d2 := by rw [← eb]; exact Int.ediv_le_self _ (by omega)
  have la' : a' ≤ n2 := by rw [← ea']; exact Int.ediv_le_self _ h2
  have lb' : b' ≤ d1 := by rw [← eb']; exact Int.ediv_le_self _ (by omega)
  refine ⟨Int.mul_nonneg a0 a0', ?_, Int.mul_le_mul la la' a0' h1, Int.mul_le_mul lb' lb (by omega) (by omega), ?_, a0, la, a0', la', b1', lb', b1, lb⟩
  · have := Int.mul_le_mul b1' b1 (by omega) (by omega); omega
  · generalize gc n1 d2 = g at *
    generalize gc n2 d1 = g' at *
    rw [e1, e1', e2, e2']
    simp only [Int.mul_left_comm, Int.mul_comm]

theorem gc_one_mul (p d e : Int) (h : gc p d = 1) (k : gc p e = 1) : gc p (d * e) = 1 := by
  unfold gc at *
  have h' : Nat.Coprime p.natAbs d.natAbs := by unfold Nat.Coprime; unfold Int.gcd at h; omega
  have k' : Nat.Coprime p.natAbs e.natAbs := by unfold Nat.Coprime; unfold Int.gcd at k; omega
  have := h'.mul_right k'
  unfold Int.gcd
  rw [Int.natAbs_mul]
  unfold Nat.Coprime at this
  omega
theorem gc_one_of_dvd (p n d : Int) (h : gc n d = 1) (k : p ∣ n) : gc p d = 1 := by
  have hp : gc p d ∣ gc n d := by
    unfold gc
    exact Int.dvd_coe_gcd (Int.dvd_trans (Int.gcd_dvd_left ..) k) (Int.gcd_dvd_right ..)
  rw [h] at hp
  have h0 := gc_nonneg p d
  have := Int.le_of_dvd (by omega) hp
  rcases Int.lt_or_le 0 (gc p d) with h | h
  · omega
  · have : gc p d = 0 := by omega
    rw [this] at hp; have := Int.zero_dvd.mp hp; omega
theorem low_self (p q u : Int) (h : gc p q = 1) : rB p q u = okB p q u := by
  unfold rB; rw [h]; simp

/-- The numerator of a sum over the least number that both divide. -/
def sn (n d m e : Int) : Int := n * (e / gc d e) + m * (d / gc d e)
/-- The sum's numerator and denominator in lowest terms, as they are reckoned step by step. -/
def sp (n d m e : Int) : Int := sn n d m e / gc (sn n d m e) d / gc (sn n d m e / gc (sn n d m e) d) (e / gc d e)
def se (n d m e : Int) : Int := e / gc d e / gc (sn n d m e / gc (sn n d m e) d) (e / gc d e)
def sq (n d m e : Int) : Int := d / gc (sn n d m e) d * se n d m e

theorem sum_low (n d m e : Int) (hn : 0 ≤ n) (hd : 1 ≤ d) (hm : 0 ≤ m) (he : 1 ≤ e) :
    0 ≤ sp n d m e ∧ 1 ≤ sq n d m e ∧ 1 ≤ se n d m e ∧ 1 ≤ d / gc (sn n d m e) d ∧ gc (sp n d m e) (sq n d m e) = 1 ∧ sp n d m e * (d * e) = (n * e + m * d) * sq n d m e := by
  obtain ⟨a, b, a0, b1, e1, e2, ea, eb, _⟩ := parts d e (by omega) he
  have g0 := gc_pos d e (by omega)
  have sn0 : 0 ≤ sn n d m e := by
    unfold sn; rw [ea, eb]; exact Int.add_nonneg (Int.mul_nonneg hn (by omega)) (Int.mul_nonneg hm a0)
  obtain ⟨s, t, s0, t1, f1, f2, fs, ft, co1⟩ := parts (sn n d m e) d sn0 hd
  obtain ⟨p, q, p0, q1, k1, k2, kp, kq, co2⟩ := parts s b s0 b1
  have h0 := gc_pos (sn n d m e) d (by omega)
  have h0' := gc_pos s b (by omega)
  have esp : sp n d m e = p := by unfold sp; rw [fs, eb, kp]
  have ese : se n d m e = q := by unfold se; rw [fs, eb, kq]
  have esq : sq n d m e = t * q := by unfold sq; rw [ft, ese]
  rw [esp, esq, ese, ft]
  have tq : 1 ≤ t * q := by have := Int.mul_le_mul t1 q1 (by omega) (by omega); omega
  refine ⟨p0, tq, q1, t1, ?_, ?_⟩
  · exact gc_one_mul p t q (gc_one_of_dvd p s t co1 ⟨gc s b, by rw [Int.mul_comm]; exact k1⟩) co2
  · -- p * (d * e) = (n e + m d) * (t q): both times the divisors
    have eS : sn n d m e = n * b + m * a := by unfold sn; rw [ea, eb]
    have big : gc d e * sn n d m e = n * e + m * d := by
      have x1 : n * e = gc d e * (n * b) := by
        conv => lhs; rw [e2]
        rw [Int.mul_left_comm]
      have x2 : m * d = gc d e * (m * a) := by
        conv => lhs; rw [e1]
        rw [Int.mul_left_comm]
      rw [eS, x1, x2, Int.mul_add]
    rw [← big]
    generalize hG : gc d e = G at *
    generalize hH : gc (sn n d m e) d = K at *
    generalize hJ : gc s b = J at *
    rw [f1, k1]
    conv => lhs; rw [e2, f2, k2]
    simp only [Int.mul_left_comm, Int.mul_comm]

theorem sum_r (n d m e u : Int) (hn : 0 ≤ n) (hd : 1 ≤ d) (hm : 0 ≤ m) (he : 1 ≤ e) :
    rB (n * e + m * d) (d * e) u = okB (sp n d m e) (sq n d m e) u ∧
    rN (n * e + m * d) (d * e) u = rN (sp n d m e) (sq n d m e) u ∧
    rD (n * e + m * d) (d * e) u = rD (sp n d m e) (sq n d m e) u ∧
    rU (n * e + m * d) (d * e) u = rU (sp n d m e) (sq n d m e) u := by
  obtain ⟨p0, q1, _, _, co, h⟩ := sum_low n d m e hn hd hm he
  have hs : 0 ≤ n * e + m * d := Int.add_nonneg (Int.mul_nonneg hn (by omega)) (Int.mul_nonneg hm (by omega))
  have ht : 1 ≤ d * e := by have := Int.mul_le_mul hd he (by omega) (by omega); omega
  obtain ⟨c1, c2, c3, c4⟩ := r_congr (n * e + m * d) (d * e) (sp n d m e) (sq n d m e) u hs ht p0 q1 h.symm
  exact ⟨by rw [c4, low_self _ _ _ co], c1, c2, c3⟩

/-- Two fractions x / a and y / b held against each other by their whole parts, and then by what is left. -/
theorem cmp_whole (x y a b : Int) (ha : 1 ≤ a) (hb : 1 ≤ b) :
    (x / a < y / b → x * b < y * a) ∧ (y / b < x / a → y * a < x * b) ∧
    (x / a = y / b → x * b - y * a = x % a * b - y % b * a) := by
  have e1 : x * b = a * b * (x / a) + x % a * b := by
    conv => lhs; rw [← Int.mul_ediv_add_emod x a]
    rw [Int.add_mul, Int.mul_right_comm]
  have e2 : y * a = a * b * (y / b) + y % b * a := by
    conv => lhs; rw [← Int.mul_ediv_add_emod y b]
    rw [Int.add_mul, Int.mul_right_comm, Int.mul_comm b a]
  have r1 : 0 ≤ x % a * b := Int.mul_nonneg (Int.emod_nonneg _ (by omega)) (by omega)
  have r2 : 0 ≤ y % b * a := Int.mul_nonneg (Int.emod_nonneg _ (by omega)) (by omega)
  have r3 : x % a * b < a * b := Int.mul_lt_mul_of_pos_right (Int.emod_lt_of_pos _ (by omega)) (by omega)
  have r4 : y % b * a < a * b := by
    rw [Int.mul_comm a b]; exact Int.mul_lt_mul_of_pos_right (Int.emod_lt_of_pos _ (by omega)) (by omega)
  generalize a * b = P at *
  generalize x / a = q at *
  generalize y / b = q' at *
  have hP : 0 ≤ P := by omega
  refine ⟨fun h => ?_, fun h => ?_, fun h => ?_⟩
  · have := Int.mul_le_mul_of_nonneg_left (show q + 1 ≤ q' by omega) hP
    rw [Int.mul_add] at this
    omega
  · have := Int.mul_le_mul_of_nonneg_left (show q' + 1 ≤ q by omega) hP
    rw [Int.mul_add] at this
    omega
  · subst h; omega
end Go.Proofs.Ytiopmlepdjiapaa.Am
