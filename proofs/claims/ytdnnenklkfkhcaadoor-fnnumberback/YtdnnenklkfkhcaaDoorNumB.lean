/-
  Plain facts on slips: one digit another, two neighbours exchanged; no Go in sight.
-/
import Derived.Test.YtdnnenklkfkhcaaDoorNum
namespace Go.Proofs.YtdnnenklkfkhcaaDoor.Nb

/-- Nine digits as a number. -/
def val (a b c d e f g h i : Nat) : Nat := i + 10 * h + 100 * g + 1000 * f + 10000 * e + 100000 * d + 1000000 * c + 10000000 * b + 100000000 * a
/-- The digits of a double, together. -/
def tw (d : Nat) : Nat := 2 * d / 10 + 2 * d % 10
/-- What stands behind the dash. -/
def ck (a b c d e f g h i : Nat) : Nat := (10 - (tw i + h + tw g + f + tw e + d + tw c + b + tw a) % 10) % 10

theorem pad_val (a b c d e f g h i : Nat) (ha : a < 10) (hb : b < 10) (hc : c < 10) (hd : d < 10) (he : e < 10) (hf : f < 10) (hg : g < 10) (hh : h < 10) (hi : i < 10) :
    pad 9 (val a b c d e f g h i) = [ch a, ch b, ch c, ch d, ch e, ch f, ch g, ch h, ch i] := by
  unfold val
  simp only [pad, List.nil_append, List.cons_append]
  have e1 : (i + 10 * h + 100 * g + 1000 * f + 10000 * e + 100000 * d + 1000000 * c + 10000000 * b + 100000000 * a) / 10 = h + 10 * g + 100 * f + 1000 * e + 10000 * d + 100000 * c + 1000000 * b + 10000000 * a := by omega
  have e2 : (h + 10 * g + 100 * f + 1000 * e + 10000 * d + 100000 * c + 1000000 * b + 10000000 * a) / 10 = g + 10 * f + 100 * e + 1000 * d + 10000 * c + 100000 * b + 1000000 * a := by omega
  have e3 : (g + 10 * f + 100 * e + 1000 * d + 10000 * c + 100000 * b + 1000000 * a) / 10 = f + 10 * e + 100 * d + 1000 * c + 10000 * b + 100000 * a := by omega
  have e4 : (f + 10 * e + 100 * d + 1000 * c + 10000 * b + 100000 * a) / 10 = e + 10 * d + 100 * c + 1000 * b + 10000 * a := by omega
  have e5 : (e + 10 * d + 100 * c + 1000 * b + 10000 * a) / 10 = d + 10 * c + 100 * b + 1000 * a := by omega
  have e6 : (d + 10 * c + 100 * b + 1000 * a) / 10 = c + 10 * b + 100 * a := by omega
  have e7 : (c + 10 * b + 100 * a) / 10 = b + 10 * a := by omega
  have e8 : (b + 10 * a) / 10 = a := by omega
  rw [e1, e2, e3, e4, e5, e6, e7, e8]
  have m1 : (b + 10 * a) % 10 = b := by omega
  have m2 : (c + 10 * b + 100 * a) % 10 = c := by omega
  have m3 : (d + 10 * c + 100 * b + 1000 * a) % 10 = d := by omega
  have m4 : (e + 10 * d + 100 * c + 1000 * b + 10000 * a) % 10 = e := by omega
  have m5 : (f + 10 * e + 100 * d + 1000 * c + 10000 * b + 100000 * a) % 10 = f := by omega
  have m6 : (g + 10 * f + 100 * e + 1000 * d + 10000 * c + 100000 * b + 1000000 * a) % 10 = g := by omega
  have m7 : (h + 10 * g + 100 * f + 1000 * e + 10000 * d + 100000 * c + 1000000 * b + 10000000 * a) % 10 = h := by omega
  have m8 : (i + 10 * h + 100 * g + 1000 * f + 10000 * e + 100000 * d + 1000000 * c + 10000000 * b + 100000000 * a) % 10 = i := by omega
  rw [m1, m2, m3, m4, m5, m6, m7, m8, Nat.mod_eq_of_lt ha]

theorem lu_tw (n : Nat) (m : Nat) (d : Nat) (h : n = d + 10 * m) (hd : d < 10) : lu n true = tw d + lu m false := by
  rw [lu_any n true (by omega)]
  have e1 : (n : Int) % 10 = d := by omega
  have e2 : (n : Int) / 10 = m := by omega
  rw [e1, e2]; simp [dg, tw]
theorem lu_pl (n : Nat) (m : Nat) (d : Nat) (h : n = d + 10 * m) (hd : d < 10) : lu n false = d + lu m true := by
  rw [lu_any n false (by omega)]
  have e1 : (n : Int) % 10 = d := by omega
  have e2 : (n : Int) / 10 = m := by omega
  rw [e1, e2]; simp [dg]

theorem chk_val (a b c d e f g h i : Nat) (ha : a < 10) (hb : b < 10) (hc : c < 10) (hd : d < 10) (he : e < 10) (hf : f < 10) (hg : g < 10) (hh : h < 10) (hi : i < 10) :
    (chk (val a b c d e f g h i)).toNat = ck a b c d e f g h i := by
  unfold chk
  rw [if_pos (by unfold val; omega)]
  rw [lu_tw _ (h + 10 * g + 100 * f + 1000 * e + 10000 * d + 100000 * c + 1000000 * b + 10000000 * a) i (by unfold val; omega) hi]
  rw [lu_pl _ (g + 10 * f + 100 * e + 1000 * d + 10000 * c + 100000 * b + 1000000 * a) h (by omega) hh]
  rw [lu_tw _ (f + 10 * e + 100 * d + 1000 * c + 10000 * b + 100000 * a) g (by omega) hg]
  rw [lu_pl _ (e + 10 * d + 100 * c + 1000 * b + 10000 * a) f (by omega) hf]
  rw [lu_tw _ (d + 10 * c + 100 * b + 1000 * a) e (by omega) he]
  rw [lu_pl _ (c + 10 * b + 100 * a) d (by omega) hd]
  rw [lu_tw _ (b + 10 * a) c (by omega) hc]
  rw [lu_pl _ a b (by omega) hb]
  rw [lu_tw _ 0 a (by omega) ha]
  rw [show ((0 : Nat) : Int) = 0 from rfl, lu_zero]
  unfold ck
  generalize tw i = i', tw g = g', tw e = e', tw c = c', tw a = a'
  omega

theorem val_of (n : Nat) (hn : n < 1000000000) : ∃ a b c d e f g h i, a < 10 ∧ b < 10 ∧ c < 10 ∧ d < 10 ∧ e < 10 ∧ f < 10 ∧ g < 10 ∧ h < 10 ∧ i < 10 ∧ n = val a b c d e f g h i := by
  refine ⟨n / 100000000, n / 10000000 % 10, n / 1000000 % 10, n / 100000 % 10, n / 10000 % 10, n / 1000 % 10, n / 100 % 10, n / 10 % 10, n % 10, by omega, by omega, by omega, by omega, by omega, by omega, by omega, by omega, by omega, ?_⟩
  unfold val
  omega
theorem val_lt (a b c d e f g h i : Nat) (ha : a < 10) (hb : b < 10) (hc : c < 10) (hd : d < 10) (he : e < 10) (hf : f < 10) (hg : g < 10) (hh : h < 10) (hi : i < 10) : val a b c d e f g h i < 1000000000 := by unfold val; omega
theorem ck_lt (a b c d e f g h i : Nat) : ck a b c d e f g h i < 10 := by unfold ck; omega

theorem mk_val (a b c d e f g h i : Nat) (ha : a < 10) (hb : b < 10) (hc : c < 10) (hd : d < 10) (he : e < 10) (hf : f < 10) (hg : g < 10) (hh : h < 10) (hi : i < 10) :
    mkL (val a b c d e f g h i) = [77, 82, 78, ch a, ch b, ch c, ch d, ch e, ch f, ch g, ch h, ch i, 45, ch (ck a b c d e f g h i)] := by
  unfold mkL
  rw [pad_val a b c d e f g h i ha hb hc hd he hf hg hh hi, chk_val a b c d e f g h i ha hb hc hd he hf hg hh hi]
  rfl

theorem tw_inj (x y : Nat) (hx : x < 10) (hy : y < 10) (h : tw x % 10 = tw y % 10) : x = y := by unfold tw at h; omega
theorem ck_tw (A x y : Nat) (hx : x < 10) (hy : y < 10) (h : (10 - (A + tw x) % 10) % 10 = (10 - (A + tw y) % 10) % 10) : x = y := by
  apply tw_inj x y hx hy; omega
theorem ck_pl (A x y : Nat) (hx : x < 10) (hy : y < 10) (h : (10 - (A + x) % 10) % 10 = (10 - (A + y) % 10) % 10) : x = y := by omega
/-- Text of nine digits and a check digit is a number's text just where the check digit is right. -/
theorem mk_iff (a b c d e f g h i k : Nat) (ha : a < 10) (hb : b < 10) (hc : c < 10) (hd : d < 10) (he : e < 10) (hf : f < 10) (hg : g < 10) (hh : h < 10) (hi : i < 10) (hk : k < 10) :
    (∃ m, m < 1000000000 ∧ mkL m = [77, 82, 78, ch a, ch b, ch c, ch d, ch e, ch f, ch g, ch h, ch i, 45, ch k]) ↔ ck a b c d e f g h i = k := by
  constructor
  · rintro ⟨m, hm, hl⟩
    obtain ⟨a', b', c', d', e', f', g', h', i', ha', hb', hc', hd', he', hf', hg', hh', hi', rfl⟩ := val_of m hm
    rw [mk_val a' b' c' d' e' f' g' h' i' ha' hb' hc' hd' he' hf' hg' hh' hi'] at hl
    simp only [List.cons.injEq, true_and, and_true] at hl
    obtain ⟨h1, h2, h3, h4, h5, h6, h7, h8, h9, h10⟩ := hl
    have q1 := ch_inj _ _ ha' ha h1
    have q2 := ch_inj _ _ hb' hb h2
    have q3 := ch_inj _ _ hc' hc h3
    have q4 := ch_inj _ _ hd' hd h4
    have q5 := ch_inj _ _ he' he h5
    have q6 := ch_inj _ _ hf' hf h6
    have q7 := ch_inj _ _ hg' hg h7
    have q8 := ch_inj _ _ hh' hh h8
    have q9 := ch_inj _ _ hi' hi h9
    subst q1 q2 q3 q4 q5 q6 q7 q8 q9
    exact ch_inj _ _ (ck_lt ..) hk h10
  · rintro rfl
    exact ⟨_, val_lt a b c d e f g h i ha hb hc hd he hf hg hh hi, mk_val a b c d e f g h i ha hb hc hd he hf hg hh hi⟩

/-- One digit another: no number's text. -/
theorem slip_one (n p y : Nat) (hn : n < 1000000000) (hp : p < 9) (hy : y < 10) (hne : (mkL n)[3 + p]? ≠ some (ch y)) :
    ∀ m, m < 1000000000 → mkL m ≠ (mkL n).set (3 + p) (ch y) := by
  obtain ⟨a, b, c, d, e, f, g, h, i, ha, hb, hc, hd, he, hf, hg, hh, hi, rfl⟩ := val_of n hn
  rw [mk_val a b c d e f g h i ha hb hc hd he hf hg hh hi] at hne ⊢
  intro m hm hl
  have hp' : p = 0 ∨ p = 1 ∨ p = 2 ∨ p = 3 ∨ p = 4 ∨ p = 5 ∨ p = 6 ∨ p = 7 ∨ p = 8 := by omega
  rcases hp' with rfl | rfl | rfl | rfl | rfl | rfl | rfl | rfl | rfl <;> simp at hne hl
  · have := (mk_iff y b c d e f g h i _ hy hb hc hd he hf hg hh hi (ck_lt a b c d e f g h i)).1 ⟨m, hm, hl⟩
    unfold ck at this
    exact hne (by rw [ck_tw (tw i + h + tw g + f + tw e + d + tw c + b) a y ha hy (by omega)])
  · have := (mk_iff a y c d e f g h i _ ha hy hc hd he hf hg hh hi (ck_lt a b c d e f g h i)).1 ⟨m, hm, hl⟩
    unfold ck at this
    exact hne (by rw [ck_pl (tw i + h + tw g + f + tw e + d + tw c + tw a) b y hb hy (by omega)])
  · have := (mk_iff a b y d e f g h i _ ha hb hy hd he hf hg hh hi (ck_lt a b c d e f g h i)).1 ⟨m, hm, hl⟩
    unfold ck at this
    exact hne (by rw [ck_tw (tw i + h + tw g + f + tw e + d + b + tw a) c y hc hy (by omega)])
  · have := (mk_iff a b c y e f g h i _ ha hb hc hy he hf hg hh hi (ck_lt a b c d e f g h i)).1 ⟨m, hm, hl⟩
    unfold ck at this
    exact hne (by rw [ck_pl (tw i + h + tw g + f + tw e + tw c + b + tw a) d y hd hy (by omega)])
  · have := (mk_iff a b c d y f g h i _ ha hb hc hd hy hf hg hh hi (ck_lt a b c d e f g h i)).1 ⟨m, hm, hl⟩
    unfold ck at this
    exact hne (by rw [ck_tw (tw i + h + tw g + f + d + tw c + b + tw a) e y he hy (by omega)])
  · have := (mk_iff a b c d e y g h i _ ha hb hc hd he hy hg hh hi (ck_lt a b c d e f g h i)).1 ⟨m, hm, hl⟩
    unfold ck at this
    exact hne (by rw [ck_pl (tw i + h + tw g + tw e + d + tw c + b + tw a) f y hf hy (by omega)])
  · have := (mk_iff a b c d e f y h i _ ha hb hc hd he hf hy hh hi (ck_lt a b c d e f g h i)).1 ⟨m, hm, hl⟩
    unfold ck at this
    exact hne (by rw [ck_tw (tw i + h + f + tw e + d + tw c + b + tw a) g y hg hy (by omega)])
  · have := (mk_iff a b c d e f g y i _ ha hb hc hd he hf hg hy hi (ck_lt a b c d e f g h i)).1 ⟨m, hm, hl⟩
    unfold ck at this
    exact hne (by rw [ck_pl (tw i + tw g + f + tw e + d + tw c + b + tw a) h y hh hy (by omega)])
  · have := (mk_iff a b c d e f g h y _ ha hb hc hd he hf hg hh hy (ck_lt a b c d e f g h i)).1 ⟨m, hm, hl⟩
    unfold ck at this
    exact hne (by rw [ck_tw (h + tw g + f + tw e + d + tw c + b + tw a) i y hi hy (by omega)])

/-- What a swap of x and y leaves a number's text. -/
def swOk (x y : Nat) : Prop := x = y ∨ x = 0 ∧ y = 9 ∨ x = 9 ∧ y = 0
theorem sw_small : ∀ x, x < 10 → ∀ y, y < 10 → ((tw y + x) % 10 = (tw x + y) % 10 ↔ (x = y ∨ x = 0 ∧ y = 9 ∨ x = 9 ∧ y = 0)) := by decide
theorem sw_iff1 (A x y : Nat) (hx : x < 10) (hy : y < 10) : (10 - (A + tw y + x) % 10) % 10 = (10 - (A + tw x + y) % 10) % 10 ↔ swOk x y := by
  unfold swOk
  rw [← sw_small x hx y hy]
  generalize tw x = u, tw y = v
  omega
theorem slip_two (n p x y : Nat) (hn : n < 1000000000) (hp : p < 8) (hx : x < 10) (hy : y < 10) (h1 : (mkL n)[3 + p]? = some (ch x)) (h2 : (mkL n)[4 + p]? = some (ch y)) :
    (∃ m, m < 1000000000 ∧ mkL m = ((mkL n).set (3 + p) (ch y)).set (4 + p) (ch x)) ↔ swOk x y := by
  obtain ⟨a, b, c, d, e, f, g, h, i, ha, hb, hc, hd, he, hf, hg, hh, hi, rfl⟩ := val_of n hn
  rw [mk_val a b c d e f g h i ha hb hc hd he hf hg hh hi] at h1 h2 ⊢
  have hp' : p = 0 ∨ p = 1 ∨ p = 2 ∨ p = 3 ∨ p = 4 ∨ p = 5 ∨ p = 6 ∨ p = 7 := by omega
  rcases hp' with rfl | rfl | rfl | rfl | rfl | rfl | rfl | rfl <;> simp at h1 h2 <;> simp only [List.set_cons_succ, List.set_cons_zero, Nat.reduceAdd]
  · have q1 := ch_inj _ _ ha hx h1
    have q2 := ch_inj _ _ hb hy h2
    subst q1 q2
    rw [mk_iff b a c d e f g h i _ hb ha hc hd he hf hg hh hi (ck_lt ..), ← sw_iff1 (tw i + h + tw g + f + tw e + d + tw c) a b ha hb]
    unfold ck; omega
  · have q1 := ch_inj _ _ hb hx h1
    have q2 := ch_inj _ _ hc hy h2
    subst q1 q2
    rw [mk_iff a c b d e f g h i _ ha hc hb hd he hf hg hh hi (ck_lt ..), ← sw_iff1 (tw i + h + tw g + f + tw e + d + tw a) b c hb hc]
    unfold ck; omega
  · have q1 := ch_inj _ _ hc hx h1
    have q2 := ch_inj _ _ hd hy h2
    subst q1 q2
    rw [mk_iff a b d c e f g h i _ ha hb hd hc he hf hg hh hi (ck_lt ..), ← sw_iff1 (tw i + h + tw g + f + tw e + b + tw a) c d hc hd]
    unfold ck; omega
  · have q1 := ch_inj _ _ hd hx h1
    have q2 := ch_inj _ _ he hy h2
    subst q1 q2
    rw [mk_iff a b c e d f g h i _ ha hb hc he hd hf hg hh hi (ck_lt ..), ← sw_iff1 (tw i + h + tw g + f + tw c + b + tw a) d e hd he]
    unfold ck; omega
  · have q1 := ch_inj _ _ he hx h1
    have q2 := ch_inj _ _ hf hy h2
    subst q1 q2
    rw [mk_iff a b c d f e g h i _ ha hb hc hd hf he hg hh hi (ck_lt ..), ← sw_iff1 (tw i + h + tw g + d + tw c + b + tw a) e f he hf]
    unfold ck; omega
  · have q1 := ch_inj _ _ hf hx h1
    have q2 := ch_inj _ _ hg hy h2
    subst q1 q2
    rw [mk_iff a b c d e g f h i _ ha hb hc hd he hg hf hh hi (ck_lt ..), ← sw_iff1 (tw i + h + tw e + d + tw c + b + tw a) f g hf hg]
    unfold ck; omega
  · have q1 := ch_inj _ _ hg hx h1
    have q2 := ch_inj _ _ hh hy h2
    subst q1 q2
    rw [mk_iff a b c d e f h g i _ ha hb hc hd he hf hh hg hi (ck_lt ..), ← sw_iff1 (tw i + f + tw e + d + tw c + b + tw a) g h hg hh]
    unfold ck; omega
  · have q1 := ch_inj _ _ hh hx h1
    have q2 := ch_inj _ _ hi hy h2
    subst q1 q2
    rw [mk_iff a b c d e f g i h _ ha hb hc hd he hf hg hi hh (ck_lt ..), ← sw_iff1 (tw g + f + tw e + d + tw c + b + tw a) h i hh hi]
    unfold ck; omega
end Go.Proofs.YtdnnenklkfkhcaaDoor.Nb
