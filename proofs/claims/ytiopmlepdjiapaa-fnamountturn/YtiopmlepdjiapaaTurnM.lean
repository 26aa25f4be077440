/-
  Amounts: converted there and back, added both ways, compared: over their models.
-/
import Derived.Test.YtiopmlepdjiapaaICmp
import Derived.Test.YtiopmlepdjiapaaSAdd
namespace Go.Proofs.Ytiopmlepdjiapaa
open Am

theorem sz_pos (u : Int) : 1 ≤ sz u := by unfold sz; split <;> (try split) <;> omega

/-- What vR says. -/
theorem v_true {n d u t : Int} (h : vR n d u t = true) : okB n d u = true ∧ kd u = kd t ∧ rB (n * sz u) (d * sz t) t = true ∧ vN n d u t = rN (n * sz u) (d * sz t) t ∧ vD n d u t = rD (n * sz u) (d * sz t) t ∧ vU n d u t = rU (n * sz u) (d * sz t) t := by
  unfold vR at h
  have hb : vB n d u t = true := by cases q : vB n d u t <;> simp_all
  have hr : rB (n * sz u) (d * sz t) t = true := by cases q : rB (n * sz u) (d * sz t) t <;> simp_all
  have hb2 := hb
  unfold vB at hb2
  simp only [Bool.and_eq_true, decide_eq_true_eq] at hb2
  exact ⟨hb2.1, hb2.2, hr, by unfold vN; rw [if_pos hb], by unfold vD; rw [if_pos hb], by unfold vU; rw [if_pos hb]⟩

theorem turn_parts {n d u t : Int} (h : vR n d u t = true) : ∃ p q g : Int, vN n d u t = p ∧ vD n d u t = q ∧ vU n d u t = t ∧ okB p q t = true ∧ 1 ≤ g ∧ n * sz u = g * p ∧ d * sz t = g * q := by
  obtain ⟨ho, hk, hr, e1, e2, e3⟩ := v_true h
  obtain ⟨h1, h2, h3, h4, h5, h6, h7⟩ := okB_true ho
  have hs := sz_pos u
  have hs' := sz_pos t
  have hA : 0 ≤ n * sz u := Int.mul_nonneg h1 (by omega)
  have hB : 1 ≤ d * sz t := by
    have := Int.mul_le_mul h3 hs' (by omega) (by omega)
    simpa using this
  obtain ⟨a, b, a0, b1, f1, f2, f3, f4, f5⟩ := parts (n * sz u) (d * sz t) hA hB
  obtain ⟨g1, g2, g3⟩ := r_some _ _ _ hr
  refine ⟨a, b, gc (n * sz u) (d * sz t), by rw [e1, g1, f3], by rw [e2, g2, f4], by rw [e3, g3], ?_, gc_pos _ _ (by omega), f1, f2⟩
  unfold rB at hr
  rw [f3, f4] at hr
  exact hr

theorem turn_back {n d u t p q g : Int} (ho : okB n d u = true) (hk : kd u = kd t) (hp : okB p q t = true) (hg : 1 ≤ g) (e1 : n * sz u = g * p) (e2 : d * sz t = g * q) :
    vN p q t u = n ∧ vD p q t u = d ∧ vU p q t u = u ∧ vR p q t u = true ∧ qC n d u p q t = 0 := by
  obtain ⟨h1, h2, h3, h4, h5, h6, h7⟩ := okB_true ho
  obtain ⟨k1, k2, k3, k4, k5, k6, k7⟩ := okB_true hp
  have hs := sz_pos u
  have hs' := sz_pos t
  have hx : g * (p * sz t * d) = g * (n * (q * sz u)) := by
    calc g * (p * sz t * d) = (g * p) * (d * sz t) := by simp only [Int.mul_assoc, Int.mul_left_comm, Int.mul_comm]
      _ = (n * sz u) * (g * q) := by rw [← e1, e2]
      _ = g * (n * (q * sz u)) := by simp only [Int.mul_assoc, Int.mul_left_comm, Int.mul_comm]
  have hc : p * sz t * d = n * (q * sz u) := Int.eq_of_mul_eq_mul_left (by omega) hx
  have hA : 0 ≤ p * sz t := Int.mul_nonneg k1 (by omega)
  have hB : 1 ≤ q * sz u := by
    have := Int.mul_le_mul k3 hs (by omega) (by omega)
    simpa using this
  obtain ⟨c1, c2, c3, c4⟩ := r_congr (p * sz t) (q * sz u) n d u hA hB h1 h3 hc
  have hr : rB n d u = true := by rw [low_self n d u h7]; exact ho
  obtain ⟨f1, f2, f3⟩ := r_some n d u hr
  have hvB : vB p q t u = true := by unfold vB; rw [hp]; simp [hk]
  refine ⟨?_, ?_, ?_, ?_, ?_⟩
  · unfold vN; rw [if_pos hvB, c1, f1, h7]; simp
  · unfold vD; rw [if_pos hvB, c2, f2, h7]; simp
  · unfold vU; rw [if_pos hvB, c3, f3]
  · unfold vR; rw [hvB, c4, hr]; rfl
  · have hq : qB n d u p q t = true := by unfold qB; rw [ho, hp]; simp [hk]
    unfold qC
    rw [if_pos hq]
    have : n * sz u * q = p * sz t * d := by rw [hc]; simp only [Int.mul_left_comm, Int.mul_comm]
    rw [this]
    unfold cmpI
    rw [if_neg (by omega), if_neg (by omega)]

/-- In one unit. -/
theorem v_self {m e u : Int} (h : okB m e u = true) : vN m e u u = m ∧ vD m e u u = e ∧ vR m e u u = true := by
  obtain ⟨h1, h2, h3, h4, h5, h6, h7⟩ := okB_true h
  obtain ⟨r1, r2, _, r4, _⟩ := turn_back (g := sz u) h rfl h (sz_pos u) (Int.mul_comm ..) (Int.mul_comm ..)
  exact ⟨r1, r2, r4⟩
theorem v_not {m e u t : Int} (h : okB m e u = false) : vR m e u t = false := by unfold vR vB; rw [h]; rfl

theorem add_comm' (n d m e u : Int) : aN m e u n d u = aN n d u m e u ∧ aD m e u n d u = aD n d u m e u ∧ aU m e u n d u = aU n d u m e u ∧ aR m e u n d u = aR n d u m e u := by
  cases h1 : okB n d u
  · have b1 : aB n d u m e u = false := by unfold aB; rw [h1]; rfl
    have b2 : aB m e u n d u = false := by unfold aB; rw [v_not h1]; simp
    obtain ⟨a1, a2, a3, a4⟩ := a_out b1
    obtain ⟨c1, c2, c3, c4⟩ := a_out b2
    exact ⟨by rw [a1, c1], by rw [a2, c2], by rw [a3, c3], by rw [a4, c4]⟩
  · cases h2 : okB m e u
    · have b1 : aB n d u m e u = false := by unfold aB; rw [v_not h2]; simp
      have b2 : aB m e u n d u = false := by unfold aB; rw [h2]; rfl
      obtain ⟨a1, a2, a3, a4⟩ := a_out b1
      obtain ⟨c1, c2, c3, c4⟩ := a_out b2
      exact ⟨by rw [a1, c1], by rw [a2, c2], by rw [a3, c3], by rw [a4, c4]⟩
    · obtain ⟨p1, p2, p3⟩ := v_self h1
      obtain ⟨q1, q2, q3⟩ := v_self h2
      have eX : aX m e u n d u = aX n d u m e u := by unfold aX; rw [p1, p2, q1, q2]; omega
      have eY : aY e u n d u = aY d u m e u := by unfold aY; rw [p2, q2]; exact Int.mul_comm ..
      have eB : aB m e u n d u = aB n d u m e u := by unfold aB; rw [h1, h2, p3, q3]
      unfold aN aD aU aR
      rw [eX, eY, eB]
      exact ⟨rfl, rfl, rfl, rfl⟩

/-- What is added is no less, and as much just where nothing was added. -/
theorem add_grows {n d m e u : Int} (h : aR n d u m e u = true) : ∃ c : Int, qC (aN n d u m e u) (aD n d u m e u) (aU n d u m e u) n d u = c ∧ (c = 0 ∧ m = 0 ∨ c = 1 ∧ m ≠ 0) := by
  have hB : aB n d u m e u = true := by unfold aR at h; cases q : aB n d u m e u <;> simp_all
  have hr : rB (aX n d u m e u) (aY d u m e u) u = true := by unfold aR at h; cases q : rB (aX n d u m e u) (aY d u m e u) u <;> simp_all
  have hB2 := hB
  unfold aB at hB2
  simp only [Bool.and_eq_true] at hB2
  obtain ⟨ho, hv⟩ := hB2
  obtain ⟨ho2, _⟩ := v_true hv
  obtain ⟨h1, h2, h3, h4, h5, h6, h7⟩ := okB_true ho
  obtain ⟨k1, k2, k3, k4, k5, k6, k7⟩ := okB_true ho2
  obtain ⟨q1, q2, q3⟩ := v_self ho2
  have eX : aX n d u m e u = n * e + m * d := by unfold aX; rw [q1, q2]
  have eY : aY d u m e u = d * e := by unfold aY; rw [q2]
  obtain ⟨a1, a2, a3, _⟩ := a_in hB
  rw [eX, eY] at a1 a2 a3 hr
  have hX : 0 ≤ n * e + m * d := by
    have := Int.mul_nonneg h1 (show 0 ≤ e by omega)
    have := Int.mul_nonneg k1 (show 0 ≤ d by omega)
    omega
  have hY : 1 ≤ d * e := by
    have := Int.mul_le_mul h3 k3 (by omega) (by omega)
    simpa using this
  obtain ⟨p, q, p0, q1', f1, f2, f3, f4, f5⟩ := parts (n * e + m * d) (d * e) hX hY
  obtain ⟨g1, g2, g3⟩ := r_some _ _ _ hr
  have hg := gc_pos (n * e + m * d) (d * e) (by omega)
  rw [f3] at g1
  rw [f4] at g2
  rw [a1, a2, a3, g1, g2, g3]
  unfold rB at hr
  rw [f3, f4] at hr
  have hq : qB p q u n d u = true := by unfold qB; rw [hr, ho]; simp
  refine ⟨_, rfl, ?_⟩
  unfold qC
  rw [if_pos hq]
  generalize gc (n * e + m * d) (d * e) = g at *
  have hs := sz_pos u
  generalize sz u = z at *
  -- g * (p * d - n * q) = m * d * d
  have key : g * (p * d) = g * (n * q) + m * (d * d) := by
    calc g * (p * d) = (g * p) * d := (Int.mul_assoc ..).symm
      _ = (n * e + m * d) * d := by rw [← f1]
      _ = n * (d * e) + m * (d * d) := by rw [Int.add_mul, Int.mul_assoc, Int.mul_comm e d, Int.mul_assoc]
      _ = n * (g * q) + m * (d * d) := by rw [← f2]
      _ = g * (n * q) + m * (d * d) := by rw [Int.mul_left_comm]
  have hdd : 1 ≤ d * d := by
    have := Int.mul_le_mul h3 h3 (by omega) (by omega)
    simpa using this
  have e1 : p * z * d = z * (p * d) := by rw [Int.mul_comm p z, Int.mul_assoc]
  have e2 : n * z * q = z * (n * q) := by rw [Int.mul_comm n z, Int.mul_assoc]
  rw [e1, e2]
  unfold cmpI
  by_cases hm : m = 0
  · subst hm
    have : p * d = n * q := Int.eq_of_mul_eq_mul_left (show g ≠ 0 by omega) (by rw [key]; simp)
    rw [this, if_neg (by omega), if_neg (by omega)]
    exact Or.inl ⟨rfl, rfl⟩
  · have hpos : 0 < m * (d * d) := Int.mul_pos (by omega) (by omega)
    have hlt : n * q < p * d := by
      refine Int.lt_of_mul_lt_mul_left (a := g) ?_ (by omega)
      omega
    have hlt2 : z * (n * q) < z * (p * d) := Int.mul_lt_mul_of_pos_left hlt (by omega)
    rw [if_neg (by omega), if_pos hlt2]
    exact Or.inr ⟨rfl, hm⟩
end Go.Proofs.Ytiopmlepdjiapaa
