/-
  Convert: of the specification, at every argument: as the program's.
-/
import Derived.Test.YtiopmlepdjiapaaSConv
namespace Go.Proofs.Ytiopmlepdjiapaa
open Go.RowKit Am

theorem p3_sz (u t : Int) (h : 1 ≤ u ∧ u ≤ 7) (hk : kd u = kd t) : p3 (u - t).toNat * sz t = sz u * p3 (t - u).toNat ∧ u ≤ t + 2 ∧ t ≤ u + 2 := by
  have ht : 1 ≤ t ∧ t ≤ 7 := by
    have h1 := kd_in h
    rw [hk] at h1
    by_cases q : 1 ≤ t ∧ t ≤ 7
    · exact q
    · rw [kd_out q] at h1; cases h1
  have hu' : u = 1 ∨ u = 2 ∨ u = 3 ∨ u = 4 ∨ u = 5 ∨ u = 6 ∨ u = 7 := by omega
  have ht' : t = 1 ∨ t = 2 ∨ t = 3 ∨ t = 4 ∨ t = 5 ∨ t = 6 ∨ t = 7 := by omega
  rcases hu' with rfl | rfl | rfl | rfl | rfl | rfl | rfl <;> rcases ht' with rfl | rfl | rfl | rfl | rfl | rfl | rfl <;> first | (exfalso; revert hk; decide) | decide

theorem sconv_any (n d u t : Int) (w : World) :
    Calls Try.prog 8 #[.agg #[.int .i64 n, .int .i64 d, .int .i64 u], .int .i64 t] w fun r w' => r = .returned (.tuple #[.agg #[.int .i64 (vN n d u t), .int .i64 (vD n d u t), .int .i64 (vU n d u t)], .bool (vR n d u t)]) ∧ Below w.heap.size w w' := by
  cases h : vB n d u t
  · obtain ⟨e1, e2, e3, e4⟩ := v_out h
    rw [e1, e2, e3, e4]
    cases ho : okB n d u
    · exact sconv_out1 n d u t w ho
    · have hk : ¬ kd u = kd t := by unfold vB at h; simpa [ho] using h
      obtain ⟨_, _, _, _, h5, h6, _⟩ := okB_true ho
      have q := kd_sk u t ⟨h5, h6⟩
      by_cases g : sk t < 0
      · exact sconv_out2 n d u t w ho (decide_eq_true g)
      · refine sconv_out3 n d u t w ho (decide_eq_false g) ?_
        rw [bne_iff_ne]
        intro e
        exact hk (q.2 ⟨by omega, e⟩)
  · obtain ⟨e1, e2, e3, e4⟩ := v_in h
    rw [e1, e2, e3, e4]
    obtain ⟨ho, hk⟩ := vB_true h
    obtain ⟨h1, h2, h3, h4, h5, h6, _⟩ := okB_true ho
    obtain ⟨q, l1, l2⟩ := p3_sz u t ⟨h5, h6⟩ hk
    obtain ⟨q1, q2⟩ := (kd_sk u t ⟨h5, h6⟩).1 hk
    obtain ⟨s1, s2⟩ := sz_bd u
    obtain ⟨s3, s4⟩ := sz_bd t
    obtain ⟨b1, b2⟩ := p3_bd (u - t).toNat (by omega)
    obtain ⟨b3, b4⟩ := p3_bd (t - u).toNat (by omega)
    have t2 : 0 ≤ n * sz u := Int.mul_nonneg h1 (by omega)
    have t4 : 1 ≤ d * sz t := by have := Int.mul_le_mul h3 s3 (by omega) (by omega); omega
    have t6 : 0 ≤ n * p3 (u - t).toNat := Int.mul_nonneg h1 (by omega)
    have t8 : 1 ≤ d * p3 (t - u).toNat := by have := Int.mul_le_mul h3 b3 (by omega) (by omega); omega
    have e : n * p3 (u - t).toNat * (d * sz t) = n * sz u * (d * p3 (t - u).toNat) := by
      have : n * p3 (u - t).toNat * (d * sz t) = n * d * (p3 (u - t).toNat * sz t) := by ac_rfl
      rw [this, q]
      ac_rfl
    obtain ⟨r1, r2, r3, r4⟩ := r_congr _ _ _ _ t t6 t8 t2 t4 e
    rw [← r1, ← r2, ← r3, ← r4]
    exact sconv_in0 n d u t w ho (decide_eq_false (by omega)) (by simpa using q2) l1 l2
end Go.Proofs.Ytiopmlepdjiapaa
