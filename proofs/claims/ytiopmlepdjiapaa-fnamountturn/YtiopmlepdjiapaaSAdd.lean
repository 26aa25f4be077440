/-
  AddAmount: of the specification.
-/
import Derived.Test.YtiopmlepdjiapaaAdd
namespace Go.Proofs.Ytiopmlepdjiapaa
open Go.RowKit Am

set_option maxHeartbeats 2000000 in
theorem sadd_out1 (n d u m e v : Int) (w : World) (ho : okB n d u = false) :
    Calls Try.prog 13 #[.agg #[.int .i64 n, .int .i64 d, .int .i64 u], .agg #[.int .i64 m, .int .i64 e, .int .i64 v]] w fun r w' => r = .returned (.tuple #[.agg #[.int .i64 0, .int .i64 0, .int .i64 0], .bool false]) ∧ Below w.heap.size w w' := by
  go_enter Try.func13, Try.ntmps13
  go_wp2_with fail
  refine (sconv_any m e v u _).mono ?_
  rintro r w1 ⟨rfl, hb1⟩
  obtain ⟨hc1, hf1⟩ := bcell hb1
  have hz0 : w.heap.size < w1.heap.size := Nat.lt_of_lt_of_le (by first | omega | (simp; done) | (simp; omega)) hb1.size
  have hz1 : w.heap.size + 1 < w1.heap.size := Nat.lt_of_lt_of_le (by first | omega | (simp; done) | (simp; omega)) hb1.size
  have hz1' : w.heap.size + 1 + 1 < w1.heap.size := Nat.lt_of_lt_of_le (by first | omega | (simp; done) | (simp; omega)) hb1.size
  go_wp2_with fail
  refine (sok_any _ _ _ _).mono ?_
  rintro r w2 ⟨rfl, hb2⟩
  have hB2 := hop hb1 ((Below.refl _ _).alloc (Nat.le_refl _) _) hb2
  have hz2 : w1.heap.size < w2.heap.size := Nat.lt_of_lt_of_le (by first | omega | (simp; done) | (simp; omega)) hb2.size
  have hz3 : w.heap.size + 1 + 1 < w2.heap.size := by omega
  obtain ⟨hc2, hf2⟩ := bcell hb2
  obtain ⟨hc3, hf3⟩ := bcell hB2
  go_wp2
  exact bodyPost_ret (v := .tuple #[.agg #[.int .i64 0, .int .i64 0, .int .i64 0], .bool false]) (by simp [results, Try.results13, go_sem, hc3]) rfl
    ⟨rfl, (((onto ((((Below.refl _ _).alloc (Nat.le_refl _) _).alloc (by simp) _).alloc (by first | omega | (simp; done) | (simp; omega)) _) hB2).setCell (by first | omega | (simp; done) | (simp; omega)) _).setCell (by first | omega | (simp; done) | (simp; omega)) _).setCell (by first | omega | (simp; done) | (simp; omega)) _⟩

set_option maxHeartbeats 2000000 in
theorem sadd_out2 (n d u m e v : Int) (w : World) (ho : okB n d u = true) (hv : vR m e v u = false) :
    Calls Try.prog 13 #[.agg #[.int .i64 n, .int .i64 d, .int .i64 u], .agg #[.int .i64 m, .int .i64 e, .int .i64 v]] w fun r w' => r = .returned (.tuple #[.agg #[.int .i64 0, .int .i64 0, .int .i64 0], .bool false]) ∧ Below w.heap.size w w' := by
  go_enter Try.func13, Try.ntmps13
  go_wp2_with fail
  refine (sconv_any m e v u _).mono ?_
  rintro r w1 ⟨rfl, hb1⟩
  obtain ⟨hc1, hf1⟩ := bcell hb1
  have hz0 : w.heap.size < w1.heap.size := Nat.lt_of_lt_of_le (by first | omega | (simp; done) | (simp; omega)) hb1.size
  have hz1 : w.heap.size + 1 < w1.heap.size := Nat.lt_of_lt_of_le (by first | omega | (simp; done) | (simp; omega)) hb1.size
  have hz1' : w.heap.size + 1 + 1 < w1.heap.size := Nat.lt_of_lt_of_le (by first | omega | (simp; done) | (simp; omega)) hb1.size
  go_wp2_with fail
  refine (sok_any _ _ _ _).mono ?_
  rintro r w2 ⟨rfl, hb2⟩
  have hB2 := hop hb1 ((Below.refl _ _).alloc (Nat.le_refl _) _) hb2
  have hz2 : w1.heap.size < w2.heap.size := Nat.lt_of_lt_of_le (by first | omega | (simp; done) | (simp; omega)) hb2.size
  have hz3 : w.heap.size + 1 + 1 < w2.heap.size := by omega
  obtain ⟨hc2, hf2⟩ := bcell hb2
  obtain ⟨hc3, hf3⟩ := bcell hB2
  go_wp2
  exact bodyPost_ret (v := .tuple #[.agg #[.int .i64 0, .int .i64 0, .int .i64 0], .bool false]) (by simp [results, Try.results13, go_sem, hc3]) rfl
    ⟨rfl, (((onto ((((Below.refl _ _).alloc (Nat.le_refl _) _).alloc (by simp) _).alloc (by first | omega | (simp; done) | (simp; omega)) _) hB2).setCell (by first | omega | (simp; done) | (simp; omega)) _).setCell (by first | omega | (simp; done) | (simp; omega)) _).setCell (by first | omega | (simp; done) | (simp; omega)) _⟩

/-- The sum's steps, by name. -/
def s1 (n d m e : Int) : Int := sn n d m e / gc (sn n d m e) d
def st (n d m e : Int) : Int := d / gc (sn n d m e) d
theorem steps (n d m e : Int) (h1 : 0 ≤ n) (h2 : n ≤ 1000000000) (h3 : 1 ≤ d) (h4 : d ≤ 1000000000) (k1 : 0 ≤ m) (k2 : m ≤ 1000000000) (k3 : 1 ≤ e) (k4 : e ≤ 1000000000) :
    1 ≤ gc d e ∧ 1 ≤ e / gc d e ∧ e / gc d e ≤ 1000000000 ∧ 1 ≤ d / gc d e ∧ d / gc d e ≤ 1000000000 ∧
    0 ≤ n * (e / gc d e) ∧ n * (e / gc d e) ≤ 1000000000000000000 ∧ 0 ≤ m * (d / gc d e) ∧ m * (d / gc d e) ≤ 1000000000000000000 ∧
    0 ≤ sn n d m e ∧ sn n d m e ≤ 2000000000000000000 ∧ 1 ≤ gc (sn n d m e) d ∧ 0 ≤ s1 n d m e ∧ s1 n d m e ≤ 2000000000000000000 ∧
    1 ≤ st n d m e ∧ st n d m e ≤ 1000000000 ∧ 1 ≤ gc (s1 n d m e) (e / gc d e) ∧ 0 ≤ sp n d m e ∧ sp n d m e ≤ 2000000000000000000 ∧ 1 ≤ se n d m e ∧ se n d m e ≤ 1000000000 := by
  obtain ⟨a, b, a0, b1, e1, e2, ea, eb, _⟩ := parts d e (by omega) k3
  have a1 : 1 ≤ a := by
    rcases Int.lt_or_le 0 a with h | h
    · omega
    · have : a = 0 := by omega
      rw [this] at e1; simp at e1; omega
  have la : a ≤ d := by rw [← ea]; exact Int.ediv_le_self _ (by omega)
  have lb : b ≤ e := by rw [← eb]; exact Int.ediv_le_self _ (by omega)
  have g1 := gc_pos d e (by omega)
  have q1 : 0 ≤ n * b := Int.mul_nonneg h1 (by omega)
  have q2 : n * b ≤ 1000000000000000000 := by have := Int.mul_le_mul h2 (show b ≤ 1000000000 by omega) (by omega) (by omega); omega
  have q3 : 0 ≤ m * a := Int.mul_nonneg k1 (by omega)
  have q4 : m * a ≤ 1000000000000000000 := by have := Int.mul_le_mul k2 (show a ≤ 1000000000 by omega) (by omega) (by omega); omega
  have es : sn n d m e = n * b + m * a := by unfold sn; rw [ea, eb]
  have s0 : 0 ≤ sn n d m e := by omega
  have s2 : sn n d m e ≤ 2000000000000000000 := by omega
  have g2 := gc_pos (sn n d m e) d (by omega)
  obtain ⟨p0, _, w1, w2, _, _⟩ := sum_low n d m e h1 h3 k1 k3
  have r0 : 0 ≤ s1 n d m e := Int.ediv_nonneg s0 (by omega)
  have r1 : s1 n d m e ≤ sn n d m e := Int.ediv_le_self _ s0
  have r2 : st n d m e ≤ d := Int.ediv_le_self _ (by omega)
  have r3 : sp n d m e ≤ s1 n d m e := Int.ediv_le_self _ r0
  have g3 : 1 ≤ gc (s1 n d m e) (e / gc d e) := gc_pos _ _ (by omega)
  have r4 : se n d m e ≤ e / gc d e := Int.ediv_le_self _ (by omega)
  have w3 : 1 ≤ st n d m e := w2
  rw [ea, eb] at *
  refine ⟨g1, b1, by omega, a1, by omega, q1, q2, q3, q4, s0, s2, g2, r0, by omega, w3, by omega, g3, p0, by omega, w1, by omega⟩

set_option maxHeartbeats 4000000 in
theorem sadd_no1 (n d u m e v : Int) (w : World) (ho : okB n d u = true) (hv : vR m e v u = true) (c0 : 1000000000 < (sp n d (vN m e v u) (vD m e v u))) :
    Calls Try.prog 13 #[.agg #[.int .i64 n, .int .i64 d, .int .i64 u], .agg #[.int .i64 m, .int .i64 e, .int .i64 v]] w fun r w' => r = .returned (.tuple #[.agg #[.int .i64 0, .int .i64 0, .int .i64 0], .bool false]) ∧ Below w.heap.size w w' := by
  obtain ⟨h1, h2, h3, h4, _, _, h7⟩ := okB_true ho
  clear h7
  obtain ⟨k1, k2, k3, k4⟩ := v_bd hv
  obtain ⟨x1, x2, x3, x4, x5, x6, x7, x8, x9, y1, y2, y3, y4, y5, y6, y7, y8, y9, z1, z2, z3⟩ := steps n d (vN m e v u) (vD m e v u) h1 h2 h3 h4 k1 k2 k3 k4
  have e1 : (gc d (vD m e v u) == 0) = false := by simp; omega
  have e2 : (gc (sn n d (vN m e v u) (vD m e v u)) d == 0) = false := by simp; omega
  have e3 : (gc (s1 n d (vN m e v u) (vD m e v u)) ((vD m e v u) / gc d (vD m e v u)) == 0) = false := by simp; omega
  have e4 : ((se n d (vN m e v u) (vD m e v u)) == 0) = false := by simp; omega
  go_enter Try.func13, Try.ntmps13
  go_wp2_with fail
  refine (sconv_any m e v u _).mono ?_
  rintro r w1 ⟨rfl, hb1⟩
  obtain ⟨hc1, hf1⟩ := bcell hb1
  have hz0 : w.heap.size < w1.heap.size := Nat.lt_of_lt_of_le (by first | omega | (simp; done) | (simp; omega)) hb1.size
  have hz1 : w.heap.size + 1 < w1.heap.size := Nat.lt_of_lt_of_le (by first | omega | (simp; done) | (simp; omega)) hb1.size
  have hz1' : w.heap.size + 1 + 1 < w1.heap.size := Nat.lt_of_lt_of_le (by first | omega | (simp; done) | (simp; omega)) hb1.size
  go_wp2_with fail
  refine (sok_any _ _ _ _).mono ?_
  rintro r w2 ⟨rfl, hb2⟩
  have hB2 := hop hb1 ((Below.refl _ _).alloc (Nat.le_refl _) _) hb2
  have hz2 : w1.heap.size < w2.heap.size := Nat.lt_of_lt_of_le (by first | omega | (simp; done) | (simp; omega)) hb2.size
  have hz3 : w.heap.size + 1 + 1 < w2.heap.size := by omega
  obtain ⟨hc2, hf2⟩ := bcell hb2
  obtain ⟨hc3, hf3⟩ := bcell hB2
  go_wp2_with (go_at_call 33; refine (sgcd_any _ _ _ (by omega) (by omega) (by omega) (by omega)).mono ?_; rintro r w3 ⟨rfl, rfl⟩)
  go_quiet (fail)
  go_wp2_with fail
  rw [show n * ((vD m e v u) / gc d (vD m e v u)) + (vN m e v u) * (d / gc d (vD m e v u)) = (sn n d (vN m e v u) (vD m e v u)) from rfl]
  refine (sgcd_any (sn n d (vN m e v u) (vD m e v u)) d _ (by omega) (by omega) (by omega) (by omega)).mono ?_
  rintro r w4 ⟨rfl, rfl⟩
  go_wp2_with fail
  rw [show (sn n d (vN m e v u) (vD m e v u)) / gc (sn n d (vN m e v u) (vD m e v u)) d = (s1 n d (vN m e v u) (vD m e v u)) from rfl, show d / gc (sn n d (vN m e v u) (vD m e v u)) d = (st n d (vN m e v u) (vD m e v u)) from rfl]
  refine (sgcd_any (s1 n d (vN m e v u) (vD m e v u)) ((vD m e v u) / gc d (vD m e v u)) _ (by omega) (by omega) (by omega) (by omega)).mono ?_
  rintro r w5 ⟨rfl, rfl⟩
  have y9r : 0 ≤ (s1 n d (vN m e v u) (vD m e v u)) / gc (s1 n d (vN m e v u) (vD m e v u)) ((vD m e v u) / gc d (vD m e v u)) := y9
  have z1r : (s1 n d (vN m e v u) (vD m e v u)) / gc (s1 n d (vN m e v u) (vD m e v u)) ((vD m e v u) / gc d (vD m e v u)) ≤ 2000000000000000000 := z1
  have z2r : 1 ≤ ((vD m e v u) / gc d (vD m e v u)) / gc (s1 n d (vN m e v u) (vD m e v u)) ((vD m e v u) / gc d (vD m e v u)) := z2
  have z3r : ((vD m e v u) / gc d (vD m e v u)) / gc (s1 n d (vN m e v u) (vD m e v u)) ((vD m e v u) / gc d (vD m e v u)) ≤ 1000000000 := z3
  have e4r : (((vD m e v u) / gc d (vD m e v u)) / gc (s1 n d (vN m e v u) (vD m e v u)) ((vD m e v u) / gc d (vD m e v u)) == 0) = false := e4
  have f1 : 0 ≤ 1000000000 / (((vD m e v u) / gc d (vD m e v u)) / gc (s1 n d (vN m e v u) (vD m e v u)) ((vD m e v u) / gc d (vD m e v u))) := Int.ediv_nonneg (by omega) (by omega)
  have f2 : 1000000000 / (((vD m e v u) / gc d (vD m e v u)) / gc (s1 n d (vN m e v u) (vD m e v u)) ((vD m e v u) / gc d (vD m e v u))) ≤ 1000000000 := Int.ediv_le_self _ (by omega)
  have c1 : 1000000000 < (s1 n d (vN m e v u) (vD m e v u)) / gc (s1 n d (vN m e v u) (vD m e v u)) ((vD m e v u) / gc d (vD m e v u)) := c0
  go_wp2
  exact bodyPost_ret (v := .tuple #[.agg #[.int .i64 0, .int .i64 0, .int .i64 0], .bool false]) (by simp [results, Try.results13, go_sem, hc3]) rfl
    ⟨rfl, (((onto ((((Below.refl _ _).alloc (Nat.le_refl _) _).alloc (by simp) _).alloc (by first | omega | (simp; done) | (simp; omega)) _) (below_drewN hB2 _)).setCell (by first | omega | (simp; done) | (simp; omega)) _).setCell (by first | omega | (simp; done) | (simp; omega)) _).setCell (by first | omega | (simp; done) | (simp; omega)) _⟩

set_option maxHeartbeats 4000000 in
theorem sadd_no2 (n d u m e v : Int) (w : World) (ho : okB n d u = true) (hv : vR m e v u = true) (c0 : (sp n d (vN m e v u) (vD m e v u)) ≤ 1000000000) (d0 : 1000000000 / (se n d (vN m e v u) (vD m e v u)) < (st n d (vN m e v u) (vD m e v u))) :
    Calls Try.prog 13 #[.agg #[.int .i64 n, .int .i64 d, .int .i64 u], .agg #[.int .i64 m, .int .i64 e, .int .i64 v]] w fun r w' => r = .returned (.tuple #[.agg #[.int .i64 0, .int .i64 0, .int .i64 0], .bool false]) ∧ Below w.heap.size w w' := by
  obtain ⟨h1, h2, h3, h4, _, _, h7⟩ := okB_true ho
  clear h7
  obtain ⟨k1, k2, k3, k4⟩ := v_bd hv
  obtain ⟨x1, x2, x3, x4, x5, x6, x7, x8, x9, y1, y2, y3, y4, y5, y6, y7, y8, y9, z1, z2, z3⟩ := steps n d (vN m e v u) (vD m e v u) h1 h2 h3 h4 k1 k2 k3 k4
  have e1 : (gc d (vD m e v u) == 0) = false := by simp; omega
  have e2 : (gc (sn n d (vN m e v u) (vD m e v u)) d == 0) = false := by simp; omega
  have e3 : (gc (s1 n d (vN m e v u) (vD m e v u)) ((vD m e v u) / gc d (vD m e v u)) == 0) = false := by simp; omega
  have e4 : ((se n d (vN m e v u) (vD m e v u)) == 0) = false := by simp; omega
  go_enter Try.func13, Try.ntmps13
  go_wp2_with fail
  refine (sconv_any m e v u _).mono ?_
  rintro r w1 ⟨rfl, hb1⟩
  obtain ⟨hc1, hf1⟩ := bcell hb1
  have hz0 : w.heap.size < w1.heap.size := Nat.lt_of_lt_of_le (by first | omega | (simp; done) | (simp; omega)) hb1.size
  have hz1 : w.heap.size + 1 < w1.heap.size := Nat.lt_of_lt_of_le (by first | omega | (simp; done) | (simp; omega)) hb1.size
  have hz1' : w.heap.size + 1 + 1 < w1.heap.size := Nat.lt_of_lt_of_le (by first | omega | (simp; done) | (simp; omega)) hb1.size
  go_wp2_with fail
  refine (sok_any _ _ _ _).mono ?_
  rintro r w2 ⟨rfl, hb2⟩
  have hB2 := hop hb1 ((Below.refl _ _).alloc (Nat.le_refl _) _) hb2
  have hz2 : w1.heap.size < w2.heap.size := Nat.lt_of_lt_of_le (by first | omega | (simp; done) | (simp; omega)) hb2.size
  have hz3 : w.heap.size + 1 + 1 < w2.heap.size := by omega
  obtain ⟨hc2, hf2⟩ := bcell hb2
  obtain ⟨hc3, hf3⟩ := bcell hB2
  go_wp2_with (go_at_call 33; refine (sgcd_any _ _ _ (by omega) (by omega) (by omega) (by omega)).mono ?_; rintro r w3 ⟨rfl, rfl⟩)
  go_quiet (fail)
  go_wp2_with fail
  rw [show n * ((vD m e v u) / gc d (vD m e v u)) + (vN m e v u) * (d / gc d (vD m e v u)) = (sn n d (vN m e v u) (vD m e v u)) from rfl]
  refine (sgcd_any (sn n d (vN m e v u) (vD m e v u)) d _ (by omega) (by omega) (by omega) (by omega)).mono ?_
  rintro r w4 ⟨rfl, rfl⟩
  go_wp2_with fail
  rw [show (sn n d (vN m e v u) (vD m e v u)) / gc (sn n d (vN m e v u) (vD m e v u)) d = (s1 n d (vN m e v u) (vD m e v u)) from rfl, show d / gc (sn n d (vN m e v u) (vD m e v u)) d = (st n d (vN m e v u) (vD m e v u)) from rfl]
  refine (sgcd_any (s1 n d (vN m e v u) (vD m e v u)) ((vD m e v u) / gc d (vD m e v u)) _ (by omega) (by omega) (by omega) (by omega)).mono ?_
  rintro r w5 ⟨rfl, rfl⟩
  have y9r : 0 ≤ (s1 n d (vN m e v u) (vD m e v u)) / gc (s1 n d (vN m e v u) (vD m e v u)) ((vD m e v u) / gc d (vD m e v u)) := y9
  have z1r : (s1 n d (vN m e v u) (vD m e v u)) / gc (s1 n d (vN m e v u) (vD m e v u)) ((vD m e v u) / gc d (vD m e v u)) ≤ 2000000000000000000 := z1
  have z2r : 1 ≤ ((vD m e v u) / gc d (vD m e v u)) / gc (s1 n d (vN m e v u) (vD m e v u)) ((vD m e v u) / gc d (vD m e v u)) := z2
  have z3r : ((vD m e v u) / gc d (vD m e v u)) / gc (s1 n d (vN m e v u) (vD m e v u)) ((vD m e v u) / gc d (vD m e v u)) ≤ 1000000000 := z3
  have e4r : (((vD m e v u) / gc d (vD m e v u)) / gc (s1 n d (vN m e v u) (vD m e v u)) ((vD m e v u) / gc d (vD m e v u)) == 0) = false := e4
  have f1 : 0 ≤ 1000000000 / (((vD m e v u) / gc d (vD m e v u)) / gc (s1 n d (vN m e v u) (vD m e v u)) ((vD m e v u) / gc d (vD m e v u))) := Int.ediv_nonneg (by omega) (by omega)
  have f2 : 1000000000 / (((vD m e v u) / gc d (vD m e v u)) / gc (s1 n d (vN m e v u) (vD m e v u)) ((vD m e v u) / gc d (vD m e v u))) ≤ 1000000000 := Int.ediv_le_self _ (by omega)
  have c1 : (s1 n d (vN m e v u) (vD m e v u)) / gc (s1 n d (vN m e v u) (vD m e v u)) ((vD m e v u) / gc d (vD m e v u)) ≤ 1000000000 := c0
  have c2 : 1000000000 / (((vD m e v u) / gc d (vD m e v u)) / gc (s1 n d (vN m e v u) (vD m e v u)) ((vD m e v u) / gc d (vD m e v u))) < (st n d (vN m e v u) (vD m e v u)) := d0
  go_wp2
  exact bodyPost_ret (v := .tuple #[.agg #[.int .i64 0, .int .i64 0, .int .i64 0], .bool false]) (by simp [results, Try.results13, go_sem, hc3]) rfl
    ⟨rfl, (((onto ((((Below.refl _ _).alloc (Nat.le_refl _) _).alloc (by simp) _).alloc (by first | omega | (simp; done) | (simp; omega)) _) (below_drewN hB2 _)).setCell (by first | omega | (simp; done) | (simp; omega)) _).setCell (by first | omega | (simp; done) | (simp; omega)) _).setCell (by first | omega | (simp; done) | (simp; omega)) _⟩

set_option maxHeartbeats 4000000 in
theorem sadd_yes (n d u m e v : Int) (w : World) (ho : okB n d u = true) (hv : vR m e v u = true) (c0 : (sp n d (vN m e v u) (vD m e v u)) ≤ 1000000000) (d0 : (st n d (vN m e v u) (vD m e v u)) ≤ 1000000000 / (se n d (vN m e v u) (vD m e v u))) :
    Calls Try.prog 13 #[.agg #[.int .i64 n, .int .i64 d, .int .i64 u], .agg #[.int .i64 m, .int .i64 e, .int .i64 v]] w fun r w' => r = .returned (.tuple #[.agg #[.int .i64 (mN (sp n d (vN m e v u) (vD m e v u)) ((st n d (vN m e v u) (vD m e v u)) * (se n d (vN m e v u) (vD m e v u))) u), .int .i64 (mD (sp n d (vN m e v u) (vD m e v u)) ((st n d (vN m e v u) (vD m e v u)) * (se n d (vN m e v u) (vD m e v u))) u), .int .i64 (mU (sp n d (vN m e v u) (vD m e v u)) ((st n d (vN m e v u) (vD m e v u)) * (se n d (vN m e v u) (vD m e v u))) u)], .bool (mB (sp n d (vN m e v u) (vD m e v u)) ((st n d (vN m e v u) (vD m e v u)) * (se n d (vN m e v u) (vD m e v u))) u)]) ∧ Below w.heap.size w w' := by
  obtain ⟨h1, h2, h3, h4, _, _, h7⟩ := okB_true ho
  clear h7
  obtain ⟨k1, k2, k3, k4⟩ := v_bd hv
  obtain ⟨x1, x2, x3, x4, x5, x6, x7, x8, x9, y1, y2, y3, y4, y5, y6, y7, y8, y9, z1, z2, z3⟩ := steps n d (vN m e v u) (vD m e v u) h1 h2 h3 h4 k1 k2 k3 k4
  have e1 : (gc d (vD m e v u) == 0) = false := by simp; omega
  have e2 : (gc (sn n d (vN m e v u) (vD m e v u)) d == 0) = false := by simp; omega
  have e3 : (gc (s1 n d (vN m e v u) (vD m e v u)) ((vD m e v u) / gc d (vD m e v u)) == 0) = false := by simp; omega
  have e4 : ((se n d (vN m e v u) (vD m e v u)) == 0) = false := by simp; omega
  go_enter Try.func13, Try.ntmps13
  go_wp2_with fail
  refine (sconv_any m e v u _).mono ?_
  rintro r w1 ⟨rfl, hb1⟩
  obtain ⟨hc1, hf1⟩ := bcell hb1
  have hz0 : w.heap.size < w1.heap.size := Nat.lt_of_lt_of_le (by first | omega | (simp; done) | (simp; omega)) hb1.size
  have hz1 : w.heap.size + 1 < w1.heap.size := Nat.lt_of_lt_of_le (by first | omega | (simp; done) | (simp; omega)) hb1.size
  have hz1' : w.heap.size + 1 + 1 < w1.heap.size := Nat.lt_of_lt_of_le (by first | omega | (simp; done) | (simp; omega)) hb1.size
  go_wp2_with fail
  refine (sok_any _ _ _ _).mono ?_
  rintro r w2 ⟨rfl, hb2⟩
  have hB2 := hop hb1 ((Below.refl _ _).alloc (Nat.le_refl _) _) hb2
  have hz2 : w1.heap.size < w2.heap.size := Nat.lt_of_lt_of_le (by first | omega | (simp; done) | (simp; omega)) hb2.size
  have hz3 : w.heap.size + 1 + 1 < w2.heap.size := by omega
  obtain ⟨hc2, hf2⟩ := bcell hb2
  obtain ⟨hc3, hf3⟩ := bcell hB2
  go_wp2_with (go_at_call 33; refine (sgcd_any _ _ _ (by omega) (by omega) (by omega) (by omega)).mono ?_; rintro r w3 ⟨rfl, rfl⟩)
  go_quiet (fail)
  go_wp2_with fail
  rw [show n * ((vD m e v u) / gc d (vD m e v u)) + (vN m e v u) * (d / gc d (vD m e v u)) = (sn n d (vN m e v u) (vD m e v u)) from rfl]
  refine (sgcd_any (sn n d (vN m e v u) (vD m e v u)) d _ (by omega) (by omega) (by omega) (by omega)).mono ?_
  rintro r w4 ⟨rfl, rfl⟩
  go_wp2_with fail
  rw [show (sn n d (vN m e v u) (vD m e v u)) / gc (sn n d (vN m e v u) (vD m e v u)) d = (s1 n d (vN m e v u) (vD m e v u)) from rfl, show d / gc (sn n d (vN m e v u) (vD m e v u)) d = (st n d (vN m e v u) (vD m e v u)) from rfl]
  refine (sgcd_any (s1 n d (vN m e v u) (vD m e v u)) ((vD m e v u) / gc d (vD m e v u)) _ (by omega) (by omega) (by omega) (by omega)).mono ?_
  rintro r w5 ⟨rfl, rfl⟩
  have y9r : 0 ≤ (s1 n d (vN m e v u) (vD m e v u)) / gc (s1 n d (vN m e v u) (vD m e v u)) ((vD m e v u) / gc d (vD m e v u)) := y9
  have z1r : (s1 n d (vN m e v u) (vD m e v u)) / gc (s1 n d (vN m e v u) (vD m e v u)) ((vD m e v u) / gc d (vD m e v u)) ≤ 2000000000000000000 := z1
  have z2r : 1 ≤ ((vD m e v u) / gc d (vD m e v u)) / gc (s1 n d (vN m e v u) (vD m e v u)) ((vD m e v u) / gc d (vD m e v u)) := z2
  have z3r : ((vD m e v u) / gc d (vD m e v u)) / gc (s1 n d (vN m e v u) (vD m e v u)) ((vD m e v u) / gc d (vD m e v u)) ≤ 1000000000 := z3
  have e4r : (((vD m e v u) / gc d (vD m e v u)) / gc (s1 n d (vN m e v u) (vD m e v u)) ((vD m e v u) / gc d (vD m e v u)) == 0) = false := e4
  have f1 : 0 ≤ 1000000000 / (((vD m e v u) / gc d (vD m e v u)) / gc (s1 n d (vN m e v u) (vD m e v u)) ((vD m e v u) / gc d (vD m e v u))) := Int.ediv_nonneg (by omega) (by omega)
  have f2 : 1000000000 / (((vD m e v u) / gc d (vD m e v u)) / gc (s1 n d (vN m e v u) (vD m e v u)) ((vD m e v u) / gc d (vD m e v u))) ≤ 1000000000 := Int.ediv_le_self _ (by omega)
  have c1 : (s1 n d (vN m e v u) (vD m e v u)) / gc (s1 n d (vN m e v u) (vD m e v u)) ((vD m e v u) / gc d (vD m e v u)) ≤ 1000000000 := c0
  have c2 : (st n d (vN m e v u) (vD m e v u)) ≤ 1000000000 / (((vD m e v u) / gc d (vD m e v u)) / gc (s1 n d (vN m e v u) (vD m e v u)) ((vD m e v u) / gc d (vD m e v u))) := d0
  have g1 : (st n d (vN m e v u) (vD m e v u)) * (se n d (vN m e v u) (vD m e v u)) ≤ 1000000000 := (Int.le_ediv_iff_mul_le (by omega)).1 d0
  have g0 : 0 ≤ (st n d (vN m e v u) (vD m e v u)) * (se n d (vN m e v u) (vD m e v u)) := Int.mul_nonneg (by omega) (by omega)
  go_wp2_with fail
  have r1 : IntKind.i64.wrap (((s1 n d (vN m e v u) (vD m e v u))).tdiv (gc (s1 n d (vN m e v u) (vD m e v u)) ((vD m e v u) / gc d (vD m e v u)))) = (sp n d (vN m e v u) (vD m e v u)) := IntWalk.i64_quo _ _ (by omega)
  have r2 : IntKind.i64.wrap ((((vD m e v u) / gc d (vD m e v u))).tdiv (gc (s1 n d (vN m e v u) (vD m e v u)) ((vD m e v u) / gc d (vD m e v u)))) = (se n d (vN m e v u) (vD m e v u)) := IntWalk.i64_quo _ _ (by omega)
  have r3 : IntKind.i64.wrap ((st n d (vN m e v u) (vD m e v u)) * (se n d (vN m e v u) (vD m e v u))) = (st n d (vN m e v u) (vD m e v u)) * (se n d (vN m e v u) (vD m e v u)) := IntWalk.i64_in _ (by omega)
  go_region_held3 (fun w' => w'.cell? ⟨w.heap.size, 0, none⟩ = some (.int .i64 n) ∧ w'.cell? ⟨w.heap.size, 1, none⟩ = some (.int .i64 d) ∧ w'.cell? ⟨w.heap.size, 2, none⟩ = some (.int .i64 u)) (first | (refine keep3 (by assumption) ?_ (by assumption); first | (simp; done) | (simp; omega) | omega) | simp [*, go_sem, lt2, lt3])
    ((go_at_call 34; refine (smake_any _ _ _ _).mono ?_; rintro r w6 ⟨rfl, hb6⟩; obtain ⟨hc6, hf6⟩ := bcell (hop hB2 (below_drewN (Below.refl _ _) _) hb6)))
  have hB := hop hB2 (below_drewN (Below.refl _ _) _) hb6
  go_wp2
  exact bodyPost_ret (v := .tuple #[.agg #[.int .i64 (mN (sp n d (vN m e v u) (vD m e v u)) ((st n d (vN m e v u) (vD m e v u)) * (se n d (vN m e v u) (vD m e v u))) u), .int .i64 (mD (sp n d (vN m e v u) (vD m e v u)) ((st n d (vN m e v u) (vD m e v u)) * (se n d (vN m e v u) (vD m e v u))) u), .int .i64 (mU (sp n d (vN m e v u) (vD m e v u)) ((st n d (vN m e v u) (vD m e v u)) * (se n d (vN m e v u) (vD m e v u))) u)], .bool (mB (sp n d (vN m e v u) (vD m e v u)) ((st n d (vN m e v u) (vD m e v u)) * (se n d (vN m e v u) (vD m e v u))) u)]) (by simp [results, Try.results13, go_sem, hc6]) rfl
    ⟨rfl, (((onto ((((Below.refl _ _).alloc (Nat.le_refl _) _).alloc (by simp) _).alloc (by first | omega | (simp; done) | (simp; omega)) _) hB).setCell (by first | omega | (simp; done) | (simp; omega)) _).setCell (by first | omega | (simp; done) | (simp; omega)) _).setCell (by first | omega | (simp; done) | (simp; omega)) _⟩

theorem sadd_any (n d u m e v : Int) (w : World) :
    Calls Try.prog 13 #[.agg #[.int .i64 n, .int .i64 d, .int .i64 u], .agg #[.int .i64 m, .int .i64 e, .int .i64 v]] w fun r w' => r = .returned (.tuple #[.agg #[.int .i64 (aN n d u m e v), .int .i64 (aD n d u m e v), .int .i64 (aU n d u m e v)], .bool (aR n d u m e v)]) ∧ Below w.heap.size w w' := by
  cases h : aB n d u m e v
  · obtain ⟨e1, e2, e3, e4⟩ := a_out h
    rw [e1, e2, e3, e4]
    cases ho : okB n d u
    · exact sadd_out1 n d u m e v w ho
    · exact sadd_out2 n d u m e v w ho (by unfold aB at h; simpa [ho] using h)
  · obtain ⟨e1, e2, e3, e4⟩ := a_in h
    rw [e1, e2, e3, e4]
    unfold aB at h
    simp at h
    obtain ⟨ho, hv⟩ := h
    obtain ⟨h1, h2, h3, h4, _, _, _⟩ := okB_true ho
    obtain ⟨k1, k2, k3, k4⟩ := v_bd hv
    obtain ⟨p0, q1, q2, q3, co, _⟩ := sum_low n d (vN m e v u) (vD m e v u) h1 h3 k1 k3
    obtain ⟨f1, f2, f3, f4⟩ := sum_r n d (vN m e v u) (vD m e v u) u h1 h3 k1 k3
    have hq : (st n d (vN m e v u) (vD m e v u)) * (se n d (vN m e v u) (vD m e v u)) = sq n d (vN m e v u) (vD m e v u) := rfl
    by_cases c0 : 1000000000 < (sp n d (vN m e v u) (vD m e v u))
    · have hn : rB (aX n d u m e v) (aY d u m e v) u = false := by
        refine Eq.trans f1 (okB_not ?_); omega
      obtain ⟨g1, g2, g3⟩ := r_none _ _ _ hn
      rw [g1, g2, g3, hn]
      exact sadd_no1 n d u m e v w ho hv c0
    by_cases d0 : 1000000000 / (se n d (vN m e v u) (vD m e v u)) < (st n d (vN m e v u) (vD m e v u))
    · have hn : rB (aX n d u m e v) (aY d u m e v) u = false := by
        refine Eq.trans f1 (okB_not ?_)
        have : ¬ (st n d (vN m e v u) (vD m e v u)) * (se n d (vN m e v u) (vD m e v u)) ≤ 1000000000 := fun l => by
          have := (Int.le_ediv_iff_mul_le (by omega)).2 l
          omega
        omega
      obtain ⟨g1, g2, g3⟩ := r_none _ _ _ hn
      rw [g1, g2, g3, hn]
      exact sadd_no2 n d u m e v w ho hv (by omega) d0
    have l : (st n d (vN m e v u) (vD m e v u)) * (se n d (vN m e v u) (vD m e v u)) ≤ 1000000000 := (Int.le_ediv_iff_mul_le (by omega)).1 (by omega)
    obtain ⟨g1, g2, g3, g4⟩ := m_in (sp n d (vN m e v u) (vD m e v u)) ((st n d (vN m e v u) (vD m e v u)) * (se n d (vN m e v u) (vD m e v u))) u (by omega)
    have t1 : rN (aX n d u m e v) (aY d u m e v) u = mN (sp n d (vN m e v u) (vD m e v u)) ((st n d (vN m e v u) (vD m e v u)) * (se n d (vN m e v u) (vD m e v u))) u := by rw [g1, hq]; exact f2
    have t2 : rD (aX n d u m e v) (aY d u m e v) u = mD (sp n d (vN m e v u) (vD m e v u)) ((st n d (vN m e v u) (vD m e v u)) * (se n d (vN m e v u) (vD m e v u))) u := by rw [g2, hq]; exact f3
    have t3 : rU (aX n d u m e v) (aY d u m e v) u = mU (sp n d (vN m e v u) (vD m e v u)) ((st n d (vN m e v u) (vD m e v u)) * (se n d (vN m e v u) (vD m e v u))) u := by rw [g3, hq]; exact f4
    have t4 : rB (aX n d u m e v) (aY d u m e v) u = mB (sp n d (vN m e v u) (vD m e v u)) ((st n d (vN m e v u) (vD m e v u)) * (se n d (vN m e v u) (vD m e v u))) u := by rw [g4, hq]; rw [low_self _ _ _ co]; exact f1
    rw [t1, t2, t3, t4]
    exact sadd_yes n d u m e v w ho hv (by omega) (by omega)
end Go.Proofs.Ytiopmlepdjiapaa
