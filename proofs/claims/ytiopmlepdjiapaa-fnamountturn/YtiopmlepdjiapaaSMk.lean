/-
  The specification's MakeAmount and its product reduced crosswise.
-/
import Derived.Test.YtiopmlepdjiapaaMk
namespace Go.Proofs.Ytiopmlepdjiapaa
open Go.RowKit Am

set_option maxHeartbeats 1000000 in
theorem smake_no (n d u : Int) (w : World) (h : ¬ (0 ≤ n ∧ n ≤ 1000000000000000000 ∧ 1 ≤ d ∧ d ≤ 1000000000000000000)) :
    Calls Try.prog 34 #[.int .i64 n, .int .i64 d, .int .i64 u] w fun e w' => e = .returned (.tuple #[.agg #[.int .i64 0, .int .i64 0, .int .i64 0], .bool false]) ∧ Below w.heap.size w w' := by
  by_cases h1 : n < 0 ∨ 1000000000000000000 < n
  · clear h
    go_enter Try.func34, Try.ntmps34
    go_wp2_with (go_at_call 42; refine (in_no _ _ _ _ (by omega)).mono ?_; rintro e w' ⟨rfl, rfl⟩)
    exact bodyPost_ret (v := .tuple #[.agg #[.int .i64 0, .int .i64 0, .int .i64 0], .bool false]) (by simp [results, Try.results34, go_sem]) rfl
      ⟨rfl, by repeat (first | exact Below.refl _ _ | refine Below.setCell ?_ (by simp) _ | refine Below.alloc ?_ (by simp) _)⟩
  · have h2 : d < 1 ∨ 1000000000000000000 < d := by omega
    clear h
    go_enter Try.func34, Try.ntmps34
    go_wp2_with fail
    refine (in_yes _ _ _ _ (by omega) (by omega)).mono ?_; rintro e w' ⟨rfl, rfl⟩
    go_wp2_with (go_at_call 42; refine (in_no _ _ _ _ (by omega)).mono ?_; rintro e w' ⟨rfl, rfl⟩)
    exact bodyPost_ret (v := .tuple #[.agg #[.int .i64 0, .int .i64 0, .int .i64 0], .bool false]) (by simp [results, Try.results34, go_sem]) rfl
      ⟨rfl, by repeat (first | exact Below.refl _ _ | refine Below.setCell ?_ (by simp) _ | refine Below.alloc ?_ (by simp) _)⟩

set_option maxHeartbeats 1000000 in
theorem smake_in (n d u : Int) (w : World) (h1 : 0 ≤ n) (h2 : n ≤ 1000000000000000000) (h3 : 1 ≤ d) (h4 : d ≤ 1000000000000000000) (b : Bool) (hr : rB n d u = b) :
    Calls Try.prog 34 #[.int .i64 n, .int .i64 d, .int .i64 u] w fun e w' => e = .returned (.tuple #[.agg #[.int .i64 (rN n d u), .int .i64 (rD n d u), .int .i64 (rU n d u)], .bool (rB n d u)]) ∧ Below w.heap.size w w' := by
  have ho : okB (n / gc n d) (d / gc n d) u = b := hr
  have g1 := gc_pos n d (by omega)
  have g2 : (gc n d == 0) = false := by simp; omega
  have q1 : n / gc n d ≤ n := Int.ediv_le_self _ h1
  have q2 : d / gc n d ≤ d := Int.ediv_le_self _ (by omega)
  have q3 : 0 ≤ n / gc n d := Int.ediv_nonneg h1 (by omega)
  have q4 : 0 ≤ d / gc n d := Int.ediv_nonneg (by omega) (by omega)
  cases b
  · obtain ⟨e1, e2, e3⟩ := r_none n d u hr
    rw [e1, e2, e3, hr]
    clear hr e1 e2 e3
    go_enter Try.func34, Try.ntmps34
    go_wp2_with (first | (go_at_call 42; refine (in_yes _ _ _ _ (by omega) (by omega)).mono ?_; rintro e w' ⟨rfl, rfl⟩) | (go_at_call 33; refine (sgcd_any _ _ _ (by omega) (by omega) (by omega) (by omega)).mono ?_; rintro e w' ⟨rfl, rfl⟩))
    go_region
    go_wp2_with fail
    refine (sok_any _ _ _ _).mono ?_
    rintro e w2 ⟨rfl, hb⟩
    obtain ⟨hc, hf⟩ := bcell hb
    have hz := hb.size
    simp at hz
    go_wp2
    exact bodyPost_ret (v := .tuple #[.agg #[.int .i64 0, .int .i64 0, .int .i64 0], .bool false]) (by simp [results, Try.results34, go_sem, hc, lt2]) rfl
      ⟨rfl, (((onto (by repeat (first | exact Below.refl _ _ | refine below_drewN ?_ _ | refine Below.drew ?_ | refine Below.setCell ?_ (by simp) _ | refine Below.alloc ?_ (by simp) _)) hb).setCell (by simp) _).setCell (by simp) _).setCell (by simp) _⟩
  · obtain ⟨e1, e2, e3⟩ := r_some n d u hr
    rw [e1, e2, e3, hr]
    clear hr e1 e2 e3
    go_enter Try.func34, Try.ntmps34
    go_wp2_with (first | (go_at_call 42; refine (in_yes _ _ _ _ (by omega) (by omega)).mono ?_; rintro e w' ⟨rfl, rfl⟩) | (go_at_call 33; refine (sgcd_any _ _ _ (by omega) (by omega) (by omega) (by omega)).mono ?_; rintro e w' ⟨rfl, rfl⟩))
    go_region
    go_wp2_with fail
    refine (sok_any _ _ _ _).mono ?_
    rintro e w2 ⟨rfl, hb⟩
    obtain ⟨hc, hf⟩ := bcell hb
    have hz := hb.size
    simp at hz
    go_wp2
    exact bodyPost_ret (v := .tuple #[.agg #[.int .i64 (n / gc n d), .int .i64 (d / gc n d), .int .i64 u], .bool true]) (by simp [results, Try.results34, go_sem, hc, lt2]) rfl
      ⟨rfl, (((onto (by repeat (first | exact Below.refl _ _ | refine below_drewN ?_ _ | refine Below.drew ?_ | refine Below.setCell ?_ (by simp) _ | refine Below.alloc ?_ (by simp) _)) hb).setCell (by simp) _).setCell (by simp) _).setCell (by simp) _⟩

theorem smake_any (n d u : Int) (w : World) :
    Calls Try.prog 34 #[.int .i64 n, .int .i64 d, .int .i64 u] w fun e w' => e = .returned (.tuple #[.agg #[.int .i64 (mN n d u), .int .i64 (mD n d u), .int .i64 (mU n d u)], .bool (mB n d u)]) ∧ Below w.heap.size w w' := by
  by_cases h : 0 ≤ n ∧ n ≤ 1000000000000000000 ∧ 1 ≤ d ∧ d ≤ 1000000000000000000
  · obtain ⟨e1, e2, e3, e4⟩ := m_in n d u h
    rw [e1, e2, e3, e4]
    obtain ⟨h1, h2, h3, h4⟩ := h
    exact smake_in n d u w h1 h2 h3 h4 _ rfl
  · obtain ⟨e1, e2, e3, e4⟩ := m_out n d u h
    rw [e1, e2, e3, e4]
    exact smake_no n d u w h

set_option maxHeartbeats 1000000 in
/-- The product reduced crosswise: as (n1 n2) / (d1 d2). -/
theorem sprod_any (n1 n2 d1 d2 u : Int) (w : World) (h1 : 0 ≤ n1) (h2 : 0 ≤ n2) (k1 : 1 ≤ d1) (k2 : 1 ≤ d2)
    (l1 : n1 ≤ 1000000000) (l2 : n2 ≤ 1000000000) (m1 : d1 ≤ 1000000000) (m2 : d2 ≤ 1000000000) :
    Calls Try.prog 28 #[.int .i64 n1, .int .i64 n2, .int .i64 d1, .int .i64 d2, .int .i64 u] w fun e w' => e = .returned (.tuple #[.agg #[.int .i64 (rN (n1 * n2) (d1 * d2) u), .int .i64 (rD (n1 * n2) (d1 * d2) u), .int .i64 (rU (n1 * n2) (d1 * d2) u)], .bool (rB (n1 * n2) (d1 * d2) u)]) ∧ Below w.heap.size w w' := by
  obtain ⟨p1, p2, p3, p4, p5, a0, a1, b0, b1, c0, c1, d0, d1'⟩ := product n1 n2 d1 d2 h1 h2 k1 k2
  have t1 : n1 * n2 ≤ 1000000000000000000 := by have := Int.mul_le_mul l1 l2 h2 (by omega); omega
  have t2 : d1 * d2 ≤ 1000000000000000000 := by have := Int.mul_le_mul m1 m2 (by omega) (by omega); omega
  have t3 : 0 ≤ n1 * n2 := Int.mul_nonneg h1 h2
  have t4 : 1 ≤ d1 * d2 := by have := Int.mul_le_mul k1 k2 (by omega) (by omega); omega
  obtain ⟨r1, r2, r3, r4⟩ := r_congr _ _ _ _ u p1 p2 t3 t4 p5
  obtain ⟨e1, e2, e3, e4⟩ := m_in ((n1 / gc n1 d2) * (n2 / gc n2 d1)) ((d1 / gc n2 d1) * (d2 / gc n1 d2)) u (by omega)
  rw [← r1, ← r2, ← r3, ← r4, ← e1, ← e2, ← e3, ← e4]
  have g1 := gc_pos n1 d2 (by omega)
  have g2 := gc_pos n2 d1 (by omega)
  have g3 : (gc n1 d2 == 0) = false := by simp; omega
  have g4 : (gc n2 d1 == 0) = false := by simp; omega
  have q1 : (n1 / gc n1 d2) * (n2 / gc n2 d1) ≤ 1000000000000000000 := by omega
  have q2 : (d1 / gc n2 d1) * (d2 / gc n1 d2) ≤ 1000000000000000000 := by omega
  clear r1 r2 r3 r4 e1 e2 e3 e4 p3 p4 p5 t1 t2 t3 t4
  go_enter Try.func28, Try.ntmps28
  go_wp2_with (go_at_call 33; refine (sgcd_any _ _ _ (by omega) (by omega) (by omega) (by omega)).mono ?_; rintro e w' ⟨rfl, rfl⟩)
  refine (smake_any _ _ u _).mono ?_
  rintro e w1 ⟨rfl, hb1⟩
  obtain ⟨hc1, hf1⟩ := bcell hb1
  have hz1 := hb1.size
  simp at hz1
  go_wp2
  generalize (n1 / gc n1 d2) * (n2 / gc n2 d1) = X
  generalize (d1 / gc n2 d1) * (d2 / gc n1 d2) = Y
  exact bodyPost_ret (v := .tuple #[.agg #[.int .i64 (mN X Y u), .int .i64 (mD X Y u), .int .i64 (mU X Y u)], .bool (mB X Y u)]) (by simp [results, Try.results28, go_sem, hc1]) rfl
    ⟨rfl, (((onto ((Below.refl _ _).alloc (Nat.le_refl _) _) hb1).setCell (by simp) _).setCell (by simp) _).setCell (by simp) _⟩
end Go.Proofs.Ytiopmlepdjiapaa
