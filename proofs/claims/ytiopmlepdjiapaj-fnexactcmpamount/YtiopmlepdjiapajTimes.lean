/-
  TimesAmount: of the program and of the specification.
-/
import Derived.Test.YtiopmlepdjiapajSMk
import Derived.Deep.RegionHeld3
namespace Go.Proofs.Ytiopmlepdjiapaj
open Go.RowKit Am

/-- Three cells of one block below what a callee made: as they were. -/
theorem keep3 {V w' : World} {b : Nat} {x y z : Value} (hb : Below V.heap.size V w') (hlt : b < V.heap.size)
    (h : V.cell? ⟨b, 0, none⟩ = some x ∧ V.cell? ⟨b, 1, none⟩ = some y ∧ V.cell? ⟨b, 2, none⟩ = some z) :
    w'.cell? ⟨b, 0, none⟩ = some x ∧ w'.cell? ⟨b, 1, none⟩ = some y ∧ w'.cell? ⟨b, 2, none⟩ = some z := by
  rw [hb.cell (p := ⟨b, 0, none⟩) hlt, hb.cell (p := ⟨b, 1, none⟩) hlt, hb.cell (p := ⟨b, 2, none⟩) hlt]; exact h

set_option maxHeartbeats 400000 in
theorem frac_any (n d u : Int) (w : World) :
    Calls Try.prog 37 #[.agg #[.int .i64 n, .int .i64 d, .int .i64 u]] w fun e w' => e = .returned (.agg #[.int .i64 n, .int .i64 d]) ∧ Below w.heap.size w w' := by
  go_enter Try.func37, Try.ntmps37
  go_wp2
  exact bodyPost_ret (v := .agg #[.int .i64 n, .int .i64 d]) (by simp [results, Try.results37, go_sem]) rfl
    ⟨rfl, by repeat (first | exact Below.refl _ _ | refine Below.setCell ?_ (by simp) _ | refine Below.alloc ?_ (by first | (simp; done) | (simp; omega)) _)⟩

set_option maxHeartbeats 400000 in
theorem times_any (n d m e : Int) (w : World) (h1 : 0 ≤ n) (h2 : n ≤ 1000000000) (h3 : 0 ≤ d) (h4 : d ≤ 1000000000) (k1 : 0 ≤ m) (k2 : m ≤ 1000000000) (k3 : 0 ≤ e) (k4 : e ≤ 1000000000) :
    Calls Try.prog 39 #[.agg #[.int .i64 n, .int .i64 d], .agg #[.int .i64 m, .int .i64 e]] w fun r w' => r = .returned (.agg #[.int .i64 (n * m), .int .i64 (d * e)]) ∧ Below w.heap.size w w' := by
  have t1 : n * m ≤ 1000000000000000000 := by have := Int.mul_le_mul h2 k2 k1 (by omega); omega
  have t2 : d * e ≤ 1000000000000000000 := by have := Int.mul_le_mul h4 k4 k3 (by omega); omega
  have t3 : 0 ≤ n * m := Int.mul_nonneg h1 k1
  have t4 : 0 ≤ d * e := Int.mul_nonneg h3 k3
  go_enter Try.func39, Try.ntmps39
  go_wp2
  exact bodyPost_ret (v := .agg #[.int .i64 (n * m), .int .i64 (d * e)]) (by simp [results, Try.results39, go_sem]) rfl
    ⟨rfl, by repeat (first | exact Below.refl _ _ | refine Below.setCell ?_ (by simp) _ | refine Below.alloc ?_ (by first | (simp; done) | (simp; omega)) _)⟩

/-- Whether TimesAmount is asked a thing that it takes. -/
def tB (n d u m e : Int) : Bool := okB n d u && decide (0 ≤ m ∧ m ≤ 1000000000 ∧ 1 ≤ e ∧ e ≤ 1000000000)

set_option maxHeartbeats 2000000 in
theorem itimes_in (n d u m e : Int) (w : World) (ho : okB n d u = true) (k1 : 0 ≤ m) (k2 : m ≤ 1000000000) (k3 : 1 ≤ e) (k4 : e ≤ 1000000000) :
    Calls Try.prog 18 #[.agg #[.int .i64 n, .int .i64 d, .int .i64 u], .int .i64 m, .int .i64 e] w fun r w' => r = .returned (.tuple #[.agg #[.int .i64 (rN (n * m) (d * e) u), .int .i64 (rD (n * m) (d * e) u), .int .i64 (rU (n * m) (d * e) u)], .bool (rB (n * m) (d * e) u)]) ∧ Below w.heap.size w w' := by
  obtain ⟨h1, h2, h3, h4, _, _, _⟩ := okB_true ho
  have t1 : n * m ≤ 1000000000000000000 := by have := Int.mul_le_mul h2 k2 k1 (by omega); omega
  have t2 : d * e ≤ 1000000000000000000 := by have := Int.mul_le_mul h4 k4 (by omega) (by omega); omega
  have t3 : 0 ≤ n * m := Int.mul_nonneg h1 k1
  have t4 : 1 ≤ d * e := by have := Int.mul_le_mul h3 k3 (by omega) (by omega); omega
  go_enter Try.func18, Try.ntmps18
  go_wp2_with fail
  refine (iok_any _ _ _ _).mono ?_
  rintro r w1 ⟨rfl, hb1⟩
  obtain ⟨hc1, hf1⟩ := bcell hb1
  have hz1 : w.heap.size + 1 < w1.heap.size := by have := hb1.size; simp at this; omega
  have hz0 : w.heap.size < w1.heap.size := by omega
  go_wp2_with fail
  go_region_held3 (fun w' => w'.cell? ⟨w.heap.size, 0, none⟩ = some (.int .i64 n) ∧ w'.cell? ⟨w.heap.size, 1, none⟩ = some (.int .i64 d) ∧ w'.cell? ⟨w.heap.size, 2, none⟩ = some (.int .i64 u)) (first | exact keep3 (by assumption) (by assumption) (by assumption) | simp [*, go_sem, lt2])
    (first
      | (go_at_call 37; refine (frac_any _ _ _ _).mono ?_; rintro r w2 ⟨rfl, hb2⟩; have hz2 : w.heap.size < w2.heap.size := Nat.lt_of_lt_of_le hz0 hb2.size)
      | (go_at_call 39; refine (times_any _ _ _ _ _ (by omega) (by omega) (by omega) (by omega) (by omega) (by omega) (by omega) (by omega)).mono ?_; rintro r w3 ⟨rfl, hb3⟩; have hz3 : w.heap.size < w3.heap.size := Nat.lt_of_lt_of_le hz2 hb3.size)
      | (go_at_call 30; refine (right_any _ _ _ _ (by omega) (by omega) (by omega) (by omega)).mono ?_; rintro r w4 ⟨rfl, hb4⟩; have hz4 : w.heap.size < w4.heap.size := Nat.lt_of_lt_of_le hz3 hb4.size; have hB := hop (hop (hop hb1 (Below.drew (Below.refl _ _)) hb2) (Below.refl _ _) hb3) (Below.refl _ _) hb4; obtain ⟨hc5, hf5⟩ := bcell hB))
  go_wp2
  exact bodyPost_ret (v := .tuple #[.agg #[.int .i64 (rN (n * m) (d * e) u), .int .i64 (rD (n * m) (d * e) u), .int .i64 (rU (n * m) (d * e) u)], .bool (rB (n * m) (d * e) u)]) (by simp [results, Try.results18, go_sem, hc5]) rfl
    ⟨rfl, (((onto (((Below.refl _ _).alloc (Nat.le_refl _) _).alloc (by simp) _) hB).setCell (by simp) _).setCell (by simp) _).setCell (by simp) _⟩

set_option maxHeartbeats 1000000 in
theorem itimes_out (n d u m e : Int) (w : World) (h : tB n d u m e = false) :
    Calls Try.prog 18 #[.agg #[.int .i64 n, .int .i64 d, .int .i64 u], .int .i64 m, .int .i64 e] w fun r w' => r = .returned (.tuple #[.agg #[.int .i64 0, .int .i64 0, .int .i64 0], .bool false]) ∧ Below w.heap.size w w' := by
  cases ho : okB n d u
  · clear h
    go_enter Try.func18, Try.ntmps18
    go_wp2_with fail
    refine (iok_any _ _ _ _).mono ?_
    rintro r w1 ⟨rfl, hb1⟩
    obtain ⟨hc1, hf1⟩ := bcell hb1
    go_wp2
    exact bodyPost_ret (v := .tuple #[.agg #[.int .i64 0, .int .i64 0, .int .i64 0], .bool false]) (by simp [results, Try.results18, go_sem, hc1]) rfl
      ⟨rfl, (((onto (((Below.refl _ _).alloc (Nat.le_refl _) _).alloc (by simp) _) hb1).setCell (by simp) _).setCell (by simp) _).setCell (by simp) _⟩

  have h' : ¬ (0 ≤ m ∧ m ≤ 1000000000 ∧ 1 ≤ e ∧ e ≤ 1000000000) := by unfold tB at h; simpa [ho] using h
  clear h
  by_cases q : m < 0
  · clear h'
    go_enter Try.func18, Try.ntmps18
    go_wp2_with fail
    refine (iok_any _ _ _ _).mono ?_
    rintro r w1 ⟨rfl, hb1⟩
    obtain ⟨hc1, hf1⟩ := bcell hb1
    go_wp2
    exact bodyPost_ret (v := .tuple #[.agg #[.int .i64 0, .int .i64 0, .int .i64 0], .bool false]) (by simp [results, Try.results18, go_sem, hc1]) rfl
      ⟨rfl, (((onto (((Below.refl _ _).alloc (Nat.le_refl _) _).alloc (by simp) _) hb1).setCell (by simp) _).setCell (by simp) _).setCell (by simp) _⟩

  have q1 : ¬ m < 0 := q
  clear q
  by_cases q : 1000000000 < m
  · clear h'
    go_enter Try.func18, Try.ntmps18
    go_wp2_with fail
    refine (iok_any _ _ _ _).mono ?_
    rintro r w1 ⟨rfl, hb1⟩
    obtain ⟨hc1, hf1⟩ := bcell hb1
    go_wp2
    exact bodyPost_ret (v := .tuple #[.agg #[.int .i64 0, .int .i64 0, .int .i64 0], .bool false]) (by simp [results, Try.results18, go_sem, hc1]) rfl
      ⟨rfl, (((onto (((Below.refl _ _).alloc (Nat.le_refl _) _).alloc (by simp) _) hb1).setCell (by simp) _).setCell (by simp) _).setCell (by simp) _⟩

  have q2 : ¬ 1000000000 < m := q
  clear q
  by_cases q : e < 1
  · clear h'
    go_enter Try.func18, Try.ntmps18
    go_wp2_with fail
    refine (iok_any _ _ _ _).mono ?_
    rintro r w1 ⟨rfl, hb1⟩
    obtain ⟨hc1, hf1⟩ := bcell hb1
    go_wp2
    exact bodyPost_ret (v := .tuple #[.agg #[.int .i64 0, .int .i64 0, .int .i64 0], .bool false]) (by simp [results, Try.results18, go_sem, hc1]) rfl
      ⟨rfl, (((onto (((Below.refl _ _).alloc (Nat.le_refl _) _).alloc (by simp) _) hb1).setCell (by simp) _).setCell (by simp) _).setCell (by simp) _⟩

  have q3 : ¬ e < 1 := q
  clear q
  have q4 : 1000000000 < e := by omega
  clear h'
  go_enter Try.func18, Try.ntmps18
  go_wp2_with fail
  refine (iok_any _ _ _ _).mono ?_
  rintro r w1 ⟨rfl, hb1⟩
  obtain ⟨hc1, hf1⟩ := bcell hb1
  go_wp2
  exact bodyPost_ret (v := .tuple #[.agg #[.int .i64 0, .int .i64 0, .int .i64 0], .bool false]) (by simp [results, Try.results18, go_sem, hc1]) rfl
    ⟨rfl, (((onto (((Below.refl _ _).alloc (Nat.le_refl _) _).alloc (by simp) _) hb1).setCell (by simp) _).setCell (by simp) _).setCell (by simp) _⟩

/-- What TimesAmount tells. -/
def tN (n d u m e : Int) : Int := if tB n d u m e = true then rN (n * m) (d * e) u else 0
def tD (n d u m e : Int) : Int := if tB n d u m e = true then rD (n * m) (d * e) u else 0
def tU (n d u m e : Int) : Int := if tB n d u m e = true then rU (n * m) (d * e) u else 0
def tR (n d u m e : Int) : Bool := tB n d u m e && rB (n * m) (d * e) u
theorem t_in {n d u m e : Int} (h : tB n d u m e = true) : tN n d u m e = rN (n * m) (d * e) u ∧ tD n d u m e = rD (n * m) (d * e) u ∧ tU n d u m e = rU (n * m) (d * e) u ∧ tR n d u m e = rB (n * m) (d * e) u := by
  unfold tN tD tU tR; simp [h]
theorem t_out {n d u m e : Int} (h : tB n d u m e = false) : tN n d u m e = 0 ∧ tD n d u m e = 0 ∧ tU n d u m e = 0 ∧ tR n d u m e = false := by
  unfold tN tD tU tR; simp [h]
theorem tB_true {n d u m e : Int} (h : tB n d u m e = true) : okB n d u = true ∧ 0 ≤ m ∧ m ≤ 1000000000 ∧ 1 ≤ e ∧ e ≤ 1000000000 := by
  unfold tB at h; simpa using h

theorem itimes_any (n d u m e : Int) (w : World) :
    Calls Try.prog 18 #[.agg #[.int .i64 n, .int .i64 d, .int .i64 u], .int .i64 m, .int .i64 e] w fun r w' => r = .returned (.tuple #[.agg #[.int .i64 (tN n d u m e), .int .i64 (tD n d u m e), .int .i64 (tU n d u m e)], .bool (tR n d u m e)]) ∧ Below w.heap.size w w' := by
  cases h : tB n d u m e
  · obtain ⟨e1, e2, e3, e4⟩ := t_out h
    rw [e1, e2, e3, e4]
    exact itimes_out n d u m e w h
  · obtain ⟨e1, e2, e3, e4⟩ := t_in h
    rw [e1, e2, e3, e4]
    obtain ⟨ho, h1, h2, h3, h4⟩ := tB_true h
    exact itimes_in n d u m e w ho h1 h2 h3 h4
end Go.Proofs.Ytiopmlepdjiapaj
