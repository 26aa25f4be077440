/-
  Convert: of the program.
-/
import Derived.Test.YtiopmlepdjiapaaTimes
namespace Go.Proofs.Ytiopmlepdjiapaa
open Go.RowKit Am

theorem sz_bd (u : Int) : 1 ≤ sz u ∧ sz u ≤ 1000000 := by unfold sz; split <;> (try split) <;> omega

set_option maxHeartbeats 1000000 in
theorem least_any (n d u : Int) (w : World) (h1 : 0 ≤ n) (h2 : n ≤ 1000000000) :
    Calls Try.prog 23 #[.agg #[.int .i64 n, .int .i64 d, .int .i64 u]] w fun r w' => r = .returned (.agg #[.int .i64 (n * sz u), .int .i64 d]) ∧ Below w.heap.size w w' := by
  obtain ⟨s1, s2⟩ := sz_bd u
  have t1 : n * sz u ≤ 1000000000000000 := by have := Int.mul_le_mul h2 s2 (by omega) (by omega); omega
  have t2 : 0 ≤ n * sz u := Int.mul_nonneg h1 (by omega)
  have t3 : IntKind.i64.wrap (n * sz u) = n * sz u := IntWalk.i64_in _ (by omega)
  go_enter Try.func23, Try.ntmps23
  go_wp2
  go_region_held3 (fun w' => w'.cell? ⟨w.heap.size, 0, none⟩ = some (.int .i64 n) ∧ w'.cell? ⟨w.heap.size, 1, none⟩ = some (.int .i64 d) ∧ w'.cell? ⟨w.heap.size, 2, none⟩ = some (.int .i64 u)) (simp [*, go_sem, lt2])
    ((go_at_call 24; refine (size_any _ _).mono ?_; rintro r w2 ⟨rfl, rfl⟩))
  go_wp2
  exact bodyPost_ret (v := .agg #[.int .i64 (n * sz u), .int .i64 d]) (by simp [results, Try.results23, go_sem]) rfl
    ⟨rfl, by repeat (first | exact Below.refl _ _ | refine below_drewN ?_ _ | refine Below.drew ?_ | refine Below.setCell ?_ (by simp) _ | refine Below.alloc ?_ (by first | (simp; done) | (simp; omega)) _)⟩

/-- Whether Convert is asked a thing that it takes. -/
def vB (n d u t : Int) : Bool := okB n d u && decide (kd u = kd t)
def vN (n d u t : Int) : Int := if vB n d u t = true then rN (n * sz u) (d * sz t) t else 0
def vD (n d u t : Int) : Int := if vB n d u t = true then rD (n * sz u) (d * sz t) t else 0
def vU (n d u t : Int) : Int := if vB n d u t = true then rU (n * sz u) (d * sz t) t else 0
def vR (n d u t : Int) : Bool := vB n d u t && rB (n * sz u) (d * sz t) t
theorem v_in {n d u t : Int} (h : vB n d u t = true) : vN n d u t = rN (n * sz u) (d * sz t) t ∧ vD n d u t = rD (n * sz u) (d * sz t) t ∧ vU n d u t = rU (n * sz u) (d * sz t) t ∧ vR n d u t = rB (n * sz u) (d * sz t) t := by
  unfold vN vD vU vR; simp [h]
theorem v_out {n d u t : Int} (h : vB n d u t = false) : vN n d u t = 0 ∧ vD n d u t = 0 ∧ vU n d u t = 0 ∧ vR n d u t = false := by
  unfold vN vD vU vR; simp [h]
theorem vB_true {n d u t : Int} (h : vB n d u t = true) : okB n d u = true ∧ kd u = kd t := by
  unfold vB at h; simpa using h

set_option maxHeartbeats 1000000 in
theorem iconv_out (n d u t : Int) (w : World) (h : vB n d u t = false) :
    Calls Try.prog 7 #[.agg #[.int .i64 n, .int .i64 d, .int .i64 u], .int .i64 t] w fun r w' => r = .returned (.tuple #[.agg #[.int .i64 0, .int .i64 0, .int .i64 0], .bool false]) ∧ Below w.heap.size w w' := by
  cases ho : okB n d u
  · clear h
    go_enter Try.func7, Try.ntmps7
    go_wp2_with fail
    refine (iok_any _ _ _ _).mono ?_
    rintro r w1 ⟨rfl, hb1⟩
    obtain ⟨hc1, hf1⟩ := bcell hb1
    go_wp2
    exact bodyPost_ret (v := .tuple #[.agg #[.int .i64 0, .int .i64 0, .int .i64 0], .bool false]) (by simp [results, Try.results7, go_sem, hc1]) rfl
      ⟨rfl, (((onto (((Below.refl _ _).alloc (Nat.le_refl _) _).alloc (by simp) _) hb1).setCell (by simp) _).setCell (by simp) _).setCell (by simp) _⟩
  have hk : (kd u != kd t) = true := by unfold vB at h; simpa [ho] using h
  clear h
  go_enter Try.func7, Try.ntmps7
  go_wp2_with fail
  refine (iok_any _ _ _ _).mono ?_
  rintro r w1 ⟨rfl, hb1⟩
  obtain ⟨hc1, hf1⟩ := bcell hb1
  go_wp2_with (go_at_call 22; refine (kind_any _ _).mono ?_; rintro r w2 ⟨rfl, rfl⟩)
  exact bodyPost_ret (v := .tuple #[.agg #[.int .i64 0, .int .i64 0, .int .i64 0], .bool false]) (by simp [results, Try.results7, go_sem, hc1]) rfl
    ⟨rfl, (((onto (((Below.refl _ _).alloc (Nat.le_refl _) _).alloc (by simp) _) hb1).setCell (by simp) _).setCell (by simp) _).setCell (by simp) _⟩

set_option maxHeartbeats 2000000 in
theorem iconv_in (n d u t : Int) (w : World) (ho : okB n d u = true) (hk : kd u = kd t) :
    Calls Try.prog 7 #[.agg #[.int .i64 n, .int .i64 d, .int .i64 u], .int .i64 t] w fun r w' => r = .returned (.tuple #[.agg #[.int .i64 (rN (n * sz u) (d * sz t) t), .int .i64 (rD (n * sz u) (d * sz t) t), .int .i64 (rU (n * sz u) (d * sz t) t)], .bool (rB (n * sz u) (d * sz t) t)]) ∧ Below w.heap.size w w' := by
  obtain ⟨h1, h2, h3, h4, _, _, _⟩ := okB_true ho
  have hk' : (kd u != kd t) = false := by simpa using hk
  obtain ⟨s1, s2⟩ := sz_bd u
  obtain ⟨s3, s4⟩ := sz_bd t
  have t1 : n * sz u ≤ 1000000000000000 := by have := Int.mul_le_mul h2 s2 (by omega) (by omega); omega
  have t2 : 0 ≤ n * sz u := Int.mul_nonneg h1 (by omega)
  have t3 : d * sz t ≤ 1000000000000000 := by have := Int.mul_le_mul h4 s4 (by omega) (by omega); omega
  have t4 : 1 ≤ d * sz t := by have := Int.mul_le_mul h3 s3 (by omega) (by omega); omega
  clear hk
  go_enter Try.func7, Try.ntmps7
  go_wp2_with fail
  refine (iok_any _ _ _ _).mono ?_
  rintro r w1 ⟨rfl, hb1⟩
  obtain ⟨hc1, hf1⟩ := bcell hb1
  have hz0 : w.heap.size < w1.heap.size := by have := hb1.size; simp at this; omega
  have hz1 : w.heap.size + 1 < w1.heap.size := by have := hb1.size; simp at this; omega
  go_wp2_with (go_at_call 22; refine (kind_any _ _).mono ?_; rintro r w2 ⟨rfl, rfl⟩)
  refine (least_any n d u _ h1 h2).mono ?_
  rintro r w2 ⟨rfl, hb2⟩
  have hz2 : w.heap.size + 1 < w2.heap.size := Nat.lt_of_lt_of_le hz1 hb2.size
  have hB := hop hb1 (Below.refl _ _) hb2
  obtain ⟨hc2, hf2⟩ := bcell hB
  go_wp2_with fail
  go_region_with ((go_at_call 24; refine (size_any _ _).mono ?_; rintro r w3 ⟨rfl, rfl⟩))
  all_goals
    go_wp2_with fail
    refine (right_any _ _ _ _ (by omega) (by omega) (by omega) (by omega)).mono ?_
    rintro r w4 ⟨rfl, hb4⟩
    have hB4 := hop hB (Below.drew ((Below.refl _ _).alloc (Nat.le_refl _) _)) hb4
    obtain ⟨hc4, hf4⟩ := bcell hB4
    go_wp2
    exact bodyPost_ret (v := .tuple #[.agg #[.int .i64 (rN (n * sz u) (d * sz t) t), .int .i64 (rD (n * sz u) (d * sz t) t), .int .i64 (rU (n * sz u) (d * sz t) t)], .bool (rB (n * sz u) (d * sz t) t)]) (by simp [results, Try.results7, go_sem, hc4]) rfl
      ⟨rfl, (((onto (((Below.refl _ _).alloc (Nat.le_refl _) _).alloc (by simp) _) hB4).setCell (by simp) _).setCell (by simp) _).setCell (by simp) _⟩

theorem iconv_any (n d u t : Int) (w : World) :
    Calls Try.prog 7 #[.agg #[.int .i64 n, .int .i64 d, .int .i64 u], .int .i64 t] w fun r w' => r = .returned (.tuple #[.agg #[.int .i64 (vN n d u t), .int .i64 (vD n d u t), .int .i64 (vU n d u t)], .bool (vR n d u t)]) ∧ Below w.heap.size w w' := by
  cases h : vB n d u t
  · obtain ⟨e1, e2, e3, e4⟩ := v_out h
    rw [e1, e2, e3, e4]
    exact iconv_out n d u t w h
  · obtain ⟨e1, e2, e3, e4⟩ := v_in h
    rw [e1, e2, e3, e4]
    obtain ⟨ho, hk⟩ := vB_true h
    exact iconv_in n d u t w ho hk
end Go.Proofs.Ytiopmlepdjiapaa
