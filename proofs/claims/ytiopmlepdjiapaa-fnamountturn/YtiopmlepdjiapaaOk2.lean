/-
  AmountOk, of the program and of the specification: each returns okB n d u, and nothing that was there turns.
-/
import Derived.Test.YtiopmlepdjiapaaOk
namespace Go.Proofs.Ytiopmlepdjiapaa
open Go.RowKit Am

theorem lt2 (n : Nat) : n < n + 1 + 1 := by omega
theorem lt3 (n : Nat) : n < n + 1 + 1 + 1 := by omega
theorem lt4 (n : Nat) : n < n + 1 + 1 + 1 + 1 := by omega
/-- Blocks that the caller laid, a callee's blocks, and so on: one step more. -/
theorem hop {W w1 V w2 : World} (h1 : Below W.heap.size W w1) (hv : Below w1.heap.size w1 V) (h2 : Below V.heap.size V w2) : Below W.heap.size W w2 :=
  h1.trans ((hv.trans (h2.mono hv.size)).mono h1.size)
theorem onto {w W w2 : World} (hv : Below w.heap.size w W) (h : Below W.heap.size W w2) : Below w.heap.size w w2 := hv.trans (h.mono hv.size)

theorem kd_in {u : Int} (h : 1 ≤ u ∧ u ≤ 7) : (kd u != 0) = true := by
  have : kd u ≠ 0 := by unfold kd; split <;> (try split) <;> (try split) <;> omega
  simpa using this
theorem kd_out {u : Int} (h : ¬ (1 ≤ u ∧ u ≤ 7)) : (kd u != 0) = false := by
  have : kd u = 0 := by unfold kd; rw [if_neg (by omega), if_neg (by omega), if_neg (by omega)]
  simpa using this
theorem sk_in {u : Int} (h : 1 ≤ u ∧ u ≤ 7) : 0 ≤ sk u := by unfold sk; rw [if_pos h]; omega
theorem sk_out {u : Int} (h : ¬ (1 ≤ u ∧ u ≤ 7)) : ¬ 0 ≤ sk u := by unfold sk; rw [if_neg h]; omega

set_option maxHeartbeats 1000000 in
theorem iok_any (n d u : Int) (w : World) :
    Calls Try.prog 9 #[.agg #[.int .i64 n, .int .i64 d, .int .i64 u]] w fun e w' => e = .returned (.bool (okB n d u)) ∧ Below w.heap.size w w' := by
  by_cases h1 : n < 0
  · have H : Hid (okB n d u = false) := okB_not (by omega)
    go_enter Try.func9, Try.ntmps9; go_wp2; go_ret
    exact ⟨ret_bool H.out.symm, (Below.refl _ _).alloc (Nat.le_refl _) _⟩
  by_cases h2 : 1000000000 < n
  · have H : Hid (okB n d u = false) := okB_not (by omega)
    go_enter Try.func9, Try.ntmps9; go_wp2; go_ret
    exact ⟨ret_bool H.out.symm, (Below.refl _ _).alloc (Nat.le_refl _) _⟩
  by_cases h3 : d < 1
  · have H : Hid (okB n d u = false) := okB_not (by omega)
    go_enter Try.func9, Try.ntmps9; go_wp2; go_ret
    exact ⟨ret_bool H.out.symm, (Below.refl _ _).alloc (Nat.le_refl _) _⟩
  by_cases h4 : 1000000000 < d
  · have H : Hid (okB n d u = false) := okB_not (by omega)
    go_enter Try.func9, Try.ntmps9; go_wp2; go_ret
    exact ⟨ret_bool H.out.symm, (Below.refl _ _).alloc (Nat.le_refl _) _⟩
  by_cases h5 : 1 ≤ u ∧ u ≤ 7
  · have hk := kd_in h5
    have H : Hid (okB n d u = (gc n d == 1)) := by
      unfold Hid okB
      by_cases g : gc n d = 1
      · rw [decide_eq_true (by omega)]; simp [g]
      · rw [decide_eq_false (by omega)]; simp [g]
    go_enter Try.func9, Try.ntmps9
    go_wp2_with (first | (go_at_call 22; refine (kind_any _ _).mono ?_; rintro e w' ⟨rfl, rfl⟩) | (go_at_call 29; refine (igcd_any _ _ _ (by omega) (by omega) (by omega) (by omega)).mono ?_; rintro e w' ⟨rfl, nq, rfl⟩))
    go_ret
    exact ⟨ret_bool H.out.symm, below_drewN ((Below.refl _ _).alloc (Nat.le_refl _) _) _⟩
  · have hk := kd_out h5
    have H : Hid (okB n d u = false) := okB_not (by omega)
    go_enter Try.func9, Try.ntmps9
    go_wp2_with (go_at_call 22; refine (kind_any _ _).mono ?_; rintro e w' ⟨rfl, rfl⟩)
    go_ret
    exact ⟨ret_bool H.out.symm, (Below.refl _ _).alloc (Nat.le_refl _) _⟩

set_option maxHeartbeats 1000000 in
theorem sok_any (n d u : Int) (w : World) :
    Calls Try.prog 26 #[.agg #[.int .i64 n, .int .i64 d, .int .i64 u]] w fun e w' => e = .returned (.bool (okB n d u)) ∧ Below w.heap.size w w' := by
  by_cases h1 : n < 0 ∨ 1000000000 < n
  · have H : Hid (okB n d u = false) := okB_not (by omega)
    go_enter Try.func26, Try.ntmps26
    go_wp2_with (go_at_call 42; refine (in_no _ _ _ _ (by omega)).mono ?_; rintro e w' ⟨rfl, rfl⟩)
    go_ret
    exact ⟨ret_bool H.out.symm, (Below.refl _ _).alloc (Nat.le_refl _) _⟩
  by_cases h2 : d < 1 ∨ 1000000000 < d
  · have H : Hid (okB n d u = false) := okB_not (by omega)
    go_enter Try.func26, Try.ntmps26
    go_wp2_with fail
    refine (in_yes _ _ _ _ (by omega) (by omega)).mono ?_; rintro e w' ⟨rfl, rfl⟩
    go_wp2_with (go_at_call 42; refine (in_no _ _ _ _ (by omega)).mono ?_; rintro e w' ⟨rfl, rfl⟩)
    go_ret
    exact ⟨ret_bool H.out.symm, (Below.refl _ _).alloc (Nat.le_refl _) _⟩
  by_cases h5 : 1 ≤ u ∧ u ≤ 7
  · have hk := sk_in h5
    have H : Hid (okB n d u = (gc n d == 1)) := by
      unfold Hid okB
      by_cases g : gc n d = 1
      · rw [decide_eq_true (by omega)]; simp [g]
      · rw [decide_eq_false (by omega)]; simp [g]
    go_enter Try.func26, Try.ntmps26
    go_wp2_with (first | (go_at_call 42; refine (in_yes _ _ _ _ (by omega) (by omega)).mono ?_; rintro e w' ⟨rfl, rfl⟩) | (go_at_call 27; refine (skind_any _ _).mono ?_; rintro e w' ⟨rfl, rfl⟩) | (go_at_call 33; refine (sgcd_any _ _ _ (by omega) (by omega) (by omega) (by omega)).mono ?_; rintro e w' ⟨rfl, rfl⟩))
    go_ret
    exact ⟨ret_bool H.out.symm, (Below.refl _ _).alloc (Nat.le_refl _) _⟩
  · have hk := sk_out h5
    have H : Hid (okB n d u = false) := okB_not (by omega)
    go_enter Try.func26, Try.ntmps26
    go_wp2_with (first | (go_at_call 42; refine (in_yes _ _ _ _ (by omega) (by omega)).mono ?_; rintro e w' ⟨rfl, rfl⟩) | (go_at_call 27; refine (skind_any _ _).mono ?_; rintro e w' ⟨rfl, rfl⟩))
    go_ret
    exact ⟨ret_bool H.out.symm, (Below.refl _ _).alloc (Nat.le_refl _) _⟩
end Go.Proofs.Ytiopmlepdjiapaa
