/-
  Convert: of the specification.
-/
import Derived.Test.YtiopmlepdjiapaaConv
namespace Go.Proofs.Ytiopmlepdjiapaa
open Go.RowKit Am

theorem kd_sk (u t : Int) (h : 1 ≤ u ∧ u ≤ 7) : kd u = kd t ↔ (0 ≤ sk t ∧ sk t = sk u) := by
  unfold kd sk
  by_cases h1 : 1 ≤ u ∧ u ≤ 3
  · rw [if_pos h1, if_pos h]
    by_cases h2 : 1 ≤ t ∧ t ≤ 3
    · rw [if_pos h2, if_pos (by omega)]; constructor <;> intro <;> (try constructor) <;> omega
    · rw [if_neg h2]; split <;> (try split) <;> (try split) <;> constructor <;> intro <;> omega
  · by_cases h2 : 4 ≤ u ∧ u ≤ 6
    · rw [if_neg h1, if_pos h2, if_pos h]
      by_cases h3 : 4 ≤ t ∧ t ≤ 6
      · rw [if_neg (by omega), if_pos h3, if_pos (by omega)]; constructor <;> intro <;> (try constructor) <;> omega
      · split <;> (try split) <;> (try split) <;> (try split) <;> constructor <;> intro <;> omega
    · have : u = 7 := by omega
      subst this
      rw [if_neg h1, if_neg h2, if_pos rfl, if_pos h]
      by_cases h3 : t = 7
      · subst h3; constructor <;> intro <;> (try constructor) <;> simp
      · split <;> (try split) <;> (try split) <;> (try split) <;> constructor <;> intro <;> omega

set_option maxHeartbeats 1000000 in
theorem sconv_out1 (n d u t : Int) (w : World) (ho : okB n d u = false) :
    Calls Try.prog 8 #[.agg #[.int .i64 n, .int .i64 d, .int .i64 u], .int .i64 t] w fun r w' => r = .returned (.tuple #[.agg #[.int .i64 0, .int .i64 0, .int .i64 0], .bool false]) ∧ Below w.heap.size w w' := by
  go_enter Try.func8, Try.ntmps8
  go_wp2_with fail
  first | go_region_with (first | (go_at_call 26; refine (sok_any _ _ _ _).mono ?_; rintro r w1 ⟨rfl, hb1⟩; have hz1 : w.heap.size < w1.heap.size := Nat.lt_of_lt_of_le (by simp; omega) hb1.size; obtain ⟨hc1, hf1⟩ := bcell hb1) | (go_at_call 27; refine (skind_any _ _).mono ?_; rintro r w2 ⟨rfl, rfl⟩)) | fail
  all_goals
    go_wp2
    exact bodyPost_ret (v := .tuple #[.agg #[.int .i64 0, .int .i64 0, .int .i64 0], .bool false]) (by simp [results, Try.results8, go_sem, hc1]) rfl
      ⟨rfl, (((onto (Below.drew (((Below.refl _ _).alloc (Nat.le_refl _) _).alloc (by simp) _)) hb1).setCell (by simp) _).setCell (by simp) _).setCell (by simp) _⟩
set_option maxHeartbeats 1000000 in
theorem sconv_out2 (n d u t : Int) (w : World) (ho : okB n d u = true) (h1 : decide (sk t < 0) = true) :
    Calls Try.prog 8 #[.agg #[.int .i64 n, .int .i64 d, .int .i64 u], .int .i64 t] w fun r w' => r = .returned (.tuple #[.agg #[.int .i64 0, .int .i64 0, .int .i64 0], .bool false]) ∧ Below w.heap.size w w' := by
  go_enter Try.func8, Try.ntmps8
  go_wp2_with fail
  first | go_region_with (first | (go_at_call 26; refine (sok_any _ _ _ _).mono ?_; rintro r w1 ⟨rfl, hb1⟩; have hz1 : w.heap.size < w1.heap.size := Nat.lt_of_lt_of_le (by simp; omega) hb1.size; obtain ⟨hc1, hf1⟩ := bcell hb1) | (go_at_call 27; refine (skind_any _ _).mono ?_; rintro r w2 ⟨rfl, rfl⟩)) | fail
  all_goals
    go_wp2
    exact bodyPost_ret (v := .tuple #[.agg #[.int .i64 0, .int .i64 0, .int .i64 0], .bool false]) (by simp [results, Try.results8, go_sem, hc1]) rfl
      ⟨rfl, (((onto (Below.drew (((Below.refl _ _).alloc (Nat.le_refl _) _).alloc (by simp) _)) hb1).setCell (by simp) _).setCell (by simp) _).setCell (by simp) _⟩
set_option maxHeartbeats 1000000 in
theorem sconv_out3 (n d u t : Int) (w : World) (ho : okB n d u = true) (h1 : decide (sk t < 0) = false) (h2 : (sk t != sk u) = true) :
    Calls Try.prog 8 #[.agg #[.int .i64 n, .int .i64 d, .int .i64 u], .int .i64 t] w fun r w' => r = .returned (.tuple #[.agg #[.int .i64 0, .int .i64 0, .int .i64 0], .bool false]) ∧ Below w.heap.size w w' := by
  go_enter Try.func8, Try.ntmps8
  go_wp2_with fail
  first | go_region_held3 (fun w' => w'.cell? ⟨w.heap.size, 0, none⟩ = some (.int .i64 n) ∧ w'.cell? ⟨w.heap.size, 1, none⟩ = some (.int .i64 d) ∧ w'.cell? ⟨w.heap.size, 2, none⟩ = some (.int .i64 u)) (first | (refine keep3 (by assumption) ?_ (by assumption); (try simp); omega) | simp [*, go_sem, lt2]) (first | (go_at_call 26; refine (sok_any _ _ _ _).mono ?_; rintro r w1 ⟨rfl, hb1⟩; have hz1 : w.heap.size < w1.heap.size := Nat.lt_of_lt_of_le (by simp; omega) hb1.size; obtain ⟨hc1, hf1⟩ := bcell hb1) | (go_at_call 27; refine (skind_any _ _).mono ?_; rintro r w2 ⟨rfl, rfl⟩)) | fail
  all_goals
    go_wp2
    exact bodyPost_ret (v := .tuple #[.agg #[.int .i64 0, .int .i64 0, .int .i64 0], .bool false]) (by simp [results, Try.results8, go_sem, hc1]) rfl
      ⟨rfl, (((onto (Below.drew (((Below.refl _ _).alloc (Nat.le_refl _) _).alloc (by simp) _)) hb1).setCell (by simp) _).setCell (by simp) _).setCell (by simp) _⟩

/-- Thousand times thousand, k times. -/
def p3 (k : Nat) : Int := 1000 ^ k
theorem p3_succ (k : Nat) : p3 (k + 1) = p3 k * 1000 := by unfold p3; rw [Int.pow_succ]
theorem p3_bd (k : Nat) (h : k ≤ 2) : 1 ≤ p3 k ∧ p3 k ≤ 1000000 := by
  rcases k with _ | _ | _ | k
  · simp [p3]
  · simp [p3]
  · simp [p3]
  · omega

set_option maxHeartbeats 2000000 in
theorem sconv_in0 (n d u t : Int) (w : World) (ho : okB n d u = true) (g1 : decide (sk t < 0) = false) (g2 : (sk t != sk u) = false) (hut : u ≤ t + 2) (htu : t ≤ u + 2) :
    Calls Try.prog 8 #[.agg #[.int .i64 n, .int .i64 d, .int .i64 u], .int .i64 t] w fun r w' => r = .returned (.tuple #[.agg #[.int .i64 (rN (n * p3 (u - t).toNat) (d * p3 (t - u).toNat) t), .int .i64 (rD (n * p3 (u - t).toNat) (d * p3 (t - u).toNat) t), .int .i64 (rU (n * p3 (u - t).toNat) (d * p3 (t - u).toNat) t)], .bool (rB (n * p3 (u - t).toNat) (d * p3 (t - u).toNat) t)]) ∧ Below w.heap.size w w' := by
  obtain ⟨h1, h2, h3, h4, h5, h6, h7⟩ := okB_true ho
  clear h7
  go_enter Try.func8, Try.ntmps8
  go_wp2_with fail
  first | go_region_held3 (fun w' => w'.cell? ⟨w.heap.size, 0, none⟩ = some (.int .i64 n) ∧ w'.cell? ⟨w.heap.size, 1, none⟩ = some (.int .i64 d) ∧ w'.cell? ⟨w.heap.size, 2, none⟩ = some (.int .i64 u)) (first | (refine keep3 (by assumption) ?_ (by assumption); (try simp); omega) | simp [*, go_sem, lt2]) (first | (go_at_call 26; refine (sok_any _ _ _ _).mono ?_; rintro r w1 ⟨rfl, hb1⟩; have hz1 : w.heap.size < w1.heap.size := Nat.lt_of_lt_of_le (by simp; omega) hb1.size; obtain ⟨hc1, hf1⟩ := bcell hb1) | (go_at_call 27; refine (skind_any _ _).mono ?_; rintro r w2 ⟨rfl, rfl⟩)) | fail
  go_wp2
  go_loop [6, 8] (fun a b => ∃ j : Nat, j ≤ (u - t).toNat ∧ a = .int .i64 (p3 j) ∧ b = .int .i64 (u - j)) (fun _ b => (intOf b - t).toNat)
  case atStart => exact ⟨0, by omega, rfl, by simp⟩
  case round =>
    obtain ⟨j, hj, rfl, rfl⟩ := hrel
    obtain ⟨b1, b2⟩ := p3_bd j (by omega)
    by_cases hlt : t < u - j
    · go_wp2
      go_round
      case rel => exact ⟨j + 1, by omega, by rw [p3_succ], by go_num⟩
      case measure => simp [intOf]; omega
    · have hj1 : j = (u - t).toNat := by omega
      have b1' : 1 ≤ p3 (u - t).toNat := by rw [← hj1]; exact b1
      have b2' : p3 (u - t).toNat ≤ 1000000 := by rw [← hj1]; exact b2
      clear b1 b2
      subst hj1
      go_wp2
      go_loop [7, 9] (fun a b => ∃ j : Nat, j ≤ (t - u).toNat ∧ a = .int .i64 (p3 j) ∧ b = .int .i64 (u + j)) (fun _ b => (t - intOf b).toNat)
      case atStart => exact ⟨0, by omega, rfl, by simp⟩
      case round =>
        obtain ⟨j, hj, rfl, rfl⟩ := hrel
        obtain ⟨b1, b2⟩ := p3_bd j (by omega)
        by_cases hlt2 : u + j < t
        · go_wp2
          go_round
          case rel => exact ⟨j + 1, by omega, by rw [p3_succ], by go_num⟩
          case measure => simp [intOf]; omega
        · have hj2 : j = (t - u).toNat := by omega
          have b3' : 1 ≤ p3 (t - u).toNat := by rw [← hj2]; exact b1
          have b4' : p3 (t - u).toNat ≤ 1000000 := by rw [← hj2]; exact b2
          clear b1 b2
          subst hj2
          go_wp2_with fail
          refine (sprod_any _ _ _ _ _ _ (by omega) (by omega) (by omega) (by omega) (by omega) (by omega) (by omega) (by omega)).mono ?_
          rintro r w4 ⟨rfl, hb4⟩
          have hB4 := hop hb1 (Below.refl _ _) hb4
          obtain ⟨hc4, hf4⟩ := bcell hB4
          go_wp2
          exact bodyPost_ret (v := .tuple #[.agg #[.int .i64 (rN (n * p3 (u - t).toNat) (d * p3 (t - u).toNat) t), .int .i64 (rD (n * p3 (u - t).toNat) (d * p3 (t - u).toNat) t), .int .i64 (rU (n * p3 (u - t).toNat) (d * p3 (t - u).toNat) t)], .bool (rB (n * p3 (u - t).toNat) (d * p3 (t - u).toNat) t)]) (by simp [results, Try.results8, go_sem, hc4]) rfl
            ⟨rfl, (((onto (Below.drew (((Below.refl _ _).alloc (Nat.le_refl _) _).alloc (by simp) _)) hB4).setCell (by simp) _).setCell (by simp) _).setCell (by simp) _⟩
end Go.Proofs.Ytiopmlepdjiapaa
