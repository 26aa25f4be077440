/-
  CmpAmount: of the specification.
-/
import Derived.Test.YtiopmlepdjiapajICmp
namespace Go.Proofs.Ytiopmlepdjiapaj
open Go.RowKit Am

set_option maxHeartbeats 4000000 in
theorem scmp_out1 (n d u m e v : Int) (w : World) (ho : okB n d u = false) :
    Calls Try.prog 19 #[.agg #[.int .i64 n, .int .i64 d, .int .i64 u], .agg #[.int .i64 m, .int .i64 e, .int .i64 v]] w fun r w' => r = .returned (.int .i64 2) ∧ Below w.heap.size w w' := by
  go_enter Try.func19, Try.ntmps19
  go_wp2_with fail
  first | go_region_with (first
      | (go_at_call_of 29 (Value.agg #[Value.int IntKind.i64 n, Value.int IntKind.i64 d, Value.int IntKind.i64 u]); refine (sok_any _ _ _ _).mono ?_; rintro r w1 ⟨rfl, hb1⟩; obtain ⟨hc1, hf1⟩ := bcell hb1; have hy1 := hb1.size; (try simp at hy1); have hl1 : w.heap.size < w1.heap.size := (by omega); have hm1 : w.heap.size + 1 < w1.heap.size := (by omega))
      | (go_at_call 29; refine (sok_any _ _ _ _).mono ?_; rintro r w2 ⟨rfl, hb2⟩; obtain ⟨hc2, hf2⟩ := bcell hb2; have hy2 := hb2.size; (try simp at hy2); have hl2 : w.heap.size < w2.heap.size := (by omega); have hm2 : w.heap.size + 1 < w2.heap.size := (by omega))
      | (go_at_call 31; refine (skind_any _ _).mono ?_; rintro r wk ⟨rfl, hwk⟩; subst hwk)) | fail
  all_goals
    go_wp2
    go_ret
    exact ⟨rfl, by repeat (first | exact Below.refl _ _ | refine Below.alloc ?_ (by simp) _ | refine Below.drew ?_ | refine below_drewN ?_ _ | refine onto ?_ hb2 | refine onto ?_ hb1)⟩

set_option maxHeartbeats 4000000 in
theorem scmp_out2 (n d u m e v : Int) (w : World) (ho : okB n d u = true) (hp : okB m e v = false) :
    Calls Try.prog 19 #[.agg #[.int .i64 n, .int .i64 d, .int .i64 u], .agg #[.int .i64 m, .int .i64 e, .int .i64 v]] w fun r w' => r = .returned (.int .i64 2) ∧ Below w.heap.size w w' := by
  go_enter Try.func19, Try.ntmps19
  go_wp2_with fail
  first | go_region_with (first
      | (go_at_call_of 29 (Value.agg #[Value.int IntKind.i64 n, Value.int IntKind.i64 d, Value.int IntKind.i64 u]); refine (sok_any _ _ _ _).mono ?_; rintro r w1 ⟨rfl, hb1⟩; obtain ⟨hc1, hf1⟩ := bcell hb1; have hy1 := hb1.size; (try simp at hy1); have hl1 : w.heap.size < w1.heap.size := (by omega); have hm1 : w.heap.size + 1 < w1.heap.size := (by omega))
      | (go_at_call 29; refine (sok_any _ _ _ _).mono ?_; rintro r w2 ⟨rfl, hb2⟩; obtain ⟨hc2, hf2⟩ := bcell hb2; have hy2 := hb2.size; (try simp at hy2); have hl2 : w.heap.size < w2.heap.size := (by omega); have hm2 : w.heap.size + 1 < w2.heap.size := (by omega))
      | (go_at_call 31; refine (skind_any _ _).mono ?_; rintro r wk ⟨rfl, hwk⟩; subst hwk)) | fail
  all_goals
    go_wp2
    go_ret
    exact ⟨rfl, by repeat (first | exact Below.refl _ _ | refine Below.alloc ?_ (by simp) _ | refine Below.drew ?_ | refine below_drewN ?_ _ | refine onto ?_ hb2 | refine onto ?_ hb1)⟩

set_option maxHeartbeats 4000000 in
theorem scmp_out3 (n d u m e v : Int) (w : World) (ho : okB n d u = true) (hp : okB m e v = true) (hk : (sk u != sk v) = true) :
    Calls Try.prog 19 #[.agg #[.int .i64 n, .int .i64 d, .int .i64 u], .agg #[.int .i64 m, .int .i64 e, .int .i64 v]] w fun r w' => r = .returned (.int .i64 2) ∧ Below w.heap.size w w' := by
  go_enter Try.func19, Try.ntmps19
  go_wp2_with fail
  first | go_region_held3 (fun w' => w'.cell? ⟨w.heap.size, 0, none⟩ = some (.int .i64 n) ∧ w'.cell? ⟨w.heap.size, 1, none⟩ = some (.int .i64 d) ∧ w'.cell? ⟨w.heap.size, 2, none⟩ = some (.int .i64 u) ∧ w'.cell? ⟨w.heap.size + 1, 0, none⟩ = some (.int .i64 m) ∧ w'.cell? ⟨w.heap.size + 1, 1, none⟩ = some (.int .i64 e) ∧ w'.cell? ⟨w.heap.size + 1, 2, none⟩ = some (.int .i64 v)) (first | (refine keep33 (by assumption) ?_ ?_ (by assumption) <;> first | (simp; done) | (simp; omega) | omega) | simp [*, go_sem, lt2]) (first
      | (go_at_call_of 29 (Value.agg #[Value.int IntKind.i64 n, Value.int IntKind.i64 d, Value.int IntKind.i64 u]); refine (sok_any _ _ _ _).mono ?_; rintro r w1 ⟨rfl, hb1⟩; obtain ⟨hc1, hf1⟩ := bcell hb1; have hy1 := hb1.size; (try simp at hy1); have hl1 : w.heap.size < w1.heap.size := (by omega); have hm1 : w.heap.size + 1 < w1.heap.size := (by omega))
      | (go_at_call 29; refine (sok_any _ _ _ _).mono ?_; rintro r w2 ⟨rfl, hb2⟩; obtain ⟨hc2, hf2⟩ := bcell hb2; have hy2 := hb2.size; (try simp at hy2); have hl2 : w.heap.size < w2.heap.size := (by omega); have hm2 : w.heap.size + 1 < w2.heap.size := (by omega))
      | (go_at_call 31; refine (skind_any _ _).mono ?_; rintro r wk ⟨rfl, hwk⟩; subst hwk)) | fail
  all_goals
    go_wp2
    go_ret
    exact ⟨rfl, by repeat (first | exact Below.refl _ _ | refine Below.alloc ?_ (by simp) _ | refine Below.drew ?_ | refine below_drewN ?_ _ | refine onto ?_ hb2 | refine onto ?_ hb1)⟩

theorem cmpI_scale (a b c : Int) (hc : 0 < c) : cmpI (a * c) (b * c) = cmpI a b := by
  unfold cmpI
  have e1 : a * c < b * c ↔ a < b := ⟨fun h => Int.lt_of_mul_lt_mul_right h (by omega), fun h => Int.mul_lt_mul_of_pos_right h hc⟩
  have e2 : b * c < a * c ↔ b < a := ⟨fun h => Int.lt_of_mul_lt_mul_right h (by omega), fun h => Int.mul_lt_mul_of_pos_right h hc⟩
  simp only [e1, e2]

set_option maxHeartbeats 8000000 in
theorem scmp_in (n d u m e v : Int) (w : World) (ho : okB n d u = true) (hp : okB m e v = true) (hk : (sk u != sk v) = false) (luv : u ≤ v + 2) (lvu : v ≤ u + 2) :
    Calls Try.prog 19 #[.agg #[.int .i64 n, .int .i64 d, .int .i64 u], .agg #[.int .i64 m, .int .i64 e, .int .i64 v]] w fun r w' => r = .returned (.int .i64 (cmpI ((n * p3 (u - v).toNat) * e) ((m * p3 (v - u).toNat) * d))) ∧ Below w.heap.size w w' := by
  obtain ⟨h1, h2, h3, h4, h5, h6, h7⟩ := okB_true ho
  obtain ⟨k1, k2, k3, k4, k5, k6, k7⟩ := okB_true hp
  clear h7 k7
  go_enter Try.func19, Try.ntmps19
  go_wp2_with fail
  first | go_region_held3 (fun w' => w'.cell? ⟨w.heap.size, 0, none⟩ = some (.int .i64 n) ∧ w'.cell? ⟨w.heap.size, 1, none⟩ = some (.int .i64 d) ∧ w'.cell? ⟨w.heap.size, 2, none⟩ = some (.int .i64 u) ∧ w'.cell? ⟨w.heap.size + 1, 0, none⟩ = some (.int .i64 m) ∧ w'.cell? ⟨w.heap.size + 1, 1, none⟩ = some (.int .i64 e) ∧ w'.cell? ⟨w.heap.size + 1, 2, none⟩ = some (.int .i64 v)) (first | (refine keep33 (by assumption) ?_ ?_ (by assumption) <;> first | (simp; done) | (simp; omega) | omega) | simp [*, go_sem, lt2]) (first
      | (go_at_call_of 29 (Value.agg #[Value.int IntKind.i64 n, Value.int IntKind.i64 d, Value.int IntKind.i64 u]); refine (sok_any _ _ _ _).mono ?_; rintro r w1 ⟨rfl, hb1⟩; obtain ⟨hc1, hf1⟩ := bcell hb1; have hy1 := hb1.size; (try simp at hy1); have hl1 : w.heap.size < w1.heap.size := (by omega); have hm1 : w.heap.size + 1 < w1.heap.size := (by omega))
      | (go_at_call 29; refine (sok_any _ _ _ _).mono ?_; rintro r w2 ⟨rfl, hb2⟩; obtain ⟨hc2, hf2⟩ := bcell hb2; have hy2 := hb2.size; (try simp at hy2); have hl2 : w.heap.size < w2.heap.size := (by omega); have hm2 : w.heap.size + 1 < w2.heap.size := (by omega))
      | (go_at_call 31; refine (skind_any _ _).mono ?_; rintro r wk ⟨rfl, hwk⟩; subst hwk)) | fail
  go_wp2
  go_loop [5, 7] (fun a b => ∃ j : Nat, j ≤ (u - v).toNat ∧ a = .int .i64 (n * p3 j) ∧ b = .int .i64 (u - j)) (fun _ b => (intOf b - v).toNat)
  case atStart => exact ⟨0, by omega, by simp [p3], by simp⟩
  case round =>
    obtain ⟨j, hj, rfl, rfl⟩ := hrel
    obtain ⟨b1, b2⟩ := p3_bd j (by omega)
    have z0 : 0 ≤ n * p3 j := Int.mul_nonneg h1 (by omega)
    have z1 : n * p3 j ≤ 1000000000000000 := by have := Int.mul_le_mul h2 b2 (by omega) (by omega); omega
    by_cases hlt : v < u - j
    · have z2 : n * p3 j * 1000 ≤ 1000000000000000000 := by omega
      go_wp2
      go_round
      case rel => exact ⟨j + 1, by omega, by rw [p3_succ, Int.mul_assoc], by go_num⟩
      case measure => simp [intOf]; omega
    · have hj1 : j = (u - v).toNat := by omega
      subst hj1
      go_wp2
      go_loop [6, 8] (fun a b => ∃ j : Nat, j ≤ (v - u).toNat ∧ a = .int .i64 (m * p3 j) ∧ b = .int .i64 (v - j)) (fun _ b => (intOf b - u).toNat)
      case atStart => exact ⟨0, by omega, by simp [p3], by simp⟩
      case round =>
        obtain ⟨j, hj, rfl, rfl⟩ := hrel
        obtain ⟨b3, b4⟩ := p3_bd j (by omega)
        have y0 : 0 ≤ m * p3 j := Int.mul_nonneg k1 (by omega)
        have y1 : m * p3 j ≤ 1000000000000000 := by have := Int.mul_le_mul k2 b4 (by omega) (by omega); omega
        by_cases hlt2 : u < v - j
        · have z2 : m * p3 j * 1000 ≤ 1000000000000000000 := by omega
          go_wp2
          go_round
          case rel => exact ⟨j + 1, by omega, by rw [p3_succ, Int.mul_assoc], by go_num⟩
          case measure => simp [intOf]; omega
        · have hj2 : j = (v - u).toNat := by omega
          subst hj2
          obtain ⟨c1, c2, c3⟩ := cmp_whole (n * p3 (u - v).toNat) (m * p3 (v - u).toNat) d e h3 k3
          generalize hX : (n * p3 (u - v).toNat) = x at *
          generalize hY : (m * p3 (v - u).toNat) = y at *
          have HX : Hid ((n * p3 (u - v).toNat) = x) := hX
          have HY : Hid ((m * p3 (v - u).toNat) = y) := hY
          have q1 : 0 ≤ x / d := Int.ediv_nonneg z0 (by omega)
          have q2 : x / d ≤ x := Int.ediv_le_self _ z0
          have q3 : 0 ≤ y / e := Int.ediv_nonneg y0 (by omega)
          have q4 : y / e ≤ y := Int.ediv_le_self _ y0
          have r1 : 0 ≤ x % d := Int.emod_nonneg _ (by omega)
          have r2 : x % d < d := Int.emod_lt_of_pos _ (by omega)
          have r3 : 0 ≤ y % e := Int.emod_nonneg _ (by omega)
          have r4 : y % e < e := Int.emod_lt_of_pos _ (by omega)
          have r5 : 0 ≤ x % d * e := Int.mul_nonneg r1 (by omega)
          have r6 : x % d * e ≤ 1000000000000000000 := by have := Int.mul_le_mul (show x % d ≤ 1000000000 by omega) k4 (by omega) (by omega); omega
          have r7 : 0 ≤ y % e * d := Int.mul_nonneg r3 (by omega)
          have r8 : y % e * d ≤ 1000000000000000000 := by have := Int.mul_le_mul (show y % e ≤ 1000000000 by omega) h4 (by omega) (by omega); omega
          have d0 : (d == 0) = false := by simp; omega
          have e0 : (e == 0) = false := by simp; omega
          clear hX hY hlt hlt2 hj b1 b2 b3 b4
          by_cases g : x / d = y / e
          · have gb : (x / d != y / e) = false := by simpa using g
            have g3 := c3 g
            clear c1 c2 c3 g
            by_cases f1 : x % d * e < y % e * d
            · have F : Hid (cmpI (x * e) (y * d) = -1) := by unfold Hid cmpI; rw [if_pos (by omega)]
              clear g3
              go_wp2_with fail
              go_quiet (fail)
              go_wp2_with fail
              go_quiet (fail)
              go_wp2_with fail
              go_quiet (fail)
              go_wp2
              go_ret
              exact ⟨ret_int (by rw [← HX.out, ← HY.out] at F; exact F.out.symm), below_drewN (by repeat (first | exact Below.refl _ _ | refine Below.alloc ?_ (by simp) _ | refine Below.drew ?_ | refine below_drewN ?_ _ | refine onto ?_ hb2 | refine onto ?_ hb1)) _⟩
            · by_cases f2 : y % e * d < x % d * e
              · have F : Hid (cmpI (x * e) (y * d) = 1) := by unfold Hid cmpI; rw [if_neg (by omega), if_pos (by omega)]
                clear g3
                go_wp2_with fail
                go_quiet (fail)
                go_wp2_with fail
                go_quiet (fail)
                go_wp2_with fail
                go_quiet (fail)
                go_wp2
                go_ret
                exact ⟨ret_int (by rw [← HX.out, ← HY.out] at F; exact F.out.symm), below_drewN (by repeat (first | exact Below.refl _ _ | refine Below.alloc ?_ (by simp) _ | refine Below.drew ?_ | refine below_drewN ?_ _ | refine onto ?_ hb2 | refine onto ?_ hb1)) _⟩
              · have F : Hid (cmpI (x * e) (y * d) = 0) := by unfold Hid cmpI; rw [if_neg (by omega), if_neg (by omega)]
                clear g3
                go_wp2_with fail
                go_quiet (fail)
                go_wp2_with fail
                go_quiet (fail)
                go_wp2_with fail
                go_quiet (fail)
                go_wp2
                go_ret
                exact ⟨ret_int (by rw [← HX.out, ← HY.out] at F; exact F.out.symm), below_drewN (by repeat (first | exact Below.refl _ _ | refine Below.alloc ?_ (by simp) _ | refine Below.drew ?_ | refine below_drewN ?_ _ | refine onto ?_ hb2 | refine onto ?_ hb1)) _⟩
          · have gb : (x / d != y / e) = true := by simpa using g
            by_cases f1 : x / d < y / e
            · have g3 := c1 f1
              have F : Hid (cmpI (x * e) (y * d) = -1) := by unfold Hid cmpI; rw [if_pos (by omega)]
              clear g3 c1 c2 c3 g
              go_wp2_with fail
              go_quiet (fail)
              go_wp2_with fail
              go_quiet (fail)
              go_wp2
              go_ret
              exact ⟨ret_int (by rw [← HX.out, ← HY.out] at F; exact F.out.symm), below_drewN (by repeat (first | exact Below.refl _ _ | refine Below.alloc ?_ (by simp) _ | refine Below.drew ?_ | refine below_drewN ?_ _ | refine onto ?_ hb2 | refine onto ?_ hb1)) _⟩
            · have g3 := c2 (by omega)
              have F : Hid (cmpI (x * e) (y * d) = 1) := by unfold Hid cmpI; rw [if_neg (by omega), if_pos (by omega)]
              clear g3 c1 c2 c3 g
              go_wp2_with fail
              go_quiet (fail)
              go_wp2_with fail
              go_quiet (fail)
              go_wp2
              go_ret
              exact ⟨ret_int (by rw [← HX.out, ← HY.out] at F; exact F.out.symm), below_drewN (by repeat (first | exact Below.refl _ _ | refine Below.alloc ?_ (by simp) _ | refine Below.drew ?_ | refine below_drewN ?_ _ | refine onto ?_ hb2 | refine onto ?_ hb1)) _⟩
end Go.Proofs.Ytiopmlepdjiapaj
