/-
  CmpAmount: of the program.
-/
import Derived.Test.YtiopmlepdjiapaaCmp
import Derived.Test.YtiopmlepdjiapaaAdd
namespace Go.Proofs.Ytiopmlepdjiapaa
open Go.RowKit Am

set_option maxHeartbeats 4000000 in
theorem icmp_out1 (n d u m e v : Int) (w : World) (ho : okB n d u = false) :
    Calls Try.prog 10 #[.agg #[.int .i64 n, .int .i64 d, .int .i64 u], .agg #[.int .i64 m, .int .i64 e, .int .i64 v]] w fun r w' => r = .returned (.int .i64 2) ∧ Below w.heap.size w w' := by
  go_enter Try.func10, Try.ntmps10
  go_wp2_with fail
  first | go_region_with (first
      | (go_at_call_of 9 (Value.agg #[Value.int IntKind.i64 n, Value.int IntKind.i64 d, Value.int IntKind.i64 u]); refine (iok_any _ _ _ _).mono ?_; rintro r w1 ⟨rfl, hb1⟩; obtain ⟨hc1, hf1⟩ := bcell hb1; have hy1 := hb1.size; (try simp at hy1); have hl1 : w.heap.size < w1.heap.size := (by omega); have hm1 : w.heap.size + 1 < w1.heap.size := (by omega))
      | (go_at_call 9; refine (iok_any _ _ _ _).mono ?_; rintro r w2 ⟨rfl, hb2⟩; obtain ⟨hc2, hf2⟩ := bcell hb2; have hy2 := hb2.size; (try simp at hy2); have hl2 : w.heap.size < w2.heap.size := (by omega); have hm2 : w.heap.size + 1 < w2.heap.size := (by omega))
      | (go_at_call 22; refine (kind_any _ _).mono ?_; rintro r wk ⟨rfl, hwk⟩; subst hwk)) | fail
  all_goals
    go_wp2
    go_ret
    exact ⟨rfl, by repeat (first | exact Below.refl _ _ | refine Below.alloc ?_ (by simp) _ | refine Below.drew ?_ | refine below_drewN ?_ _ | refine onto ?_ hb2 | refine onto ?_ hb1)⟩

set_option maxHeartbeats 4000000 in
theorem icmp_out2 (n d u m e v : Int) (w : World) (ho : okB n d u = true) (hp : okB m e v = false) :
    Calls Try.prog 10 #[.agg #[.int .i64 n, .int .i64 d, .int .i64 u], .agg #[.int .i64 m, .int .i64 e, .int .i64 v]] w fun r w' => r = .returned (.int .i64 2) ∧ Below w.heap.size w w' := by
  go_enter Try.func10, Try.ntmps10
  go_wp2_with fail
  first | go_region_with (first
      | (go_at_call_of 9 (Value.agg #[Value.int IntKind.i64 n, Value.int IntKind.i64 d, Value.int IntKind.i64 u]); refine (iok_any _ _ _ _).mono ?_; rintro r w1 ⟨rfl, hb1⟩; obtain ⟨hc1, hf1⟩ := bcell hb1; have hy1 := hb1.size; (try simp at hy1); have hl1 : w.heap.size < w1.heap.size := (by omega); have hm1 : w.heap.size + 1 < w1.heap.size := (by omega))
      | (go_at_call 9; refine (iok_any _ _ _ _).mono ?_; rintro r w2 ⟨rfl, hb2⟩; obtain ⟨hc2, hf2⟩ := bcell hb2; have hy2 := hb2.size; (try simp at hy2); have hl2 : w.heap.size < w2.heap.size := (by omega); have hm2 : w.heap.size + 1 < w2.heap.size := (by omega))
      | (go_at_call 22; refine (kind_any _ _).mono ?_; rintro r wk ⟨rfl, hwk⟩; subst hwk)) | fail
  all_goals
    go_wp2
    go_ret
    exact ⟨rfl, by repeat (first | exact Below.refl _ _ | refine Below.alloc ?_ (by simp) _ | refine Below.drew ?_ | refine below_drewN ?_ _ | refine onto ?_ hb2 | refine onto ?_ hb1)⟩

set_option maxHeartbeats 4000000 in
theorem icmp_out3 (n d u m e v : Int) (w : World) (ho : okB n d u = true) (hp : okB m e v = true) (hk : (kd u != kd v) = true) :
    Calls Try.prog 10 #[.agg #[.int .i64 n, .int .i64 d, .int .i64 u], .agg #[.int .i64 m, .int .i64 e, .int .i64 v]] w fun r w' => r = .returned (.int .i64 2) ∧ Below w.heap.size w w' := by
  go_enter Try.func10, Try.ntmps10
  go_wp2_with fail
  first | go_region_held3 (fun w' => w'.cell? ⟨w.heap.size, 0, none⟩ = some (.int .i64 n) ∧ w'.cell? ⟨w.heap.size, 1, none⟩ = some (.int .i64 d) ∧ w'.cell? ⟨w.heap.size, 2, none⟩ = some (.int .i64 u) ∧ w'.cell? ⟨w.heap.size + 1, 0, none⟩ = some (.int .i64 m) ∧ w'.cell? ⟨w.heap.size + 1, 1, none⟩ = some (.int .i64 e) ∧ w'.cell? ⟨w.heap.size + 1, 2, none⟩ = some (.int .i64 v)) (first | (refine keep33 (by assumption) ?_ ?_ (by assumption) <;> first | (simp; done) | (simp; omega) | omega) | simp [*, go_sem, lt2]) (first
      | (go_at_call_of 9 (Value.agg #[Value.int IntKind.i64 n, Value.int IntKind.i64 d, Value.int IntKind.i64 u]); refine (iok_any _ _ _ _).mono ?_; rintro r w1 ⟨rfl, hb1⟩; obtain ⟨hc1, hf1⟩ := bcell hb1; have hy1 := hb1.size; (try simp at hy1); have hl1 : w.heap.size < w1.heap.size := (by omega); have hm1 : w.heap.size + 1 < w1.heap.size := (by omega))
      | (go_at_call 9; refine (iok_any _ _ _ _).mono ?_; rintro r w2 ⟨rfl, hb2⟩; obtain ⟨hc2, hf2⟩ := bcell hb2; have hy2 := hb2.size; (try simp at hy2); have hl2 : w.heap.size < w2.heap.size := (by omega); have hm2 : w.heap.size + 1 < w2.heap.size := (by omega))
      | (go_at_call 22; refine (kind_any _ _).mono ?_; rintro r wk ⟨rfl, hwk⟩; subst hwk)) | fail
  all_goals
    go_wp2
    go_ret
    exact ⟨rfl, by repeat (first | exact Below.refl _ _ | refine Below.alloc ?_ (by simp) _ | refine Below.drew ?_ | refine below_drewN ?_ _ | refine onto ?_ hb2 | refine onto ?_ hb1)⟩

set_option maxHeartbeats 4000000 in
theorem icmp_in (n d u m e v : Int) (w : World) (ho : okB n d u = true) (hp : okB m e v = true) (hk : (kd u != kd v) = false) :
    Calls Try.prog 10 #[.agg #[.int .i64 n, .int .i64 d, .int .i64 u], .agg #[.int .i64 m, .int .i64 e, .int .i64 v]] w fun r w' => r = .returned (.int .i64 (cmpI (n * sz u * e) (m * sz v * d))) ∧ Below w.heap.size w w' := by
  obtain ⟨h1, h2, h3, h4, _, _, h7⟩ := okB_true ho
  obtain ⟨k1, k2, k3, k4, _, _, k7⟩ := okB_true hp
  clear h7 k7
  obtain ⟨s1, s2⟩ := sz_bd u
  obtain ⟨s3, s4⟩ := sz_bd v
  have t1 : n * sz u ≤ 1000000000000000 := by have := Int.mul_le_mul h2 s2 (by omega) (by omega); omega
  have t2 : 0 ≤ n * sz u := Int.mul_nonneg h1 (by omega)
  have t3 : m * sz v ≤ 1000000000000000 := by have := Int.mul_le_mul k2 s4 (by omega) (by omega); omega
  have t4 : 0 ≤ m * sz v := Int.mul_nonneg k1 (by omega)
  go_enter Try.func10, Try.ntmps10
  go_wp2_with fail
  first | go_region_held3 (fun w' => w'.cell? ⟨w.heap.size, 0, none⟩ = some (.int .i64 n) ∧ w'.cell? ⟨w.heap.size, 1, none⟩ = some (.int .i64 d) ∧ w'.cell? ⟨w.heap.size, 2, none⟩ = some (.int .i64 u) ∧ w'.cell? ⟨w.heap.size + 1, 0, none⟩ = some (.int .i64 m) ∧ w'.cell? ⟨w.heap.size + 1, 1, none⟩ = some (.int .i64 e) ∧ w'.cell? ⟨w.heap.size + 1, 2, none⟩ = some (.int .i64 v)) (first | (refine keep33 (by assumption) ?_ ?_ (by assumption) <;> first | (simp; done) | (simp; omega) | omega) | simp [*, go_sem, lt2]) (first
      | (go_at_call_of 9 (Value.agg #[Value.int IntKind.i64 n, Value.int IntKind.i64 d, Value.int IntKind.i64 u]); refine (iok_any _ _ _ _).mono ?_; rintro r w1 ⟨rfl, hb1⟩; obtain ⟨hc1, hf1⟩ := bcell hb1; have hy1 := hb1.size; (try simp at hy1); have hl1 : w.heap.size < w1.heap.size := (by omega); have hm1 : w.heap.size + 1 < w1.heap.size := (by omega))
      | (go_at_call 9; refine (iok_any _ _ _ _).mono ?_; rintro r w2 ⟨rfl, hb2⟩; obtain ⟨hc2, hf2⟩ := bcell hb2; have hy2 := hb2.size; (try simp at hy2); have hl2 : w.heap.size < w2.heap.size := (by omega); have hm2 : w.heap.size + 1 < w2.heap.size := (by omega))
      | (go_at_call 22; refine (kind_any _ _).mono ?_; rintro r wk ⟨rfl, hwk⟩; subst hwk)) | fail
  go_wp2_with fail
  go_region_held3 (fun w' => w'.cell? ⟨w.heap.size, 0, none⟩ = some (.int .i64 n) ∧ w'.cell? ⟨w.heap.size, 1, none⟩ = some (.int .i64 d) ∧ w'.cell? ⟨w.heap.size, 2, none⟩ = some (.int .i64 u) ∧ w'.cell? ⟨w.heap.size + 1, 0, none⟩ = some (.int .i64 m) ∧ w'.cell? ⟨w.heap.size + 1, 1, none⟩ = some (.int .i64 e) ∧ w'.cell? ⟨w.heap.size + 1, 2, none⟩ = some (.int .i64 v)) (first | (refine keep33 (by assumption) ?_ ?_ (by assumption) <;> first | (simp; done) | (simp; omega) | omega) | simp [*, go_sem, lt2])
    (first
      | (go_at_call_of 23 (Value.agg #[Value.int IntKind.i64 n, Value.int IntKind.i64 d, Value.int IntKind.i64 u]); refine (least_any _ _ _ _ (by omega) (by omega)).mono ?_; rintro r w3 ⟨rfl, hb3⟩; have hy3 := hb3.size; (try simp at hy3); have hl3 : w.heap.size < w3.heap.size := (by omega); have hm3 : w.heap.size + 1 < w3.heap.size := (by omega))
      | (go_at_call 23; refine (least_any _ _ _ _ (by omega) (by omega)).mono ?_; rintro r w4 ⟨rfl, hb4⟩; have hy4 := hb4.size; (try simp at hy4); have hl4 : w.heap.size < w4.heap.size := (by omega); have hm4 : w.heap.size + 1 < w4.heap.size := (by omega))
      | (go_at_call 30; refine (cmpf_any _ _ _ _ _ (by omega) (by omega) (by omega) (by omega) (by omega) (by omega) (by omega) (by omega)).mono ?_; rintro r w5 ⟨rfl, hb5⟩; have hy5 := hb5.size; (try simp at hy5); have hl5 : w.heap.size < w5.heap.size := (by omega); have hm5 : w.heap.size + 1 < w5.heap.size := (by omega)))
  go_wp2
  go_ret
  exact ⟨rfl, by repeat (first | exact Below.refl _ _ | refine Below.alloc ?_ (by simp) _ | refine Below.drew ?_ | refine below_drewN ?_ _ | refine onto ?_ hb5 | refine onto ?_ hb4 | refine onto ?_ hb3 | refine onto ?_ hb2 | refine onto ?_ hb1)⟩

/-- What CmpAmount tells. -/
def qB (n d u m e v : Int) : Bool := okB n d u && okB m e v && decide (kd u = kd v)
def qC (n d u m e v : Int) : Int := if qB n d u m e v = true then cmpI (n * sz u * e) (m * sz v * d) else 2
theorem icmp_any (n d u m e v : Int) (w : World) :
    Calls Try.prog 10 #[.agg #[.int .i64 n, .int .i64 d, .int .i64 u], .agg #[.int .i64 m, .int .i64 e, .int .i64 v]] w fun r w' => r = .returned (.int .i64 (qC n d u m e v)) ∧ Below w.heap.size w w' := by
  unfold qC qB
  cases ho : okB n d u
  · simpa using icmp_out1 n d u m e v w ho
  cases hp : okB m e v
  · simpa using icmp_out2 n d u m e v w ho hp
  by_cases hk : kd u = kd v
  · simpa [hk] using icmp_in n d u m e v w ho hp (by simpa using hk)
  · simpa [hk] using icmp_out3 n d u m e v w ho hp (by simpa using hk)
end Go.Proofs.Ytiopmlepdjiapaa
