/-
  AddAmount: of the program.
-/
import Derived.Test.YtiopmlepdjiapaaSConv2
namespace Go.Proofs.Ytiopmlepdjiapaa
open Go.RowKit Am

theorem v_bd {m e v u : Int} (h : vR m e v u = true) : 0 ≤ vN m e v u ∧ vN m e v u ≤ 1000000000 ∧ 1 ≤ vD m e v u ∧ vD m e v u ≤ 1000000000 := by
  have hb : vB m e v u = true := by unfold vR at h; simp at h; exact h.1
  obtain ⟨e1, e2, e3, e4⟩ := v_in hb
  rw [e4] at h
  rw [e1, e2]
  obtain ⟨f1, f2, f3⟩ := r_some _ _ _ h
  rw [f1, f2]
  have := okB_true (show okB _ _ _ = true from h)
  omega

set_option maxHeartbeats 400000 in
theorem plus_any (n d m e : Int) (w : World) (h1 : 0 ≤ n) (h2 : n ≤ 1000000000) (h3 : 0 ≤ d) (h4 : d ≤ 1000000000) (k1 : 0 ≤ m) (k2 : m ≤ 1000000000) (k3 : 0 ≤ e) (k4 : e ≤ 1000000000) :
    Calls Try.prog 32 #[.agg #[.int .i64 n, .int .i64 d], .agg #[.int .i64 m, .int .i64 e]] w fun r w' => r = .returned (.agg #[.int .i64 (n * e + m * d), .int .i64 (d * e)]) ∧ Below w.heap.size w w' := by
  have t1 : n * e ≤ 1000000000000000000 := by have := Int.mul_le_mul h2 k4 k3 (by omega); omega
  have t2 : d * e ≤ 1000000000000000000 := by have := Int.mul_le_mul h4 k4 k3 (by omega); omega
  have t3 : 0 ≤ n * e := Int.mul_nonneg h1 k3
  have t4 : 0 ≤ d * e := Int.mul_nonneg h3 k3
  have t5 : m * d ≤ 1000000000000000000 := by have := Int.mul_le_mul k2 h4 h3 (by omega); omega
  have t6 : 0 ≤ m * d := Int.mul_nonneg k1 h3
  go_enter Try.func32, Try.ntmps32
  go_wp2
  exact bodyPost_ret (v := .agg #[.int .i64 (n * e + m * d), .int .i64 (d * e)]) (by simp [results, Try.results32, go_sem]) rfl
    ⟨rfl, by repeat (first | exact Below.refl _ _ | refine Below.setCell ?_ (by simp) _ | refine Below.alloc ?_ (by first | (simp; done) | (simp; omega)) _)⟩

/-- Whether AddAmount is asked a thing that it takes; what it tells. -/
def aB (n d u m e v : Int) : Bool := okB n d u && vR m e v u
def aX (n d u m e v : Int) : Int := n * vD m e v u + vN m e v u * d
def aY (d u m e v : Int) : Int := d * vD m e v u
def aN (n d u m e v : Int) : Int := if aB n d u m e v = true then rN (aX n d u m e v) (aY d u m e v) u else 0
def aD (n d u m e v : Int) : Int := if aB n d u m e v = true then rD (aX n d u m e v) (aY d u m e v) u else 0
def aU (n d u m e v : Int) : Int := if aB n d u m e v = true then rU (aX n d u m e v) (aY d u m e v) u else 0
def aR (n d u m e v : Int) : Bool := aB n d u m e v && rB (aX n d u m e v) (aY d u m e v) u
theorem a_in {n d u m e v : Int} (h : aB n d u m e v = true) : aN n d u m e v = rN (aX n d u m e v) (aY d u m e v) u ∧ aD n d u m e v = rD (aX n d u m e v) (aY d u m e v) u ∧ aU n d u m e v = rU (aX n d u m e v) (aY d u m e v) u ∧ aR n d u m e v = rB (aX n d u m e v) (aY d u m e v) u := by
  unfold aN aD aU aR; simp [h]
theorem a_out {n d u m e v : Int} (h : aB n d u m e v = false) : aN n d u m e v = 0 ∧ aD n d u m e v = 0 ∧ aU n d u m e v = 0 ∧ aR n d u m e v = false := by
  unfold aN aD aU aR; simp [h]

theorem keep33 {V w' : World} {b c : Nat} {x y z x' y' z' : Value} (hb : Below V.heap.size V w') (hlt : b < V.heap.size) (hlt' : c < V.heap.size)
    (h : V.cell? ⟨b, 0, none⟩ = some x ∧ V.cell? ⟨b, 1, none⟩ = some y ∧ V.cell? ⟨b, 2, none⟩ = some z ∧ V.cell? ⟨c, 0, none⟩ = some x' ∧ V.cell? ⟨c, 1, none⟩ = some y' ∧ V.cell? ⟨c, 2, none⟩ = some z') :
    w'.cell? ⟨b, 0, none⟩ = some x ∧ w'.cell? ⟨b, 1, none⟩ = some y ∧ w'.cell? ⟨b, 2, none⟩ = some z ∧ w'.cell? ⟨c, 0, none⟩ = some x' ∧ w'.cell? ⟨c, 1, none⟩ = some y' ∧ w'.cell? ⟨c, 2, none⟩ = some z' := by
  obtain ⟨h1, h2, h3, h4⟩ := h
  obtain ⟨k1, k2, k3⟩ := keep3 hb hlt ⟨h1, h2, h3⟩
  exact ⟨k1, k2, k3, keep3 hb hlt' h4⟩

set_option maxHeartbeats 2000000 in
theorem iadd_out1 (n d u m e v : Int) (w : World) (ho : okB n d u = false) :
    Calls Try.prog 12 #[.agg #[.int .i64 n, .int .i64 d, .int .i64 u], .agg #[.int .i64 m, .int .i64 e, .int .i64 v]] w fun r w' => r = .returned (.tuple #[.agg #[.int .i64 0, .int .i64 0, .int .i64 0], .bool false]) ∧ Below w.heap.size w w' := by
  go_enter Try.func12, Try.ntmps12
  go_wp2_with fail
  refine (iok_any _ _ _ _).mono ?_
  rintro r w1 ⟨rfl, hb1⟩
  obtain ⟨hc1, hf1⟩ := bcell hb1
  go_wp2
  exact bodyPost_ret (v := .tuple #[.agg #[.int .i64 0, .int .i64 0, .int .i64 0], .bool false]) (by simp [results, Try.results12, go_sem, hc1]) rfl
    ⟨rfl, (((onto ((((Below.refl _ _).alloc (Nat.le_refl _) _).alloc (by simp) _).alloc (by first | omega | (simp; done) | (simp; omega)) _) hb1).setCell (by first | omega | (simp; done) | (simp; omega)) _).setCell (by first | omega | (simp; done) | (simp; omega)) _).setCell (by first | omega | (simp; done) | (simp; omega)) _⟩

set_option maxHeartbeats 2000000 in
theorem iadd_out2 (n d u m e v : Int) (w : World) (ho : okB n d u = true) (hv : vR m e v u = false) :
    Calls Try.prog 12 #[.agg #[.int .i64 n, .int .i64 d, .int .i64 u], .agg #[.int .i64 m, .int .i64 e, .int .i64 v]] w fun r w' => r = .returned (.tuple #[.agg #[.int .i64 0, .int .i64 0, .int .i64 0], .bool false]) ∧ Below w.heap.size w w' := by
  go_enter Try.func12, Try.ntmps12
  go_wp2_with fail
  refine (iok_any _ _ _ _).mono ?_
  rintro r w1 ⟨rfl, hb1⟩
  obtain ⟨hc1, hf1⟩ := bcell hb1
  have hz0 : w.heap.size < w1.heap.size := Nat.lt_of_lt_of_le (by first | omega | (simp; done) | (simp; omega)) hb1.size
  have hz1 : w.heap.size + 1 < w1.heap.size := Nat.lt_of_lt_of_le (by first | omega | (simp; done) | (simp; omega)) hb1.size
  go_wp2_with fail
  refine (iconv_any m e v u _).mono ?_
  rintro r w2 ⟨rfl, hb2⟩
  have hB2 := hop hb1 (Below.refl _ _) hb2
  obtain ⟨hc2, hf2⟩ := bcell hB2
  have hz2 : w.heap.size + 1 + 1 < w2.heap.size := Nat.lt_of_lt_of_le (by first | omega | (simp; done) | (simp; omega)) hB2.size
  go_wp2
  exact bodyPost_ret (v := .tuple #[.agg #[.int .i64 0, .int .i64 0, .int .i64 0], .bool false]) (by simp [results, Try.results12, go_sem, hc2, hz2]) rfl
    ⟨rfl, ((((onto ((((Below.refl _ _).alloc (Nat.le_refl _) _).alloc (by simp) _).alloc (by first | omega | (simp; done) | (simp; omega)) _) hB2).setCell (by first | omega | (simp; done) | (simp; omega)) _).setCell (by first | omega | (simp; done) | (simp; omega)) _).setCell (by first | omega | (simp; done) | (simp; omega)) _).alloc (by first | omega | (simp; done) | (simp; omega)) _⟩

set_option maxHeartbeats 4000000 in
theorem iadd_in (n d u m e v : Int) (w : World) (ho : okB n d u = true) (hv : vR m e v u = true) :
    Calls Try.prog 12 #[.agg #[.int .i64 n, .int .i64 d, .int .i64 u], .agg #[.int .i64 m, .int .i64 e, .int .i64 v]] w fun r w' => r = .returned (.tuple #[.agg #[.int .i64 (rN (aX n d u m e v) (aY d u m e v) u), .int .i64 (rD (aX n d u m e v) (aY d u m e v) u), .int .i64 (rU (aX n d u m e v) (aY d u m e v) u)], .bool (rB (aX n d u m e v) (aY d u m e v) u)]) ∧ Below w.heap.size w w' := by
  obtain ⟨h1, h2, h3, h4, _, _, h7⟩ := okB_true ho
  clear h7
  obtain ⟨k1, k2, k3, k4⟩ := v_bd hv
  unfold aX aY
  have t1 : n * vD m e v u ≤ 1000000000000000000 := by have := Int.mul_le_mul h2 k4 (by omega) (by omega); omega
  have t2 : d * vD m e v u ≤ 1000000000000000000 := by have := Int.mul_le_mul h4 k4 (by omega) (by omega); omega
  have t3 : 0 ≤ n * vD m e v u := Int.mul_nonneg h1 (by omega)
  have t4 : 1 ≤ d * vD m e v u := by have := Int.mul_le_mul h3 k3 (by omega) (by omega); omega
  have t5 : vN m e v u * d ≤ 1000000000000000000 := by have := Int.mul_le_mul k2 h4 (by omega) (by omega); omega
  have t6 : 0 ≤ vN m e v u * d := Int.mul_nonneg k1 (by omega)
  go_enter Try.func12, Try.ntmps12
  go_wp2_with fail
  refine (iok_any _ _ _ _).mono ?_
  rintro r w1 ⟨rfl, hb1⟩
  obtain ⟨hc1, hf1⟩ := bcell hb1
  have hz0 : w.heap.size < w1.heap.size := Nat.lt_of_lt_of_le (by first | omega | (simp; done) | (simp; omega)) hb1.size
  have hz1 : w.heap.size + 1 < w1.heap.size := Nat.lt_of_lt_of_le (by first | omega | (simp; done) | (simp; omega)) hb1.size
  go_wp2_with fail
  refine (iconv_any m e v u _).mono ?_
  rintro r w2 ⟨rfl, hb2⟩
  have hB2 := hop hb1 (Below.refl _ _) hb2
  obtain ⟨hc2, hf2⟩ := bcell hB2
  have hz2 : w.heap.size + 1 + 1 < w2.heap.size := Nat.lt_of_lt_of_le (by first | omega | (simp; done) | (simp; omega)) hB2.size
  have hz3 : w.heap.size < w2.heap.size := by omega
  have hn1 : ¬ w2.heap.size = w.heap.size + 1 + 1 := by omega
  have hn2 : ¬ w.heap.size + 1 + 1 = w2.heap.size := by omega
  go_wp2_with fail
  go_region_held3 (fun w' => w'.cell? ⟨w.heap.size, 0, none⟩ = some (.int .i64 n) ∧ w'.cell? ⟨w.heap.size, 1, none⟩ = some (.int .i64 d) ∧ w'.cell? ⟨w.heap.size, 2, none⟩ = some (.int .i64 u) ∧ w'.cell? ⟨w2.heap.size, 0, none⟩ = some (.int .i64 (vN m e v u)) ∧ w'.cell? ⟨w2.heap.size, 1, none⟩ = some (.int .i64 (vD m e v u)) ∧ w'.cell? ⟨w2.heap.size, 2, none⟩ = some (.int .i64 (vU m e v u))) (first | (refine keep33 (by assumption) ?_ ?_ (by assumption) <;> first | (simp; done) | (simp; omega) | omega) | simp [*, go_sem, lt2, lt3])
    (first
      | (go_at_call_of 31 (Value.agg #[Value.int IntKind.i64 n, Value.int IntKind.i64 d, Value.int IntKind.i64 u]); refine (frac_any _ _ _ _).mono ?_; rintro r w3 ⟨rfl, hb3⟩; have hy3 := hb3.size; simp at hy3)
      | (go_at_call 31; refine (frac_any _ _ _ _).mono ?_; rintro r w4 ⟨rfl, hb4⟩; have hy4 := hb4.size)
      | (go_at_call 32; refine (plus_any _ _ _ _ _ (by omega) (by omega) (by omega) (by omega) (by omega) (by omega) (by omega) (by omega)).mono ?_; rintro r w5 ⟨rfl, hb5⟩; have hy5 := hb5.size)
      | (go_at_call 25; refine (right_any _ _ _ _ (by omega) (by omega) (by omega) (by omega)).mono ?_; rintro r w6 ⟨rfl, hb6⟩; have hy6 := hb6.size; obtain ⟨hc6, hf6⟩ := bcell (hop (hop (hop (hop hB2 (Below.drew ((Below.refl _ _).alloc (Nat.le_refl _) _)) hb3) (Below.refl _ _) hb4) (Below.refl _ _) hb5) (Below.refl _ _) hb6)))
  have hB := hop (hop (hop (hop hB2 (Below.drew ((Below.refl _ _).alloc (Nat.le_refl _) _)) hb3) (Below.refl _ _) hb4) (Below.refl _ _) hb5) (Below.refl _ _) hb6
  have hz6 : w.heap.size + 1 + 1 < w6.heap.size := Nat.lt_of_lt_of_le (by first | omega | (simp; done) | (simp; omega)) hB.size
  go_wp2
  exact bodyPost_ret (v := .tuple #[.agg #[.int .i64 (rN (n * vD m e v u + vN m e v u * d) (d * vD m e v u) u), .int .i64 (rD (n * vD m e v u + vN m e v u * d) (d * vD m e v u) u), .int .i64 (rU (n * vD m e v u + vN m e v u * d) (d * vD m e v u) u)], .bool (rB (n * vD m e v u + vN m e v u * d) (d * vD m e v u) u)]) (by simp [results, Try.results12, go_sem, hc6]) rfl
    ⟨rfl, (((onto ((((Below.refl _ _).alloc (Nat.le_refl _) _).alloc (by simp) _).alloc (by first | omega | (simp; done) | (simp; omega)) _) hB).setCell (by first | omega | (simp; done) | (simp; omega)) _).setCell (by first | omega | (simp; done) | (simp; omega)) _).setCell (by first | omega | (simp; done) | (simp; omega)) _⟩

theorem iadd_any (n d u m e v : Int) (w : World) :
    Calls Try.prog 12 #[.agg #[.int .i64 n, .int .i64 d, .int .i64 u], .agg #[.int .i64 m, .int .i64 e, .int .i64 v]] w fun r w' => r = .returned (.tuple #[.agg #[.int .i64 (aN n d u m e v), .int .i64 (aD n d u m e v), .int .i64 (aU n d u m e v)], .bool (aR n d u m e v)]) ∧ Below w.heap.size w w' := by
  cases h : aB n d u m e v
  · obtain ⟨e1, e2, e3, e4⟩ := a_out h
    rw [e1, e2, e3, e4]
    cases ho : okB n d u
    · exact iadd_out1 n d u m e v w ho
    · exact iadd_out2 n d u m e v w ho (by unfold aB at h; simpa [ho] using h)
  · obtain ⟨e1, e2, e3, e4⟩ := a_in h
    rw [e1, e2, e3, e4]
    unfold aB at h
    simp at h
    exact iadd_in n d u m e v w h.1 h.2
end Go.Proofs.Ytiopmlepdjiapaa
