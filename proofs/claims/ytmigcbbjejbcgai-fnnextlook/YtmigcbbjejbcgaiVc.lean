/-
  The program's VitalOk.
-/
import Derived.Test.YtmigcbbjejbcgaiVd
import Derived.Laws.EntriesVeiled
namespace Go.Proofs.Ytmigcbbjejbcgai
open Go.RowKit Va
set_option linter.unusedVariables false

/-- The k-th sign is in its bounds. -/
def okAt (v : Vt) (k : Nat) : Bool := match k with
  | 0 => decide (v.b = -1) || (decide (0 ≤ v.b) && decide (v.b ≤ 99))
  | 1 => decide (v.o = -1) || (decide (0 ≤ v.o) && decide (v.o ≤ 100))
  | 2 => decide (v.p = -1) || (decide (0 ≤ v.p) && decide (v.p ≤ 400))
  | 3 => decide (v.u = -1) || (decide (0 ≤ v.u) && decide (v.u ≤ 400))
  | 4 => decide (v.a = -1) || (decide (0 ≤ v.a) && decide (v.a ≤ 1))
  | _ => decide (v.h = -1) || (decide (200 ≤ v.h) && decide (v.h ≤ 460))
def okTo (v : Vt) (n : Nat) : Prop := ∀ k, k < n → okAt v k = true
theorem okTo_zero (v : Vt) : okTo v 0 := fun k h => absurd h (Nat.not_lt_zero _)
theorem okTo_succ {v : Vt} {n : Nat} (h : okTo v n) (h2 : okAt v n = true) : okTo v (n + 1) := fun k hk => by
  rcases Nat.lt_succ_iff_lt_or_eq.1 hk with q | rfl
  · exact h k q
  · exact h2
theorem vOk_of_to {v : Vt} (h : okTo v 6) : vOk v = true := by
  have h0 := h 0 (by omega); have h1 := h 1 (by omega); have h2 := h 2 (by omega); have h3 := h 3 (by omega); have h4 := h 4 (by omega); have h5 := h 5 (by omega)
  simp [okAt] at h0 h1 h2 h3 h4 h5
  rw [vOk_iff]
  omega
theorem vOk_not {v : Vt} (k : Nat) (hk : k < 6) (h : okAt v k = false) : vOk v = false := by
  cases q : vOk v with
  | false => rfl
  | true =>
    rw [vOk_iff] at q
    obtain ⟨q0, q1, q2, q3, q4, q5⟩ := q
    rcases (show k = 0 ∨ k = 1 ∨ k = 2 ∨ k = 3 ∨ k = 4 ∨ k = 5 by omega) with rfl | rfl | rfl | rfl | rfl | rfl <;> simp [okAt] at h <;> omega

set_option maxRecDepth 20000 in
set_option maxHeartbeats 8000000 in
theorem ivok_any (v : Vt) (w : World) : Calls Try.prog 17 #[aV v] w fun e w' => e = .returned (.bool (vOk v)) ∧ Below w.heap.size w w' := by
  have HT := hidden tbl_any
  have F1 := f1_any v
  have F2 := f2_any v
  have F3 := f3_any v
  have F4 := f4_any v
  have F5 := f5_any v
  have F6 := f6_any v
  have HV := hidden (fun k (hk : k < 6) (h : okAt v k = false) => vOk_not k hk h)
  have HE := hidden (fun h : okTo v 6 => vOk_of_to h)
  have O1 := hidden (show okAt v 0 = (decide (v.b = -1) || (decide (0 ≤ v.b) && decide (v.b ≤ 99))) from rfl)
  have O2 := hidden (show okAt v 1 = (decide (v.o = -1) || (decide (0 ≤ v.o) && decide (v.o ≤ 100))) from rfl)
  have O3 := hidden (show okAt v 2 = (decide (v.p = -1) || (decide (0 ≤ v.p) && decide (v.p ≤ 400))) from rfl)
  have O4 := hidden (show okAt v 3 = (decide (v.u = -1) || (decide (0 ≤ v.u) && decide (v.u ≤ 400))) from rfl)
  have O5 := hidden (show okAt v 4 = (decide (v.a = -1) || (decide (0 ≤ v.a) && decide (v.a ≤ 1))) from rfl)
  have O6 := hidden (show okAt v 5 = (decide (v.h = -1) || (decide (200 ≤ v.h) && decide (v.h ≤ 460))) from rfl)
  have I0 := ix0
  have I1 := ix1
  have I2 := ix2
  have I3 := ix3
  have I4 := ix4
  have I5 := ix5
  unfold aV at *
  obtain ⟨b, o, p, u, a, h⟩ := v
  simp only at F1 F2 F3 F4 F5 F6 O1 O2 O3 O4 O5 O6 ⊢
  go_enter Try.func17, Try.ntmps17
  go_wp2_with fail
  refine (HT.out _).mono ?_
  rintro e w1 ⟨rfl, hb1⟩
  have b1 := onto (show Below w.heap.size w _ from by repeat (first | exact Below.refl _ _ | assumption | refine st_drew ?_ | refine st_drewN ?_ _ | refine Below.setCell ?_ (by first | omega | (simp; done) | (simp; omega)) _ | refine Below.alloc ?_ (by first | omega | (simp; done) | (simp; omega)) _)) hb1
  have z1 := hb1.size
  simp only [World.size_alloc] at z1
  have z2 : w.heap.size < w1.heap.size := by omega
  have c0 : w1.cell? ⟨w.heap.size, 0, none⟩ = some (.int .i64 b) := ((bcell hb1).1 _ _ (by first | omega | (simp; done) | (simp; omega))).trans (by simp)
  have c1 : w1.cell? ⟨w.heap.size, 1, none⟩ = some (.int .i64 o) := ((bcell hb1).1 _ _ (by first | omega | (simp; done) | (simp; omega))).trans (by simp)
  have c2 : w1.cell? ⟨w.heap.size, 2, none⟩ = some (.int .i64 p) := ((bcell hb1).1 _ _ (by first | omega | (simp; done) | (simp; omega))).trans (by simp)
  have c3 : w1.cell? ⟨w.heap.size, 3, none⟩ = some (.int .i64 u) := ((bcell hb1).1 _ _ (by first | omega | (simp; done) | (simp; omega))).trans (by simp)
  have c4 : w1.cell? ⟨w.heap.size, 4, none⟩ = some (.int .i64 a) := ((bcell hb1).1 _ _ (by first | omega | (simp; done) | (simp; omega))).trans (by simp)
  have c5 : w1.cell? ⟨w.heap.size, 5, none⟩ = some (.int .i64 h) := ((bcell hb1).1 _ _ (by first | omega | (simp; done) | (simp; omega))).trans (by simp)
  clear hb1 z1
  go_wp2_with fail
  go_loopw [7] (fun iv wr => ∃ i : Int, (0 ≤ i ∧ i ≤ 6) ∧ iv = .int .i64 i ∧ Below w.heap.size w wr ∧ w.heap.size < wr.heap.size ∧ wr.cell? ⟨w.heap.size, 0, none⟩ = some (.int .i64 b) ∧ wr.cell? ⟨w.heap.size, 1, none⟩ = some (.int .i64 o) ∧ wr.cell? ⟨w.heap.size, 2, none⟩ = some (.int .i64 p) ∧ wr.cell? ⟨w.heap.size, 3, none⟩ = some (.int .i64 u) ∧ wr.cell? ⟨w.heap.size, 4, none⟩ = some (.int .i64 a) ∧ wr.cell? ⟨w.heap.size, 5, none⟩ = some (.int .i64 h) ∧ Hid (okTo ⟨b, o, p, u, a, h⟩ i.toNat)) (fun iv _ => 6 - (intOf iv).toNat)
  case atStart => exact ⟨0, by omega, rfl, b1, z2, c0, c1, c2, c3, c4, c5, okTo_zero _⟩
  case round =>
    clear b1 z2 c0 c1 c2 c3 c4 c5
    obtain ⟨i, hi, rfl, hb, hz, c0, c1, c2, c3, c4, c5, hok⟩ := hrel
    rcases (show i = 0 ∨ i = 1 ∨ i = 2 ∨ i = 3 ∨ i = 4 ∨ i = 5 ∨ i = 6 by omega) with rfl | rfl | rfl | rfl | rfl | rfl | rfl
    · cases hq : okAt ⟨b, o, p, u, a, h⟩ 0 with
      | false =>
        have hno : Hid (vOk ⟨b, o, p, u, a, h⟩ = false) := HV.out 0 (by omega) hq
        have hq' := O1.out.symm.trans hq
        simp only [Bool.or_eq_false_iff, Bool.and_eq_false_iff, decide_eq_false_iff_not] at hq'
        clear hq hok
        obtain ⟨hne, hor⟩ := hq'
        have he : (b == -1) = false := by simpa using hne
        rcases hor with q | q
        · have q' : b < 0 := by omega
          clear q
          go_wp2_with (go_at_call 34; refine (F1 _).mono ?_; rintro e w2 ⟨rfl, hb2⟩; have d0 : w2.cell? ⟨wr.heap.size, 0, none⟩ = some (.int .i64 0) := ((bcell hb2).1 _ _ (by first | omega | (simp; done) | (simp; omega))).trans (by simp); have d1 : w2.cell? ⟨wr.heap.size, 1, none⟩ = some (.int .i64 99) := ((bcell hb2).1 _ _ (by first | omega | (simp; done) | (simp; omega))).trans (by simp); have bA := onto (hb.alloc (Nat.le_of_lt hz) _) hb2)
          go_ret
          exact ⟨by rw [hno.out]; rfl, bA⟩
        · have q' : 99 < b := by omega
          clear q
          by_cases q2 : b < 0
          · omega
          go_wp2_with (go_at_call 34; refine (F1 _).mono ?_; rintro e w2 ⟨rfl, hb2⟩; have d0 : w2.cell? ⟨wr.heap.size, 0, none⟩ = some (.int .i64 0) := ((bcell hb2).1 _ _ (by first | omega | (simp; done) | (simp; omega))).trans (by simp); have d1 : w2.cell? ⟨wr.heap.size, 1, none⟩ = some (.int .i64 99) := ((bcell hb2).1 _ _ (by first | omega | (simp; done) | (simp; omega))).trans (by simp); have bA := onto (hb.alloc (Nat.le_of_lt hz) _) hb2)
          go_ret
          exact ⟨by rw [hno.out]; rfl, bA⟩
      | true =>
        have hok2 : Hid (okTo ⟨b, o, p, u, a, h⟩ (0 + 1)) := okTo_succ hok.out hq
        have hq' := O1.out.symm.trans hq
        simp only [Bool.or_eq_true, Bool.and_eq_true, decide_eq_true_eq] at hq'
        clear hq hok
        rcases hq' with q | ⟨q1, q2⟩
        · subst q
          go_wp2_with (go_at_call 34; refine (F1 _).mono ?_; rintro e w2 ⟨rfl, hb2⟩; have d0 : w2.cell? ⟨wr.heap.size, 0, none⟩ = some (.int .i64 0) := ((bcell hb2).1 _ _ (by first | omega | (simp; done) | (simp; omega))).trans (by simp); have d1 : w2.cell? ⟨wr.heap.size, 1, none⟩ = some (.int .i64 99) := ((bcell hb2).1 _ _ (by first | omega | (simp; done) | (simp; omega))).trans (by simp); have bA := onto (hb.alloc (Nat.le_of_lt hz) _) hb2)
          have s2 := hb2.size
          simp only [World.size_alloc] at s2
          have e0 := ((bcell hb2).1 w.heap.size 0 (by simp; omega)).trans ((old_cell hz _ _).trans c0)
          have e1 := ((bcell hb2).1 w.heap.size 1 (by simp; omega)).trans ((old_cell hz _ _).trans c1)
          have e2 := ((bcell hb2).1 w.heap.size 2 (by simp; omega)).trans ((old_cell hz _ _).trans c2)
          have e3 := ((bcell hb2).1 w.heap.size 3 (by simp; omega)).trans ((old_cell hz _ _).trans c3)
          have e4 := ((bcell hb2).1 w.heap.size 4 (by simp; omega)).trans ((old_cell hz _ _).trans c4)
          have e5 := ((bcell hb2).1 w.heap.size 5 (by simp; omega)).trans ((old_cell hz _ _).trans c5)
          go_roundw
          case rel => exact ⟨1, by omega, rfl, bA, by omega, e0, e1, e2, e3, e4, e5, hok2⟩
          case measure => simp [intOf]
        · have he : (b == -1) = false := by simp; omega
          have hne : ¬ b = -1 := by omega
          have q3 : ¬ b < 0 := by omega
          have q4 : ¬ 99 < b := by omega
          go_wp2_with (go_at_call 34; refine (F1 _).mono ?_; rintro e w2 ⟨rfl, hb2⟩; have d0 : w2.cell? ⟨wr.heap.size, 0, none⟩ = some (.int .i64 0) := ((bcell hb2).1 _ _ (by first | omega | (simp; done) | (simp; omega))).trans (by simp); have d1 : w2.cell? ⟨wr.heap.size, 1, none⟩ = some (.int .i64 99) := ((bcell hb2).1 _ _ (by first | omega | (simp; done) | (simp; omega))).trans (by simp); have bA := onto (hb.alloc (Nat.le_of_lt hz) _) hb2)
          have s2 := hb2.size
          simp only [World.size_alloc] at s2
          have e0 := ((bcell hb2).1 w.heap.size 0 (by simp; omega)).trans ((old_cell hz _ _).trans c0)
          have e1 := ((bcell hb2).1 w.heap.size 1 (by simp; omega)).trans ((old_cell hz _ _).trans c1)
          have e2 := ((bcell hb2).1 w.heap.size 2 (by simp; omega)).trans ((old_cell hz _ _).trans c2)
          have e3 := ((bcell hb2).1 w.heap.size 3 (by simp; omega)).trans ((old_cell hz _ _).trans c3)
          have e4 := ((bcell hb2).1 w.heap.size 4 (by simp; omega)).trans ((old_cell hz _ _).trans c4)
          have e5 := ((bcell hb2).1 w.heap.size 5 (by simp; omega)).trans ((old_cell hz _ _).trans c5)
          go_roundw
          case rel => exact ⟨1, by omega, rfl, bA, by omega, e0, e1, e2, e3, e4, e5, hok2⟩
          case measure => simp [intOf]
    · cases hq : okAt ⟨b, o, p, u, a, h⟩ 1 with
      | false =>
        have hno : Hid (vOk ⟨b, o, p, u, a, h⟩ = false) := HV.out 1 (by omega) hq
        have hq' := O2.out.symm.trans hq
        simp only [Bool.or_eq_false_iff, Bool.and_eq_false_iff, decide_eq_false_iff_not] at hq'
        clear hq hok
        obtain ⟨hne, hor⟩ := hq'
        have he : (o == -1) = false := by simpa using hne
        rcases hor with q | q
        · have q' : o < 0 := by omega
          clear q
          go_wp2_with (go_at_call 36; refine (F2 _).mono ?_; rintro e w2 ⟨rfl, hb2⟩; have d0 : w2.cell? ⟨wr.heap.size, 0, none⟩ = some (.int .i64 0) := ((bcell hb2).1 _ _ (by first | omega | (simp; done) | (simp; omega))).trans (by simp); have d1 : w2.cell? ⟨wr.heap.size, 1, none⟩ = some (.int .i64 100) := ((bcell hb2).1 _ _ (by first | omega | (simp; done) | (simp; omega))).trans (by simp); have bA := onto (hb.alloc (Nat.le_of_lt hz) _) hb2)
          go_ret
          exact ⟨by rw [hno.out]; rfl, bA⟩
        · have q' : 100 < o := by omega
          clear q
          by_cases q2 : o < 0
          · omega
          go_wp2_with (go_at_call 36; refine (F2 _).mono ?_; rintro e w2 ⟨rfl, hb2⟩; have d0 : w2.cell? ⟨wr.heap.size, 0, none⟩ = some (.int .i64 0) := ((bcell hb2).1 _ _ (by first | omega | (simp; done) | (simp; omega))).trans (by simp); have d1 : w2.cell? ⟨wr.heap.size, 1, none⟩ = some (.int .i64 100) := ((bcell hb2).1 _ _ (by first | omega | (simp; done) | (simp; omega))).trans (by simp); have bA := onto (hb.alloc (Nat.le_of_lt hz) _) hb2)
          go_ret
          exact ⟨by rw [hno.out]; rfl, bA⟩
      | true =>
        have hok2 : Hid (okTo ⟨b, o, p, u, a, h⟩ (1 + 1)) := okTo_succ hok.out hq
        have hq' := O2.out.symm.trans hq
        simp only [Bool.or_eq_true, Bool.and_eq_true, decide_eq_true_eq] at hq'
        clear hq hok
        rcases hq' with q | ⟨q1, q2⟩
        · subst q
          go_wp2_with (go_at_call 36; refine (F2 _).mono ?_; rintro e w2 ⟨rfl, hb2⟩; have d0 : w2.cell? ⟨wr.heap.size, 0, none⟩ = some (.int .i64 0) := ((bcell hb2).1 _ _ (by first | omega | (simp; done) | (simp; omega))).trans (by simp); have d1 : w2.cell? ⟨wr.heap.size, 1, none⟩ = some (.int .i64 100) := ((bcell hb2).1 _ _ (by first | omega | (simp; done) | (simp; omega))).trans (by simp); have bA := onto (hb.alloc (Nat.le_of_lt hz) _) hb2)
          have s2 := hb2.size
          simp only [World.size_alloc] at s2
          have e0 := ((bcell hb2).1 w.heap.size 0 (by simp; omega)).trans ((old_cell hz _ _).trans c0)
          have e1 := ((bcell hb2).1 w.heap.size 1 (by simp; omega)).trans ((old_cell hz _ _).trans c1)
          have e2 := ((bcell hb2).1 w.heap.size 2 (by simp; omega)).trans ((old_cell hz _ _).trans c2)
          have e3 := ((bcell hb2).1 w.heap.size 3 (by simp; omega)).trans ((old_cell hz _ _).trans c3)
          have e4 := ((bcell hb2).1 w.heap.size 4 (by simp; omega)).trans ((old_cell hz _ _).trans c4)
          have e5 := ((bcell hb2).1 w.heap.size 5 (by simp; omega)).trans ((old_cell hz _ _).trans c5)
          go_roundw
          case rel => exact ⟨2, by omega, rfl, bA, by omega, e0, e1, e2, e3, e4, e5, hok2⟩
          case measure => simp [intOf]
        · have he : (o == -1) = false := by simp; omega
          have hne : ¬ o = -1 := by omega
          have q3 : ¬ o < 0 := by omega
          have q4 : ¬ 100 < o := by omega
          go_wp2_with (go_at_call 36; refine (F2 _).mono ?_; rintro e w2 ⟨rfl, hb2⟩; have d0 : w2.cell? ⟨wr.heap.size, 0, none⟩ = some (.int .i64 0) := ((bcell hb2).1 _ _ (by first | omega | (simp; done) | (simp; omega))).trans (by simp); have d1 : w2.cell? ⟨wr.heap.size, 1, none⟩ = some (.int .i64 100) := ((bcell hb2).1 _ _ (by first | omega | (simp; done) | (simp; omega))).trans (by simp); have bA := onto (hb.alloc (Nat.le_of_lt hz) _) hb2)
          have s2 := hb2.size
          simp only [World.size_alloc] at s2
          have e0 := ((bcell hb2).1 w.heap.size 0 (by simp; omega)).trans ((old_cell hz _ _).trans c0)
          have e1 := ((bcell hb2).1 w.heap.size 1 (by simp; omega)).trans ((old_cell hz _ _).trans c1)
          have e2 := ((bcell hb2).1 w.heap.size 2 (by simp; omega)).trans ((old_cell hz _ _).trans c2)
          have e3 := ((bcell hb2).1 w.heap.size 3 (by simp; omega)).trans ((old_cell hz _ _).trans c3)
          have e4 := ((bcell hb2).1 w.heap.size 4 (by simp; omega)).trans ((old_cell hz _ _).trans c4)
          have e5 := ((bcell hb2).1 w.heap.size 5 (by simp; omega)).trans ((old_cell hz _ _).trans c5)
          go_roundw
          case rel => exact ⟨2, by omega, rfl, bA, by omega, e0, e1, e2, e3, e4, e5, hok2⟩
          case measure => simp [intOf]
    · cases hq : okAt ⟨b, o, p, u, a, h⟩ 2 with
      | false =>
        have hno : Hid (vOk ⟨b, o, p, u, a, h⟩ = false) := HV.out 2 (by omega) hq
        have hq' := O3.out.symm.trans hq
        simp only [Bool.or_eq_false_iff, Bool.and_eq_false_iff, decide_eq_false_iff_not] at hq'
        clear hq hok
        obtain ⟨hne, hor⟩ := hq'
        have he : (p == -1) = false := by simpa using hne
        rcases hor with q | q
        · have q' : p < 0 := by omega
          clear q
          go_wp2_with (go_at_call 38; refine (F3 _).mono ?_; rintro e w2 ⟨rfl, hb2⟩; have d0 : w2.cell? ⟨wr.heap.size, 0, none⟩ = some (.int .i64 0) := ((bcell hb2).1 _ _ (by first | omega | (simp; done) | (simp; omega))).trans (by simp); have d1 : w2.cell? ⟨wr.heap.size, 1, none⟩ = some (.int .i64 400) := ((bcell hb2).1 _ _ (by first | omega | (simp; done) | (simp; omega))).trans (by simp); have bA := onto (hb.alloc (Nat.le_of_lt hz) _) hb2)
          go_ret
          exact ⟨by rw [hno.out]; rfl, bA⟩
        · have q' : 400 < p := by omega
          clear q
          by_cases q2 : p < 0
          · omega
          go_wp2_with (go_at_call 38; refine (F3 _).mono ?_; rintro e w2 ⟨rfl, hb2⟩; have d0 : w2.cell? ⟨wr.heap.size, 0, none⟩ = some (.int .i64 0) := ((bcell hb2).1 _ _ (by first | omega | (simp; done) | (simp; omega))).trans (by simp); have d1 : w2.cell? ⟨wr.heap.size, 1, none⟩ = some (.int .i64 400) := ((bcell hb2).1 _ _ (by first | omega | (simp; done) | (simp; omega))).trans (by simp); have bA := onto (hb.alloc (Nat.le_of_lt hz) _) hb2)
          go_ret
          exact ⟨by rw [hno.out]; rfl, bA⟩
      | true =>
        have hok2 : Hid (okTo ⟨b, o, p, u, a, h⟩ (2 + 1)) := okTo_succ hok.out hq
        have hq' := O3.out.symm.trans hq
        simp only [Bool.or_eq_true, Bool.and_eq_true, decide_eq_true_eq] at hq'
        clear hq hok
        rcases hq' with q | ⟨q1, q2⟩
        · subst q
          go_wp2_with (go_at_call 38; refine (F3 _).mono ?_; rintro e w2 ⟨rfl, hb2⟩; have d0 : w2.cell? ⟨wr.heap.size, 0, none⟩ = some (.int .i64 0) := ((bcell hb2).1 _ _ (by first | omega | (simp; done) | (simp; omega))).trans (by simp); have d1 : w2.cell? ⟨wr.heap.size, 1, none⟩ = some (.int .i64 400) := ((bcell hb2).1 _ _ (by first | omega | (simp; done) | (simp; omega))).trans (by simp); have bA := onto (hb.alloc (Nat.le_of_lt hz) _) hb2)
          have s2 := hb2.size
          simp only [World.size_alloc] at s2
          have e0 := ((bcell hb2).1 w.heap.size 0 (by simp; omega)).trans ((old_cell hz _ _).trans c0)
          have e1 := ((bcell hb2).1 w.heap.size 1 (by simp; omega)).trans ((old_cell hz _ _).trans c1)
          have e2 := ((bcell hb2).1 w.heap.size 2 (by simp; omega)).trans ((old_cell hz _ _).trans c2)
          have e3 := ((bcell hb2).1 w.heap.size 3 (by simp; omega)).trans ((old_cell hz _ _).trans c3)
          have e4 := ((bcell hb2).1 w.heap.size 4 (by simp; omega)).trans ((old_cell hz _ _).trans c4)
          have e5 := ((bcell hb2).1 w.heap.size 5 (by simp; omega)).trans ((old_cell hz _ _).trans c5)
          go_roundw
          case rel => exact ⟨3, by omega, rfl, bA, by omega, e0, e1, e2, e3, e4, e5, hok2⟩
          case measure => simp [intOf]
        · have he : (p == -1) = false := by simp; omega
          have hne : ¬ p = -1 := by omega
          have q3 : ¬ p < 0 := by omega
          have q4 : ¬ 400 < p := by omega
          go_wp2_with (go_at_call 38; refine (F3 _).mono ?_; rintro e w2 ⟨rfl, hb2⟩; have d0 : w2.cell? ⟨wr.heap.size, 0, none⟩ = some (.int .i64 0) := ((bcell hb2).1 _ _ (by first | omega | (simp; done) | (simp; omega))).trans (by simp); have d1 : w2.cell? ⟨wr.heap.size, 1, none⟩ = some (.int .i64 400) := ((bcell hb2).1 _ _ (by first | omega | (simp; done) | (simp; omega))).trans (by simp); have bA := onto (hb.alloc (Nat.le_of_lt hz) _) hb2)
          have s2 := hb2.size
          simp only [World.size_alloc] at s2
          have e0 := ((bcell hb2).1 w.heap.size 0 (by simp; omega)).trans ((old_cell hz _ _).trans c0)
          have e1 := ((bcell hb2).1 w.heap.size 1 (by simp; omega)).trans ((old_cell hz _ _).trans c1)
          have e2 := ((bcell hb2).1 w.heap.size 2 (by simp; omega)).trans ((old_cell hz _ _).trans c2)
          have e3 := ((bcell hb2).1 w.heap.size 3 (by simp; omega)).trans ((old_cell hz _ _).trans c3)
          have e4 := ((bcell hb2).1 w.heap.size 4 (by simp; omega)).trans ((old_cell hz _ _).trans c4)
          have e5 := ((bcell hb2).1 w.heap.size 5 (by simp; omega)).trans ((old_cell hz _ _).trans c5)
          go_roundw
          case rel => exact ⟨3, by omega, rfl, bA, by omega, e0, e1, e2, e3, e4, e5, hok2⟩
          case measure => simp [intOf]
    · cases hq : okAt ⟨b, o, p, u, a, h⟩ 3 with
      | false =>
        have hno : Hid (vOk ⟨b, o, p, u, a, h⟩ = false) := HV.out 3 (by omega) hq
        have hq' := O4.out.symm.trans hq
        simp only [Bool.or_eq_false_iff, Bool.and_eq_false_iff, decide_eq_false_iff_not] at hq'
        clear hq hok
        obtain ⟨hne, hor⟩ := hq'
        have he : (u == -1) = false := by simpa using hne
        rcases hor with q | q
        · have q' : u < 0 := by omega
          clear q
          go_wp2_with (go_at_call 40; refine (F4 _).mono ?_; rintro e w2 ⟨rfl, hb2⟩; have d0 : w2.cell? ⟨wr.heap.size, 0, none⟩ = some (.int .i64 0) := ((bcell hb2).1 _ _ (by first | omega | (simp; done) | (simp; omega))).trans (by simp); have d1 : w2.cell? ⟨wr.heap.size, 1, none⟩ = some (.int .i64 400) := ((bcell hb2).1 _ _ (by first | omega | (simp; done) | (simp; omega))).trans (by simp); have bA := onto (hb.alloc (Nat.le_of_lt hz) _) hb2)
          go_ret
          exact ⟨by rw [hno.out]; rfl, bA⟩
        · have q' : 400 < u := by omega
          clear q
          by_cases q2 : u < 0
          · omega
          go_wp2_with (go_at_call 40; refine (F4 _).mono ?_; rintro e w2 ⟨rfl, hb2⟩; have d0 : w2.cell? ⟨wr.heap.size, 0, none⟩ = some (.int .i64 0) := ((bcell hb2).1 _ _ (by first | omega | (simp; done) | (simp; omega))).trans (by simp); have d1 : w2.cell? ⟨wr.heap.size, 1, none⟩ = some (.int .i64 400) := ((bcell hb2).1 _ _ (by first | omega | (simp; done) | (simp; omega))).trans (by simp); have bA := onto (hb.alloc (Nat.le_of_lt hz) _) hb2)
          go_ret
          exact ⟨by rw [hno.out]; rfl, bA⟩
      | true =>
        have hok2 : Hid (okTo ⟨b, o, p, u, a, h⟩ (3 + 1)) := okTo_succ hok.out hq
        have hq' := O4.out.symm.trans hq
        simp only [Bool.or_eq_true, Bool.and_eq_true, decide_eq_true_eq] at hq'
        clear hq hok
        rcases hq' with q | ⟨q1, q2⟩
        · subst q
          go_wp2_with (go_at_call 40; refine (F4 _).mono ?_; rintro e w2 ⟨rfl, hb2⟩; have d0 : w2.cell? ⟨wr.heap.size, 0, none⟩ = some (.int .i64 0) := ((bcell hb2).1 _ _ (by first | omega | (simp; done) | (simp; omega))).trans (by simp); have d1 : w2.cell? ⟨wr.heap.size, 1, none⟩ = some (.int .i64 400) := ((bcell hb2).1 _ _ (by first | omega | (simp; done) | (simp; omega))).trans (by simp); have bA := onto (hb.alloc (Nat.le_of_lt hz) _) hb2)
          have s2 := hb2.size
          simp only [World.size_alloc] at s2
          have e0 := ((bcell hb2).1 w.heap.size 0 (by simp; omega)).trans ((old_cell hz _ _).trans c0)
          have e1 := ((bcell hb2).1 w.heap.size 1 (by simp; omega)).trans ((old_cell hz _ _).trans c1)
          have e2 := ((bcell hb2).1 w.heap.size 2 (by simp; omega)).trans ((old_cell hz _ _).trans c2)
          have e3 := ((bcell hb2).1 w.heap.size 3 (by simp; omega)).trans ((old_cell hz _ _).trans c3)
          have e4 := ((bcell hb2).1 w.heap.size 4 (by simp; omega)).trans ((old_cell hz _ _).trans c4)
          have e5 := ((bcell hb2).1 w.heap.size 5 (by simp; omega)).trans ((old_cell hz _ _).trans c5)
          go_roundw
          case rel => exact ⟨4, by omega, rfl, bA, by omega, e0, e1, e2, e3, e4, e5, hok2⟩
          case measure => simp [intOf]
        · have he : (u == -1) = false := by simp; omega
          have hne : ¬ u = -1 := by omega
          have q3 : ¬ u < 0 := by omega
          have q4 : ¬ 400 < u := by omega
          go_wp2_with (go_at_call 40; refine (F4 _).mono ?_; rintro e w2 ⟨rfl, hb2⟩; have d0 : w2.cell? ⟨wr.heap.size, 0, none⟩ = some (.int .i64 0) := ((bcell hb2).1 _ _ (by first | omega | (simp; done) | (simp; omega))).trans (by simp); have d1 : w2.cell? ⟨wr.heap.size, 1, none⟩ = some (.int .i64 400) := ((bcell hb2).1 _ _ (by first | omega | (simp; done) | (simp; omega))).trans (by simp); have bA := onto (hb.alloc (Nat.le_of_lt hz) _) hb2)
          have s2 := hb2.size
          simp only [World.size_alloc] at s2
          have e0 := ((bcell hb2).1 w.heap.size 0 (by simp; omega)).trans ((old_cell hz _ _).trans c0)
          have e1 := ((bcell hb2).1 w.heap.size 1 (by simp; omega)).trans ((old_cell hz _ _).trans c1)
          have e2 := ((bcell hb2).1 w.heap.size 2 (by simp; omega)).trans ((old_cell hz _ _).trans c2)
          have e3 := ((bcell hb2).1 w.heap.size 3 (by simp; omega)).trans ((old_cell hz _ _).trans c3)
          have e4 := ((bcell hb2).1 w.heap.size 4 (by simp; omega)).trans ((old_cell hz _ _).trans c4)
          have e5 := ((bcell hb2).1 w.heap.size 5 (by simp; omega)).trans ((old_cell hz _ _).trans c5)
          go_roundw
          case rel => exact ⟨4, by omega, rfl, bA, by omega, e0, e1, e2, e3, e4, e5, hok2⟩
          case measure => simp [intOf]
    · cases hq : okAt ⟨b, o, p, u, a, h⟩ 4 with
      | false =>
        have hno : Hid (vOk ⟨b, o, p, u, a, h⟩ = false) := HV.out 4 (by omega) hq
        have hq' := O5.out.symm.trans hq
        simp only [Bool.or_eq_false_iff, Bool.and_eq_false_iff, decide_eq_false_iff_not] at hq'
        clear hq hok
        obtain ⟨hne, hor⟩ := hq'
        have he : (a == -1) = false := by simpa using hne
        rcases hor with q | q
        · have q' : a < 0 := by omega
          clear q
          go_wp2_with (go_at_call 42; refine (F5 _).mono ?_; rintro e w2 ⟨rfl, hb2⟩; have d0 : w2.cell? ⟨wr.heap.size, 0, none⟩ = some (.int .i64 0) := ((bcell hb2).1 _ _ (by first | omega | (simp; done) | (simp; omega))).trans (by simp); have d1 : w2.cell? ⟨wr.heap.size, 1, none⟩ = some (.int .i64 1) := ((bcell hb2).1 _ _ (by first | omega | (simp; done) | (simp; omega))).trans (by simp); have bA := onto (hb.alloc (Nat.le_of_lt hz) _) hb2)
          go_ret
          exact ⟨by rw [hno.out]; rfl, bA⟩
        · have q' : 1 < a := by omega
          clear q
          by_cases q2 : a < 0
          · omega
          go_wp2_with (go_at_call 42; refine (F5 _).mono ?_; rintro e w2 ⟨rfl, hb2⟩; have d0 : w2.cell? ⟨wr.heap.size, 0, none⟩ = some (.int .i64 0) := ((bcell hb2).1 _ _ (by first | omega | (simp; done) | (simp; omega))).trans (by simp); have d1 : w2.cell? ⟨wr.heap.size, 1, none⟩ = some (.int .i64 1) := ((bcell hb2).1 _ _ (by first | omega | (simp; done) | (simp; omega))).trans (by simp); have bA := onto (hb.alloc (Nat.le_of_lt hz) _) hb2)
          go_ret
          exact ⟨by rw [hno.out]; rfl, bA⟩
      | true =>
        have hok2 : Hid (okTo ⟨b, o, p, u, a, h⟩ (4 + 1)) := okTo_succ hok.out hq
        have hq' := O5.out.symm.trans hq
        simp only [Bool.or_eq_true, Bool.and_eq_true, decide_eq_true_eq] at hq'
        clear hq hok
        rcases hq' with q | ⟨q1, q2⟩
        · subst q
          go_wp2_with (go_at_call 42; refine (F5 _).mono ?_; rintro e w2 ⟨rfl, hb2⟩; have d0 : w2.cell? ⟨wr.heap.size, 0, none⟩ = some (.int .i64 0) := ((bcell hb2).1 _ _ (by first | omega | (simp; done) | (simp; omega))).trans (by simp); have d1 : w2.cell? ⟨wr.heap.size, 1, none⟩ = some (.int .i64 1) := ((bcell hb2).1 _ _ (by first | omega | (simp; done) | (simp; omega))).trans (by simp); have bA := onto (hb.alloc (Nat.le_of_lt hz) _) hb2)
          have s2 := hb2.size
          simp only [World.size_alloc] at s2
          have e0 := ((bcell hb2).1 w.heap.size 0 (by simp; omega)).trans ((old_cell hz _ _).trans c0)
          have e1 := ((bcell hb2).1 w.heap.size 1 (by simp; omega)).trans ((old_cell hz _ _).trans c1)
          have e2 := ((bcell hb2).1 w.heap.size 2 (by simp; omega)).trans ((old_cell hz _ _).trans c2)
          have e3 := ((bcell hb2).1 w.heap.size 3 (by simp; omega)).trans ((old_cell hz _ _).trans c3)
          have e4 := ((bcell hb2).1 w.heap.size 4 (by simp; omega)).trans ((old_cell hz _ _).trans c4)
          have e5 := ((bcell hb2).1 w.heap.size 5 (by simp; omega)).trans ((old_cell hz _ _).trans c5)
          go_roundw
          case rel => exact ⟨5, by omega, rfl, bA, by omega, e0, e1, e2, e3, e4, e5, hok2⟩
          case measure => simp [intOf]
        · have he : (a == -1) = false := by simp; omega
          have hne : ¬ a = -1 := by omega
          have q3 : ¬ a < 0 := by omega
          have q4 : ¬ 1 < a := by omega
          go_wp2_with (go_at_call 42; refine (F5 _).mono ?_; rintro e w2 ⟨rfl, hb2⟩; have d0 : w2.cell? ⟨wr.heap.size, 0, none⟩ = some (.int .i64 0) := ((bcell hb2).1 _ _ (by first | omega | (simp; done) | (simp; omega))).trans (by simp); have d1 : w2.cell? ⟨wr.heap.size, 1, none⟩ = some (.int .i64 1) := ((bcell hb2).1 _ _ (by first | omega | (simp; done) | (simp; omega))).trans (by simp); have bA := onto (hb.alloc (Nat.le_of_lt hz) _) hb2)
          have s2 := hb2.size
          simp only [World.size_alloc] at s2
          have e0 := ((bcell hb2).1 w.heap.size 0 (by simp; omega)).trans ((old_cell hz _ _).trans c0)
          have e1 := ((bcell hb2).1 w.heap.size 1 (by simp; omega)).trans ((old_cell hz _ _).trans c1)
          have e2 := ((bcell hb2).1 w.heap.size 2 (by simp; omega)).trans ((old_cell hz _ _).trans c2)
          have e3 := ((bcell hb2).1 w.heap.size 3 (by simp; omega)).trans ((old_cell hz _ _).trans c3)
          have e4 := ((bcell hb2).1 w.heap.size 4 (by simp; omega)).trans ((old_cell hz _ _).trans c4)
          have e5 := ((bcell hb2).1 w.heap.size 5 (by simp; omega)).trans ((old_cell hz _ _).trans c5)
          go_roundw
          case rel => exact ⟨5, by omega, rfl, bA, by omega, e0, e1, e2, e3, e4, e5, hok2⟩
          case measure => simp [intOf]
    · cases hq : okAt ⟨b, o, p, u, a, h⟩ 5 with
      | false =>
        have hno : Hid (vOk ⟨b, o, p, u, a, h⟩ = false) := HV.out 5 (by omega) hq
        have hq' := O6.out.symm.trans hq
        simp only [Bool.or_eq_false_iff, Bool.and_eq_false_iff, decide_eq_false_iff_not] at hq'
        clear hq hok
        obtain ⟨hne, hor⟩ := hq'
        have he : (h == -1) = false := by simpa using hne
        rcases hor with q | q
        · have q' : h < 200 := by omega
          clear q
          go_wp2_with (go_at_call 44; refine (F6 _).mono ?_; rintro e w2 ⟨rfl, hb2⟩; have d0 : w2.cell? ⟨wr.heap.size, 0, none⟩ = some (.int .i64 200) := ((bcell hb2).1 _ _ (by first | omega | (simp; done) | (simp; omega))).trans (by simp); have d1 : w2.cell? ⟨wr.heap.size, 1, none⟩ = some (.int .i64 460) := ((bcell hb2).1 _ _ (by first | omega | (simp; done) | (simp; omega))).trans (by simp); have bA := onto (hb.alloc (Nat.le_of_lt hz) _) hb2)
          go_ret
          exact ⟨by rw [hno.out]; rfl, bA⟩
        · have q' : 460 < h := by omega
          clear q
          by_cases q2 : h < 200
          · omega
          go_wp2_with (go_at_call 44; refine (F6 _).mono ?_; rintro e w2 ⟨rfl, hb2⟩; have d0 : w2.cell? ⟨wr.heap.size, 0, none⟩ = some (.int .i64 200) := ((bcell hb2).1 _ _ (by first | omega | (simp; done) | (simp; omega))).trans (by simp); have d1 : w2.cell? ⟨wr.heap.size, 1, none⟩ = some (.int .i64 460) := ((bcell hb2).1 _ _ (by first | omega | (simp; done) | (simp; omega))).trans (by simp); have bA := onto (hb.alloc (Nat.le_of_lt hz) _) hb2)
          go_ret
          exact ⟨by rw [hno.out]; rfl, bA⟩
      | true =>
        have hok2 : Hid (okTo ⟨b, o, p, u, a, h⟩ (5 + 1)) := okTo_succ hok.out hq
        have hq' := O6.out.symm.trans hq
        simp only [Bool.or_eq_true, Bool.and_eq_true, decide_eq_true_eq] at hq'
        clear hq hok
        rcases hq' with q | ⟨q1, q2⟩
        · subst q
          go_wp2_with (go_at_call 44; refine (F6 _).mono ?_; rintro e w2 ⟨rfl, hb2⟩; have d0 : w2.cell? ⟨wr.heap.size, 0, none⟩ = some (.int .i64 200) := ((bcell hb2).1 _ _ (by first | omega | (simp; done) | (simp; omega))).trans (by simp); have d1 : w2.cell? ⟨wr.heap.size, 1, none⟩ = some (.int .i64 460) := ((bcell hb2).1 _ _ (by first | omega | (simp; done) | (simp; omega))).trans (by simp); have bA := onto (hb.alloc (Nat.le_of_lt hz) _) hb2)
          have s2 := hb2.size
          simp only [World.size_alloc] at s2
          have e0 := ((bcell hb2).1 w.heap.size 0 (by simp; omega)).trans ((old_cell hz _ _).trans c0)
          have e1 := ((bcell hb2).1 w.heap.size 1 (by simp; omega)).trans ((old_cell hz _ _).trans c1)
          have e2 := ((bcell hb2).1 w.heap.size 2 (by simp; omega)).trans ((old_cell hz _ _).trans c2)
          have e3 := ((bcell hb2).1 w.heap.size 3 (by simp; omega)).trans ((old_cell hz _ _).trans c3)
          have e4 := ((bcell hb2).1 w.heap.size 4 (by simp; omega)).trans ((old_cell hz _ _).trans c4)
          have e5 := ((bcell hb2).1 w.heap.size 5 (by simp; omega)).trans ((old_cell hz _ _).trans c5)
          go_roundw
          case rel => exact ⟨6, by omega, rfl, bA, by omega, e0, e1, e2, e3, e4, e5, hok2⟩
          case measure => simp [intOf]
        · have he : (h == -1) = false := by simp; omega
          have hne : ¬ h = -1 := by omega
          have q3 : ¬ h < 200 := by omega
          have q4 : ¬ 460 < h := by omega
          go_wp2_with (go_at_call 44; refine (F6 _).mono ?_; rintro e w2 ⟨rfl, hb2⟩; have d0 : w2.cell? ⟨wr.heap.size, 0, none⟩ = some (.int .i64 200) := ((bcell hb2).1 _ _ (by first | omega | (simp; done) | (simp; omega))).trans (by simp); have d1 : w2.cell? ⟨wr.heap.size, 1, none⟩ = some (.int .i64 460) := ((bcell hb2).1 _ _ (by first | omega | (simp; done) | (simp; omega))).trans (by simp); have bA := onto (hb.alloc (Nat.le_of_lt hz) _) hb2)
          have s2 := hb2.size
          simp only [World.size_alloc] at s2
          have e0 := ((bcell hb2).1 w.heap.size 0 (by simp; omega)).trans ((old_cell hz _ _).trans c0)
          have e1 := ((bcell hb2).1 w.heap.size 1 (by simp; omega)).trans ((old_cell hz _ _).trans c1)
          have e2 := ((bcell hb2).1 w.heap.size 2 (by simp; omega)).trans ((old_cell hz _ _).trans c2)
          have e3 := ((bcell hb2).1 w.heap.size 3 (by simp; omega)).trans ((old_cell hz _ _).trans c3)
          have e4 := ((bcell hb2).1 w.heap.size 4 (by simp; omega)).trans ((old_cell hz _ _).trans c4)
          have e5 := ((bcell hb2).1 w.heap.size 5 (by simp; omega)).trans ((old_cell hz _ _).trans c5)
          go_roundw
          case rel => exact ⟨6, by omega, rfl, bA, by omega, e0, e1, e2, e3, e4, e5, hok2⟩
          case measure => simp [intOf]
    · have hno : Hid (vOk ⟨b, o, p, u, a, h⟩ = true) := HE.out hok.out
      clear hok
      go_wp2_with fail
      go_ret
      exact ⟨by rw [hno.out]; rfl, hb⟩
end Go.Proofs.Ytmigcbbjejbcgai
