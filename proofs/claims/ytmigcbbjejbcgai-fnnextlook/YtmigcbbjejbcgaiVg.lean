/-
  Vital signs: the program's Points.
-/
import Derived.Test.YtmigcbbjejbcgaiVf
import Derived.Test.YtmigcbbjejbcgaiVc
namespace Go.Proofs.Ytmigcbbjejbcgai
open Go.RowKit Va
set_option linter.unusedVariables false

theorem step_none {v : Vt} {i : Nat} {f : Int → Int} {n : Int} (h : (six v)[i]? = some (pt f n)) (hn : n = -1) : sT v (i + 1) = sT v i ∧ nT v (i + 1) = nT v i + 1 ∧ tT v (i + 1) = tT v i := by
  obtain ⟨a, b, c⟩ := steps h
  have e : pt f n = -1 := by unfold pt; rw [if_pos (by omega)]
  rw [e] at a b c
  rw [a, b, c]
  exact ⟨by simp, by simp, by simp⟩
theorem step_some {v : Vt} {i : Nat} {f : Int → Int} {n : Int} (h : (six v)[i]? = some (pt f n)) (hn : 0 ≤ n) (hf : 0 ≤ f n) : sT v (i + 1) = sT v i + f n ∧ nT v (i + 1) = nT v i ∧ tT v (i + 1) = (tT v i || decide (f n = 3)) := by
  obtain ⟨a, b, c⟩ := steps h
  have e : pt f n = f n := by unfold pt; rw [if_neg (by omega)]
  rw [e] at a b c
  rw [a, b, c, if_neg (by omega), if_neg (by omega)]
  exact ⟨rfl, by simp, rfl⟩

set_option maxRecDepth 20000 in
set_option maxHeartbeats 8000000 in
theorem ipts_any (v : Vt) (w : World) : Calls Try.prog 22 #[aV v] w fun e w' => e = .returned (.tuple #[.int .i64 (psum v), .int .i64 (pnone v), .bool (pthree v)]) ∧ Below w.heap.size w w' := by
  have hS := ivok_any v
  cases hv : vOk v with
  | false =>
    have e1 : psum v = 0 := by unfold psum; rw [hv]; rfl
    have e2 : pnone v = 0 := by unfold pnone; rw [hv]; rfl
    have e3 : pthree v = false := by unfold pthree; rw [hv]; rfl
    rw [hv] at hS
    rw [e1, e2, e3]
    unfold aV at hS ⊢
    go_enter Try.func22, Try.ntmps22
    go_wp2_with (go_at_call 17; refine (hS _).mono ?_; rintro e w1 ⟨rfl, hb1⟩)
    have b1 := onto (show Below w.heap.size w _ from by repeat (first | exact Below.refl _ _ | assumption | refine st_drew ?_ | refine st_drewN ?_ _ | refine Below.setCell ?_ (by first | omega | (simp; done) | (simp; omega)) _ | refine Below.alloc ?_ (by first | omega | (simp; done) | (simp; omega)) _)) hb1
    exact bodyPost_ret (results_tmp3 Try.results22 _ _ _) rfl ⟨rfl, b1⟩
  | true =>
    have HE := hidden (at_six hv)
    have HB := hidden (vOk_iff.1 hv)
    have HBd := hidden (fun i => bds v i)
    have HT := hidden tbl_any
    rw [hv] at hS
    clear hv
    have F1 := f1_any v
    have P1 := p1_any v.b
    have G1 := hidden (bp_bd v.b)
    have N1 := hidden (step_none (v := v) (i := 0) (f := bp) (n := v.b) rfl)
    have M1 := hidden (step_some (v := v) (i := 0) (f := bp) (n := v.b) rfl)
    have F2 := f2_any v
    have P2 := p2_any v.o
    have G2 := hidden (op_bd v.o)
    have N2 := hidden (step_none (v := v) (i := 1) (f := op) (n := v.o) rfl)
    have M2 := hidden (step_some (v := v) (i := 1) (f := op) (n := v.o) rfl)
    have F3 := f3_any v
    have P3 := p3_any v.p
    have G3 := hidden (pp_bd v.p)
    have N3 := hidden (step_none (v := v) (i := 2) (f := pp) (n := v.p) rfl)
    have M3 := hidden (step_some (v := v) (i := 2) (f := pp) (n := v.p) rfl)
    have F4 := f4_any v
    have P4 := p4_any v.u
    have G4 := hidden (up_bd v.u)
    have N4 := hidden (step_none (v := v) (i := 3) (f := up) (n := v.u) rfl)
    have M4 := hidden (step_some (v := v) (i := 3) (f := up) (n := v.u) rfl)
    have F5 := f5_any v
    have P5 := p5_any v.a
    have G5 := hidden (ap_bd v.a)
    have N5 := hidden (step_none (v := v) (i := 4) (f := ap) (n := v.a) rfl)
    have M5 := hidden (step_some (v := v) (i := 4) (f := ap) (n := v.a) rfl)
    have F6 := f6_any v
    have P6 := p6_any v.h
    have G6 := hidden (hp_bd v.h)
    have N6 := hidden (step_none (v := v) (i := 5) (f := hp) (n := v.h) rfl)
    have M6 := hidden (step_some (v := v) (i := 5) (f := hp) (n := v.h) rfl)
    have I0 := ix0
    have I1 := ix1
    have I2 := ix2
    have I3 := ix3
    have I4 := ix4
    have I5 := ix5
    unfold aV at *
    obtain ⟨b, o, p, u, a, h⟩ := v
    simp only at F1 F2 F3 F4 F5 F6 P1 P2 P3 P4 P5 P6 G1 G2 G3 G4 G5 G6 N1 N2 N3 N4 N5 N6 M1 M2 M3 M4 M5 M6 HB hS ⊢
    go_enter Try.func22, Try.ntmps22
    go_wp2_with fail
    refine (hS _).mono ?_
    rintro e w1 ⟨rfl, hb1⟩
    have b1 := onto (show Below w.heap.size w _ from by repeat (first | exact Below.refl _ _ | assumption | refine st_drew ?_ | refine st_drewN ?_ _ | refine Below.setCell ?_ (by first | omega | (simp; done) | (simp; omega)) _ | refine Below.alloc ?_ (by first | omega | (simp; done) | (simp; omega)) _)) hb1
    have z1 := hb1.size
    simp only [World.size_alloc] at z1
    have z2 : w.heap.size < w1.heap.size := by omega
    have c0 : w1.cell? ⟨w.heap.size, 0, none⟩ = some (.int .i64 b) := ((bcell hb1).1 _ _ (by first | omega | (simp; done) | (simp; omega))).trans (by simp)
    have c1 : w1.cell? ⟨w.heap.size, 1, none⟩ = some (.int .i64 o) := ((bcell hb1).1 _ _ (by first | omega | (simp; done) | (simp; omega))).trans (by simp)
    have c2 : w1.cell? ⟨w.heap.size, 2, none⟩ = some (.int .i64 p) := ((bcell hb1).1 _ _ (by first | omega | (simp; done) | (simp; omega))).trans (by simp)
    have c3 : w1.cell? ⟨w.heap.size, 3, none⟩ = some (.int .i64 u) := ((bcell hb1).1 _ _ (by first | omega | (simp; done) | (simp; omega))).trans (by simp)
    have c4 : w1.cell? ⟨w.heap.size, 4, none⟩ = some (.int .i64 a) := ((bcell hb1).1 _ _ (by first | omega | (simp; done) | (simp; omega))).trans (by simp)
    have c5 : w1.cell? ⟨w.heap.size, 5, none⟩ = some (.int .i64 h) := ((bcell hb1).1 _ _ (by first | omega | (simp; done) | (simp; omega))).trans (by simp)
    clear hb1 z1 hS
    go_wp2_with fail
    refine (HT.out _).mono ?_
    rintro e w3 ⟨rfl, hb3⟩
    have b3 := onto b1 hb3
    have z3 := hb3.size
    have z4 : w.heap.size < w3.heap.size := by omega
    have g0 := ((bcell hb3).1 w.heap.size 0 z2).trans c0
    have g1 := ((bcell hb3).1 w.heap.size 1 z2).trans c1
    have g2 := ((bcell hb3).1 w.heap.size 2 z2).trans c2
    have g3 := ((bcell hb3).1 w.heap.size 3 z2).trans c3
    have g4 := ((bcell hb3).1 w.heap.size 4 z2).trans c4
    have g5 := ((bcell hb3).1 w.heap.size 5 z2).trans c5
    clear hb3 z3 c0 c1 c2 c3 c4 c5 b1 z2
    go_wp2_with fail
    go_loopw [5, 6, 7, 16] (fun sv nv tv iv wr => ∃ i : Int, (0 ≤ i ∧ i ≤ 6) ∧ iv = .int .i64 i ∧ sv = .int .i64 (sT ⟨b, o, p, u, a, h⟩ i.toNat) ∧ nv = .int .i64 (nT ⟨b, o, p, u, a, h⟩ i.toNat) ∧ tv = .bool (tT ⟨b, o, p, u, a, h⟩ i.toNat) ∧ Below w.heap.size w wr ∧ w.heap.size < wr.heap.size ∧ wr.cell? ⟨w.heap.size, 0, none⟩ = some (.int .i64 b) ∧ wr.cell? ⟨w.heap.size, 1, none⟩ = some (.int .i64 o) ∧ wr.cell? ⟨w.heap.size, 2, none⟩ = some (.int .i64 p) ∧ wr.cell? ⟨w.heap.size, 3, none⟩ = some (.int .i64 u) ∧ wr.cell? ⟨w.heap.size, 4, none⟩ = some (.int .i64 a) ∧ wr.cell? ⟨w.heap.size, 5, none⟩ = some (.int .i64 h)) (fun _ _ _ iv _ => 6 - (intOf iv).toNat)
    case atStart => exact ⟨0, by omega, rfl, rfl, rfl, rfl, b3, z4, g0, g1, g2, g3, g4, g5⟩
    case round =>
      clear b3 z4 g0 g1 g2 g3 g4 g5
      obtain ⟨i, hi, rfl, rfl, rfl, rfl, hb, hz, c0, c1, c2, c3, c4, c5⟩ := hrel
      rcases (show i = 0 ∨ i = 1 ∨ i = 2 ∨ i = 3 ∨ i = 4 ∨ i = 5 ∨ i = 6 by omega) with rfl | rfl | rfl | rfl | rfl | rfl | rfl
      · obtain ⟨⟨q1, q2⟩, q3, q4⟩ := HBd.out 0
        simp only [show Int.toNat 0 = 0 from rfl]
        by_cases hn : b = -1
        · obtain ⟨s1, s2', s3⟩ := N1.out hn
          have S1 := hidden s1
          have S2 := hidden s2'
          have S3 := hidden s3
          clear s1 s2' s3
          generalize sT ⟨b, o, p, u, a, h⟩ 0 = sv at *
          generalize nT ⟨b, o, p, u, a, h⟩ 0 = nv at *
          generalize tT ⟨b, o, p, u, a, h⟩ 0 = tv at *
          subst hn
          go_wp2_with (go_at_call 34; refine (F1 _).mono ?_; rintro e w2 ⟨rfl, hb2⟩; have d3 : w2.cell? ⟨wr.heap.size, 3, none⟩ = some (fnv 35) := ((bcell hb2).1 _ _ (by first | omega | (simp; done) | (simp; omega))).trans (by simp); have bA := onto (hb.alloc (Nat.le_of_lt hz) _) hb2)
          have s2 := hb2.size
          simp only [World.size_alloc] at s2
          have e0 := ((bcell hb2).1 w.heap.size 0 (by simp; omega)).trans ((old_cell hz _ _).trans c0)
          have e1 := ((bcell hb2).1 w.heap.size 1 (by simp; omega)).trans ((old_cell hz _ _).trans c1)
          have e2 := ((bcell hb2).1 w.heap.size 2 (by simp; omega)).trans ((old_cell hz _ _).trans c2)
          have e3 := ((bcell hb2).1 w.heap.size 3 (by simp; omega)).trans ((old_cell hz _ _).trans c3)
          have e4 := ((bcell hb2).1 w.heap.size 4 (by simp; omega)).trans ((old_cell hz _ _).trans c4)
          have e5 := ((bcell hb2).1 w.heap.size 5 (by simp; omega)).trans ((old_cell hz _ _).trans c5)
          go_roundw
          case rel => exact ⟨1, by omega, rfl, by rw [show Int.toNat 1 = 0 + 1 from rfl, S1.out], by rw [show Int.toNat 1 = 0 + 1 from rfl, S2.out], by rw [show Int.toNat 1 = 0 + 1 from rfl, S3.out], bA, by omega, e0, e1, e2, e3, e4, e5⟩
          case measure => simp [intOf]
        · have hn1 : (b == -1) = false := by simpa using hn
          obtain ⟨s1, s2', s3⟩ := M1.out (by have := HB.out; omega) G1.out.1
          have S1 := hidden s1
          have S2 := hidden s2'
          have S3 := hidden s3
          have y1 := G1.out.1
          have y2 := G1.out.2
          clear s1 s2' s3
          generalize bp b = y at *
          generalize sT ⟨b, o, p, u, a, h⟩ 0 = sv at *
          generalize nT ⟨b, o, p, u, a, h⟩ 0 = nv at *
          generalize tT ⟨b, o, p, u, a, h⟩ 0 = tv at *
          rcases tv with _ | _
          · by_cases hy : y = 3
            · subst hy
              go_wp2_with (first | (go_at_call 34; refine (F1 _).mono ?_; rintro e w2 ⟨rfl, hb2⟩; have d3 : w2.cell? ⟨wr.heap.size, 3, none⟩ = some (fnv 35) := ((bcell hb2).1 _ _ (by first | omega | (simp; done) | (simp; omega))).trans (by simp); have bA := onto (hb.alloc (Nat.le_of_lt hz) _) hb2) | (go_at_call 35; refine (P1 _).mono ?_; rintro e w4 ⟨rfl, rfl⟩))
              have s2 := hb2.size
              simp only [World.size_alloc] at s2
              have e0 := ((bcell hb2).1 w.heap.size 0 (by simp; omega)).trans ((old_cell hz _ _).trans c0)
              have e1 := ((bcell hb2).1 w.heap.size 1 (by simp; omega)).trans ((old_cell hz _ _).trans c1)
              have e2 := ((bcell hb2).1 w.heap.size 2 (by simp; omega)).trans ((old_cell hz _ _).trans c2)
              have e3 := ((bcell hb2).1 w.heap.size 3 (by simp; omega)).trans ((old_cell hz _ _).trans c3)
              have e4 := ((bcell hb2).1 w.heap.size 4 (by simp; omega)).trans ((old_cell hz _ _).trans c4)
              have e5 := ((bcell hb2).1 w.heap.size 5 (by simp; omega)).trans ((old_cell hz _ _).trans c5)
              go_roundw
              case rel => exact ⟨1, by omega, rfl, by rw [show Int.toNat 1 = 0 + 1 from rfl, S1.out], by rw [show Int.toNat 1 = 0 + 1 from rfl, S2.out], by rw [show Int.toNat 1 = 0 + 1 from rfl, S3.out]; rfl, bA, by omega, e0, e1, e2, e3, e4, e5⟩
              case measure => simp [intOf]
            · have hy3 : (y == 3) = false := by simpa using hy
              go_wp2_with (first | (go_at_call 34; refine (F1 _).mono ?_; rintro e w2 ⟨rfl, hb2⟩; have d3 : w2.cell? ⟨wr.heap.size, 3, none⟩ = some (fnv 35) := ((bcell hb2).1 _ _ (by first | omega | (simp; done) | (simp; omega))).trans (by simp); have bA := onto (hb.alloc (Nat.le_of_lt hz) _) hb2) | (go_at_call 35; refine (P1 _).mono ?_; rintro e w4 ⟨rfl, rfl⟩))
              have s2 := hb2.size
              simp only [World.size_alloc] at s2
              have e0 := ((bcell hb2).1 w.heap.size 0 (by simp; omega)).trans ((old_cell hz _ _).trans c0)
              have e1 := ((bcell hb2).1 w.heap.size 1 (by simp; omega)).trans ((old_cell hz _ _).trans c1)
              have e2 := ((bcell hb2).1 w.heap.size 2 (by simp; omega)).trans ((old_cell hz _ _).trans c2)
              have e3 := ((bcell hb2).1 w.heap.size 3 (by simp; omega)).trans ((old_cell hz _ _).trans c3)
              have e4 := ((bcell hb2).1 w.heap.size 4 (by simp; omega)).trans ((old_cell hz _ _).trans c4)
              have e5 := ((bcell hb2).1 w.heap.size 5 (by simp; omega)).trans ((old_cell hz _ _).trans c5)
              go_roundw
              case rel => exact ⟨1, by omega, rfl, by rw [show Int.toNat 1 = 0 + 1 from rfl, S1.out], by rw [show Int.toNat 1 = 0 + 1 from rfl, S2.out], by rw [show Int.toNat 1 = 0 + 1 from rfl, S3.out, decide_eq_false hy]; rfl, bA, by omega, e0, e1, e2, e3, e4, e5⟩
              case measure => simp [intOf]
          · go_wp2_with (first | (go_at_call 34; refine (F1 _).mono ?_; rintro e w2 ⟨rfl, hb2⟩; have d3 : w2.cell? ⟨wr.heap.size, 3, none⟩ = some (fnv 35) := ((bcell hb2).1 _ _ (by first | omega | (simp; done) | (simp; omega))).trans (by simp); have bA := onto (hb.alloc (Nat.le_of_lt hz) _) hb2) | (go_at_call 35; refine (P1 _).mono ?_; rintro e w4 ⟨rfl, rfl⟩))
            have s2 := hb2.size
            simp only [World.size_alloc] at s2
            have e0 := ((bcell hb2).1 w.heap.size 0 (by simp; omega)).trans ((old_cell hz _ _).trans c0)
            have e1 := ((bcell hb2).1 w.heap.size 1 (by simp; omega)).trans ((old_cell hz _ _).trans c1)
            have e2 := ((bcell hb2).1 w.heap.size 2 (by simp; omega)).trans ((old_cell hz _ _).trans c2)
            have e3 := ((bcell hb2).1 w.heap.size 3 (by simp; omega)).trans ((old_cell hz _ _).trans c3)
            have e4 := ((bcell hb2).1 w.heap.size 4 (by simp; omega)).trans ((old_cell hz _ _).trans c4)
            have e5 := ((bcell hb2).1 w.heap.size 5 (by simp; omega)).trans ((old_cell hz _ _).trans c5)
            go_roundw
            case rel => exact ⟨1, by omega, rfl, by rw [show Int.toNat 1 = 0 + 1 from rfl, S1.out], by rw [show Int.toNat 1 = 0 + 1 from rfl, S2.out], by rw [show Int.toNat 1 = 0 + 1 from rfl, S3.out]; rfl, bA, by omega, e0, e1, e2, e3, e4, e5⟩
            case measure => simp [intOf]
      · obtain ⟨⟨q1, q2⟩, q3, q4⟩ := HBd.out 1
        simp only [show Int.toNat 1 = 1 from rfl]
        by_cases hn : o = -1
        · obtain ⟨s1, s2', s3⟩ := N2.out hn
          have S1 := hidden s1
          have S2 := hidden s2'
          have S3 := hidden s3
          clear s1 s2' s3
          generalize sT ⟨b, o, p, u, a, h⟩ 1 = sv at *
          generalize nT ⟨b, o, p, u, a, h⟩ 1 = nv at *
          generalize tT ⟨b, o, p, u, a, h⟩ 1 = tv at *
          subst hn
          go_wp2_with (go_at_call 36; refine (F2 _).mono ?_; rintro e w2 ⟨rfl, hb2⟩; have d3 : w2.cell? ⟨wr.heap.size, 3, none⟩ = some (fnv 37) := ((bcell hb2).1 _ _ (by first | omega | (simp; done) | (simp; omega))).trans (by simp); have bA := onto (hb.alloc (Nat.le_of_lt hz) _) hb2)
          have s2 := hb2.size
          simp only [World.size_alloc] at s2
          have e0 := ((bcell hb2).1 w.heap.size 0 (by simp; omega)).trans ((old_cell hz _ _).trans c0)
          have e1 := ((bcell hb2).1 w.heap.size 1 (by simp; omega)).trans ((old_cell hz _ _).trans c1)
          have e2 := ((bcell hb2).1 w.heap.size 2 (by simp; omega)).trans ((old_cell hz _ _).trans c2)
          have e3 := ((bcell hb2).1 w.heap.size 3 (by simp; omega)).trans ((old_cell hz _ _).trans c3)
          have e4 := ((bcell hb2).1 w.heap.size 4 (by simp; omega)).trans ((old_cell hz _ _).trans c4)
          have e5 := ((bcell hb2).1 w.heap.size 5 (by simp; omega)).trans ((old_cell hz _ _).trans c5)
          go_roundw
          case rel => exact ⟨2, by omega, rfl, by rw [show Int.toNat 2 = 1 + 1 from rfl, S1.out], by rw [show Int.toNat 2 = 1 + 1 from rfl, S2.out], by rw [show Int.toNat 2 = 1 + 1 from rfl, S3.out], bA, by omega, e0, e1, e2, e3, e4, e5⟩
          case measure => simp [intOf]
        · have hn1 : (o == -1) = false := by simpa using hn
          obtain ⟨s1, s2', s3⟩ := M2.out (by have := HB.out; omega) G2.out.1
          have S1 := hidden s1
          have S2 := hidden s2'
          have S3 := hidden s3
          have y1 := G2.out.1
          have y2 := G2.out.2
          clear s1 s2' s3
          generalize op o = y at *
          generalize sT ⟨b, o, p, u, a, h⟩ 1 = sv at *
          generalize nT ⟨b, o, p, u, a, h⟩ 1 = nv at *
          generalize tT ⟨b, o, p, u, a, h⟩ 1 = tv at *
          rcases tv with _ | _
          · by_cases hy : y = 3
            · subst hy
              go_wp2_with (first | (go_at_call 36; refine (F2 _).mono ?_; rintro e w2 ⟨rfl, hb2⟩; have d3 : w2.cell? ⟨wr.heap.size, 3, none⟩ = some (fnv 37) := ((bcell hb2).1 _ _ (by first | omega | (simp; done) | (simp; omega))).trans (by simp); have bA := onto (hb.alloc (Nat.le_of_lt hz) _) hb2) | (go_at_call 37; refine (P2 _).mono ?_; rintro e w4 ⟨rfl, rfl⟩))
              have s2 := hb2.size
              simp only [World.size_alloc] at s2
              have e0 := ((bcell hb2).1 w.heap.size 0 (by simp; omega)).trans ((old_cell hz _ _).trans c0)
              have e1 := ((bcell hb2).1 w.heap.size 1 (by simp; omega)).trans ((old_cell hz _ _).trans c1)
              have e2 := ((bcell hb2).1 w.heap.size 2 (by simp; omega)).trans ((old_cell hz _ _).trans c2)
              have e3 := ((bcell hb2).1 w.heap.size 3 (by simp; omega)).trans ((old_cell hz _ _).trans c3)
              have e4 := ((bcell hb2).1 w.heap.size 4 (by simp; omega)).trans ((old_cell hz _ _).trans c4)
              have e5 := ((bcell hb2).1 w.heap.size 5 (by simp; omega)).trans ((old_cell hz _ _).trans c5)
              go_roundw
              case rel => exact ⟨2, by omega, rfl, by rw [show Int.toNat 2 = 1 + 1 from rfl, S1.out], by rw [show Int.toNat 2 = 1 + 1 from rfl, S2.out], by rw [show Int.toNat 2 = 1 + 1 from rfl, S3.out]; rfl, bA, by omega, e0, e1, e2, e3, e4, e5⟩
              case measure => simp [intOf]
            · have hy3 : (y == 3) = false := by simpa using hy
              go_wp2_with (first | (go_at_call 36; refine (F2 _).mono ?_; rintro e w2 ⟨rfl, hb2⟩; have d3 : w2.cell? ⟨wr.heap.size, 3, none⟩ = some (fnv 37) := ((bcell hb2).1 _ _ (by first | omega | (simp; done) | (simp; omega))).trans (by simp); have bA := onto (hb.alloc (Nat.le_of_lt hz) _) hb2) | (go_at_call 37; refine (P2 _).mono ?_; rintro e w4 ⟨rfl, rfl⟩))
              have s2 := hb2.size
              simp only [World.size_alloc] at s2
              have e0 := ((bcell hb2).1 w.heap.size 0 (by simp; omega)).trans ((old_cell hz _ _).trans c0)
              have e1 := ((bcell hb2).1 w.heap.size 1 (by simp; omega)).trans ((old_cell hz _ _).trans c1)
              have e2 := ((bcell hb2).1 w.heap.size 2 (by simp; omega)).trans ((old_cell hz _ _).trans c2)
              have e3 := ((bcell hb2).1 w.heap.size 3 (by simp; omega)).trans ((old_cell hz _ _).trans c3)
              have e4 := ((bcell hb2).1 w.heap.size 4 (by simp; omega)).trans ((old_cell hz _ _).trans c4)
              have e5 := ((bcell hb2).1 w.heap.size 5 (by simp; omega)).trans ((old_cell hz _ _).trans c5)
              go_roundw
              case rel => exact ⟨2, by omega, rfl, by rw [show Int.toNat 2 = 1 + 1 from rfl, S1.out], by rw [show Int.toNat 2 = 1 + 1 from rfl, S2.out], by rw [show Int.toNat 2 = 1 + 1 from rfl, S3.out, decide_eq_false hy]; rfl, bA, by omega, e0, e1, e2, e3, e4, e5⟩
              case measure => simp [intOf]
          · go_wp2_with (first | (go_at_call 36; refine (F2 _).mono ?_; rintro e w2 ⟨rfl, hb2⟩; have d3 : w2.cell? ⟨wr.heap.size, 3, none⟩ = some (fnv 37) := ((bcell hb2).1 _ _ (by first | omega | (simp; done) | (simp; omega))).trans (by simp); have bA := onto (hb.alloc (Nat.le_of_lt hz) _) hb2) | (go_at_call 37; refine (P2 _).mono ?_; rintro e w4 ⟨rfl, rfl⟩))
            have s2 := hb2.size
            simp only [World.size_alloc] at s2
            have e0 := ((bcell hb2).1 w.heap.size 0 (by simp; omega)).trans ((old_cell hz _ _).trans c0)
            have e1 := ((bcell hb2).1 w.heap.size 1 (by simp; omega)).trans ((old_cell hz _ _).trans c1)
            have e2 := ((bcell hb2).1 w.heap.size 2 (by simp; omega)).trans ((old_cell hz _ _).trans c2)
            have e3 := ((bcell hb2).1 w.heap.size 3 (by simp; omega)).trans ((old_cell hz _ _).trans c3)
            have e4 := ((bcell hb2).1 w.heap.size 4 (by simp; omega)).trans ((old_cell hz _ _).trans c4)
            have e5 := ((bcell hb2).1 w.heap.size 5 (by simp; omega)).trans ((old_cell hz _ _).trans c5)
            go_roundw
            case rel => exact ⟨2, by omega, rfl, by rw [show Int.toNat 2 = 1 + 1 from rfl, S1.out], by rw [show Int.toNat 2 = 1 + 1 from rfl, S2.out], by rw [show Int.toNat 2 = 1 + 1 from rfl, S3.out]; rfl, bA, by omega, e0, e1, e2, e3, e4, e5⟩
            case measure => simp [intOf]
      · obtain ⟨⟨q1, q2⟩, q3, q4⟩ := HBd.out 2
        simp only [show Int.toNat 2 = 2 from rfl]
        by_cases hn : p = -1
        · obtain ⟨s1, s2', s3⟩ := N3.out hn
          have S1 := hidden s1
          have S2 := hidden s2'
          have S3 := hidden s3
          clear s1 s2' s3
          generalize sT ⟨b, o, p, u, a, h⟩ 2 = sv at *
          generalize nT ⟨b, o, p, u, a, h⟩ 2 = nv at *
          generalize tT ⟨b, o, p, u, a, h⟩ 2 = tv at *
          subst hn
          go_wp2_with (go_at_call 38; refine (F3 _).mono ?_; rintro e w2 ⟨rfl, hb2⟩; have d3 : w2.cell? ⟨wr.heap.size, 3, none⟩ = some (fnv 39) := ((bcell hb2).1 _ _ (by first | omega | (simp; done) | (simp; omega))).trans (by simp); have bA := onto (hb.alloc (Nat.le_of_lt hz) _) hb2)
          have s2 := hb2.size
          simp only [World.size_alloc] at s2
          have e0 := ((bcell hb2).1 w.heap.size 0 (by simp; omega)).trans ((old_cell hz _ _).trans c0)
          have e1 := ((bcell hb2).1 w.heap.size 1 (by simp; omega)).trans ((old_cell hz _ _).trans c1)
          have e2 := ((bcell hb2).1 w.heap.size 2 (by simp; omega)).trans ((old_cell hz _ _).trans c2)
          have e3 := ((bcell hb2).1 w.heap.size 3 (by simp; omega)).trans ((old_cell hz _ _).trans c3)
          have e4 := ((bcell hb2).1 w.heap.size 4 (by simp; omega)).trans ((old_cell hz _ _).trans c4)
          have e5 := ((bcell hb2).1 w.heap.size 5 (by simp; omega)).trans ((old_cell hz _ _).trans c5)
          go_roundw
          case rel => exact ⟨3, by omega, rfl, by rw [show Int.toNat 3 = 2 + 1 from rfl, S1.out], by rw [show Int.toNat 3 = 2 + 1 from rfl, S2.out], by rw [show Int.toNat 3 = 2 + 1 from rfl, S3.out], bA, by omega, e0, e1, e2, e3, e4, e5⟩
          case measure => simp [intOf]
        · have hn1 : (p == -1) = false := by simpa using hn
          obtain ⟨s1, s2', s3⟩ := M3.out (by have := HB.out; omega) G3.out.1
          have S1 := hidden s1
          have S2 := hidden s2'
          have S3 := hidden s3
          have y1 := G3.out.1
          have y2 := G3.out.2
          clear s1 s2' s3
          generalize pp p = y at *
          generalize sT ⟨b, o, p, u, a, h⟩ 2 = sv at *
          generalize nT ⟨b, o, p, u, a, h⟩ 2 = nv at *
          generalize tT ⟨b, o, p, u, a, h⟩ 2 = tv at *
          rcases tv with _ | _
          · by_cases hy : y = 3
            · subst hy
              go_wp2_with (first | (go_at_call 38; refine (F3 _).mono ?_; rintro e w2 ⟨rfl, hb2⟩; have d3 : w2.cell? ⟨wr.heap.size, 3, none⟩ = some (fnv 39) := ((bcell hb2).1 _ _ (by first | omega | (simp; done) | (simp; omega))).trans (by simp); have bA := onto (hb.alloc (Nat.le_of_lt hz) _) hb2) | (go_at_call 39; refine (P3 _).mono ?_; rintro e w4 ⟨rfl, rfl⟩))
              have s2 := hb2.size
              simp only [World.size_alloc] at s2
              have e0 := ((bcell hb2).1 w.heap.size 0 (by simp; omega)).trans ((old_cell hz _ _).trans c0)
              have e1 := ((bcell hb2).1 w.heap.size 1 (by simp; omega)).trans ((old_cell hz _ _).trans c1)
              have e2 := ((bcell hb2).1 w.heap.size 2 (by simp; omega)).trans ((old_cell hz _ _).trans c2)
              have e3 := ((bcell hb2).1 w.heap.size 3 (by simp; omega)).trans ((old_cell hz _ _).trans c3)
              have e4 := ((bcell hb2).1 w.heap.size 4 (by simp; omega)).trans ((old_cell hz _ _).trans c4)
              have e5 := ((bcell hb2).1 w.heap.size 5 (by simp; omega)).trans ((old_cell hz _ _).trans c5)
              go_roundw
              case rel => exact ⟨3, by omega, rfl, by rw [show Int.toNat 3 = 2 + 1 from rfl, S1.out], by rw [show Int.toNat 3 = 2 + 1 from rfl, S2.out], by rw [show Int.toNat 3 = 2 + 1 from rfl, S3.out]; rfl, bA, by omega, e0, e1, e2, e3, e4, e5⟩
              case measure => simp [intOf]
            · have hy3 : (y == 3) = false := by simpa using hy
              go_wp2_with (first | (go_at_call 38; refine (F3 _).mono ?_; rintro e w2 ⟨rfl, hb2⟩; have d3 : w2.cell? ⟨wr.heap.size, 3, none⟩ = some (fnv 39) := ((bcell hb2).1 _ _ (by first | omega | (simp; done) | (simp; omega))).trans (by simp); have bA := onto (hb.alloc (Nat.le_of_lt hz) _) hb2) | (go_at_call 39; refine (P3 _).mono ?_; rintro e w4 ⟨rfl, rfl⟩))
              have s2 := hb2.size
              simp only [World.size_alloc] at s2
              have e0 := ((bcell hb2).1 w.heap.size 0 (by simp; omega)).trans ((old_cell hz _ _).trans c0)
              have e1 := ((bcell hb2).1 w.heap.size 1 (by simp; omega)).trans ((old_cell hz _ _).trans c1)
              have e2 := ((bcell hb2).1 w.heap.size 2 (by simp; omega)).trans ((old_cell hz _ _).trans c2)
              have e3 := ((bcell hb2).1 w.heap.size 3 (by simp; omega)).trans ((old_cell hz _ _).trans c3)
              have e4 := ((bcell hb2).1 w.heap.size 4 (by simp; omega)).trans ((old_cell hz _ _).trans c4)
              have e5 := ((bcell hb2).1 w.heap.size 5 (by simp; omega)).trans ((old_cell hz _ _).trans c5)
              go_roundw
              case rel => exact ⟨3, by omega, rfl, by rw [show Int.toNat 3 = 2 + 1 from rfl, S1.out], by rw [show Int.toNat 3 = 2 + 1 from rfl, S2.out], by rw [show Int.toNat 3 = 2 + 1 from rfl, S3.out, decide_eq_false hy]; rfl, bA, by omega, e0, e1, e2, e3, e4, e5⟩
              case measure => simp [intOf]
          · go_wp2_with (first | (go_at_call 38; refine (F3 _).mono ?_; rintro e w2 ⟨rfl, hb2⟩; have d3 : w2.cell? ⟨wr.heap.size, 3, none⟩ = some (fnv 39) := ((bcell hb2).1 _ _ (by first | omega | (simp; done) | (simp; omega))).trans (by simp); have bA := onto (hb.alloc (Nat.le_of_lt hz) _) hb2) | (go_at_call 39; refine (P3 _).mono ?_; rintro e w4 ⟨rfl, rfl⟩))
            have s2 := hb2.size
            simp only [World.size_alloc] at s2
            have e0 := ((bcell hb2).1 w.heap.size 0 (by simp; omega)).trans ((old_cell hz _ _).trans c0)
            have e1 := ((bcell hb2).1 w.heap.size 1 (by simp; omega)).trans ((old_cell hz _ _).trans c1)
            have e2 := ((bcell hb2).1 w.heap.size 2 (by simp; omega)).trans ((old_cell hz _ _).trans c2)
            have e3 := ((bcell hb2).1 w.heap.size 3 (by simp; omega)).trans ((old_cell hz _ _).trans c3)
            have e4 := ((bcell hb2).1 w.heap.size 4 (by simp; omega)).trans ((old_cell hz _ _).trans c4)
            have e5 := ((bcell hb2).1 w.heap.size 5 (by simp; omega)).trans ((old_cell hz _ _).trans c5)
            go_roundw
            case rel => exact ⟨3, by omega, rfl, by rw [show Int.toNat 3 = 2 + 1 from rfl, S1.out], by rw [show Int.toNat 3 = 2 + 1 from rfl, S2.out], by rw [show Int.toNat 3 = 2 + 1 from rfl, S3.out]; rfl, bA, by omega, e0, e1, e2, e3, e4, e5⟩
            case measure => simp [intOf]
      · obtain ⟨⟨q1, q2⟩, q3, q4⟩ := HBd.out 3
        simp only [show Int.toNat 3 = 3 from rfl]
        by_cases hn : u = -1
        · obtain ⟨s1, s2', s3⟩ := N4.out hn
          have S1 := hidden s1
          have S2 := hidden s2'
          have S3 := hidden s3
          clear s1 s2' s3
          generalize sT ⟨b, o, p, u, a, h⟩ 3 = sv at *
          generalize nT ⟨b, o, p, u, a, h⟩ 3 = nv at *
          generalize tT ⟨b, o, p, u, a, h⟩ 3 = tv at *
          subst hn
          go_wp2_with (go_at_call 40; refine (F4 _).mono ?_; rintro e w2 ⟨rfl, hb2⟩; have d3 : w2.cell? ⟨wr.heap.size, 3, none⟩ = some (fnv 41) := ((bcell hb2).1 _ _ (by first | omega | (simp; done) | (simp; omega))).trans (by simp); have bA := onto (hb.alloc (Nat.le_of_lt hz) _) hb2)
          have s2 := hb2.size
          simp only [World.size_alloc] at s2
          have e0 := ((bcell hb2).1 w.heap.size 0 (by simp; omega)).trans ((old_cell hz _ _).trans c0)
          have e1 := ((bcell hb2).1 w.heap.size 1 (by simp; omega)).trans ((old_cell hz _ _).trans c1)
          have e2 := ((bcell hb2).1 w.heap.size 2 (by simp; omega)).trans ((old_cell hz _ _).trans c2)
          have e3 := ((bcell hb2).1 w.heap.size 3 (by simp; omega)).trans ((old_cell hz _ _).trans c3)
          have e4 := ((bcell hb2).1 w.heap.size 4 (by simp; omega)).trans ((old_cell hz _ _).trans c4)
          have e5 := ((bcell hb2).1 w.heap.size 5 (by simp; omega)).trans ((old_cell hz _ _).trans c5)
          go_roundw
          case rel => exact ⟨4, by omega, rfl, by rw [show Int.toNat 4 = 3 + 1 from rfl, S1.out], by rw [show Int.toNat 4 = 3 + 1 from rfl, S2.out], by rw [show Int.toNat 4 = 3 + 1 from rfl, S3.out], bA, by omega, e0, e1, e2, e3, e4, e5⟩
          case measure => simp [intOf]
        · have hn1 : (u == -1) = false := by simpa using hn
          obtain ⟨s1, s2', s3⟩ := M4.out (by have := HB.out; omega) G4.out.1
          have S1 := hidden s1
          have S2 := hidden s2'
          have S3 := hidden s3
          have y1 := G4.out.1
          have y2 := G4.out.2
          clear s1 s2' s3
          generalize up u = y at *
          generalize sT ⟨b, o, p, u, a, h⟩ 3 = sv at *
          generalize nT ⟨b, o, p, u, a, h⟩ 3 = nv at *
          generalize tT ⟨b, o, p, u, a, h⟩ 3 = tv at *
          rcases tv with _ | _
          · by_cases hy : y = 3
            · subst hy
              go_wp2_with (first | (go_at_call 40; refine (F4 _).mono ?_; rintro e w2 ⟨rfl, hb2⟩; have d3 : w2.cell? ⟨wr.heap.size, 3, none⟩ = some (fnv 41) := ((bcell hb2).1 _ _ (by first | omega | (simp; done) | (simp; omega))).trans (by simp); have bA := onto (hb.alloc (Nat.le_of_lt hz) _) hb2) | (go_at_call 41; refine (P4 _).mono ?_; rintro e w4 ⟨rfl, rfl⟩))
              have s2 := hb2.size
              simp only [World.size_alloc] at s2
              have e0 := ((bcell hb2).1 w.heap.size 0 (by simp; omega)).trans ((old_cell hz _ _).trans c0)
              have e1 := ((bcell hb2).1 w.heap.size 1 (by simp; omega)).trans ((old_cell hz _ _).trans c1)
              have e2 := ((bcell hb2).1 w.heap.size 2 (by simp; omega)).trans ((old_cell hz _ _).trans c2)
              have e3 := ((bcell hb2).1 w.heap.size 3 (by simp; omega)).trans ((old_cell hz _ _).trans c3)
              have e4 := ((bcell hb2).1 w.heap.size 4 (by simp; omega)).trans ((old_cell hz _ _).trans c4)
              have e5 := ((bcell hb2).1 w.heap.size 5 (by simp; omega)).trans ((old_cell hz _ _).trans c5)
              go_roundw
              case rel => exact ⟨4, by omega, rfl, by rw [show Int.toNat 4 = 3 + 1 from rfl, S1.out], by rw [show Int.toNat 4 = 3 + 1 from rfl, S2.out], by rw [show Int.toNat 4 = 3 + 1 from rfl, S3.out]; rfl, bA, by omega, e0, e1, e2, e3, e4, e5⟩
              case measure => simp [intOf]
            · have hy3 : (y == 3) = false := by simpa using hy
              go_wp2_with (first | (go_at_call 40; refine (F4 _).mono ?_; rintro e w2 ⟨rfl, hb2⟩; have d3 : w2.cell? ⟨wr.heap.size, 3, none⟩ = some (fnv 41) := ((bcell hb2).1 _ _ (by first | omega | (simp; done) | (simp; omega))).trans (by simp); have bA := onto (hb.alloc (Nat.le_of_lt hz) _) hb2) | (go_at_call 41; refine (P4 _).mono ?_; rintro e w4 ⟨rfl, rfl⟩))
              have s2 := hb2.size
              simp only [World.size_alloc] at s2
              have e0 := ((bcell hb2).1 w.heap.size 0 (by simp; omega)).trans ((old_cell hz _ _).trans c0)
              have e1 := ((bcell hb2).1 w.heap.size 1 (by simp; omega)).trans ((old_cell hz _ _).trans c1)
              have e2 := ((bcell hb2).1 w.heap.size 2 (by simp; omega)).trans ((old_cell hz _ _).trans c2)
              have e3 := ((bcell hb2).1 w.heap.size 3 (by simp; omega)).trans ((old_cell hz _ _).trans c3)
              have e4 := ((bcell hb2).1 w.heap.size 4 (by simp; omega)).trans ((old_cell hz _ _).trans c4)
              have e5 := ((bcell hb2).1 w.heap.size 5 (by simp; omega)).trans ((old_cell hz _ _).trans c5)
              go_roundw
              case rel => exact ⟨4, by omega, rfl, by rw [show Int.toNat 4 = 3 + 1 from rfl, S1.out], by rw [show Int.toNat 4 = 3 + 1 from rfl, S2.out], by rw [show Int.toNat 4 = 3 + 1 from rfl, S3.out, decide_eq_false hy]; rfl, bA, by omega, e0, e1, e2, e3, e4, e5⟩
              case measure => simp [intOf]
          · go_wp2_with (first | (go_at_call 40; refine (F4 _).mono ?_; rintro e w2 ⟨rfl, hb2⟩; have d3 : w2.cell? ⟨wr.heap.size, 3, none⟩ = some (fnv 41) := ((bcell hb2).1 _ _ (by first | omega | (simp; done) | (simp; omega))).trans (by simp); have bA := onto (hb.alloc (Nat.le_of_lt hz) _) hb2) | (go_at_call 41; refine (P4 _).mono ?_; rintro e w4 ⟨rfl, rfl⟩))
            have s2 := hb2.size
            simp only [World.size_alloc] at s2
            have e0 := ((bcell hb2).1 w.heap.size 0 (by simp; omega)).trans ((old_cell hz _ _).trans c0)
            have e1 := ((bcell hb2).1 w.heap.size 1 (by simp; omega)).trans ((old_cell hz _ _).trans c1)
            have e2 := ((bcell hb2).1 w.heap.size 2 (by simp; omega)).trans ((old_cell hz _ _).trans c2)
            have e3 := ((bcell hb2).1 w.heap.size 3 (by simp; omega)).trans ((old_cell hz _ _).trans c3)
            have e4 := ((bcell hb2).1 w.heap.size 4 (by simp; omega)).trans ((old_cell hz _ _).trans c4)
            have e5 := ((bcell hb2).1 w.heap.size 5 (by simp; omega)).trans ((old_cell hz _ _).trans c5)
            go_roundw
            case rel => exact ⟨4, by omega, rfl, by rw [show Int.toNat 4 = 3 + 1 from rfl, S1.out], by rw [show Int.toNat 4 = 3 + 1 from rfl, S2.out], by rw [show Int.toNat 4 = 3 + 1 from rfl, S3.out]; rfl, bA, by omega, e0, e1, e2, e3, e4, e5⟩
            case measure => simp [intOf]
      · obtain ⟨⟨q1, q2⟩, q3, q4⟩ := HBd.out 4
        simp only [show Int.toNat 4 = 4 from rfl]
        by_cases hn : a = -1
        · obtain ⟨s1, s2', s3⟩ := N5.out hn
          have S1 := hidden s1
          have S2 := hidden s2'
          have S3 := hidden s3
          clear s1 s2' s3
          generalize sT ⟨b, o, p, u, a, h⟩ 4 = sv at *
          generalize nT ⟨b, o, p, u, a, h⟩ 4 = nv at *
          generalize tT ⟨b, o, p, u, a, h⟩ 4 = tv at *
          subst hn
          go_wp2_with (go_at_call 42; refine (F5 _).mono ?_; rintro e w2 ⟨rfl, hb2⟩; have d3 : w2.cell? ⟨wr.heap.size, 3, none⟩ = some (fnv 43) := ((bcell hb2).1 _ _ (by first | omega | (simp; done) | (simp; omega))).trans (by simp); have bA := onto (hb.alloc (Nat.le_of_lt hz) _) hb2)
          have s2 := hb2.size
          simp only [World.size_alloc] at s2
          have e0 := ((bcell hb2).1 w.heap.size 0 (by simp; omega)).trans ((old_cell hz _ _).trans c0)
          have e1 := ((bcell hb2).1 w.heap.size 1 (by simp; omega)).trans ((old_cell hz _ _).trans c1)
          have e2 := ((bcell hb2).1 w.heap.size 2 (by simp; omega)).trans ((old_cell hz _ _).trans c2)
          have e3 := ((bcell hb2).1 w.heap.size 3 (by simp; omega)).trans ((old_cell hz _ _).trans c3)
          have e4 := ((bcell hb2).1 w.heap.size 4 (by simp; omega)).trans ((old_cell hz _ _).trans c4)
          have e5 := ((bcell hb2).1 w.heap.size 5 (by simp; omega)).trans ((old_cell hz _ _).trans c5)
          go_roundw
          case rel => exact ⟨5, by omega, rfl, by rw [show Int.toNat 5 = 4 + 1 from rfl, S1.out], by rw [show Int.toNat 5 = 4 + 1 from rfl, S2.out], by rw [show Int.toNat 5 = 4 + 1 from rfl, S3.out], bA, by omega, e0, e1, e2, e3, e4, e5⟩
          case measure => simp [intOf]
        · have hn1 : (a == -1) = false := by simpa using hn
          obtain ⟨s1, s2', s3⟩ := M5.out (by have := HB.out; omega) G5.out.1
          have S1 := hidden s1
          have S2 := hidden s2'
          have S3 := hidden s3
          have y1 := G5.out.1
          have y2 := G5.out.2
          clear s1 s2' s3
          generalize ap a = y at *
          generalize sT ⟨b, o, p, u, a, h⟩ 4 = sv at *
          generalize nT ⟨b, o, p, u, a, h⟩ 4 = nv at *
          generalize tT ⟨b, o, p, u, a, h⟩ 4 = tv at *
          rcases tv with _ | _
          · by_cases hy : y = 3
            · subst hy
              go_wp2_with (first | (go_at_call 42; refine (F5 _).mono ?_; rintro e w2 ⟨rfl, hb2⟩; have d3 : w2.cell? ⟨wr.heap.size, 3, none⟩ = some (fnv 43) := ((bcell hb2).1 _ _ (by first | omega | (simp; done) | (simp; omega))).trans (by simp); have bA := onto (hb.alloc (Nat.le_of_lt hz) _) hb2) | (go_at_call 43; refine (P5 _).mono ?_; rintro e w4 ⟨rfl, rfl⟩))
              have s2 := hb2.size
              simp only [World.size_alloc] at s2
              have e0 := ((bcell hb2).1 w.heap.size 0 (by simp; omega)).trans ((old_cell hz _ _).trans c0)
              have e1 := ((bcell hb2).1 w.heap.size 1 (by simp; omega)).trans ((old_cell hz _ _).trans c1)
              have e2 := ((bcell hb2).1 w.heap.size 2 (by simp; omega)).trans ((old_cell hz _ _).trans c2)
              have e3 := ((bcell hb2).1 w.heap.size 3 (by simp; omega)).trans ((old_cell hz _ _).trans c3)
              have e4 := ((bcell hb2).1 w.heap.size 4 (by simp; omega)).trans ((old_cell hz _ _).trans c4)
              have e5 := ((bcell hb2).1 w.heap.size 5 (by simp; omega)).trans ((old_cell hz _ _).trans c5)
              go_roundw
              case rel => exact ⟨5, by omega, rfl, by rw [show Int.toNat 5 = 4 + 1 from rfl, S1.out], by rw [show Int.toNat 5 = 4 + 1 from rfl, S2.out], by rw [show Int.toNat 5 = 4 + 1 from rfl, S3.out]; rfl, bA, by omega, e0, e1, e2, e3, e4, e5⟩
              case measure => simp [intOf]
            · have hy3 : (y == 3) = false := by simpa using hy
              go_wp2_with (first | (go_at_call 42; refine (F5 _).mono ?_; rintro e w2 ⟨rfl, hb2⟩; have d3 : w2.cell? ⟨wr.heap.size, 3, none⟩ = some (fnv 43) := ((bcell hb2).1 _ _ (by first | omega | (simp; done) | (simp; omega))).trans (by simp); have bA := onto (hb.alloc (Nat.le_of_lt hz) _) hb2) | (go_at_call 43; refine (P5 _).mono ?_; rintro e w4 ⟨rfl, rfl⟩))
              have s2 := hb2.size
              simp only [World.size_alloc] at s2
              have e0 := ((bcell hb2).1 w.heap.size 0 (by simp; omega)).trans ((old_cell hz _ _).trans c0)
              have e1 := ((bcell hb2).1 w.heap.size 1 (by simp; omega)).trans ((old_cell hz _ _).trans c1)
              have e2 := ((bcell hb2).1 w.heap.size 2 (by simp; omega)).trans ((old_cell hz _ _).trans c2)
              have e3 := ((bcell hb2).1 w.heap.size 3 (by simp; omega)).trans ((old_cell hz _ _).trans c3)
              have e4 := ((bcell hb2).1 w.heap.size 4 (by simp; omega)).trans ((old_cell hz _ _).trans c4)
              have e5 := ((bcell hb2).1 w.heap.size 5 (by simp; omega)).trans ((old_cell hz _ _).trans c5)
              go_roundw
              case rel => exact ⟨5, by omega, rfl, by rw [show Int.toNat 5 = 4 + 1 from rfl, S1.out], by rw [show Int.toNat 5 = 4 + 1 from rfl, S2.out], by rw [show Int.toNat 5 = 4 + 1 from rfl, S3.out, decide_eq_false hy]; rfl, bA, by omega, e0, e1, e2, e3, e4, e5⟩
              case measure => simp [intOf]
          · go_wp2_with (first | (go_at_call 42; refine (F5 _).mono ?_; rintro e w2 ⟨rfl, hb2⟩; have d3 : w2.cell? ⟨wr.heap.size, 3, none⟩ = some (fnv 43) := ((bcell hb2).1 _ _ (by first | omega | (simp; done) | (simp; omega))).trans (by simp); have bA := onto (hb.alloc (Nat.le_of_lt hz) _) hb2) | (go_at_call 43; refine (P5 _).mono ?_; rintro e w4 ⟨rfl, rfl⟩))
            have s2 := hb2.size
            simp only [World.size_alloc] at s2
            have e0 := ((bcell hb2).1 w.heap.size 0 (by simp; omega)).trans ((old_cell hz _ _).trans c0)
            have e1 := ((bcell hb2).1 w.heap.size 1 (by simp; omega)).trans ((old_cell hz _ _).trans c1)
            have e2 := ((bcell hb2).1 w.heap.size 2 (by simp; omega)).trans ((old_cell hz _ _).trans c2)
            have e3 := ((bcell hb2).1 w.heap.size 3 (by simp; omega)).trans ((old_cell hz _ _).trans c3)
            have e4 := ((bcell hb2).1 w.heap.size 4 (by simp; omega)).trans ((old_cell hz _ _).trans c4)
            have e5 := ((bcell hb2).1 w.heap.size 5 (by simp; omega)).trans ((old_cell hz _ _).trans c5)
            go_roundw
            case rel => exact ⟨5, by omega, rfl, by rw [show Int.toNat 5 = 4 + 1 from rfl, S1.out], by rw [show Int.toNat 5 = 4 + 1 from rfl, S2.out], by rw [show Int.toNat 5 = 4 + 1 from rfl, S3.out]; rfl, bA, by omega, e0, e1, e2, e3, e4, e5⟩
            case measure => simp [intOf]
      · obtain ⟨⟨q1, q2⟩, q3, q4⟩ := HBd.out 5
        simp only [show Int.toNat 5 = 5 from rfl]
        by_cases hn : h = -1
        · obtain ⟨s1, s2', s3⟩ := N6.out hn
          have S1 := hidden s1
          have S2 := hidden s2'
          have S3 := hidden s3
          clear s1 s2' s3
          generalize sT ⟨b, o, p, u, a, h⟩ 5 = sv at *
          generalize nT ⟨b, o, p, u, a, h⟩ 5 = nv at *
          generalize tT ⟨b, o, p, u, a, h⟩ 5 = tv at *
          subst hn
          go_wp2_with (go_at_call 44; refine (F6 _).mono ?_; rintro e w2 ⟨rfl, hb2⟩; have d3 : w2.cell? ⟨wr.heap.size, 3, none⟩ = some (fnv 45) := ((bcell hb2).1 _ _ (by first | omega | (simp; done) | (simp; omega))).trans (by simp); have bA := onto (hb.alloc (Nat.le_of_lt hz) _) hb2)
          have s2 := hb2.size
          simp only [World.size_alloc] at s2
          have e0 := ((bcell hb2).1 w.heap.size 0 (by simp; omega)).trans ((old_cell hz _ _).trans c0)
          have e1 := ((bcell hb2).1 w.heap.size 1 (by simp; omega)).trans ((old_cell hz _ _).trans c1)
          have e2 := ((bcell hb2).1 w.heap.size 2 (by simp; omega)).trans ((old_cell hz _ _).trans c2)
          have e3 := ((bcell hb2).1 w.heap.size 3 (by simp; omega)).trans ((old_cell hz _ _).trans c3)
          have e4 := ((bcell hb2).1 w.heap.size 4 (by simp; omega)).trans ((old_cell hz _ _).trans c4)
          have e5 := ((bcell hb2).1 w.heap.size 5 (by simp; omega)).trans ((old_cell hz _ _).trans c5)
          go_roundw
          case rel => exact ⟨6, by omega, rfl, by rw [show Int.toNat 6 = 5 + 1 from rfl, S1.out], by rw [show Int.toNat 6 = 5 + 1 from rfl, S2.out], by rw [show Int.toNat 6 = 5 + 1 from rfl, S3.out], bA, by omega, e0, e1, e2, e3, e4, e5⟩
          case measure => simp [intOf]
        · have hn1 : (h == -1) = false := by simpa using hn
          obtain ⟨s1, s2', s3⟩ := M6.out (by have := HB.out; omega) G6.out.1
          have S1 := hidden s1
          have S2 := hidden s2'
          have S3 := hidden s3
          have y1 := G6.out.1
          have y2 := G6.out.2
          clear s1 s2' s3
          generalize hp h = y at *
          generalize sT ⟨b, o, p, u, a, h⟩ 5 = sv at *
          generalize nT ⟨b, o, p, u, a, h⟩ 5 = nv at *
          generalize tT ⟨b, o, p, u, a, h⟩ 5 = tv at *
          rcases tv with _ | _
          · by_cases hy : y = 3
            · subst hy
              go_wp2_with (first | (go_at_call 44; refine (F6 _).mono ?_; rintro e w2 ⟨rfl, hb2⟩; have d3 : w2.cell? ⟨wr.heap.size, 3, none⟩ = some (fnv 45) := ((bcell hb2).1 _ _ (by first | omega | (simp; done) | (simp; omega))).trans (by simp); have bA := onto (hb.alloc (Nat.le_of_lt hz) _) hb2) | (go_at_call 45; refine (P6 _).mono ?_; rintro e w4 ⟨rfl, rfl⟩))
              have s2 := hb2.size
              simp only [World.size_alloc] at s2
              have e0 := ((bcell hb2).1 w.heap.size 0 (by simp; omega)).trans ((old_cell hz _ _).trans c0)
              have e1 := ((bcell hb2).1 w.heap.size 1 (by simp; omega)).trans ((old_cell hz _ _).trans c1)
              have e2 := ((bcell hb2).1 w.heap.size 2 (by simp; omega)).trans ((old_cell hz _ _).trans c2)
              have e3 := ((bcell hb2).1 w.heap.size 3 (by simp; omega)).trans ((old_cell hz _ _).trans c3)
              have e4 := ((bcell hb2).1 w.heap.size 4 (by simp; omega)).trans ((old_cell hz _ _).trans c4)
              have e5 := ((bcell hb2).1 w.heap.size 5 (by simp; omega)).trans ((old_cell hz _ _).trans c5)
              go_roundw
              case rel => exact ⟨6, by omega, rfl, by rw [show Int.toNat 6 = 5 + 1 from rfl, S1.out], by rw [show Int.toNat 6 = 5 + 1 from rfl, S2.out], by rw [show Int.toNat 6 = 5 + 1 from rfl, S3.out]; rfl, bA, by omega, e0, e1, e2, e3, e4, e5⟩
              case measure => simp [intOf]
            · have hy3 : (y == 3) = false := by simpa using hy
              go_wp2_with (first | (go_at_call 44; refine (F6 _).mono ?_; rintro e w2 ⟨rfl, hb2⟩; have d3 : w2.cell? ⟨wr.heap.size, 3, none⟩ = some (fnv 45) := ((bcell hb2).1 _ _ (by first | omega | (simp; done) | (simp; omega))).trans (by simp); have bA := onto (hb.alloc (Nat.le_of_lt hz) _) hb2) | (go_at_call 45; refine (P6 _).mono ?_; rintro e w4 ⟨rfl, rfl⟩))
              have s2 := hb2.size
              simp only [World.size_alloc] at s2
              have e0 := ((bcell hb2).1 w.heap.size 0 (by simp; omega)).trans ((old_cell hz _ _).trans c0)
              have e1 := ((bcell hb2).1 w.heap.size 1 (by simp; omega)).trans ((old_cell hz _ _).trans c1)
              have e2 := ((bcell hb2).1 w.heap.size 2 (by simp; omega)).trans ((old_cell hz _ _).trans c2)
              have e3 := ((bcell hb2).1 w.heap.size 3 (by simp; omega)).trans ((old_cell hz _ _).trans c3)
              have e4 := ((bcell hb2).1 w.heap.size 4 (by simp; omega)).trans ((old_cell hz _ _).trans c4)
              have e5 := ((bcell hb2).1 w.heap.size 5 (by simp; omega)).trans ((old_cell hz _ _).trans c5)
              go_roundw
              case rel => exact ⟨6, by omega, rfl, by rw [show Int.toNat 6 = 5 + 1 from rfl, S1.out], by rw [show Int.toNat 6 = 5 + 1 from rfl, S2.out], by rw [show Int.toNat 6 = 5 + 1 from rfl, S3.out, decide_eq_false hy]; rfl, bA, by omega, e0, e1, e2, e3, e4, e5⟩
              case measure => simp [intOf]
          · go_wp2_with (first | (go_at_call 44; refine (F6 _).mono ?_; rintro e w2 ⟨rfl, hb2⟩; have d3 : w2.cell? ⟨wr.heap.size, 3, none⟩ = some (fnv 45) := ((bcell hb2).1 _ _ (by first | omega | (simp; done) | (simp; omega))).trans (by simp); have bA := onto (hb.alloc (Nat.le_of_lt hz) _) hb2) | (go_at_call 45; refine (P6 _).mono ?_; rintro e w4 ⟨rfl, rfl⟩))
            have s2 := hb2.size
            simp only [World.size_alloc] at s2
            have e0 := ((bcell hb2).1 w.heap.size 0 (by simp; omega)).trans ((old_cell hz _ _).trans c0)
            have e1 := ((bcell hb2).1 w.heap.size 1 (by simp; omega)).trans ((old_cell hz _ _).trans c1)
            have e2 := ((bcell hb2).1 w.heap.size 2 (by simp; omega)).trans ((old_cell hz _ _).trans c2)
            have e3 := ((bcell hb2).1 w.heap.size 3 (by simp; omega)).trans ((old_cell hz _ _).trans c3)
            have e4 := ((bcell hb2).1 w.heap.size 4 (by simp; omega)).trans ((old_cell hz _ _).trans c4)
            have e5 := ((bcell hb2).1 w.heap.size 5 (by simp; omega)).trans ((old_cell hz _ _).trans c5)
            go_roundw
            case rel => exact ⟨6, by omega, rfl, by rw [show Int.toNat 6 = 5 + 1 from rfl, S1.out], by rw [show Int.toNat 6 = 5 + 1 from rfl, S2.out], by rw [show Int.toNat 6 = 5 + 1 from rfl, S3.out]; rfl, bA, by omega, e0, e1, e2, e3, e4, e5⟩
            case measure => simp [intOf]
      · go_wp2_with fail
        exact bodyPost_ret (results_tmp3 Try.results22 _ _ _) rfl ⟨ret3 HE.out, hb⟩
end Go.Proofs.Ytmigcbbjejbcgai
