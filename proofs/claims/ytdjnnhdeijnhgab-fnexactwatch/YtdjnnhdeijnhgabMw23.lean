/-
  Watch: how things are behind a tick: bh sn true.
-/
import Derived.Test.YtdjnnhdeijnhgabMw22
import Derived.Test.YtdjnnhdeijnhgabMw14
import Derived.Test.YtdjnnhdeijnhgabMw15
namespace Go.Proofs.Ytdjnnhdeijnhgab
open Go.RowKit Va
set_option linter.all false

set_option maxRecDepth 20000 in
set_option maxHeartbeats 4000000 in
theorem bh_sn_true (hi lo sl dl s s2 c xv : Int) (b g : Bool) (c1 : 0 ≤ c) (c2 : c ≤ 2000) (h8 : 0 ≤ dl) (h9 : dl ≤ 100) (hS : ∀ W : World, Calls Try.prog 37 #[.agg #[.int .i64 hi, .int .i64 lo, .int .i64 sl, .int .i64 dl], .int .i64 s2, .int .i64 xv] W fun e w' => e = .returned (.int .i64 s2) ∧ Below W.heap.size W w') (e2 : ¬ s2 = 0) (e3 : ¬ c = dl) (w : World) :
    Calls Try.prog 28 #[.agg #[.int .i64 s2, .int .i64 c, .bool b, .bool g], .agg #[.int .i64 hi, .int .i64 lo, .int .i64 sl, .int .i64 dl], .agg #[.int .i64 xv, .bool true, .bool true]] w fun e w' => e = .returned (.agg #[.int .i64 s2, .int .i64 (c + 1), .bool false, .bool false]) ∧ Below w.heap.size w w' := by
  go_enter Try.func28, Try.ntmps28
  go_wp2_with (go_at_call 37; refine (hS _).mono ?_; rintro e w2 ⟨rfl, hb2⟩; have bw := onto (show Below w.heap.size w _ from by repeat (first | exact Below.refl _ _ | assumption | refine st_drew ?_ | refine st_drewN ?_ _ | refine Below.setCell ?_ (by first | omega | (simp; done) | (simp; omega)) _ | refine Below.alloc ?_ (by first | omega | (simp; done) | (simp; omega)) _)) hb2; obtain ⟨q0, q1, q3, q4⟩ := four_boxes hb2; clear hb2; obtain ⟨⟨m0, m1, m2, m3⟩, n0, n1, n2, n3⟩ := at_four q0; obtain ⟨⟨k0, k1, k2, k3⟩, -⟩ := at_four q1; obtain ⟨⟨r0, r1, r2, r3⟩, p0, p1, p2, p3⟩ := at_four q3; have HQ := hidden q3; have HW := hidden bw; clear q0 q1 q3 bw)
  refine bodyPost_ret (res_four (x0 := .int .i64 0) (x1 := .int .i64 0) (x2 := .bool false) (x3 := .bool false) rfl ?_) rfl ⟨?_, below_four ?_ (by omega)⟩
  · repeat (refine (setCell_ne _ (by first | omega | (simp; done) | (simp; omega))).trans ?_)
    exact HQ.out
  · first
      | rfl
      | (simp; done)
      | (simp; omega)
  · repeat (refine Below.setCell ?_ (by first | omega | (simp; done) | (simp; omega)) _)
    exact HW.out
end Go.Proofs.Ytdjnnhdeijnhgab

/-
  Watch: how things are behind a tick: bh dz false.
-/
namespace Go.Proofs.Ytdjnnhdeijnhgab
open Go.RowKit Va
set_option linter.all false

set_option maxRecDepth 20000 in
set_option maxHeartbeats 4000000 in
theorem bh_dz_false (hi lo sl dl s s2 c xv : Int) (b g : Bool) (c1 : 0 ≤ c) (c2 : c ≤ 2000) (h8 : 0 ≤ dl) (h9 : dl ≤ 100) (hS : ∀ W : World, Calls Try.prog 37 #[.agg #[.int .i64 hi, .int .i64 lo, .int .i64 sl, .int .i64 dl], .int .i64 s, .int .i64 xv] W fun e w' => e = .returned (.int .i64 0) ∧ Below W.heap.size W w') (e1 : ¬ 0 = s) (e1b : ¬ s = 0) (w : World) :
    Calls Try.prog 28 #[.agg #[.int .i64 s, .int .i64 c, .bool b, .bool g], .agg #[.int .i64 hi, .int .i64 lo, .int .i64 sl, .int .i64 dl], .agg #[.int .i64 xv, .bool true, .bool false]] w fun e w' => e = .returned (.agg #[.int .i64 0, .int .i64 0, .bool b, .bool false]) ∧ Below w.heap.size w w' := by
  go_enter Try.func28, Try.ntmps28
  go_wp2_with (go_at_call 37; refine (hS _).mono ?_; rintro e w2 ⟨rfl, hb2⟩; have bw := onto (show Below w.heap.size w _ from by repeat (first | exact Below.refl _ _ | assumption | refine st_drew ?_ | refine st_drewN ?_ _ | refine Below.setCell ?_ (by first | omega | (simp; done) | (simp; omega)) _ | refine Below.alloc ?_ (by first | omega | (simp; done) | (simp; omega)) _)) hb2; obtain ⟨q0, q1, q3, q4⟩ := four_boxes hb2; clear hb2; obtain ⟨⟨m0, m1, m2, m3⟩, n0, n1, n2, n3⟩ := at_four q0; obtain ⟨⟨k0, k1, k2, k3⟩, -⟩ := at_four q1; obtain ⟨⟨r0, r1, r2, r3⟩, p0, p1, p2, p3⟩ := at_four q3; have HQ := hidden q3; have HW := hidden bw; clear q0 q1 q3 bw)
  refine bodyPost_ret (res_four (x0 := .int .i64 0) (x1 := .int .i64 0) (x2 := .bool false) (x3 := .bool false) rfl ?_) rfl ⟨?_, below_four ?_ (by omega)⟩
  · repeat (refine (setCell_ne _ (by first | omega | (simp; done) | (simp; omega))).trans ?_)
    exact HQ.out
  · first
      | rfl
      | (simp; done)
      | (simp; omega)
  · repeat (refine Below.setCell ?_ (by first | omega | (simp; done) | (simp; omega)) _)
    exact HW.out
end Go.Proofs.Ytdjnnhdeijnhgab

/-
  Watch: how things are behind a tick: bh dz true.
-/
namespace Go.Proofs.Ytdjnnhdeijnhgab
open Go.RowKit Va
set_option linter.all false

set_option maxRecDepth 20000 in
set_option maxHeartbeats 4000000 in
theorem bh_dz_true (hi lo sl dl s s2 c xv : Int) (b g : Bool) (c1 : 0 ≤ c) (c2 : c ≤ 2000) (h8 : 0 ≤ dl) (h9 : dl ≤ 100) (hS : ∀ W : World, Calls Try.prog 37 #[.agg #[.int .i64 hi, .int .i64 lo, .int .i64 sl, .int .i64 dl], .int .i64 s, .int .i64 xv] W fun e w' => e = .returned (.int .i64 0) ∧ Below W.heap.size W w') (e1 : ¬ 0 = s) (e1b : ¬ s = 0) (w : World) :
    Calls Try.prog 28 #[.agg #[.int .i64 s, .int .i64 c, .bool b, .bool g], .agg #[.int .i64 hi, .int .i64 lo, .int .i64 sl, .int .i64 dl], .agg #[.int .i64 xv, .bool true, .bool true]] w fun e w' => e = .returned (.agg #[.int .i64 0, .int .i64 0, .bool false, .bool false]) ∧ Below w.heap.size w w' := by
  go_enter Try.func28, Try.ntmps28
  go_wp2_with (go_at_call 37; refine (hS _).mono ?_; rintro e w2 ⟨rfl, hb2⟩; have bw := onto (show Below w.heap.size w _ from by repeat (first | exact Below.refl _ _ | assumption | refine st_drew ?_ | refine st_drewN ?_ _ | refine Below.setCell ?_ (by first | omega | (simp; done) | (simp; omega)) _ | refine Below.alloc ?_ (by first | omega | (simp; done) | (simp; omega)) _)) hb2; obtain ⟨q0, q1, q3, q4⟩ := four_boxes hb2; clear hb2; obtain ⟨⟨m0, m1, m2, m3⟩, n0, n1, n2, n3⟩ := at_four q0; obtain ⟨⟨k0, k1, k2, k3⟩, -⟩ := at_four q1; obtain ⟨⟨r0, r1, r2, r3⟩, p0, p1, p2, p3⟩ := at_four q3; have HQ := hidden q3; have HW := hidden bw; clear q0 q1 q3 bw)
  refine bodyPost_ret (res_four (x0 := .int .i64 0) (x1 := .int .i64 0) (x2 := .bool false) (x3 := .bool false) rfl ?_) rfl ⟨?_, below_four ?_ (by omega)⟩
  · repeat (refine (setCell_ne _ (by first | omega | (simp; done) | (simp; omega))).trans ?_)
    exact HQ.out
  · first
      | rfl
      | (simp; done)
      | (simp; omega)
  · repeat (refine Below.setCell ?_ (by first | omega | (simp; done) | (simp; omega)) _)
    exact HW.out
end Go.Proofs.Ytdjnnhdeijnhgab

/-
  Watch: how things are behind a tick: bh dy false.
-/
namespace Go.Proofs.Ytdjnnhdeijnhgab
open Go.RowKit Va
set_option linter.all false

set_option maxRecDepth 20000 in
set_option maxHeartbeats 4000000 in
theorem bh_dy_false (hi lo sl dl s s2 c xv : Int) (b g : Bool) (c1 : 0 ≤ c) (c2 : c ≤ 2000) (h8 : 0 ≤ dl) (h9 : dl ≤ 100) (hS : ∀ W : World, Calls Try.prog 37 #[.agg #[.int .i64 hi, .int .i64 lo, .int .i64 sl, .int .i64 0], .int .i64 s, .int .i64 xv] W fun e w' => e = .returned (.int .i64 s2) ∧ Below W.heap.size W w') (e1 : ¬ s2 = s) (e1b : ¬ s = s2) (e2 : ¬ s2 = 0) (w : World) :
    Calls Try.prog 28 #[.agg #[.int .i64 s, .int .i64 c, .bool b, .bool g], .agg #[.int .i64 hi, .int .i64 lo, .int .i64 sl, .int .i64 0], .agg #[.int .i64 xv, .bool true, .bool false]] w fun e w' => e = .returned (.agg #[.int .i64 s2, .int .i64 1, .bool true, .bool (!b)]) ∧ Below w.heap.size w w' := by
  go_enter Try.func28, Try.ntmps28
  go_upto_region 9 with (go_at_call 37; refine (hS _).mono ?_; rintro e w2 ⟨rfl, hb2⟩; have bw := onto (show Below w.heap.size w _ from by repeat (first | exact Below.refl _ _ | assumption | refine st_drew ?_ | refine st_drewN ?_ _ | refine Below.setCell ?_ (by first | omega | (simp; done) | (simp; omega)) _ | refine Below.alloc ?_ (by first | omega | (simp; done) | (simp; omega)) _)) hb2; obtain ⟨q0, q1, q3, q4⟩ := four_boxes hb2; clear hb2; obtain ⟨⟨m0, m1, m2, m3⟩, n0, n1, n2, n3⟩ := at_four q0; have HQ0 := hidden q0; have HQ1 := hidden q1; have HQ3 := hidden q3; have HW2 := hidden bw; clear q0 q1 q3 bw)
  obtain ⟨W, hW⟩ : ∃ W, W = (w2.setCell ⟨w.heap.size, 0, none⟩ (.int .i64 s2)).setCell ⟨w.heap.size, 1, none⟩ (.int .i64 0) := ⟨_, rfl⟩
  rw [← hW]
  have q0 := two_set (a := .int .i64 s2) (b := .int .i64 0) HQ0.out
  have q1 := (setCell_ne (w2.setCell ⟨w.heap.size, 0, none⟩ (.int .i64 s2)) (a := ⟨w.heap.size, 1, none⟩) (v := .int .i64 0) (b := w.heap.size + 1) (by first | omega | (simp; done) | (simp; omega))).trans ((setCell_ne w2 (by first | omega | (simp; done) | (simp; omega))).trans HQ1.out)
  have q3 := (setCell_ne (w2.setCell ⟨w.heap.size, 0, none⟩ (.int .i64 s2)) (a := ⟨w.heap.size, 1, none⟩) (v := .int .i64 0) (b := w.heap.size + 1 + 1 + 1) (by first | omega | (simp; done) | (simp; omega))).trans ((setCell_ne w2 (by first | omega | (simp; done) | (simp; omega))).trans HQ3.out)
  have bw : Below w.heap.size w W := by rw [hW]; exact (HW2.out.setCell (by first | omega | (simp; done) | (simp; omega)) _).setCell (by first | omega | (simp; done) | (simp; omega)) _
  rw [← hW] at q0 q1 q3
  clear hW HQ0 HQ1 HQ3 HW2 m0 m1 m2 m3 n0 n1 n2 n3
  obtain ⟨⟨m0, m1, m2, m3⟩, n0, n1, n2, n3⟩ := at_four q0
  obtain ⟨⟨k0, k1, k2, k3⟩, -⟩ := at_four q1
  obtain ⟨⟨r0, r1, r2, r3⟩, p0, p1, p2, p3⟩ := at_four q3
  have HQ := hidden q3
  have HW := hidden bw
  clear q0 q1 q3 bw
  go_wp2_with fail
  refine bodyPost_ret (res_four (x0 := .int .i64 0) (x1 := .int .i64 0) (x2 := .bool false) (x3 := .bool false) rfl ?_) rfl ⟨?_, below_four ?_ (by omega)⟩
  · repeat (refine (setCell_ne _ (by first | omega | (simp; done) | (simp; omega))).trans ?_)
    exact HQ.out
  · first
      | rfl
      | (simp; done)
      | (simp; omega)
  · repeat (refine Below.setCell ?_ (by first | omega | (simp; done) | (simp; omega)) _)
    exact HW.out
end Go.Proofs.Ytdjnnhdeijnhgab

/-
  Watch: how things are behind a tick: bh dy true.
-/
namespace Go.Proofs.Ytdjnnhdeijnhgab
open Go.RowKit Va
set_option linter.all false

set_option maxRecDepth 20000 in
set_option maxHeartbeats 4000000 in
theorem bh_dy_true (hi lo sl dl s s2 c xv : Int) (b g : Bool) (c1 : 0 ≤ c) (c2 : c ≤ 2000) (h8 : 0 ≤ dl) (h9 : dl ≤ 100) (hS : ∀ W : World, Calls Try.prog 37 #[.agg #[.int .i64 hi, .int .i64 lo, .int .i64 sl, .int .i64 0], .int .i64 s, .int .i64 xv] W fun e w' => e = .returned (.int .i64 s2) ∧ Below W.heap.size W w') (e1 : ¬ s2 = s) (e1b : ¬ s = s2) (e2 : ¬ s2 = 0) (w : World) :
    Calls Try.prog 28 #[.agg #[.int .i64 s, .int .i64 c, .bool b, .bool g], .agg #[.int .i64 hi, .int .i64 lo, .int .i64 sl, .int .i64 0], .agg #[.int .i64 xv, .bool true, .bool true]] w fun e w' => e = .returned (.agg #[.int .i64 s2, .int .i64 1, .bool true, .bool true]) ∧ Below w.heap.size w w' := by
  go_enter Try.func28, Try.ntmps28
  go_upto_region 9 with (go_at_call 37; refine (hS _).mono ?_; rintro e w2 ⟨rfl, hb2⟩; have bw := onto (show Below w.heap.size w _ from by repeat (first | exact Below.refl _ _ | assumption | refine st_drew ?_ | refine st_drewN ?_ _ | refine Below.setCell ?_ (by first | omega | (simp; done) | (simp; omega)) _ | refine Below.alloc ?_ (by first | omega | (simp; done) | (simp; omega)) _)) hb2; obtain ⟨q0, q1, q3, q4⟩ := four_boxes hb2; clear hb2; obtain ⟨⟨m0, m1, m2, m3⟩, n0, n1, n2, n3⟩ := at_four q0; have HQ0 := hidden q0; have HQ1 := hidden q1; have HQ3 := hidden q3; have HW2 := hidden bw; clear q0 q1 q3 bw)
  obtain ⟨W, hW⟩ : ∃ W, W = (w2.setCell ⟨w.heap.size, 0, none⟩ (.int .i64 s2)).setCell ⟨w.heap.size, 1, none⟩ (.int .i64 0) := ⟨_, rfl⟩
  rw [← hW]
  have q0 := two_set (a := .int .i64 s2) (b := .int .i64 0) HQ0.out
  have q1 := (setCell_ne (w2.setCell ⟨w.heap.size, 0, none⟩ (.int .i64 s2)) (a := ⟨w.heap.size, 1, none⟩) (v := .int .i64 0) (b := w.heap.size + 1) (by first | omega | (simp; done) | (simp; omega))).trans ((setCell_ne w2 (by first | omega | (simp; done) | (simp; omega))).trans HQ1.out)
  have q3 := (setCell_ne (w2.setCell ⟨w.heap.size, 0, none⟩ (.int .i64 s2)) (a := ⟨w.heap.size, 1, none⟩) (v := .int .i64 0) (b := w.heap.size + 1 + 1 + 1) (by first | omega | (simp; done) | (simp; omega))).trans ((setCell_ne w2 (by first | omega | (simp; done) | (simp; omega))).trans HQ3.out)
  have bw : Below w.heap.size w W := by rw [hW]; exact (HW2.out.setCell (by first | omega | (simp; done) | (simp; omega)) _).setCell (by first | omega | (simp; done) | (simp; omega)) _
  rw [← hW] at q0 q1 q3
  clear hW HQ0 HQ1 HQ3 HW2 m0 m1 m2 m3 n0 n1 n2 n3
  obtain ⟨⟨m0, m1, m2, m3⟩, n0, n1, n2, n3⟩ := at_four q0
  obtain ⟨⟨k0, k1, k2, k3⟩, -⟩ := at_four q1
  obtain ⟨⟨r0, r1, r2, r3⟩, p0, p1, p2, p3⟩ := at_four q3
  have HQ := hidden q3
  have HW := hidden bw
  clear q0 q1 q3 bw
  go_wp2_with fail
  refine bodyPost_ret (res_four (x0 := .int .i64 0) (x1 := .int .i64 0) (x2 := .bool false) (x3 := .bool false) rfl ?_) rfl ⟨?_, below_four ?_ (by omega)⟩
  · repeat (refine (setCell_ne _ (by first | omega | (simp; done) | (simp; omega))).trans ?_)
    exact HQ.out
  · first
      | rfl
      | (simp; done)
      | (simp; omega)
  · repeat (refine Below.setCell ?_ (by first | omega | (simp; done) | (simp; omega)) _)
    exact HW.out
end Go.Proofs.Ytdjnnhdeijnhgab

/-
  Watch: how things are behind a tick: bh dn false.
-/
namespace Go.Proofs.Ytdjnnhdeijnhgab
open Go.RowKit Va
set_option linter.all false

set_option maxRecDepth 20000 in
set_option maxHeartbeats 4000000 in
theorem bh_dn_false (hi lo sl dl s s2 c xv : Int) (b g : Bool) (c1 : 0 ≤ c) (c2 : c ≤ 2000) (h8 : 0 ≤ dl) (h9 : dl ≤ 100) (hS : ∀ W : World, Calls Try.prog 37 #[.agg #[.int .i64 hi, .int .i64 lo, .int .i64 sl, .int .i64 dl], .int .i64 s, .int .i64 xv] W fun e w' => e = .returned (.int .i64 s2) ∧ Below W.heap.size W w') (e1 : ¬ s2 = s) (e1b : ¬ s = s2) (e2 : ¬ s2 = 0) (e3 : ¬ dl = 0) (w : World) :
    Calls Try.prog 28 #[.agg #[.int .i64 s, .int .i64 c, .bool b, .bool g], .agg #[.int .i64 hi, .int .i64 lo, .int .i64 sl, .int .i64 dl], .agg #[.int .i64 xv, .bool true, .bool false]] w fun e w' => e = .returned (.agg #[.int .i64 s2, .int .i64 1, .bool b, .bool false]) ∧ Below w.heap.size w w' := by
  go_enter Try.func28, Try.ntmps28
  go_upto_region 9 with (go_at_call 37; refine (hS _).mono ?_; rintro e w2 ⟨rfl, hb2⟩; have bw := onto (show Below w.heap.size w _ from by repeat (first | exact Below.refl _ _ | assumption | refine st_drew ?_ | refine st_drewN ?_ _ | refine Below.setCell ?_ (by first | omega | (simp; done) | (simp; omega)) _ | refine Below.alloc ?_ (by first | omega | (simp; done) | (simp; omega)) _)) hb2; obtain ⟨q0, q1, q3, q4⟩ := four_boxes hb2; clear hb2; obtain ⟨⟨m0, m1, m2, m3⟩, n0, n1, n2, n3⟩ := at_four q0; have HQ0 := hidden q0; have HQ1 := hidden q1; have HQ3 := hidden q3; have HW2 := hidden bw; clear q0 q1 q3 bw)
  obtain ⟨W, hW⟩ : ∃ W, W = (w2.setCell ⟨w.heap.size, 0, none⟩ (.int .i64 s2)).setCell ⟨w.heap.size, 1, none⟩ (.int .i64 0) := ⟨_, rfl⟩
  rw [← hW]
  have q0 := two_set (a := .int .i64 s2) (b := .int .i64 0) HQ0.out
  have q1 := (setCell_ne (w2.setCell ⟨w.heap.size, 0, none⟩ (.int .i64 s2)) (a := ⟨w.heap.size, 1, none⟩) (v := .int .i64 0) (b := w.heap.size + 1) (by first | omega | (simp; done) | (simp; omega))).trans ((setCell_ne w2 (by first | omega | (simp; done) | (simp; omega))).trans HQ1.out)
  have q3 := (setCell_ne (w2.setCell ⟨w.heap.size, 0, none⟩ (.int .i64 s2)) (a := ⟨w.heap.size, 1, none⟩) (v := .int .i64 0) (b := w.heap.size + 1 + 1 + 1) (by first | omega | (simp; done) | (simp; omega))).trans ((setCell_ne w2 (by first | omega | (simp; done) | (simp; omega))).trans HQ3.out)
  have bw : Below w.heap.size w W := by rw [hW]; exact (HW2.out.setCell (by first | omega | (simp; done) | (simp; omega)) _).setCell (by first | omega | (simp; done) | (simp; omega)) _
  rw [← hW] at q0 q1 q3
  clear hW HQ0 HQ1 HQ3 HW2 m0 m1 m2 m3 n0 n1 n2 n3
  obtain ⟨⟨m0, m1, m2, m3⟩, n0, n1, n2, n3⟩ := at_four q0
  obtain ⟨⟨k0, k1, k2, k3⟩, -⟩ := at_four q1
  obtain ⟨⟨r0, r1, r2, r3⟩, p0, p1, p2, p3⟩ := at_four q3
  have HQ := hidden q3
  have HW := hidden bw
  clear q0 q1 q3 bw
  go_wp2_with fail
  refine bodyPost_ret (res_four (x0 := .int .i64 0) (x1 := .int .i64 0) (x2 := .bool false) (x3 := .bool false) rfl ?_) rfl ⟨?_, below_four ?_ (by omega)⟩
  · repeat (refine (setCell_ne _ (by first | omega | (simp; done) | (simp; omega))).trans ?_)
    exact HQ.out
  · first
      | rfl
      | (simp; done)
      | (simp; omega)
  · repeat (refine Below.setCell ?_ (by first | omega | (simp; done) | (simp; omega)) _)
    exact HW.out
end Go.Proofs.Ytdjnnhdeijnhgab

/-
  Watch: how things are behind a tick: bh dn true.
-/
namespace Go.Proofs.Ytdjnnhdeijnhgab
open Go.RowKit Va
set_option linter.all false

set_option maxRecDepth 20000 in
set_option maxHeartbeats 4000000 in
theorem bh_dn_true (hi lo sl dl s s2 c xv : Int) (b g : Bool) (c1 : 0 ≤ c) (c2 : c ≤ 2000) (h8 : 0 ≤ dl) (h9 : dl ≤ 100) (hS : ∀ W : World, Calls Try.prog 37 #[.agg #[.int .i64 hi, .int .i64 lo, .int .i64 sl, .int .i64 dl], .int .i64 s, .int .i64 xv] W fun e w' => e = .returned (.int .i64 s2) ∧ Below W.heap.size W w') (e1 : ¬ s2 = s) (e1b : ¬ s = s2) (e2 : ¬ s2 = 0) (e3 : ¬ dl = 0) (w : World) :
    Calls Try.prog 28 #[.agg #[.int .i64 s, .int .i64 c, .bool b, .bool g], .agg #[.int .i64 hi, .int .i64 lo, .int .i64 sl, .int .i64 dl], .agg #[.int .i64 xv, .bool true, .bool true]] w fun e w' => e = .returned (.agg #[.int .i64 s2, .int .i64 1, .bool false, .bool false]) ∧ Below w.heap.size w w' := by
  go_enter Try.func28, Try.ntmps28
  go_upto_region 9 with (go_at_call 37; refine (hS _).mono ?_; rintro e w2 ⟨rfl, hb2⟩; have bw := onto (show Below w.heap.size w _ from by repeat (first | exact Below.refl _ _ | assumption | refine st_drew ?_ | refine st_drewN ?_ _ | refine Below.setCell ?_ (by first | omega | (simp; done) | (simp; omega)) _ | refine Below.alloc ?_ (by first | omega | (simp; done) | (simp; omega)) _)) hb2; obtain ⟨q0, q1, q3, q4⟩ := four_boxes hb2; clear hb2; obtain ⟨⟨m0, m1, m2, m3⟩, n0, n1, n2, n3⟩ := at_four q0; have HQ0 := hidden q0; have HQ1 := hidden q1; have HQ3 := hidden q3; have HW2 := hidden bw; clear q0 q1 q3 bw)
  obtain ⟨W, hW⟩ : ∃ W, W = (w2.setCell ⟨w.heap.size, 0, none⟩ (.int .i64 s2)).setCell ⟨w.heap.size, 1, none⟩ (.int .i64 0) := ⟨_, rfl⟩
  rw [← hW]
  have q0 := two_set (a := .int .i64 s2) (b := .int .i64 0) HQ0.out
  have q1 := (setCell_ne (w2.setCell ⟨w.heap.size, 0, none⟩ (.int .i64 s2)) (a := ⟨w.heap.size, 1, none⟩) (v := .int .i64 0) (b := w.heap.size + 1) (by first | omega | (simp; done) | (simp; omega))).trans ((setCell_ne w2 (by first | omega | (simp; done) | (simp; omega))).trans HQ1.out)
  have q3 := (setCell_ne (w2.setCell ⟨w.heap.size, 0, none⟩ (.int .i64 s2)) (a := ⟨w.heap.size, 1, none⟩) (v := .int .i64 0) (b := w.heap.size + 1 + 1 + 1) (by first | omega | (simp; done) | (simp; omega))).trans ((setCell_ne w2 (by first | omega | (simp; done) | (simp; omega))).trans HQ3.out)
  have bw : Below w.heap.size w W := by rw [hW]; exact (HW2.out.setCell (by first | omega | (simp; done) | (simp; omega)) _).setCell (by first | omega | (simp; done) | (simp; omega)) _
  rw [← hW] at q0 q1 q3
  clear hW HQ0 HQ1 HQ3 HW2 m0 m1 m2 m3 n0 n1 n2 n3
  obtain ⟨⟨m0, m1, m2, m3⟩, n0, n1, n2, n3⟩ := at_four q0
  obtain ⟨⟨k0, k1, k2, k3⟩, -⟩ := at_four q1
  obtain ⟨⟨r0, r1, r2, r3⟩, p0, p1, p2, p3⟩ := at_four q3
  have HQ := hidden q3
  have HW := hidden bw
  clear q0 q1 q3 bw
  go_wp2_with fail
  refine bodyPost_ret (res_four (x0 := .int .i64 0) (x1 := .int .i64 0) (x2 := .bool false) (x3 := .bool false) rfl ?_) rfl ⟨?_, below_four ?_ (by omega)⟩
  · repeat (refine (setCell_ne _ (by first | omega | (simp; done) | (simp; omega))).trans ?_)
    exact HQ.out
  · first
      | rfl
      | (simp; done)
      | (simp; omega)
  · repeat (refine Below.setCell ?_ (by first | omega | (simp; done) | (simp; omega)) _)
    exact HW.out
end Go.Proofs.Ytdjnnhdeijnhgab

/-
  Watch: how things are behind a tick.
-/
namespace Go.Proofs.Ytdjnnhdeijnhgab
open Go.RowKit Va
set_option linter.all false

set_option maxRecDepth 20000 in
set_option maxHeartbeats 2000000 in
theorem behind_any (a : Al) (n : Nw) (x : Tk) (ha : alOk a = true) (hx : tkB x = true) (hs : n.s = 1 ∨ n.s = -1 ∨ n.s = 0) (hc : 0 ≤ n.c ∧ n.c ≤ 2000) (w : World) :
    Calls Try.prog 28 #[aNw n, aA a, aTk x] w fun e w' => e = .returned (aNw (behind a n x)) ∧ Below w.heap.size w w' := by
  have hv : -100000 ≤ x.v ∧ x.v ≤ 100000 := by
    unfold tkB vB at hx
    simp only [Bool.and_eq_true, decide_eq_true_eq] at hx
    exact hx.1
  obtain ⟨-, -, -, -, h8, h9⟩ := alOk_iff.1 ha
  have hS := fun W => side_any a n.s x.v hs ha hv W
  have HV : behind a n x = if x.k then
    if sideF a n.s x.v = 0 then ⟨0, if sideF a n.s x.v = n.s then n.c else 0, n.b && !x.h, false⟩
    else if (if sideF a n.s x.v = n.s then n.c else 0) + 1 = a.dl + 1 then ⟨sideF a n.s x.v, (if sideF a n.s x.v = n.s then n.c else 0) + 1, true, !(n.b && !x.h)⟩
    else ⟨sideF a n.s x.v, (if sideF a n.s x.v = n.s then n.c else 0) + 1, n.b && !x.h, false⟩
  else ⟨n.s, n.c, n.b && !x.h, false⟩ := rfl
  rw [HV]
  clear HV hx hv ha hs
  generalize sideF a n.s x.v = s2 at *
  obtain ⟨hi, lo, sl, dl⟩ := a
  obtain ⟨s, c, b, g⟩ := n
  obtain ⟨xv, xk, xh⟩ := x
  dsimp only at *
  unfold aA at hS
  unfold aA aTk
  dsimp only at hS
  obtain ⟨c1, c2⟩ := hc
  cases xk with
  | false =>
    cases xh with
    | false => exact (bh_no_false hi lo sl dl s s c xv b g c1 c2 h8 h9 w).mono fun e w' ⟨q1, q2⟩ => ⟨by rw [q1]; simp [aNw], q2⟩
    | true => exact (bh_no_true hi lo sl dl s s c xv b g c1 c2 h8 h9 w).mono fun e w' ⟨q1, q2⟩ => ⟨by rw [q1]; simp [aNw], q2⟩
  | true =>
    by_cases e1 : s2 = s
    · subst e1
      by_cases e2 : s2 = 0
      · subst e2
        cases xh with
        | false => exact (bh_sz_false hi lo sl dl 0 0 c xv b g c1 c2 h8 h9 hS w).mono fun e w' ⟨q1, q2⟩ => ⟨by rw [q1]; simp [aNw], q2⟩
        | true => exact (bh_sz_true hi lo sl dl 0 0 c xv b g c1 c2 h8 h9 hS w).mono fun e w' ⟨q1, q2⟩ => ⟨by rw [q1]; simp [aNw], q2⟩
      · by_cases e3 : c = dl
        · subst e3
          cases xh with
          | false => exact (bh_sy_false hi lo sl c s2 s2 c xv b g c1 c2 h8 h9 hS e2 w).mono fun e w' ⟨q1, q2⟩ => ⟨by rw [q1]; simp [aNw, e2], q2⟩
          | true => exact (bh_sy_true hi lo sl c s2 s2 c xv b g c1 c2 h8 h9 hS e2 w).mono fun e w' ⟨q1, q2⟩ => ⟨by rw [q1]; simp [aNw, e2], q2⟩
        · cases xh with
          | false => exact (bh_sn_false hi lo sl dl s2 s2 c xv b g c1 c2 h8 h9 hS e2 e3 w).mono fun e w' ⟨q1, q2⟩ => ⟨by rw [q1]; simp [aNw, e2, e3], q2⟩
          | true => exact (bh_sn_true hi lo sl dl s2 s2 c xv b g c1 c2 h8 h9 hS e2 e3 w).mono fun e w' ⟨q1, q2⟩ => ⟨by rw [q1]; simp [aNw, e2, e3], q2⟩
    · have e1b : ¬ s = s2 := fun h => e1 h.symm
      by_cases e2 : s2 = 0
      · subst e2
        cases xh with
        | false => exact (bh_dz_false hi lo sl dl s 0 c xv b g c1 c2 h8 h9 hS e1 e1b w).mono fun e w' ⟨q1, q2⟩ => ⟨by rw [q1]; simp [aNw, e1], q2⟩
        | true => exact (bh_dz_true hi lo sl dl s 0 c xv b g c1 c2 h8 h9 hS e1 e1b w).mono fun e w' ⟨q1, q2⟩ => ⟨by rw [q1]; simp [aNw, e1], q2⟩
      · by_cases e3 : (0 : Int) = dl
        · subst e3
          cases xh with
          | false => exact (bh_dy_false hi lo sl 0 s s2 c xv b g c1 c2 h8 h9 hS e1 e1b e2 w).mono fun e w' ⟨q1, q2⟩ => ⟨by rw [q1]; simp [aNw, e2, e1], q2⟩
          | true => exact (bh_dy_true hi lo sl 0 s s2 c xv b g c1 c2 h8 h9 hS e1 e1b e2 w).mono fun e w' ⟨q1, q2⟩ => ⟨by rw [q1]; simp [aNw, e2, e1], q2⟩
        · cases xh with
          | false => exact (bh_dn_false hi lo sl dl s s2 c xv b g c1 c2 h8 h9 hS e1 e1b e2 (fun h => e3 h.symm) w).mono fun e w' ⟨q1, q2⟩ => ⟨by rw [q1]; simp [aNw, e2, e3, e1, show ¬ (1 : Int) = dl + 1 by omega], q2⟩
          | true => exact (bh_dn_true hi lo sl dl s s2 c xv b g c1 c2 h8 h9 hS e1 e1b e2 (fun h => e3 h.symm) w).mono fun e w' ⟨q1, q2⟩ => ⟨by rw [q1]; simp [aNw, e2, e3, e1, show ¬ (1 : Int) = dl + 1 by omega], q2⟩
end Go.Proofs.Ytdjnnhdeijnhgab

/-
  An append to a row of plain values, in a region that draws its order.
-/
namespace Go.Proofs.Ytdjnnhdeijnhgab.Rn
open Go Go.Conc
set_option linter.all false

theorem RowP.slice {w : World} {base : Nat} {e : TypeId} {size : Nat} {v : Value} {n : Nat} {xs : List Value} (h : RowP w base e size v n xs) (hn : n ≠ 0) : ∃ g cap, v = .slice (some ⟨g, 0, none⟩) n cap := by
  rcases h.own.2 with ⟨rfl, rfl⟩ | ⟨g, cap, cur, rfl, -⟩
  · exact absurd rfl hn
  · exact ⟨g, cap, rfl⟩
theorem step_append_plain {P : Program} {w : World} {ops : Array Oper} {o : Oper} {ac : Act} {K : Act → World → Prop} {Q : Exit → Act → World → Prop} {E : Prop} (hgd : o.guard = none) (s x : Operand) (t : TypeId)
    (ho : o.op = .call { callee := .builtin .append, args := #[s, x], argTypes := #[t, t] })
    (base : Nat) (e : TypeId) (i : TypeInfo) (z : Value) (size bytes : Nat) (ht : P.underlying t = some (.slice e)) (hi : P.info? e = some i) (hz : i.zero = some z)
    (hsize : i.size = size) (hby : i.bytes = bytes) (hzs : z.cells.size = size) (hsz : 0 < size) (hzp : ∀ u ∈ z.cells, Low 0 u)
    (v : Value) (n : Nat) (xs : List Value) (hs : ac.eval s = v) (hown : RowP w base e size v n xs)
    (ad : Addr) (m c : Nat) (news : List Value) (hm0 : m ≠ 0) (hx : ac.eval x = .slice (some ad) m c) (hl : news.length = m * size) (hnews : ∀ j u, news[j]? = some u → w.cell? (ad.add j) = some u) (h1 : ∀ u ∈ news, u.oneCell' = true) (hnp : ∀ u ∈ news, Low 0 u)
    (h63 : n + m ≤ maxLen) (hbytes : (n + m) * bytes ≤ 140737488355328) (hbase : base ≤ w.heap.size)
    (h : ∀ g cap w', RowP w' base e size (.slice (some ⟨g, 0, none⟩) (n + m) cap) (n + m) (xs ++ news) → w.grownBy w' v.ownBlock → K (ac.put o.dst (.slice (some ⟨g, 0, none⟩) (n + m) cap)) w') :
    if Region.wanted o (yielded ops ac.tmps) = true then Oper.wp P o ac w K Q else E := by
  have hw : Region.wanted o (yielded ops ac.tmps) = true := by simp [Region.wanted, hgd]
  rw [if_pos hw]
  obtain ⟨v', w', hr, h2, h3⟩ := run_append_plain (P := P) w base t o.type e i z size bytes ht hi hz hsize hby hzs hsz hzp v n xs hown ad m c news hm0 hl hnews h1 hnp h63 hbytes hbase
  obtain ⟨g, cap, rfl⟩ := h2.slice (by omega)
  unfold Oper.wp execOp
  simp only [ho, resolve, invoke, builtin, Sem.run_bind, Sem.run_pure, Result.andThen_ok, List.map_toArray, List.map_cons, List.map_nil, hs, hx, hr]
  exact h g cap w' h2 h3
end Go.Proofs.Ytdjnnhdeijnhgab.Rn

/-
  Watch's closure: what it is told and tells.
-/
namespace Go.Proofs.Ytdjnnhdeijnhgab
open Go.RowKit Va Rn
set_option linter.all false

def ints (l : List Int) : List Value := l.map fun z => .int .i64 z
/-- How things are behind the first k ticks, and what has been told. -/
structure JWt (b0 Kn Ka Kt : Nat) (a : Al) (l : List Tk) (k : Nat) (w : World) : Prop where
  now : w.heap[Kn]? = some (.cells #[.int .i64 (stK a l k).s, .int .i64 (stK a l k).c, .bool (stK a l k).b, .bool (stK a l k).g] 46 (0, 0))
  al : w.heap[Ka]? = some (.cells #[.int .i64 a.hi, .int .i64 a.lo, .int .i64 a.sl, .int .i64 a.dl] 28 (0, 0))
  size : b0 ≤ w.heap.size
  row : ∃ sv, w.heap[Kt]? = some (.cells #[sv] 26 (0, 0)) ∧ RowP w b0 2 1 sv (toldK a l k).length (ints (toldK a l k))
theorem apart_ty {w : World} {g h : Nat} {c d : Array Value} {t u : TypeId} {f1 f2 : Nat × Nat} (h1 : w.heap[g]? = some (.cells c t f1)) (h2 : w.heap[h]? = some (.cells d u f2)) (ht : t ≠ u) : g ≠ h := by
  rintro rfl
  rw [h1] at h2
  injection h2 with h2
  injection h2 with _ h3
  exact ht h3
theorem rowP_apart {w : World} {b0 K n : Nat} {v : Value} {xs : List Value} {e t : TypeId} {s : Nat} {c : Array Value} {fz : Nat × Nat} (h : RowP w b0 e s v n xs) (hK : w.heap[K]? = some (.cells c t fz)) (ht : e ≠ t) : ∀ g, v.ownBlock = some g → g ≠ K := by
  intro g hg
  rcases h.own.2 with ⟨rfl, -⟩ | ⟨g', cap, cur, rfl, hb, hh, -⟩
  · cases hg
  · obtain rfl : g' = g := by simpa [Value.ownBlock] using hg
    exact apart_ty hh hK ht
theorem tells_JWt {b0 Kn Ka Kt base : Nat} {a : Al} {l : List Tk} {k : Nat} (hn : Kn < base) (ha : Ka < base) (ht : Kt < base) (hb : b0 ≤ base) : Tells base (JWt b0 Kn Ka Kt a l k) := by
  refine ⟨fun f w w' hf hf2 he ⟨h1, h2, h3, sv, h4, h5⟩ => ?_, fun w ⟨h1, h2, h3, sv, h4, h5⟩ => ?_⟩
  · have hb0 : ∀ b, b0 ≤ b → b < w.heap.size → b0 ≤ f b := fun b q1 q2 => by
      rcases Nat.lt_or_ge b base with q | q
      · rw [hf b q]; exact q1
      · exact Nat.le_trans hb (hf2 b q q2)
    refine ⟨?_, ?_, ?_, rV f sv, ?_, h5.emb he hb0⟩
    · have := he.cells Kn _ _ _ h1
      rw [hf Kn hn] at this
      simpa using this
    · have := he.cells Ka _ _ _ h2
      rw [hf Ka ha] at this
      simpa using this
    · have hlt : Kn < w.heap.size := (Array.getElem?_eq_some_iff.1 h1).1
      have h4 := he.lt (w.heap.size - 1) (by omega)
      rcases Nat.lt_or_ge (w.heap.size - 1) b0 with q | q
      · rw [hf (w.heap.size - 1) (by omega)] at h4
        omega
      · have := hb0 _ q (by omega)
        omega
    · have := he.cells Kt _ _ _ h4
      rw [hf Kt ht] at this
      simpa using this
  · refine ⟨fun b => b = Kn ∨ b = Ka ∨ b = Kt ∨ sv.ownBlock = some b, fun b hbD => ?_, fun w' hs hD => ⟨(hD Kn (.inl rfl)).trans h1, (hD Ka (.inr (.inl rfl))).trans h2, by rw [hs]; exact h3, sv, (hD Kt (.inr (.inr (.inl rfl)))).trans h4, h5.same fun g hg => hD g (.inr (.inr (.inr hg)))⟩⟩
    rcases hbD with rfl | rfl | rfl | hbD
    · refine ⟨_, _, _, h1, fun v hv => ?_⟩
      simp only [List.mem_toArray, List.mem_cons, List.not_mem_nil, or_false] at hv
      rcases hv with rfl | rfl | rfl | rfl <;> exact fun f g _ => by simp
    · refine ⟨_, _, _, h2, fun v hv => ?_⟩
      simp only [List.mem_toArray, List.mem_cons, List.not_mem_nil, or_false] at hv
      rcases hv with rfl | rfl | rfl | rfl <;> exact fun f g _ => by simp
    · refine ⟨_, _, _, h4, fun v hv => ?_⟩
      simp only [List.mem_toArray, List.mem_singleton] at hv
      subst hv
      exact h5.low
    · rcases h5.own.2 with ⟨rfl, -⟩ | ⟨g', cap, cur, rfl, hb', hh, -⟩
      · cases hbD
      · obtain rfl : g' = b := by simpa [Value.ownBlock] using hbD
        exact ⟨_, _, _, hh, fun v hv => (h5.plain g' cur _ _ rfl hh v hv).mono (Nat.zero_le _)⟩
end Go.Proofs.Ytdjnnhdeijnhgab
