/-
  The law's copy of a pump; two pumps compared.
-/
import Derived.Test.YtamghmnibfbgaaaBu
namespace Go.Proofs.Ytamghmnibfbgaaa
open Go.RowKit Va Ba
set_option linter.unusedVariables false

set_option maxRecDepth 20000 in
set_option maxHeartbeats 2000000 in
theorem topump_any (p : Pm) (w : World) : Calls Try.prog 20 #[aPm p] w fun r w' => r = .returned (aPm p) ∧ Below w.heap.size w w' := by
  have h1 := tolim_any p.lim
  unfold aL at h1
  unfold aPm
  go_enter Try.func20, Try.ntmps20
  go_upto_region 2 with fail
  have hP := ((PB.new w #[.int .i64 p.lim.sl, .int .i64 p.lim.sh, .int .i64 p.lim.hl, .int .i64 p.lim.hh, .int .i64 p.rate, .int .i64 p.asked, .int .i64 p.st, .bool p.door, .int .i64 p.left, .int .i64 p.given] 47).alloc (.cells #[.int .i64 0, .int .i64 0, .int .i64 0, .int .i64 0, .int .i64 0, .int .i64 0, .int .i64 0, .bool false, .int .i64 0, .int .i64 0] 27)).alloc (.cells #[.int .i64 0, .int .i64 0, .int .i64 0, .int .i64 0, .int .i64 0, .int .i64 0, .int .i64 0, .bool false, .int .i64 0, .int .i64 0] 27)
  have hZ := (PB.new (w.alloc (.cells #[.int .i64 p.lim.sl, .int .i64 p.lim.sh, .int .i64 p.lim.hl, .int .i64 p.lim.hh, .int .i64 p.rate, .int .i64 p.asked, .int .i64 p.st, .bool p.door, .int .i64 p.left, .int .i64 p.given] 47)) #[.int .i64 0, .int .i64 0, .int .i64 0, .int .i64 0, .int .i64 0, .int .i64 0, .int .i64 0, .bool false, .int .i64 0, .int .i64 0] 27).alloc (.cells #[.int .i64 0, .int .i64 0, .int .i64 0, .int .i64 0, .int .i64 0, .int .i64 0, .int .i64 0, .bool false, .int .i64 0, .int .i64 0] 27)
  have hO := PB.new ((w.alloc (.cells #[.int .i64 p.lim.sl, .int .i64 p.lim.sh, .int .i64 p.lim.hl, .int .i64 p.lim.hh, .int .i64 p.rate, .int .i64 p.asked, .int .i64 p.st, .bool p.door, .int .i64 p.left, .int .i64 p.given] 47)).alloc (.cells #[.int .i64 0, .int .i64 0, .int .i64 0, .int .i64 0, .int .i64 0, .int .i64 0, .int .i64 0, .bool false, .int .i64 0, .int .i64 0] 27)) #[.int .i64 0, .int .i64 0, .int .i64 0, .int .i64 0, .int .i64 0, .int .i64 0, .int .i64 0, .bool false, .int .i64 0, .int .i64 0] 27
  have hb0 : Below w.heap.size w (((w.alloc (.cells #[.int .i64 p.lim.sl, .int .i64 p.lim.sh, .int .i64 p.lim.hl, .int .i64 p.lim.hh, .int .i64 p.rate, .int .i64 p.asked, .int .i64 p.st, .bool p.door, .int .i64 p.left, .int .i64 p.given] 47)).alloc (.cells #[.int .i64 0, .int .i64 0, .int .i64 0, .int .i64 0, .int .i64 0, .int .i64 0, .int .i64 0, .bool false, .int .i64 0, .int .i64 0] 27)).alloc (.cells #[.int .i64 0, .int .i64 0, .int .i64 0, .int .i64 0, .int .i64 0, .int .i64 0, .int .i64 0, .bool false, .int .i64 0, .int .i64 0] 27)) := by repeat (first | exact Below.refl _ _ | assumption | refine st_drew ?_ | refine st_drewN ?_ _ | refine Below.setCell ?_ (by first | omega | (simp; done) | (simp; omega)) _ | refine Below.alloc ?_ (by first | omega | (simp; done) | (simp; omega)) _)
  simp only [World.size_alloc] at hP hZ hO
  generalize ((w.alloc (.cells #[.int .i64 p.lim.sl, .int .i64 p.lim.sh, .int .i64 p.lim.hl, .int .i64 p.lim.hh, .int .i64 p.rate, .int .i64 p.asked, .int .i64 p.st, .bool p.door, .int .i64 p.left, .int .i64 p.given] 47)).alloc (.cells #[.int .i64 0, .int .i64 0, .int .i64 0, .int .i64 0, .int .i64 0, .int .i64 0, .int .i64 0, .bool false, .int .i64 0, .int .i64 0] 27)).alloc (.cells #[.int .i64 0, .int .i64 0, .int .i64 0, .int .i64 0, .int .i64 0, .int .i64 0, .int .i64 0, .bool false, .int .i64 0, .int .i64 0] 27) = wA at *
  have hle : w.heap.size ≤ w.heap.size + 1 := by omega
  have hle2 : w.heap.size ≤ w.heap.size + 1 + 1 := by omega
  have hne : w.heap.size + 1 + 1 ≠ w.heap.size + 1 := by omega
  have hne0 : w.heap.size + 1 + 1 ≠ w.heap.size := by omega
  generalize w.heap.size + 1 = B1 at *
  generalize B1 + 1 = B2 at *
  obtain ⟨c0, c1, c2, c3, c4, c5, c6, c7, c8, c9⟩ := hP.ten
  have HP := hidden hP
  have HZ := hidden hZ
  have HO := hidden hO
  have HB := hidden hb0
  clear hP hZ hO hb0
  go_wp2_with (with_reducible refine (h1 _).mono ?_; rintro e w2 ⟨rfl, hb2⟩; obtain ⟨d0, d1, d2, d3, d4, d5, d6, d7, d8, d9⟩ := (HP.out.below hb2).ten; obtain ⟨z0, z1, z2, z3, z4, z5, z6, z7, z8, z9⟩ := (HZ.out.below hb2).ten; obtain ⟨f0, f1, f2, f3, f4, f5, f6, f7, f8, f9⟩ := (HZ.out.below hb2).cold; obtain ⟨o0, o1, o2, o3, o4, o5, o6, o7, o8, o9⟩ := (HO.out.below hb2).ten; obtain ⟨g0, g1, g2, g3, g4, g5, g6, g7, g8, g9⟩ := (HO.out.below hb2).cold)
  try simp only [Exit.inBlock, Exit.then]
  have hN := PB.fill' p (((((((((((HZ.out.below hb2).far hne 0 (.int .i64 p.lim.sl)).far hne 1 (.int .i64 p.lim.sh)).far hne 2 (.int .i64 p.lim.hl)).far hne 3 (.int .i64 p.lim.hh)).far hne 4 (.int .i64 p.rate)).far hne 5 (.int .i64 p.asked)).far hne 6 (.int .i64 p.st)).far hne 7 (.bool p.door)).far hne 8 (.int .i64 p.left)).far hne 9 (.int .i64 p.given))
  exact bodyPost_ret (v := aPm p) (results_cell_row Try.results20 _ _ B1 27 _ (0, 0) _ rfl hN Try.underlying27 rfl (by kernel_rfl)) rfl ⟨rfl, fill_below (fill_below (HB.out.trans (hb2.mono HB.out.size)) hle2 _ _ _ _ _ _ _ _ _ _) hle _ _ _ _ _ _ _ _ _ _⟩

def limEq (l m : Lm) : Bool := decide (l.sl = m.sl) && (decide (l.sh = m.sh) && (decide (l.hl = m.hl) && decide (l.hh = m.hh)))
def pmEq (p q : Pm) : Bool := limEq p.lim q.lim && (decide (p.rate = q.rate) && (decide (p.asked = q.asked) && (decide (p.st = q.st) && (decide (p.door = q.door) && (decide (p.left = q.left) && decide (p.given = q.given))))))
theorem limEq_self (l : Lm) : limEq l l = true := by simp [limEq]
theorem pmEq_self (p : Pm) : pmEq p p = true := by simp [pmEq, limEq_self]

set_option maxRecDepth 20000 in
set_option maxHeartbeats 4000000 in
theorem eqpump_any (p q : Pm) (w : World) : Calls Try.prog 23 #[aPm p, aPm q] w fun r w' => r = .returned (.bool (pmEq p q)) ∧ Below w.heap.size w w' := by
  have h1 : ∀ w, Calls Try.prog 42 #[aL p.lim, aL q.lim] w fun r w' => r = .returned (.bool (limEq p.lim q.lim)) ∧ Below w.heap.size w w' := eqlim_any p.lim q.lim
  have HV : Hid (pmEq p q = (limEq p.lim q.lim && (decide (p.rate = q.rate) && (decide (p.asked = q.asked) && (decide (p.st = q.st) && (decide (p.door = q.door) && (decide (p.left = q.left) && decide (p.given = q.given)))))))) := rfl
  generalize pmEq p q = R at *
  generalize limEq p.lim q.lim = b at *
  unfold aL at h1
  unfold aPm
  go_enter Try.func23, Try.ntmps23
  go_upto_region 1 with fail
  have hP := (PB.new w #[.int .i64 p.lim.sl, .int .i64 p.lim.sh, .int .i64 p.lim.hl, .int .i64 p.lim.hh, .int .i64 p.rate, .int .i64 p.asked, .int .i64 p.st, .bool p.door, .int .i64 p.left, .int .i64 p.given] 27).alloc (.cells #[.int .i64 q.lim.sl, .int .i64 q.lim.sh, .int .i64 q.lim.hl, .int .i64 q.lim.hh, .int .i64 q.rate, .int .i64 q.asked, .int .i64 q.st, .bool q.door, .int .i64 q.left, .int .i64 q.given] 27)
  have hQ := PB.new (w.alloc (.cells #[.int .i64 p.lim.sl, .int .i64 p.lim.sh, .int .i64 p.lim.hl, .int .i64 p.lim.hh, .int .i64 p.rate, .int .i64 p.asked, .int .i64 p.st, .bool p.door, .int .i64 p.left, .int .i64 p.given] 27)) #[.int .i64 q.lim.sl, .int .i64 q.lim.sh, .int .i64 q.lim.hl, .int .i64 q.lim.hh, .int .i64 q.rate, .int .i64 q.asked, .int .i64 q.st, .bool q.door, .int .i64 q.left, .int .i64 q.given] 27
  have hb0 : Below w.heap.size w ((w.alloc (.cells #[.int .i64 p.lim.sl, .int .i64 p.lim.sh, .int .i64 p.lim.hl, .int .i64 p.lim.hh, .int .i64 p.rate, .int .i64 p.asked, .int .i64 p.st, .bool p.door, .int .i64 p.left, .int .i64 p.given] 27)).alloc (.cells #[.int .i64 q.lim.sl, .int .i64 q.lim.sh, .int .i64 q.lim.hl, .int .i64 q.lim.hh, .int .i64 q.rate, .int .i64 q.asked, .int .i64 q.st, .bool q.door, .int .i64 q.left, .int .i64 q.given] 27)) := by repeat (first | exact Below.refl _ _ | assumption | refine st_drew ?_ | refine st_drewN ?_ _ | refine Below.setCell ?_ (by first | omega | (simp; done) | (simp; omega)) _ | refine Below.alloc ?_ (by first | omega | (simp; done) | (simp; omega)) _)
  simp only [World.size_alloc] at hP hQ
  generalize (w.alloc (.cells #[.int .i64 p.lim.sl, .int .i64 p.lim.sh, .int .i64 p.lim.hl, .int .i64 p.lim.hh, .int .i64 p.rate, .int .i64 p.asked, .int .i64 p.st, .bool p.door, .int .i64 p.left, .int .i64 p.given] 27)).alloc (.cells #[.int .i64 q.lim.sl, .int .i64 q.lim.sh, .int .i64 q.lim.hl, .int .i64 q.lim.hh, .int .i64 q.rate, .int .i64 q.asked, .int .i64 q.st, .bool q.door, .int .i64 q.left, .int .i64 q.given] 27) = wA at *
  generalize w.heap.size + 1 = B1 at *
  obtain ⟨c0, c1, c2, c3, c4, c5, c6, c7, c8, c9⟩ := hP.ten
  obtain ⟨d0, d1, d2, d3, d4, d5, d6, d7, d8, d9⟩ := hQ.ten
  have HP := hidden hP
  have HQ := hidden hQ
  have HB := hidden hb0
  clear hP hQ hb0
  go_wp2_with (with_reducible refine (h1 _).mono ?_; rintro e w2 ⟨rfl, hb2⟩; obtain ⟨e0, e1, e2, e3, e4, e5, e6, e7, e8, e9⟩ := (HP.out.below hb2).ten; obtain ⟨f0, f1, f2, f3, f4, f5, f6, f7, f8, f9⟩ := (HQ.out.below hb2).ten)
  all_goals go_ret
  all_goals refine ⟨ret_bool ?_, HB.out.trans (hb2.mono HB.out.size)⟩
  all_goals (rw [HV.out]; clear HV HB HP HQ hb2 h1 c0 c1 c2 c3 c4 c5 c6 c7 c8 c9 d0 d1 d2 d3 d4 d5 d6 d7 d8 d9 e0 e1 e2 e3 e4 e5 e6 e7 e8 e9 f0 f1 f2 f3 f4 f5 f6 f7 f8 f9; simp_all; done)
end Go.Proofs.Ytamghmnibfbgaaa
