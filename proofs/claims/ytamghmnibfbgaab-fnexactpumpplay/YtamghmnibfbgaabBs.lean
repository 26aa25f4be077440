/-
  The law's copy of a pump; two pumps compared.
-/
import Derived.Test.YtamghmnibfbgaabBu
namespace Go.Proofs.Ytamghmnibfbgaab
open Go.RowKit Va Ba
set_option linter.unusedVariables false

def limEq (l m : Lm) : Bool := decide (l.sl = m.sl) && (decide (l.sh = m.sh) && (decide (l.hl = m.hl) && decide (l.hh = m.hh)))
def pmEq (p q : Pm) : Bool := limEq p.lim q.lim && (decide (p.rate = q.rate) && (decide (p.asked = q.asked) && (decide (p.st = q.st) && (decide (p.door = q.door) && (decide (p.left = q.left) && decide (p.given = q.given))))))
theorem limEq_self (l : Lm) : limEq l l = true := by simp [limEq]
theorem pmEq_self (p : Pm) : pmEq p p = true := by simp [pmEq, limEq_self]

set_option maxRecDepth 20000 in
set_option maxHeartbeats 4000000 in
theorem eqpump_any (p q : Pm) (w : World) : Calls Try.prog 9 #[aPm p, aPm q] w fun r w' => r = .returned (.bool (pmEq p q)) ∧ Below w.heap.size w w' := by
  have h1 : ∀ w, Calls Try.prog 20 #[aL p.lim, aL q.lim] w fun r w' => r = .returned (.bool (limEq p.lim q.lim)) ∧ Below w.heap.size w w' := eqlim_any p.lim q.lim
  have HV : Hid (pmEq p q = (limEq p.lim q.lim && (decide (p.rate = q.rate) && (decide (p.asked = q.asked) && (decide (p.st = q.st) && (decide (p.door = q.door) && (decide (p.left = q.left) && decide (p.given = q.given)))))))) := rfl
  generalize pmEq p q = R at *
  generalize limEq p.lim q.lim = b at *
  unfold aL at h1
  unfold aPm
  go_enter Try.func9, Try.ntmps9
  go_upto_region 1 with fail
  have hP := (PB.new w #[.int .i64 p.lim.sl, .int .i64 p.lim.sh, .int .i64 p.lim.hl, .int .i64 p.lim.hh, .int .i64 p.rate, .int .i64 p.asked, .int .i64 p.st, .bool p.door, .int .i64 p.left, .int .i64 p.given] 28).alloc (.cells #[.int .i64 q.lim.sl, .int .i64 q.lim.sh, .int .i64 q.lim.hl, .int .i64 q.lim.hh, .int .i64 q.rate, .int .i64 q.asked, .int .i64 q.st, .bool q.door, .int .i64 q.left, .int .i64 q.given] 28)
  have hQ := PB.new (w.alloc (.cells #[.int .i64 p.lim.sl, .int .i64 p.lim.sh, .int .i64 p.lim.hl, .int .i64 p.lim.hh, .int .i64 p.rate, .int .i64 p.asked, .int .i64 p.st, .bool p.door, .int .i64 p.left, .int .i64 p.given] 28)) #[.int .i64 q.lim.sl, .int .i64 q.lim.sh, .int .i64 q.lim.hl, .int .i64 q.lim.hh, .int .i64 q.rate, .int .i64 q.asked, .int .i64 q.st, .bool q.door, .int .i64 q.left, .int .i64 q.given] 28
  have hb0 : Below w.heap.size w ((w.alloc (.cells #[.int .i64 p.lim.sl, .int .i64 p.lim.sh, .int .i64 p.lim.hl, .int .i64 p.lim.hh, .int .i64 p.rate, .int .i64 p.asked, .int .i64 p.st, .bool p.door, .int .i64 p.left, .int .i64 p.given] 28)).alloc (.cells #[.int .i64 q.lim.sl, .int .i64 q.lim.sh, .int .i64 q.lim.hl, .int .i64 q.lim.hh, .int .i64 q.rate, .int .i64 q.asked, .int .i64 q.st, .bool q.door, .int .i64 q.left, .int .i64 q.given] 28)) := by repeat (first | exact Below.refl _ _ | assumption | refine st_drew ?_ | refine st_drewN ?_ _ | refine Below.setCell ?_ (by first | omega | (simp; done) | (simp; omega)) _ | refine Below.alloc ?_ (by first | omega | (simp; done) | (simp; omega)) _)
  simp only [World.size_alloc] at hP hQ
  generalize (w.alloc (.cells #[.int .i64 p.lim.sl, .int .i64 p.lim.sh, .int .i64 p.lim.hl, .int .i64 p.lim.hh, .int .i64 p.rate, .int .i64 p.asked, .int .i64 p.st, .bool p.door, .int .i64 p.left, .int .i64 p.given] 28)).alloc (.cells #[.int .i64 q.lim.sl, .int .i64 q.lim.sh, .int .i64 q.lim.hl, .int .i64 q.lim.hh, .int .i64 q.rate, .int .i64 q.asked, .int .i64 q.st, .bool q.door, .int .i64 q.left, .int .i64 q.given] 28) = wA at *
  generalize w.heap.size + 1 = B1 at *
  obtain ⟨c0, c1, c2, c3, c4, c5, c6, c7, c8, c9⟩ := hP.ten
  obtain ⟨d0, d1, d2, d3, d4, d5, d6, d7, d8, d9⟩ := hQ.ten
  have HP := hidden hP
  have HQ := hidden hQ
  have HB := hidden hb0
  clear hP hQ hb0
  go_wp2_with (with_reducible refine (h1 _).mono ?_; rintro e w2 ⟨rfl, hb2⟩; obtain ⟨e0, e1, e2, e3, e4, e5, e6, e7, e8, e9⟩ := (HP.out.below hb2).ten; obtain ⟨f0, f1, f2, f3, f4, f5, f6, f7, f8, f9⟩ := (HQ.out.below hb2).ten)
  all_goals go_ret
  all_goals refine ⟨ret_bool ?_, HB.out.trans (hb2.mono HB.out.size)⟩
  all_goals (rw [HV.out]; clear HV HB HP HQ hb2 h1 c0 c1 c2 c3 c4 c5 c6 c7 c8 c9 d0 d1 d2 d3 d4 d5 d6 d7 d8 d9 e0 e1 e2 e3 e4 e5 e6 e7 e8 e9 f0 f1 f2 f3 f4 f5 f6 f7 f8 f9; simp_all; done)
end Go.Proofs.Ytamghmnibfbgaab
