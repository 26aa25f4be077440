/-
  Which act is for which state.
-/
import Derived.Test.YtamghmnibfbgaaaBx
namespace Go.Proofs.Ytamghmnibfbgaaa
open Go.RowKit Va Ba
set_option linter.unusedVariables false

set_option maxRecDepth 20000 in
set_option maxHeartbeats 8000000 in
theorem sfor_any (p : Pm) (k : Int) (w : World) : Calls Try.prog 58 #[aPm p, .int .i64 k] w fun e w' => e = .returned (.bool (forK p k)) ∧ Below w.heap.size w w' := by
  have hP := PB.new w (cP p) 27
  have hb0 : Below w.heap.size w (w.alloc (.cells (cP p) 27)) := (Below.refl _ _).alloc (Nat.le_refl _) _
  have HV : Hid (forK p k = if k = 1 then decide (p.st = 1) || (decide (p.st = 2) || decide (p.st = 4)) else if k = 2 then decide (p.asked ≠ 0) else if k = 3 then (decide (p.st = 2) && decide (0 < p.rate)) || decide (p.st = 4) else if k = 4 ∨ k = 7 then decide (p.st = 3) else if k = 8 then decide (p.st = 5) else if k = 9 ∨ k = 10 then decide (p.st ≠ 3) else true) := rfl
  generalize forK p k = R at *
  unfold cP at hP hb0
  unfold aPm
  obtain ⟨c0, c1, c2, c3, c4, c5, c6, c7, c8, c9⟩ := hP.ten
  go_enter Try.func58, Try.ntmps58
  go_upto_region 1 with fail
  generalize w.alloc (.cells #[.int .i64 p.lim.sl, .int .i64 p.lim.sh, .int .i64 p.lim.hl, .int .i64 p.lim.hh, .int .i64 p.rate, .int .i64 p.asked, .int .i64 p.st, .bool p.door, .int .i64 p.left, .int .i64 p.given] 27) = wA at *
  clear hP
  generalize hBB : w.heap.size = B at *
  obtain ⟨⟨sl, sh, hl, hh⟩, ra, ak, st, dr, lf, gv⟩ := p
  dsimp only at *
  go_wp2_with fail
  all_goals go_ret
  all_goals refine ⟨ret_bool ?_, by first | exact hb0 | (rw [hBB]; exact hb0)⟩
  all_goals (rw [HV.out]; clear HV c0 c1 c2 c3 c4 c5 c6 c7 c8 c9 hb0; simp_all; try first | rfl | omega | (rw [Bool.eq_iff_iff]; simp; omega))
end Go.Proofs.Ytamghmnibfbgaaa
