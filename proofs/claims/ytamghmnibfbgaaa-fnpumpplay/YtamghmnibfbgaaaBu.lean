/-
  The laws' copies of limits, pumps and acts, and their comparing.
-/
import Derived.Test.YtamghmnibfbgaaaBw
namespace Go.Proofs.Ytamghmnibfbgaaa
open Go.RowKit Va Ba
set_option linter.unusedVariables false

set_option maxHeartbeats 2000000 in
theorem tolim_any (l : Lm) (w : World) : Calls Try.prog 22 #[aL l] w fun r w' => r = .returned (aL l) ∧ Below w.heap.size w w' := by
  unfold aL
  go_enter Try.func22, Try.ntmps22
  go_wp2
  exact bodyPost_ret (v := .agg #[.int .i64 l.sl, .int .i64 l.sh, .int .i64 l.hl, .int .i64 l.hh]) (by simp [results, Try.results22, go_sem]) rfl ⟨rfl, by repeat (first | exact Below.refl _ _ | assumption | refine st_drew ?_ | refine st_drewN ?_ _ | refine Below.setCell ?_ (by first | omega | (simp; done) | (simp; omega)) _ | refine Below.alloc ?_ (by first | omega | (simp; done) | (simp; omega)) _)⟩

set_option maxHeartbeats 2000000 in
theorem toact_any (a : Ac) (w : World) : Calls Try.prog 24 #[aAc a] w fun r w' => r = .returned (aAc a) ∧ Below w.heap.size w w' := by
  unfold aAc
  go_enter Try.func24, Try.ntmps24
  go_wp2
  exact bodyPost_ret (v := .agg #[.int .i64 a.kind, .int .i64 a.n]) (by simp [results, Try.results24, go_sem]) rfl ⟨rfl, by repeat (first | exact Below.refl _ _ | assumption | refine st_drew ?_ | refine st_drewN ?_ _ | refine Below.setCell ?_ (by first | omega | (simp; done) | (simp; omega)) _ | refine Below.alloc ?_ (by first | omega | (simp; done) | (simp; omega)) _)⟩

set_option maxHeartbeats 4000000 in
theorem eqlim_any (l m : Lm) (w : World) : Calls Try.prog 42 #[aL l, aL m] w fun r w' => r = .returned (.bool (decide (l.sl = m.sl) && (decide (l.sh = m.sh) && (decide (l.hl = m.hl) && decide (l.hh = m.hh))))) ∧ Below w.heap.size w w' := by
  have HV : Hid ((decide (l.sl = m.sl) && (decide (l.sh = m.sh) && (decide (l.hl = m.hl) && decide (l.hh = m.hh)))) = (decide (l.sl = m.sl) && (decide (l.sh = m.sh) && (decide (l.hl = m.hl) && decide (l.hh = m.hh))))) := rfl
  generalize hV : (decide (l.sl = m.sl) && (decide (l.sh = m.sh) && (decide (l.hl = m.hl) && decide (l.hh = m.hh)))) = R
  have HR := hidden hV
  clear hV HV
  unfold aL
  go_enter Try.func42, Try.ntmps42
  go_wp2
  all_goals go_ret
  all_goals refine ⟨ret_bool ?_, by repeat (first | exact Below.refl _ _ | assumption | refine st_drew ?_ | refine st_drewN ?_ _ | refine Below.setCell ?_ (by first | omega | (simp; done) | (simp; omega)) _ | refine Below.alloc ?_ (by first | omega | (simp; done) | (simp; omega)) _)⟩
  all_goals (rw [← HR.out]; simp_all; done)
end Go.Proofs.Ytamghmnibfbgaaa
