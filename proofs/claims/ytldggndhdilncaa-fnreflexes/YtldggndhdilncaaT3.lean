/-
  Trusted: the specification and the program.
-/
import Derived.Test.YtldggndhdilncaaT2
namespace Go.Proofs.Ytldggndhdilncaa
open Go.RowKit Va Lb
set_option linter.all false

theorem trStep_f {s : Bool × Int} {c : Int} (h : 1 ≤ c ∧ c ≤ 5) : trStep s c = (true, 0) := by unfold trStep; rw [if_pos h]
theorem trStep_z2 {b : Bool} {r : Int} (h : 2 ≤ r + 1) : trStep (b, r) 0 = (false, r + 1) := by unfold trStep; rw [if_neg (by omega), if_pos rfl, if_pos h]
theorem trStep_z1 {b : Bool} {r : Int} (h : ¬ 2 ≤ r + 1) : trStep (b, r) 0 = (b, r + 1) := by unfold trStep; rw [if_neg (by omega), if_pos rfl, if_neg h]
theorem trStep_o {b : Bool} {r c : Int} (h : ¬ (1 ≤ c ∧ c ≤ 5)) (h0 : c ≠ 0) : trStep (b, r) c = (b, 0) := by unfold trStep; rw [if_neg h, if_neg h0]
end Go.Proofs.Ytldggndhdilncaa
