/-
  An operation whose guard was itself not wanted is not wanted. No program in sight.
-/
import Derived.Test.YtbabknhccapaoaaRh
namespace Go.Proofs.Ytbabknhccapaoaa.Rg
open Go
set_option linter.all false

theorem unwanted_un {ops : Array Oper} {o : Oper} {g d : Nat} {want : Bool} {b : Act} (hg : o.guard = some (g, want)) (hd : dstAt ops g = some d) (hq : b.tmps[d]? = some undef) : Region.wanted o (yielded ops b.tmps) = false := by
  unfold Region.wanted yielded
  unfold dstAt at hd
  rw [hg]
  simp only [hd, Option.bind_some, hq]
  cases want <;> rfl
end Go.Proofs.Ytbabknhccapaoaa.Rg
