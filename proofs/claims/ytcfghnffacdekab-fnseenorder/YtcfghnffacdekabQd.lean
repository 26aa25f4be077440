/-
  The law's own helpers on rows of who waits: copies, sizes, sameness.
-/
import Derived.Test.YtcfghnffacdekabQc
import Derived.Deep.RegionWith
import Derived.WideShapes
import Derived.ProofKit
import Derived.OpenShut
import Derived.ShutString
import Derived.ChangeOld
import Derived.Below
namespace Go.Proofs.Ytcfghnffacdekab
open Go.RowKit Va
set_option linter.unusedVariables false

theorem infoWaiting : (Try.prog.info? 61).map (fun i => (i.zero, i.size, i.bytes)) = some (some (.agg #[.int .i64 0, .int .i64 0, .int .i64 0]), 3, 24) := by kernel_rfl

def mkW (f : Nat → Int) : Wt := ⟨f 0, f 1, f 2⟩
theorem mkW_at (f : Nat → Int) (k : Nat) (hk : k < 3) : csW (mkW f) k = f k := by
  match k, hk with
  | 0, _ => rfl
  | 1, _ => rfl
  | 2, _ => rfl
end Go.Proofs.Ytcfghnffacdekab
