/-
  Operations: who is in a team, and whether two teams share somebody.
-/
import Derived.Test.YtohedolfefklfaaQb
import Derived.Test.YtohedolfefklfaaOb
import Derived.Deep.LoopGhost
import Derived.WalkMore
namespace Go.Proofs.Ytohedolfefklfaa
open Go.RowKit Va Oa
set_option linter.unusedVariables false
end Go.Proofs.Ytohedolfefklfaa
