/-
  The earliest time, told; the minutes of somebody.
-/
import Derived.Test.YtgedaobgomnflaaOi
namespace Go.Proofs.Ytgedaobgomnflaa
open Go.RowKit Va Oa
set_option linter.unusedVariables false
end Go.Proofs.Ytgedaobgomnflaa
