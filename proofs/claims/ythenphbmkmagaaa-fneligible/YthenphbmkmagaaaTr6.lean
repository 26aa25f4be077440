/-
  Right trials, as the program says; a coin.
-/
import Derived.Test.YthenphbmkmagaaaTr5
namespace Go.Proofs.Ythenphbmkmagaaa
open Go.RowKit Go.WideShapes Va Lb Tr
set_option linter.all false
end Go.Proofs.Ythenphbmkmagaaa
