/-
  Slices of floats: compared.
-/
import Derived.Test.YtiopmlepdjiapaaFloW
namespace Go.Proofs.Ytiopmlepdjiapaa
open Go.RowKit Fl

attribute [local go_sem] run_store_fl

end Go.Proofs.Ytiopmlepdjiapaa
