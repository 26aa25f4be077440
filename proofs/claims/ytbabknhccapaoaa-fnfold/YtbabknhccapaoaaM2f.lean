/-
  The law's own helpers on rows of facts.
-/
import Derived.Test.YtbabknhccapaoaaM2w
namespace Go.Proofs.Ytbabknhccapaoaa
open Go.RowKit Va Mg
set_option linter.all false

def cmfc (x : Int) (k : Nat) : Value := match k with | 0 => .int .i64 (x + 0) | _ => .int .i64 (x + 1)
end Go.Proofs.Ytbabknhccapaoaa
