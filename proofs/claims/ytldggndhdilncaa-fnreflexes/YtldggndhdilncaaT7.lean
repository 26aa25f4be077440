/-
  Results as values.
-/
import Derived.Test.YtldggndhdilncaaT2
namespace Go.Proofs.Ytldggndhdilncaa
open Go.RowKit Va Lb
set_option linter.all false

def cvRs (x : Rs) (k : Nat) : Value := match k with | 0 => .int .i64 x.v | 1 => .int .i64 x.t | _ => .bool x.k
def aRs (x : Rs) : Value := .agg #[.int .i64 x.v, .int .i64 x.t, .bool x.k]
end Go.Proofs.Ytldggndhdilncaa
