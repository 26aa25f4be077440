/-
  Reflexes and values as values.
-/
import Derived.Test.YtldggndhdilncaaT40
import Derived.Test.YtldggndhdilncaaT2
namespace Go.Proofs.Ytldggndhdilncaa
open Go.RowKit Va Lb
set_option linter.all false

def cvRx (x : Rx) (k : Nat) : Value := match k with | 0 => .int .i64 x.te | 1 => .int .i64 x.lo | 2 => .int .i64 x.hi | _ => .int .i64 x.th
def aRx (x : Rx) : Value := .agg #[.int .i64 x.te, .int .i64 x.lo, .int .i64 x.hi, .int .i64 x.th]
def cvVl (x : Vl) (k : Nat) : Value := match k with | 0 => .int .i64 x.te | _ => .int .i64 x.v
def aVl (x : Vl) : Value := .agg #[.int .i64 x.te, .int .i64 x.v]
end Go.Proofs.Ytldggndhdilncaa
