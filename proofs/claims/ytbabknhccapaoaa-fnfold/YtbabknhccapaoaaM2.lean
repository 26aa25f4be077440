/-
  Letters and facts as values.
-/
import Derived.Test.YtbabknhccapaoaaT2
import Derived.Test.YtbabknhccapaoaaM1
namespace Go.Proofs.Ytbabknhccapaoaa
open Go.RowKit Va Mg
set_option linter.all false

def cvLt (x : Lt) (k : Nat) : Value := match k with | 0 => .int .i64 x.f | 1 => .int .i64 x.s | 2 => .int .i64 x.c | 3 => .int .i64 x.k | _ => .int .i64 x.v
def aLt (x : Lt) : Value := .agg #[.int .i64 x.f, .int .i64 x.s, .int .i64 x.c, .int .i64 x.k, .int .i64 x.v]
def cvFc (x : Fc) (k : Nat) : Value := match k with | 0 => .int .i64 x.k | _ => .int .i64 x.v
def aFc (x : Fc) : Value := .agg #[.int .i64 x.k, .int .i64 x.v]
end Go.Proofs.Ytbabknhccapaoaa
