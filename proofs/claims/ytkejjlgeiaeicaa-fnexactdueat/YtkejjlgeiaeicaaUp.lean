/-
  Orders, doses and dues as values.
-/
import Derived.Test.YtkejjlgeiaeicaaVb
import Derived.Test.YtkejjlgeiaeicaaUo
import Derived.Test.YtkejjlgeiaeicaaRv
import Derived.Test.YtkejjlgeiaeicaaUi
import Derived.Deep.RegionWith
import Derived.WideShapes
import Derived.ProofKit
import Derived.OpenShut
import Derived.ShutString
import Derived.ChangeOld
import Derived.Below
namespace Go.Proofs.Ytkejjlgeiaeicaa
open Go.RowKit Va Uo
set_option linter.all false

def cvOd (x : Od) (k : Nat) : Value := match k with | 0 => .int .i64 x.id | 1 => .int .i64 x.p | 2 => .int .i64 x.d | 3 => .int .i64 x.n | 4 => .int .i64 x.f | 5 => .int .i64 x.e | 6 => .int .i64 x.c | 7 => .int .i64 x.s | _ => .bool x.two
def aOd (x : Od) : Value := .agg #[.int .i64 x.id, .int .i64 x.p, .int .i64 x.d, .int .i64 x.n, .int .i64 x.f, .int .i64 x.e, .int .i64 x.c, .int .i64 x.s, .bool x.two]
def cvDs (x : Ds) (k : Nat) : Value := match k with | 0 => .int .i64 x.o | 1 => .int .i64 x.t | 2 => .int .i64 x.m | 3 => .int .i64 x.b | _ => .int .i64 x.a
def aDs (x : Ds) : Value := .agg #[.int .i64 x.o, .int .i64 x.t, .int .i64 x.m, .int .i64 x.b, .int .i64 x.a]
def cvDu (x : Du) (k : Nat) : Value := match k with | 0 => .int .i64 x.o | 1 => .int .i64 x.t | _ => .int .i64 x.s
def aDu (x : Du) : Value := .agg #[.int .i64 x.o, .int .i64 x.t, .int .i64 x.s]
end Go.Proofs.Ytkejjlgeiaeicaa
