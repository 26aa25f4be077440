/-
  Codes and a place, drawn of bytes; the walk of the law on trust.
-/
import Derived.Test.YtldggndhdilncaaT20
import Derived.Test.YtldggndhdilncaaT3
namespace Go.Proofs.Ytldggndhdilncaa
open Go.RowKit Va Lb
set_option linter.all false

theorem made_ints (n : Nat) : (madeCells (Value.int .i64 0).cells (n * 1)).toList = (List.replicate n (0 : Int)).map fun z => Value.int .i64 z := by
  rw [show (Value.int .i64 0).cells = #[Value.int .i64 0] from rfl, Nat.mul_one, toList_madeCells_one, List.map_replicate]
end Go.Proofs.Ytldggndhdilncaa
