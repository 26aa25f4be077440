/-
  No cell of these rows narrows 'for every input' (looked for: loops, veiled, ifaces, maps, wideKeys, modest, calm, conditions, laid).
  DERIVED. THE GIVEN ROWS OF THIS SEAT. 4 by the template 'for every input the law returns true; each argument reads behind the call as it read before'; 0 by the template 'total and deterministic' (their statements: YtdnnenklkfkhcaaTotals.lean).
  GIVEN WITH THE SEED: the statements are not yours to turn. If you find one false, say at which input.
  Laid BY PROGRAM, IN A SANDBOX (cutbox-rows.mjs): the forced cells as the released guide's own fill.sh prints them over the translation fe78b9c6d2c3e24e… (all of the seat's roots in one cut). By AI agents, Wed Nov 11 2026. No macro, syntax, notation, axiom, sorry.
-/
import Derived.Test.YtdnnenklkfkhcaaChecked
import GoSem.Claim
import GoSem.ClaimJoined
import GoSem.ClaimMapViews
import Derived.JoinedTies
import Derived.KernelRfl
namespace Go.Proofs.Ytdnnenklkfkhcaa
/- THE CELL 'sum', in the pinned program and in every row, IS THE sha256 OF THE DUMP (.gsa) THAT YtdnnenklkfkhcaaProg.lean LOADS. Nothing in Lean hashes anything: it is a label: what it is worth is what the hold of that sum in a sandbox is worth. -/
noncomputable def Try.pinned : Pinned := { name := "ytdnnenklkfkhcaa", sum := "fe78b9c6d2c3e24e19e0ca01e25b5f12c3f88e91cdaf3129d91e11bae5689a6c", checked := Try.checked }
namespace Rows
def none {H : Type} : Left H := { results := [], args := [] }

/-- 'laws.FnAmountTurn': WHATEVER THE INPUT: true; the input reads as it did. -/
def fnAmountTurnSpec : ChangeSpec := { name := "fnAmountTurn", fn := fun _ => fun
  | [d] => { results := [.lit (.bool true)], args := [d] }
  | _ => none }
def fnAmountTurnRow : OpenClaim := { program := "ytdnnenklkfkhcaa", sum := "fe78b9c6d2c3e24e19e0ca01e25b5f12c3f88e91cdaf3129d91e11bae5689a6c", func := "loop.example/g00060/laws.FnAmountTurn", spec := "fnAmountTurn", apart := false }
def FnAmountTurnSaid : Prop := fnAmountTurnRow.holds Try.pinned (OpenSpec.ofChange fnAmountTurnSpec)

/-- ITS FALSE NEIGHBOUR: 'it returns false'. Refute it at one input. -/
def fnAmountTurnWrong : ChangeSpec := { name := "fnAmountTurn", fn := fun _ => fun
  | [d] => { results := [.lit (.bool false)], args := [d] }
  | _ => none }
def FnAmountTurnWrongFalsely : Prop := fnAmountTurnRow.holds Try.pinned (OpenSpec.ofChange fnAmountTurnWrong)

/-- 'laws.FnMean': WHATEVER THE INPUT: true; the input reads as it did. -/
def fnMeanSpec : ChangeSpec := { name := "fnMean", fn := fun _ => fun
  | [d] => { results := [.lit (.bool true)], args := [d] }
  | _ => none }
def fnMeanRow : OpenClaim := { program := "ytdnnenklkfkhcaa", sum := "fe78b9c6d2c3e24e19e0ca01e25b5f12c3f88e91cdaf3129d91e11bae5689a6c", func := "loop.example/g00060/laws.FnMean", spec := "fnMean", inPlace := ["math.Float64frombits"], unfollowed := true, recurses := true, apart := false }
def FnMeanSaid : Prop := fnMeanRow.holds Try.pinned (OpenSpec.ofChange fnMeanSpec)

/-- ITS FALSE NEIGHBOUR: 'it returns false'. Refute it at one input. -/
def fnMeanWrong : ChangeSpec := { name := "fnMean", fn := fun _ => fun
  | [d] => { results := [.lit (.bool false)], args := [d] }
  | _ => none }
def FnMeanWrongFalsely : Prop := fnMeanRow.holds Try.pinned (OpenSpec.ofChange fnMeanWrong)

/-- 'laws.FnNameKey': WHATEVER THE INPUT: true; the input reads as it did. -/
def fnNameKeySpec : ChangeSpec := { name := "fnNameKey", fn := fun _ => fun
  | [d] => { results := [.lit (.bool true)], args := [d] }
  | _ => none }
def fnNameKeyRow : OpenClaim := { program := "ytdnnenklkfkhcaa", sum := "fe78b9c6d2c3e24e19e0ca01e25b5f12c3f88e91cdaf3129d91e11bae5689a6c", func := "loop.example/g00060/laws.FnNameKey", spec := "fnNameKey", apart := false }
def FnNameKeySaid : Prop := fnNameKeyRow.holds Try.pinned (OpenSpec.ofChange fnNameKeySpec)

/-- ITS FALSE NEIGHBOUR: 'it returns false'. Refute it at one input. -/
def fnNameKeyWrong : ChangeSpec := { name := "fnNameKey", fn := fun _ => fun
  | [d] => { results := [.lit (.bool false)], args := [d] }
  | _ => none }
def FnNameKeyWrongFalsely : Prop := fnNameKeyRow.holds Try.pinned (OpenSpec.ofChange fnNameKeyWrong)

/-- 'laws.FnJoinUndone': WHATEVER THE INPUT: true; the input reads as it did. -/
def fnJoinUndoneSpec : ChangeSpec := { name := "fnJoinUndone", fn := fun _ => fun
  | [d] => { results := [.lit (.bool true)], args := [d] }
  | _ => none }
def fnJoinUndoneRow : OpenClaim := { program := "ytdnnenklkfkhcaa", sum := "fe78b9c6d2c3e24e19e0ca01e25b5f12c3f88e91cdaf3129d91e11bae5689a6c", func := "loop.example/g00060/laws.FnJoinUndone", spec := "fnJoinUndone", unfollowed := true, recurses := true, apart := false }
def FnJoinUndoneSaid : Prop := fnJoinUndoneRow.holds Try.pinned (OpenSpec.ofChange fnJoinUndoneSpec)

/-- ITS FALSE NEIGHBOUR: 'it returns false'. Refute it at one input. -/
def fnJoinUndoneWrong : ChangeSpec := { name := "fnJoinUndone", fn := fun _ => fun
  | [d] => { results := [.lit (.bool false)], args := [d] }
  | _ => none }
def FnJoinUndoneWrongFalsely : Prop := fnJoinUndoneRow.holds Try.pinned (OpenSpec.ofChange fnJoinUndoneWrong)

/- THE SECOND FORM. 'bulk': how many values and letters a reading holds, each counted each time it is reached (what is shared counts as often as it is met; a slice's spare places count too). A statement '..UptoSaid' is the law's where the arguments, and the package variables that the reading takes, are together of bulk at most 1048576: NARROWER than '..Said'. Prove '..Said' where nothing that the law and all that it calls make is longer than what came in: it says more and counts as full. Else prove '..UptoSaid'. A law counts once. -/
mutual
def uptoBulk {H : Type} : DataW H → Nat
  | .lit (.string bytes) => bytes.length + 1
  | .lit _ => 1
  | .nil => 1
  | .ptr d => uptoBulk d + 1
  | .slice elems spare => uptoBulkAll elems + uptoBulkAll spare + 1
  | .agg parts => uptoBulkAll parts + 1
  | .iface _ d => uptoBulk d + 1
  | .map entries => uptoBulkEntries entries + 1
  | .held _ => 1
def uptoBulkAll {H : Type} : List (DataW H) → Nat
  | [] => 0
  | d :: r => uptoBulk d + uptoBulkAll r
def uptoBulkEntries {H : Type} : List (Lit × DataW H) → Nat
  | [] => 0
  | x :: r => uptoBulkEntry x + uptoBulkEntries r
def uptoBulkEntry {H : Type} : Lit × DataW H → Nat
  | (.string bytes, d) => bytes.length + uptoBulk d + 1
  | (_, d) => uptoBulk d + 1
 end
def uptoSmall : (H : Type) → List (DataW H) → Bool := fun _ ds => decide (uptoBulkAll ds ≤ 1048576)
def OpenSpec.upto (s : _root_.Go.ChangeSpec) : _root_.Go.OpenSpec := { _root_.Go.OpenSpec.ofChange s with cond := some uptoSmall }

/-- 'laws.FnAmountTurn', WHERE WHAT IT READS IS OF BULK AT MOST 1048576: true; the input reads as it did. -/
def fnAmountTurnUptoRow : OpenClaim := { program := "ytdnnenklkfkhcaa", sum := "fe78b9c6d2c3e24e19e0ca01e25b5f12c3f88e91cdaf3129d91e11bae5689a6c", func := "loop.example/g00060/laws.FnAmountTurn", spec := "fnAmountTurn", apart := false, narrowed := true }
def FnAmountTurnUptoSaid : Prop := fnAmountTurnUptoRow.holds Try.pinned (OpenSpec.upto fnAmountTurnSpec)

/-- 'laws.FnMean', WHERE WHAT IT READS IS OF BULK AT MOST 1048576: true; the input reads as it did. -/
def fnMeanUptoRow : OpenClaim := { program := "ytdnnenklkfkhcaa", sum := "fe78b9c6d2c3e24e19e0ca01e25b5f12c3f88e91cdaf3129d91e11bae5689a6c", func := "loop.example/g00060/laws.FnMean", spec := "fnMean", inPlace := ["math.Float64frombits"], unfollowed := true, recurses := true, apart := false, narrowed := true }
def FnMeanUptoSaid : Prop := fnMeanUptoRow.holds Try.pinned (OpenSpec.upto fnMeanSpec)

/-- 'laws.FnNameKey', WHERE WHAT IT READS IS OF BULK AT MOST 1048576: true; the input reads as it did. -/
def fnNameKeyUptoRow : OpenClaim := { program := "ytdnnenklkfkhcaa", sum := "fe78b9c6d2c3e24e19e0ca01e25b5f12c3f88e91cdaf3129d91e11bae5689a6c", func := "loop.example/g00060/laws.FnNameKey", spec := "fnNameKey", apart := false, narrowed := true }
def FnNameKeyUptoSaid : Prop := fnNameKeyUptoRow.holds Try.pinned (OpenSpec.upto fnNameKeySpec)

/-- 'laws.FnJoinUndone', WHERE WHAT IT READS IS OF BULK AT MOST 1048576: true; the input reads as it did. -/
def fnJoinUndoneUptoRow : OpenClaim := { program := "ytdnnenklkfkhcaa", sum := "fe78b9c6d2c3e24e19e0ca01e25b5f12c3f88e91cdaf3129d91e11bae5689a6c", func := "loop.example/g00060/laws.FnJoinUndone", spec := "fnJoinUndone", unfollowed := true, recurses := true, apart := false, narrowed := true }
def FnJoinUndoneUptoSaid : Prop := fnJoinUndoneUptoRow.holds Try.pinned (OpenSpec.upto fnJoinUndoneSpec)

end Rows
end Go.Proofs.Ytdnnenklkfkhcaa
