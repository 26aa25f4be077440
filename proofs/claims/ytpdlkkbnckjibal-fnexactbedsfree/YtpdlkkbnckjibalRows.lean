/-
  No cell of these rows narrows 'for every input' (looked for: loops, veiled, ifaces, maps, wideKeys, modest, calm, conditions, laid).
  DERIVED. THE GIVEN ROWS OF THIS SEAT. 6 by the template 'for every input the law returns true; each argument reads behind the call as it read before'; 0 by the template 'total and deterministic' (their statements: YtpdlkkbnckjibalTotals.lean).
  GIVEN WITH THE SEED: the statements are not yours to turn. If you find one false, say at which input.
  Laid BY PROGRAM, IN A SANDBOX (cutbox-rows.mjs): the forced cells as the released guide's own fill.sh prints them over the translation bea1798753d304fa… (all of the seat's roots in one cut). By AI agents, Wed Nov 11 2026. No macro, syntax, notation, axiom, sorry.
-/
import Derived.Test.YtpdlkkbnckjibalChecked
import GoSem.Claim
import GoSem.ClaimJoined
import GoSem.ClaimMapViews
import Derived.JoinedTies
import Derived.KernelRfl
namespace Go.Proofs.Ytpdlkkbnckjibal
/- THE CELL 'sum', in the pinned program and in every row, IS THE sha256 OF THE DUMP (.gsa) THAT YtpdlkkbnckjibalProg.lean LOADS. Nothing in Lean hashes anything: it is a label: what it is worth is what the hold of that sum in a sandbox is worth. -/
noncomputable def Try.pinned : Pinned := { name := "ytpdlkkbnckjibal", sum := "bea1798753d304faf7867da0f2336b8fbcccf6c86be8aa407aea29568f53cf76", checked := Try.checked }
namespace Rows
def none {H : Type} : Left H := { results := [], args := [] }

/-- 'laws.FnExactPersonOf': WHATEVER THE INPUT: true; the input reads as it did. -/
def fnExactPersonOfSpec : ChangeSpec := { name := "fnExactPersonOf", fn := fun _ => fun
  | [d1, d2] => { results := [.lit (.bool true)], args := [d1, d2] }
  | _ => none }
def fnExactPersonOfRow : OpenClaim := { program := "ytpdlkkbnckjibal", sum := "bea1798753d304faf7867da0f2336b8fbcccf6c86be8aa407aea29568f53cf76", func := "loop.example/g00060/laws.FnExactPersonOf", spec := "fnExactPersonOf", apart := false }
def FnExactPersonOfSaid : Prop := fnExactPersonOfRow.holds Try.pinned (OpenSpec.ofChange fnExactPersonOfSpec)

/-- ITS FALSE NEIGHBOUR: 'it returns false'. Refute it at one input. -/
def fnExactPersonOfWrong : ChangeSpec := { name := "fnExactPersonOf", fn := fun _ => fun
  | [d1, d2] => { results := [.lit (.bool false)], args := [d1, d2] }
  | _ => none }
def FnExactPersonOfWrongFalsely : Prop := fnExactPersonOfRow.holds Try.pinned (OpenSpec.ofChange fnExactPersonOfWrong)

/-- 'laws.FnExactJoinDo': WHATEVER THE INPUT: true; the input reads as it did. -/
def fnExactJoinDoSpec : ChangeSpec := { name := "fnExactJoinDo", fn := fun _ => fun
  | [d1, d2, d3] => { results := [.lit (.bool true)], args := [d1, d2, d3] }
  | _ => none }
def fnExactJoinDoRow : OpenClaim := { program := "ytpdlkkbnckjibal", sum := "bea1798753d304faf7867da0f2336b8fbcccf6c86be8aa407aea29568f53cf76", func := "loop.example/g00060/laws.FnExactJoinDo", spec := "fnExactJoinDo", unfollowed := true, recurses := true, apart := false }
def FnExactJoinDoSaid : Prop := fnExactJoinDoRow.holds Try.pinned (OpenSpec.ofChange fnExactJoinDoSpec)

/-- ITS FALSE NEIGHBOUR: 'it returns false'. Refute it at one input. -/
def fnExactJoinDoWrong : ChangeSpec := { name := "fnExactJoinDo", fn := fun _ => fun
  | [d1, d2, d3] => { results := [.lit (.bool false)], args := [d1, d2, d3] }
  | _ => none }
def FnExactJoinDoWrongFalsely : Prop := fnExactJoinDoRow.holds Try.pinned (OpenSpec.ofChange fnExactJoinDoWrong)

/-- 'laws.FnExactJoinUndo': WHATEVER THE INPUT: true; the input reads as it did. -/
def fnExactJoinUndoSpec : ChangeSpec := { name := "fnExactJoinUndo", fn := fun _ => fun
  | [d1, d2] => { results := [.lit (.bool true)], args := [d1, d2] }
  | _ => none }
def fnExactJoinUndoRow : OpenClaim := { program := "ytpdlkkbnckjibal", sum := "bea1798753d304faf7867da0f2336b8fbcccf6c86be8aa407aea29568f53cf76", func := "loop.example/g00060/laws.FnExactJoinUndo", spec := "fnExactJoinUndo", unfollowed := true, recurses := true, apart := false }
def FnExactJoinUndoSaid : Prop := fnExactJoinUndoRow.holds Try.pinned (OpenSpec.ofChange fnExactJoinUndoSpec)

/-- ITS FALSE NEIGHBOUR: 'it returns false'. Refute it at one input. -/
def fnExactJoinUndoWrong : ChangeSpec := { name := "fnExactJoinUndo", fn := fun _ => fun
  | [d1, d2] => { results := [.lit (.bool false)], args := [d1, d2] }
  | _ => none }
def FnExactJoinUndoWrongFalsely : Prop := fnExactJoinUndoRow.holds Try.pinned (OpenSpec.ofChange fnExactJoinUndoWrong)

/-- 'laws.FnExactTogether': WHATEVER THE INPUT: true; the input reads as it did. -/
def fnExactTogetherSpec : ChangeSpec := { name := "fnExactTogether", fn := fun _ => fun
  | [d1, d2] => { results := [.lit (.bool true)], args := [d1, d2] }
  | _ => none }
def fnExactTogetherRow : OpenClaim := { program := "ytpdlkkbnckjibal", sum := "bea1798753d304faf7867da0f2336b8fbcccf6c86be8aa407aea29568f53cf76", func := "loop.example/g00060/laws.FnExactTogether", spec := "fnExactTogether", recurses := true, apart := false }
def FnExactTogetherSaid : Prop := fnExactTogetherRow.holds Try.pinned (OpenSpec.ofChange fnExactTogetherSpec)

/-- ITS FALSE NEIGHBOUR: 'it returns false'. Refute it at one input. -/
def fnExactTogetherWrong : ChangeSpec := { name := "fnExactTogether", fn := fun _ => fun
  | [d1, d2] => { results := [.lit (.bool false)], args := [d1, d2] }
  | _ => none }
def FnExactTogetherWrongFalsely : Prop := fnExactTogetherRow.holds Try.pinned (OpenSpec.ofChange fnExactTogetherWrong)

/-- 'laws.FnExactHouseOk': WHATEVER THE INPUT: true; the input reads as it did. -/
def fnExactHouseOkSpec : ChangeSpec := { name := "fnExactHouseOk", fn := fun _ => fun
  | [d] => { results := [.lit (.bool true)], args := [d] }
  | _ => none }
def fnExactHouseOkRow : OpenClaim := { program := "ytpdlkkbnckjibal", sum := "bea1798753d304faf7867da0f2336b8fbcccf6c86be8aa407aea29568f53cf76", func := "loop.example/g00060/laws.FnExactHouseOk", spec := "fnExactHouseOk", unfollowed := true, recurses := true, apart := false }
def FnExactHouseOkSaid : Prop := fnExactHouseOkRow.holds Try.pinned (OpenSpec.ofChange fnExactHouseOkSpec)

/-- ITS FALSE NEIGHBOUR: 'it returns false'. Refute it at one input. -/
def fnExactHouseOkWrong : ChangeSpec := { name := "fnExactHouseOk", fn := fun _ => fun
  | [d] => { results := [.lit (.bool false)], args := [d] }
  | _ => none }
def FnExactHouseOkWrongFalsely : Prop := fnExactHouseOkRow.holds Try.pinned (OpenSpec.ofChange fnExactHouseOkWrong)

/-- 'laws.FnExactBedsFree': WHATEVER THE INPUT: true; the input reads as it did. -/
def fnExactBedsFreeSpec : ChangeSpec := { name := "fnExactBedsFree", fn := fun _ => fun
  | [d1, d2, d3] => { results := [.lit (.bool true)], args := [d1, d2, d3] }
  | _ => none }
def fnExactBedsFreeRow : OpenClaim := { program := "ytpdlkkbnckjibal", sum := "bea1798753d304faf7867da0f2336b8fbcccf6c86be8aa407aea29568f53cf76", func := "loop.example/g00060/laws.FnExactBedsFree", spec := "fnExactBedsFree", unfollowed := true, recurses := true, apart := false }
def FnExactBedsFreeSaid : Prop := fnExactBedsFreeRow.holds Try.pinned (OpenSpec.ofChange fnExactBedsFreeSpec)

/-- ITS FALSE NEIGHBOUR: 'it returns false'. Refute it at one input. -/
def fnExactBedsFreeWrong : ChangeSpec := { name := "fnExactBedsFree", fn := fun _ => fun
  | [d1, d2, d3] => { results := [.lit (.bool false)], args := [d1, d2, d3] }
  | _ => none }
def FnExactBedsFreeWrongFalsely : Prop := fnExactBedsFreeRow.holds Try.pinned (OpenSpec.ofChange fnExactBedsFreeWrong)

/- THE SECOND FORM. 'bulk': how many values and letters a reading holds, each counted each time it is reached (what is shared counts as often as it is met; a slice's spare places count too). A statement '..UptoSaid' is the law's where the arguments, and the package variables that the reading takes, are together of bulk at most 1048576: NARROWER than '..Said'. Prove '..Said' where nothing that the law and all that it calls make is longer than what came in: it says more and counts as full. Else prove '..UptoSaid'. A law counts once. -/
mutual
def uptoBulk {H : Type} : DataW H → Nat
  | .lit (.string bytes) => bytes.length + 1
  | .lit _ => 1
  | .nil => 1
  | .ptr d => uptoBulk d + 1
  | .slice elems spare => uptoBulkAll elems + uptoBulkAll spare + 1
  | .agg parts => uptoBulkAll parts + 1
  | .iface _ d => uptoBulk d + 1
  | .map entries => uptoBulkEntries entries + 1
  | .held _ => 1
def uptoBulkAll {H : Type} : List (DataW H) → Nat
  | [] => 0
  | d :: r => uptoBulk d + uptoBulkAll r
def uptoBulkEntries {H : Type} : List (Lit × DataW H) → Nat
  | [] => 0
  | x :: r => uptoBulkEntry x + uptoBulkEntries r
def uptoBulkEntry {H : Type} : Lit × DataW H → Nat
  | (.string bytes, d) => bytes.length + uptoBulk d + 1
  | (_, d) => uptoBulk d + 1
 end
def uptoSmall : (H : Type) → List (DataW H) → Bool := fun _ ds => decide (uptoBulkAll ds ≤ 1048576)
def OpenSpec.upto (s : _root_.Go.ChangeSpec) : _root_.Go.OpenSpec := { _root_.Go.OpenSpec.ofChange s with cond := some uptoSmall }

/-- 'laws.FnExactPersonOf', WHERE WHAT IT READS IS OF BULK AT MOST 1048576: true; the input reads as it did. -/
def fnExactPersonOfUptoRow : OpenClaim := { program := "ytpdlkkbnckjibal", sum := "bea1798753d304faf7867da0f2336b8fbcccf6c86be8aa407aea29568f53cf76", func := "loop.example/g00060/laws.FnExactPersonOf", spec := "fnExactPersonOf", apart := false, narrowed := true }
def FnExactPersonOfUptoSaid : Prop := fnExactPersonOfUptoRow.holds Try.pinned (OpenSpec.upto fnExactPersonOfSpec)

/-- 'laws.FnExactJoinDo', WHERE WHAT IT READS IS OF BULK AT MOST 1048576: true; the input reads as it did. -/
def fnExactJoinDoUptoRow : OpenClaim := { program := "ytpdlkkbnckjibal", sum := "bea1798753d304faf7867da0f2336b8fbcccf6c86be8aa407aea29568f53cf76", func := "loop.example/g00060/laws.FnExactJoinDo", spec := "fnExactJoinDo", unfollowed := true, recurses := true, apart := false, narrowed := true }
def FnExactJoinDoUptoSaid : Prop := fnExactJoinDoUptoRow.holds Try.pinned (OpenSpec.upto fnExactJoinDoSpec)

/-- 'laws.FnExactJoinUndo', WHERE WHAT IT READS IS OF BULK AT MOST 1048576: true; the input reads as it did. -/
def fnExactJoinUndoUptoRow : OpenClaim := { program := "ytpdlkkbnckjibal", sum := "bea1798753d304faf7867da0f2336b8fbcccf6c86be8aa407aea29568f53cf76", func := "loop.example/g00060/laws.FnExactJoinUndo", spec := "fnExactJoinUndo", unfollowed := true, recurses := true, apart := false, narrowed := true }
def FnExactJoinUndoUptoSaid : Prop := fnExactJoinUndoUptoRow.holds Try.pinned (OpenSpec.upto fnExactJoinUndoSpec)

/-- 'laws.FnExactTogether', WHERE WHAT IT READS IS OF BULK AT MOST 1048576: true; the input reads as it did. -/
def fnExactTogetherUptoRow : OpenClaim := { program := "ytpdlkkbnckjibal", sum := "bea1798753d304faf7867da0f2336b8fbcccf6c86be8aa407aea29568f53cf76", func := "loop.example/g00060/laws.FnExactTogether", spec := "fnExactTogether", recurses := true, apart := false, narrowed := true }
def FnExactTogetherUptoSaid : Prop := fnExactTogetherUptoRow.holds Try.pinned (OpenSpec.upto fnExactTogetherSpec)

/-- 'laws.FnExactHouseOk', WHERE WHAT IT READS IS OF BULK AT MOST 1048576: true; the input reads as it did. -/
def fnExactHouseOkUptoRow : OpenClaim := { program := "ytpdlkkbnckjibal", sum := "bea1798753d304faf7867da0f2336b8fbcccf6c86be8aa407aea29568f53cf76", func := "loop.example/g00060/laws.FnExactHouseOk", spec := "fnExactHouseOk", unfollowed := true, recurses := true, apart := false, narrowed := true }
def FnExactHouseOkUptoSaid : Prop := fnExactHouseOkUptoRow.holds Try.pinned (OpenSpec.upto fnExactHouseOkSpec)

/-- 'laws.FnExactBedsFree', WHERE WHAT IT READS IS OF BULK AT MOST 1048576: true; the input reads as it did. -/
def fnExactBedsFreeUptoRow : OpenClaim := { program := "ytpdlkkbnckjibal", sum := "bea1798753d304faf7867da0f2336b8fbcccf6c86be8aa407aea29568f53cf76", func := "loop.example/g00060/laws.FnExactBedsFree", spec := "fnExactBedsFree", unfollowed := true, recurses := true, apart := false, narrowed := true }
def FnExactBedsFreeUptoSaid : Prop := fnExactBedsFreeUptoRow.holds Try.pinned (OpenSpec.upto fnExactBedsFreeSpec)

end Rows
end Go.Proofs.Ytpdlkkbnckjibal
