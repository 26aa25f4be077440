/-
  No cell of these rows narrows 'for every input' (looked for: loops, veiled, ifaces, maps, wideKeys, modest, calm, conditions, laid).
  DERIVED. THE GIVEN ROWS OF THIS SEAT. 6 by the template 'for every input the law returns true; each argument reads behind the call as it read before'; 0 by the template 'total and deterministic' (their statements: YtgedaobgomnflaaTotals.lean).
  GIVEN WITH THE SEED: the statements are not yours to turn. If you find one false, say at which input.
  Laid BY PROGRAM, IN A SANDBOX (cutbox-rows.mjs): the forced cells as the released guide's own fill.sh prints them over the translation 3fb1831498587c1c… (all of the seat's roots in one cut). By AI agents, Wed Nov 11 2026. No macro, syntax, notation, axiom, sorry.
-/
import Derived.Test.YtgedaobgomnflaaChecked
import GoSem.Claim
import GoSem.ClaimJoined
import GoSem.ClaimMapViews
import Derived.JoinedTies
import Derived.KernelRfl
namespace Go.Proofs.Ytgedaobgomnflaa
/- THE CELL 'sum', in the pinned program and in every row, IS THE sha256 OF THE DUMP (.gsa) THAT YtgedaobgomnflaaProg.lean LOADS. Nothing in Lean hashes anything: it is a label: what it is worth is what the hold of that sum in a sandbox is worth. -/
noncomputable def Try.pinned : Pinned := { name := "ytgedaobgomnflaa", sum := "3fb1831498587c1cc0586f1b79302c8f7a3f3a4c5f6f94fc0ad7baea561c121a", checked := Try.checked }
namespace Rows
def none {H : Type} : Left H := { results := [], args := [] }

/-- 'laws.FnExactInsert': WHATEVER THE INPUT: true; the input reads as it did. -/
def fnExactInsertSpec : ChangeSpec := { name := "fnExactInsert", fn := fun _ => fun
  | [d1, d2, d3] => { results := [.lit (.bool true)], args := [d1, d2, d3] }
  | _ => none }
def fnExactInsertRow : OpenClaim := { program := "ytgedaobgomnflaa", sum := "3fb1831498587c1cc0586f1b79302c8f7a3f3a4c5f6f94fc0ad7baea561c121a", func := "loop.example/g00060/laws.FnExactInsert", spec := "fnExactInsert", apart := false }
def FnExactInsertSaid : Prop := fnExactInsertRow.holds Try.pinned (OpenSpec.ofChange fnExactInsertSpec)

/-- ITS FALSE NEIGHBOUR: 'it returns false'. Refute it at one input. -/
def fnExactInsertWrong : ChangeSpec := { name := "fnExactInsert", fn := fun _ => fun
  | [d1, d2, d3] => { results := [.lit (.bool false)], args := [d1, d2, d3] }
  | _ => none }
def FnExactInsertWrongFalsely : Prop := fnExactInsertRow.holds Try.pinned (OpenSpec.ofChange fnExactInsertWrong)

/-- 'laws.FnExactTrayDo': WHATEVER THE INPUT: true; the input reads as it did. -/
def fnExactTrayDoSpec : ChangeSpec := { name := "fnExactTrayDo", fn := fun _ => fun
  | [d] => { results := [.lit (.bool true)], args := [d] }
  | _ => none }
def fnExactTrayDoRow : OpenClaim := { program := "ytgedaobgomnflaa", sum := "3fb1831498587c1cc0586f1b79302c8f7a3f3a4c5f6f94fc0ad7baea561c121a", func := "loop.example/g00060/laws.FnExactTrayDo", spec := "fnExactTrayDo", apart := false }
def FnExactTrayDoSaid : Prop := fnExactTrayDoRow.holds Try.pinned (OpenSpec.ofChange fnExactTrayDoSpec)

/-- ITS FALSE NEIGHBOUR: 'it returns false'. Refute it at one input. -/
def fnExactTrayDoWrong : ChangeSpec := { name := "fnExactTrayDo", fn := fun _ => fun
  | [d] => { results := [.lit (.bool false)], args := [d] }
  | _ => none }
def FnExactTrayDoWrongFalsely : Prop := fnExactTrayDoRow.holds Try.pinned (OpenSpec.ofChange fnExactTrayDoWrong)

/-- 'laws.FnExactTrayState': WHATEVER THE INPUT: true; the input reads as it did. -/
def fnExactTrayStateSpec : ChangeSpec := { name := "fnExactTrayState", fn := fun _ => fun
  | [d1, d2] => { results := [.lit (.bool true)], args := [d1, d2] }
  | _ => none }
def fnExactTrayStateRow : OpenClaim := { program := "ytgedaobgomnflaa", sum := "3fb1831498587c1cc0586f1b79302c8f7a3f3a4c5f6f94fc0ad7baea561c121a", func := "loop.example/g00060/laws.FnExactTrayState", spec := "fnExactTrayState", apart := false }
def FnExactTrayStateSaid : Prop := fnExactTrayStateRow.holds Try.pinned (OpenSpec.ofChange fnExactTrayStateSpec)

/-- ITS FALSE NEIGHBOUR: 'it returns false'. Refute it at one input. -/
def fnExactTrayStateWrong : ChangeSpec := { name := "fnExactTrayState", fn := fun _ => fun
  | [d1, d2] => { results := [.lit (.bool false)], args := [d1, d2] }
  | _ => none }
def FnExactTrayStateWrongFalsely : Prop := fnExactTrayStateRow.holds Try.pinned (OpenSpec.ofChange fnExactTrayStateWrong)

/-- 'laws.FnExactCycleOf': WHATEVER THE INPUT: true; the input reads as it did. -/
def fnExactCycleOfSpec : ChangeSpec := { name := "fnExactCycleOf", fn := fun _ => fun
  | [d1, d2] => { results := [.lit (.bool true)], args := [d1, d2] }
  | _ => none }
def fnExactCycleOfRow : OpenClaim := { program := "ytgedaobgomnflaa", sum := "3fb1831498587c1cc0586f1b79302c8f7a3f3a4c5f6f94fc0ad7baea561c121a", func := "loop.example/g00060/laws.FnExactCycleOf", spec := "fnExactCycleOf", apart := false }
def FnExactCycleOfSaid : Prop := fnExactCycleOfRow.holds Try.pinned (OpenSpec.ofChange fnExactCycleOfSpec)

/-- ITS FALSE NEIGHBOUR: 'it returns false'. Refute it at one input. -/
def fnExactCycleOfWrong : ChangeSpec := { name := "fnExactCycleOf", fn := fun _ => fun
  | [d1, d2] => { results := [.lit (.bool false)], args := [d1, d2] }
  | _ => none }
def FnExactCycleOfWrongFalsely : Prop := fnExactCycleOfRow.holds Try.pinned (OpenSpec.ofChange fnExactCycleOfWrong)

/-- 'laws.FnExactTouched': WHATEVER THE INPUT: true; the input reads as it did. -/
def fnExactTouchedSpec : ChangeSpec := { name := "fnExactTouched", fn := fun _ => fun
  | [d1, d2] => { results := [.lit (.bool true)], args := [d1, d2] }
  | _ => none }
def fnExactTouchedRow : OpenClaim := { program := "ytgedaobgomnflaa", sum := "3fb1831498587c1cc0586f1b79302c8f7a3f3a4c5f6f94fc0ad7baea561c121a", func := "loop.example/g00060/laws.FnExactTouched", spec := "fnExactTouched", recurses := true, apart := false }
def FnExactTouchedSaid : Prop := fnExactTouchedRow.holds Try.pinned (OpenSpec.ofChange fnExactTouchedSpec)

/-- ITS FALSE NEIGHBOUR: 'it returns false'. Refute it at one input. -/
def fnExactTouchedWrong : ChangeSpec := { name := "fnExactTouched", fn := fun _ => fun
  | [d1, d2] => { results := [.lit (.bool false)], args := [d1, d2] }
  | _ => none }
def FnExactTouchedWrongFalsely : Prop := fnExactTouchedRow.holds Try.pinned (OpenSpec.ofChange fnExactTouchedWrong)

/-- 'laws.FnExactCyclesOn': WHATEVER THE INPUT: true; the input reads as it did. -/
def fnExactCyclesOnSpec : ChangeSpec := { name := "fnExactCyclesOn", fn := fun _ => fun
  | [d1, d2] => { results := [.lit (.bool true)], args := [d1, d2] }
  | _ => none }
def fnExactCyclesOnRow : OpenClaim := { program := "ytgedaobgomnflaa", sum := "3fb1831498587c1cc0586f1b79302c8f7a3f3a4c5f6f94fc0ad7baea561c121a", func := "loop.example/g00060/laws.FnExactCyclesOn", spec := "fnExactCyclesOn", recurses := true, apart := false }
def FnExactCyclesOnSaid : Prop := fnExactCyclesOnRow.holds Try.pinned (OpenSpec.ofChange fnExactCyclesOnSpec)

/-- ITS FALSE NEIGHBOUR: 'it returns false'. Refute it at one input. -/
def fnExactCyclesOnWrong : ChangeSpec := { name := "fnExactCyclesOn", fn := fun _ => fun
  | [d1, d2] => { results := [.lit (.bool false)], args := [d1, d2] }
  | _ => none }
def FnExactCyclesOnWrongFalsely : Prop := fnExactCyclesOnRow.holds Try.pinned (OpenSpec.ofChange fnExactCyclesOnWrong)

/- THE SECOND FORM. 'bulk': how many values and letters a reading holds, each counted each time it is reached (what is shared counts as often as it is met; a slice's spare places count too). A statement '..UptoSaid' is the law's where the arguments, and the package variables that the reading takes, are together of bulk at most 1048576: NARROWER than '..Said'. Prove '..Said' where nothing that the law and all that it calls make is longer than what came in: it says more and counts as full. Else prove '..UptoSaid'. A law counts once. -/
mutual
def uptoBulk {H : Type} : DataW H → Nat
  | .lit (.string bytes) => bytes.length + 1
  | .lit _ => 1
  | .nil => 1
  | .ptr d => uptoBulk d + 1
  | .slice elems spare => uptoBulkAll elems + uptoBulkAll spare + 1
  | .agg parts => uptoBulkAll parts + 1
  | .iface _ d => uptoBulk d + 1
  | .map entries => uptoBulkEntries entries + 1
  | .held _ => 1
def uptoBulkAll {H : Type} : List (DataW H) → Nat
  | [] => 0
  | d :: r => uptoBulk d + uptoBulkAll r
def uptoBulkEntries {H : Type} : List (Lit × DataW H) → Nat
  | [] => 0
  | x :: r => uptoBulkEntry x + uptoBulkEntries r
def uptoBulkEntry {H : Type} : Lit × DataW H → Nat
  | (.string bytes, d) => bytes.length + uptoBulk d + 1
  | (_, d) => uptoBulk d + 1
 end
def uptoSmall : (H : Type) → List (DataW H) → Bool := fun _ ds => decide (uptoBulkAll ds ≤ 1048576)
def OpenSpec.upto (s : _root_.Go.ChangeSpec) : _root_.Go.OpenSpec := { _root_.Go.OpenSpec.ofChange s with cond := some uptoSmall }

/-- 'laws.FnExactInsert', WHERE WHAT IT READS IS OF BULK AT MOST 1048576: true; the input reads as it did. -/
def fnExactInsertUptoRow : OpenClaim := { program := "ytgedaobgomnflaa", sum := "3fb1831498587c1cc0586f1b79302c8f7a3f3a4c5f6f94fc0ad7baea561c121a", func := "loop.example/g00060/laws.FnExactInsert", spec := "fnExactInsert", apart := false, narrowed := true }
def FnExactInsertUptoSaid : Prop := fnExactInsertUptoRow.holds Try.pinned (OpenSpec.upto fnExactInsertSpec)

/-- 'laws.FnExactTrayDo', WHERE WHAT IT READS IS OF BULK AT MOST 1048576: true; the input reads as it did. -/
def fnExactTrayDoUptoRow : OpenClaim := { program := "ytgedaobgomnflaa", sum := "3fb1831498587c1cc0586f1b79302c8f7a3f3a4c5f6f94fc0ad7baea561c121a", func := "loop.example/g00060/laws.FnExactTrayDo", spec := "fnExactTrayDo", apart := false, narrowed := true }
def FnExactTrayDoUptoSaid : Prop := fnExactTrayDoUptoRow.holds Try.pinned (OpenSpec.upto fnExactTrayDoSpec)

/-- 'laws.FnExactTrayState', WHERE WHAT IT READS IS OF BULK AT MOST 1048576: true; the input reads as it did. -/
def fnExactTrayStateUptoRow : OpenClaim := { program := "ytgedaobgomnflaa", sum := "3fb1831498587c1cc0586f1b79302c8f7a3f3a4c5f6f94fc0ad7baea561c121a", func := "loop.example/g00060/laws.FnExactTrayState", spec := "fnExactTrayState", apart := false, narrowed := true }
def FnExactTrayStateUptoSaid : Prop := fnExactTrayStateUptoRow.holds Try.pinned (OpenSpec.upto fnExactTrayStateSpec)

/-- 'laws.FnExactCycleOf', WHERE WHAT IT READS IS OF BULK AT MOST 1048576: true; the input reads as it did. -/
def fnExactCycleOfUptoRow : OpenClaim := { program := "ytgedaobgomnflaa", sum := "3fb1831498587c1cc0586f1b79302c8f7a3f3a4c5f6f94fc0ad7baea561c121a", func := "loop.example/g00060/laws.FnExactCycleOf", spec := "fnExactCycleOf", apart := false, narrowed := true }
def FnExactCycleOfUptoSaid : Prop := fnExactCycleOfUptoRow.holds Try.pinned (OpenSpec.upto fnExactCycleOfSpec)

/-- 'laws.FnExactTouched', WHERE WHAT IT READS IS OF BULK AT MOST 1048576: true; the input reads as it did. -/
def fnExactTouchedUptoRow : OpenClaim := { program := "ytgedaobgomnflaa", sum := "3fb1831498587c1cc0586f1b79302c8f7a3f3a4c5f6f94fc0ad7baea561c121a", func := "loop.example/g00060/laws.FnExactTouched", spec := "fnExactTouched", recurses := true, apart := false, narrowed := true }
def FnExactTouchedUptoSaid : Prop := fnExactTouchedUptoRow.holds Try.pinned (OpenSpec.upto fnExactTouchedSpec)

/-- 'laws.FnExactCyclesOn', WHERE WHAT IT READS IS OF BULK AT MOST 1048576: true; the input reads as it did. -/
def fnExactCyclesOnUptoRow : OpenClaim := { program := "ytgedaobgomnflaa", sum := "3fb1831498587c1cc0586f1b79302c8f7a3f3a4c5f6f94fc0ad7baea561c121a", func := "loop.example/g00060/laws.FnExactCyclesOn", spec := "fnExactCyclesOn", recurses := true, apart := false, narrowed := true }
def FnExactCyclesOnUptoSaid : Prop := fnExactCyclesOnUptoRow.holds Try.pinned (OpenSpec.upto fnExactCyclesOnSpec)

end Rows
end Go.Proofs.Ytgedaobgomnflaa
