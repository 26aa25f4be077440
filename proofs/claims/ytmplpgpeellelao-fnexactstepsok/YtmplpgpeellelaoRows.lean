/-
  No cell of these rows narrows 'for every input' (looked for: loops, veiled, ifaces, maps, wideKeys, modest, calm, conditions, laid).
  DERIVED. THE GIVEN ROWS OF THIS SEAT. 6 by the template 'for every input the law returns true; each argument reads behind the call as it read before'; 0 by the template 'total and deterministic' (their statements: YtmplpgpeellelaoTotals.lean).
  GIVEN WITH THE SEED: the statements are not yours to turn. If you find one false, say at which input.
  Laid BY PROGRAM, IN A SANDBOX (cutbox-rows.mjs): the forced cells as the released guide's own fill.sh prints them over the translation 94ad8d6a39d36003… (all of the seat's roots in one cut). By AI agents, Wed Nov 11 2026. No macro, syntax, notation, axiom, sorry.
-/
import Derived.Test.YtmplpgpeellelaoChecked
import GoSem.Claim
import GoSem.ClaimJoined
import GoSem.ClaimMapViews
import Derived.JoinedTies
import Derived.KernelRfl
namespace Go.Proofs.Ytmplpgpeellelao
/- THE CELL 'sum', in the pinned program and in every row, IS THE sha256 OF THE DUMP (.gsa) THAT YtmplpgpeellelaoProg.lean LOADS. Nothing in Lean hashes anything: it is a label: what it is worth is what the hold of that sum in a sandbox is worth. -/
noncomputable def Try.pinned : Pinned := { name := "ytmplpgpeellelao", sum := "94ad8d6a39d360033232d909bc7895c33b458add958dbaf5a51dfacfe9f1bc1a", checked := Try.checked }
namespace Rows
def none {H : Type} : Left H := { results := [], args := [] }

/-- 'laws.FnExactEarliest': WHATEVER THE INPUT: true; the input reads as it did. -/
def fnExactEarliestSpec : ChangeSpec := { name := "fnExactEarliest", fn := fun _ => fun
  | [d1, d2, d3] => { results := [.lit (.bool true)], args := [d1, d2, d3] }
  | _ => none }
def fnExactEarliestRow : OpenClaim := { program := "ytmplpgpeellelao", sum := "94ad8d6a39d360033232d909bc7895c33b458add958dbaf5a51dfacfe9f1bc1a", func := "loop.example/g00060/laws.FnExactEarliest", spec := "fnExactEarliest", apart := false }
def FnExactEarliestSaid : Prop := fnExactEarliestRow.holds Try.pinned (OpenSpec.ofChange fnExactEarliestSpec)

/-- ITS FALSE NEIGHBOUR: 'it returns false'. Refute it at one input. -/
def fnExactEarliestWrong : ChangeSpec := { name := "fnExactEarliest", fn := fun _ => fun
  | [d1, d2, d3] => { results := [.lit (.bool false)], args := [d1, d2, d3] }
  | _ => none }
def FnExactEarliestWrongFalsely : Prop := fnExactEarliestRow.holds Try.pinned (OpenSpec.ofChange fnExactEarliestWrong)

/-- 'laws.FnExactInsert': WHATEVER THE INPUT: true; the input reads as it did. -/
def fnExactInsertSpec : ChangeSpec := { name := "fnExactInsert", fn := fun _ => fun
  | [d1, d2, d3] => { results := [.lit (.bool true)], args := [d1, d2, d3] }
  | _ => none }
def fnExactInsertRow : OpenClaim := { program := "ytmplpgpeellelao", sum := "94ad8d6a39d360033232d909bc7895c33b458add958dbaf5a51dfacfe9f1bc1a", func := "loop.example/g00060/laws.FnExactInsert", spec := "fnExactInsert", apart := false }
def FnExactInsertSaid : Prop := fnExactInsertRow.holds Try.pinned (OpenSpec.ofChange fnExactInsertSpec)

/-- ITS FALSE NEIGHBOUR: 'it returns false'. Refute it at one input. -/
def fnExactInsertWrong : ChangeSpec := { name := "fnExactInsert", fn := fun _ => fun
  | [d1, d2, d3] => { results := [.lit (.bool false)], args := [d1, d2, d3] }
  | _ => none }
def FnExactInsertWrongFalsely : Prop := fnExactInsertRow.holds Try.pinned (OpenSpec.ofChange fnExactInsertWrong)

/-- 'laws.FnExactBusy': WHATEVER THE INPUT: true; the input reads as it did. -/
def fnExactBusySpec : ChangeSpec := { name := "fnExactBusy", fn := fun _ => fun
  | [d1, d2] => { results := [.lit (.bool true)], args := [d1, d2] }
  | _ => none }
def fnExactBusyRow : OpenClaim := { program := "ytmplpgpeellelao", sum := "94ad8d6a39d360033232d909bc7895c33b458add958dbaf5a51dfacfe9f1bc1a", func := "loop.example/g00060/laws.FnExactBusy", spec := "fnExactBusy", apart := false }
def FnExactBusySaid : Prop := fnExactBusyRow.holds Try.pinned (OpenSpec.ofChange fnExactBusySpec)

/-- ITS FALSE NEIGHBOUR: 'it returns false'. Refute it at one input. -/
def fnExactBusyWrong : ChangeSpec := { name := "fnExactBusy", fn := fun _ => fun
  | [d1, d2] => { results := [.lit (.bool false)], args := [d1, d2] }
  | _ => none }
def FnExactBusyWrongFalsely : Prop := fnExactBusyRow.holds Try.pinned (OpenSpec.ofChange fnExactBusyWrong)

/-- 'laws.FnExactStepsOk': WHATEVER THE INPUT: true; the input reads as it did. -/
def fnExactStepsOkSpec : ChangeSpec := { name := "fnExactStepsOk", fn := fun _ => fun
  | [d] => { results := [.lit (.bool true)], args := [d] }
  | _ => none }
def fnExactStepsOkRow : OpenClaim := { program := "ytmplpgpeellelao", sum := "94ad8d6a39d360033232d909bc7895c33b458add958dbaf5a51dfacfe9f1bc1a", func := "loop.example/g00060/laws.FnExactStepsOk", spec := "fnExactStepsOk", apart := false }
def FnExactStepsOkSaid : Prop := fnExactStepsOkRow.holds Try.pinned (OpenSpec.ofChange fnExactStepsOkSpec)

/-- ITS FALSE NEIGHBOUR: 'it returns false'. Refute it at one input. -/
def fnExactStepsOkWrong : ChangeSpec := { name := "fnExactStepsOk", fn := fun _ => fun
  | [d] => { results := [.lit (.bool false)], args := [d] }
  | _ => none }
def FnExactStepsOkWrongFalsely : Prop := fnExactStepsOkRow.holds Try.pinned (OpenSpec.ofChange fnExactStepsOkWrong)

/-- 'laws.FnExactTrayDo': WHATEVER THE INPUT: true; the input reads as it did. -/
def fnExactTrayDoSpec : ChangeSpec := { name := "fnExactTrayDo", fn := fun _ => fun
  | [d] => { results := [.lit (.bool true)], args := [d] }
  | _ => none }
def fnExactTrayDoRow : OpenClaim := { program := "ytmplpgpeellelao", sum := "94ad8d6a39d360033232d909bc7895c33b458add958dbaf5a51dfacfe9f1bc1a", func := "loop.example/g00060/laws.FnExactTrayDo", spec := "fnExactTrayDo", apart := false }
def FnExactTrayDoSaid : Prop := fnExactTrayDoRow.holds Try.pinned (OpenSpec.ofChange fnExactTrayDoSpec)

/-- ITS FALSE NEIGHBOUR: 'it returns false'. Refute it at one input. -/
def fnExactTrayDoWrong : ChangeSpec := { name := "fnExactTrayDo", fn := fun _ => fun
  | [d] => { results := [.lit (.bool false)], args := [d] }
  | _ => none }
def FnExactTrayDoWrongFalsely : Prop := fnExactTrayDoRow.holds Try.pinned (OpenSpec.ofChange fnExactTrayDoWrong)

/-- 'laws.FnExactTrayState': WHATEVER THE INPUT: true; the input reads as it did. -/
def fnExactTrayStateSpec : ChangeSpec := { name := "fnExactTrayState", fn := fun _ => fun
  | [d1, d2] => { results := [.lit (.bool true)], args := [d1, d2] }
  | _ => none }
def fnExactTrayStateRow : OpenClaim := { program := "ytmplpgpeellelao", sum := "94ad8d6a39d360033232d909bc7895c33b458add958dbaf5a51dfacfe9f1bc1a", func := "loop.example/g00060/laws.FnExactTrayState", spec := "fnExactTrayState", apart := false }
def FnExactTrayStateSaid : Prop := fnExactTrayStateRow.holds Try.pinned (OpenSpec.ofChange fnExactTrayStateSpec)

/-- ITS FALSE NEIGHBOUR: 'it returns false'. Refute it at one input. -/
def fnExactTrayStateWrong : ChangeSpec := { name := "fnExactTrayState", fn := fun _ => fun
  | [d1, d2] => { results := [.lit (.bool false)], args := [d1, d2] }
  | _ => none }
def FnExactTrayStateWrongFalsely : Prop := fnExactTrayStateRow.holds Try.pinned (OpenSpec.ofChange fnExactTrayStateWrong)

/- THE SECOND FORM. 'bulk': how many values and letters a reading holds, each counted each time it is reached (what is shared counts as often as it is met; a slice's spare places count too). A statement '..UptoSaid' is the law's where the arguments, and the package variables that the reading takes, are together of bulk at most 1048576: NARROWER than '..Said'. Prove '..Said' where nothing that the law and all that it calls make is longer than what came in: it says more and counts as full. Else prove '..UptoSaid'. A law counts once. -/
mutual
def uptoBulk {H : Type} : DataW H → Nat
  | .lit (.string bytes) => bytes.length + 1
  | .lit _ => 1
  | .nil => 1
  | .ptr d => uptoBulk d + 1
  | .slice elems spare => uptoBulkAll elems + uptoBulkAll spare + 1
  | .agg parts => uptoBulkAll parts + 1
  | .iface _ d => uptoBulk d + 1
  | .map entries => uptoBulkEntries entries + 1
  | .held _ => 1
def uptoBulkAll {H : Type} : List (DataW H) → Nat
  | [] => 0
  | d :: r => uptoBulk d + uptoBulkAll r
def uptoBulkEntries {H : Type} : List (Lit × DataW H) → Nat
  | [] => 0
  | x :: r => uptoBulkEntry x + uptoBulkEntries r
def uptoBulkEntry {H : Type} : Lit × DataW H → Nat
  | (.string bytes, d) => bytes.length + uptoBulk d + 1
  | (_, d) => uptoBulk d + 1
 end
def uptoSmall : (H : Type) → List (DataW H) → Bool := fun _ ds => decide (uptoBulkAll ds ≤ 1048576)
def OpenSpec.upto (s : _root_.Go.ChangeSpec) : _root_.Go.OpenSpec := { _root_.Go.OpenSpec.ofChange s with cond := some uptoSmall }

/-- 'laws.FnExactEarliest', WHERE WHAT IT READS IS OF BULK AT MOST 1048576: true; the input reads as it did. -/
def fnExactEarliestUptoRow : OpenClaim := { program := "ytmplpgpeellelao", sum := "94ad8d6a39d360033232d909bc7895c33b458add958dbaf5a51dfacfe9f1bc1a", func := "loop.example/g00060/laws.FnExactEarliest", spec := "fnExactEarliest", apart := false, narrowed := true }
def FnExactEarliestUptoSaid : Prop := fnExactEarliestUptoRow.holds Try.pinned (OpenSpec.upto fnExactEarliestSpec)

/-- 'laws.FnExactInsert', WHERE WHAT IT READS IS OF BULK AT MOST 1048576: true; the input reads as it did. -/
def fnExactInsertUptoRow : OpenClaim := { program := "ytmplpgpeellelao", sum := "94ad8d6a39d360033232d909bc7895c33b458add958dbaf5a51dfacfe9f1bc1a", func := "loop.example/g00060/laws.FnExactInsert", spec := "fnExactInsert", apart := false, narrowed := true }
def FnExactInsertUptoSaid : Prop := fnExactInsertUptoRow.holds Try.pinned (OpenSpec.upto fnExactInsertSpec)

/-- 'laws.FnExactBusy', WHERE WHAT IT READS IS OF BULK AT MOST 1048576: true; the input reads as it did. -/
def fnExactBusyUptoRow : OpenClaim := { program := "ytmplpgpeellelao", sum := "94ad8d6a39d360033232d909bc7895c33b458add958dbaf5a51dfacfe9f1bc1a", func := "loop.example/g00060/laws.FnExactBusy", spec := "fnExactBusy", apart := false, narrowed := true }
def FnExactBusyUptoSaid : Prop := fnExactBusyUptoRow.holds Try.pinned (OpenSpec.upto fnExactBusySpec)

/-- 'laws.FnExactStepsOk', WHERE WHAT IT READS IS OF BULK AT MOST 1048576: true; the input reads as it did. -/
def fnExactStepsOkUptoRow : OpenClaim := { program := "ytmplpgpeellelao", sum := "94ad8d6a39d360033232d909bc7895c33b458add958dbaf5a51dfacfe9f1bc1a", func := "loop.example/g00060/laws.FnExactStepsOk", spec := "fnExactStepsOk", apart := false, narrowed := true }
def FnExactStepsOkUptoSaid : Prop := fnExactStepsOkUptoRow.holds Try.pinned (OpenSpec.upto fnExactStepsOkSpec)

/-- 'laws.FnExactTrayDo', WHERE WHAT IT READS IS OF BULK AT MOST 1048576: true; the input reads as it did. -/
def fnExactTrayDoUptoRow : OpenClaim := { program := "ytmplpgpeellelao", sum := "94ad8d6a39d360033232d909bc7895c33b458add958dbaf5a51dfacfe9f1bc1a", func := "loop.example/g00060/laws.FnExactTrayDo", spec := "fnExactTrayDo", apart := false, narrowed := true }
def FnExactTrayDoUptoSaid : Prop := fnExactTrayDoUptoRow.holds Try.pinned (OpenSpec.upto fnExactTrayDoSpec)

/-- 'laws.FnExactTrayState', WHERE WHAT IT READS IS OF BULK AT MOST 1048576: true; the input reads as it did. -/
def fnExactTrayStateUptoRow : OpenClaim := { program := "ytmplpgpeellelao", sum := "94ad8d6a39d360033232d909bc7895c33b458add958dbaf5a51dfacfe9f1bc1a", func := "loop.example/g00060/laws.FnExactTrayState", spec := "fnExactTrayState", apart := false, narrowed := true }
def FnExactTrayStateUptoSaid : Prop := fnExactTrayStateUptoRow.holds Try.pinned (OpenSpec.upto fnExactTrayStateSpec)

end Rows
end Go.Proofs.Ytmplpgpeellelao
