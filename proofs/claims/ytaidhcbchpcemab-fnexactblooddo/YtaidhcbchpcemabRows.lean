/-
  No cell of these rows narrows 'for every input' (looked for: loops, veiled, ifaces, maps, wideKeys, modest, calm, conditions, laid).
  DERIVED. THE GIVEN ROWS OF THIS SEAT. 4 by the template 'for every input the law returns true; each argument reads behind the call as it read before'; 0 by the template 'total and deterministic' (their statements: YtaidhcbchpcemabTotals.lean).
  GIVEN WITH THE SEED: the statements are not yours to turn. If you find one false, say at which input.
  Laid BY PROGRAM, IN A SANDBOX (cutbox-rows.mjs): the forced cells as the released guide's own fill.sh prints them over the translation 7f77eae725defc5a… (all of the seat's roots in one cut). By AI agents, Wed Nov 11 2026. No macro, syntax, notation, axiom, sorry.
-/
import Derived.Test.YtaidhcbchpcemabChecked
import GoSem.Claim
import GoSem.ClaimJoined
import GoSem.ClaimMapViews
import Derived.JoinedTies
import Derived.KernelRfl
namespace Go.Proofs.Ytaidhcbchpcemab
/- THE CELL 'sum', in the pinned program and in every row, IS THE sha256 OF THE DUMP (.gsa) THAT YtaidhcbchpcemabProg.lean LOADS. Nothing in Lean hashes anything: it is a label: what it is worth is what the hold of that sum in a sandbox is worth. -/
noncomputable def Try.pinned : Pinned := { name := "ytaidhcbchpcemab", sum := "7f77eae725defc5a9718a92b8d3827146a9ef2591def4bee4cde44d6a0176ee4", checked := Try.checked }
namespace Rows
def none {H : Type} : Left H := { results := [], args := [] }

/-- 'laws.FnExactFits': WHATEVER THE INPUT: true; the input reads as it did. -/
def fnExactFitsSpec : ChangeSpec := { name := "fnExactFits", fn := fun _ => fun
  | [d1, d2] => { results := [.lit (.bool true)], args := [d1, d2] }
  | _ => none }
def fnExactFitsRow : OpenClaim := { program := "ytaidhcbchpcemab", sum := "7f77eae725defc5a9718a92b8d3827146a9ef2591def4bee4cde44d6a0176ee4", func := "loop.example/g00060/laws.FnExactFits", spec := "fnExactFits", unfollowed := true, recurses := true, apart := false }
def FnExactFitsSaid : Prop := fnExactFitsRow.holds Try.pinned (OpenSpec.ofChange fnExactFitsSpec)

/-- ITS FALSE NEIGHBOUR: 'it returns false'. Refute it at one input. -/
def fnExactFitsWrong : ChangeSpec := { name := "fnExactFits", fn := fun _ => fun
  | [d1, d2] => { results := [.lit (.bool false)], args := [d1, d2] }
  | _ => none }
def FnExactFitsWrongFalsely : Prop := fnExactFitsRow.holds Try.pinned (OpenSpec.ofChange fnExactFitsWrong)

/-- 'laws.FnExactPick': WHATEVER THE INPUT: true; the input reads as it did. -/
def fnExactPickSpec : ChangeSpec := { name := "fnExactPick", fn := fun _ => fun
  | [d1, d2, d3, d4] => { results := [.lit (.bool true)], args := [d1, d2, d3, d4] }
  | _ => none }
def fnExactPickRow : OpenClaim := { program := "ytaidhcbchpcemab", sum := "7f77eae725defc5a9718a92b8d3827146a9ef2591def4bee4cde44d6a0176ee4", func := "loop.example/g00060/laws.FnExactPick", spec := "fnExactPick", unfollowed := true, recurses := true, apart := false }
def FnExactPickSaid : Prop := fnExactPickRow.holds Try.pinned (OpenSpec.ofChange fnExactPickSpec)

/-- ITS FALSE NEIGHBOUR: 'it returns false'. Refute it at one input. -/
def fnExactPickWrong : ChangeSpec := { name := "fnExactPick", fn := fun _ => fun
  | [d1, d2, d3, d4] => { results := [.lit (.bool false)], args := [d1, d2, d3, d4] }
  | _ => none }
def FnExactPickWrongFalsely : Prop := fnExactPickRow.holds Try.pinned (OpenSpec.ofChange fnExactPickWrong)

/-- 'laws.FnExactBloodDo': WHATEVER THE INPUT: true; the input reads as it did. -/
def fnExactBloodDoSpec : ChangeSpec := { name := "fnExactBloodDo", fn := fun _ => fun
  | [d1, d2, d3] => { results := [.lit (.bool true)], args := [d1, d2, d3] }
  | _ => none }
def fnExactBloodDoRow : OpenClaim := { program := "ytaidhcbchpcemab", sum := "7f77eae725defc5a9718a92b8d3827146a9ef2591def4bee4cde44d6a0176ee4", func := "loop.example/g00060/laws.FnExactBloodDo", spec := "fnExactBloodDo", unfollowed := true, recurses := true, apart := false }
def FnExactBloodDoSaid : Prop := fnExactBloodDoRow.holds Try.pinned (OpenSpec.ofChange fnExactBloodDoSpec)

/-- ITS FALSE NEIGHBOUR: 'it returns false'. Refute it at one input. -/
def fnExactBloodDoWrong : ChangeSpec := { name := "fnExactBloodDo", fn := fun _ => fun
  | [d1, d2, d3] => { results := [.lit (.bool false)], args := [d1, d2, d3] }
  | _ => none }
def FnExactBloodDoWrongFalsely : Prop := fnExactBloodDoRow.holds Try.pinned (OpenSpec.ofChange fnExactBloodDoWrong)

/-- 'laws.FnExactTraceUnits': WHATEVER THE INPUT: true; the input reads as it did. -/
def fnExactTraceUnitsSpec : ChangeSpec := { name := "fnExactTraceUnits", fn := fun _ => fun
  | [d1, d2] => { results := [.lit (.bool true)], args := [d1, d2] }
  | _ => none }
def fnExactTraceUnitsRow : OpenClaim := { program := "ytaidhcbchpcemab", sum := "7f77eae725defc5a9718a92b8d3827146a9ef2591def4bee4cde44d6a0176ee4", func := "loop.example/g00060/laws.FnExactTraceUnits", spec := "fnExactTraceUnits", unfollowed := true, recurses := true, apart := false }
def FnExactTraceUnitsSaid : Prop := fnExactTraceUnitsRow.holds Try.pinned (OpenSpec.ofChange fnExactTraceUnitsSpec)

/-- ITS FALSE NEIGHBOUR: 'it returns false'. Refute it at one input. -/
def fnExactTraceUnitsWrong : ChangeSpec := { name := "fnExactTraceUnits", fn := fun _ => fun
  | [d1, d2] => { results := [.lit (.bool false)], args := [d1, d2] }
  | _ => none }
def FnExactTraceUnitsWrongFalsely : Prop := fnExactTraceUnitsRow.holds Try.pinned (OpenSpec.ofChange fnExactTraceUnitsWrong)

/- THE SECOND FORM. 'bulk': how many values and letters a reading holds, each counted each time it is reached (what is shared counts as often as it is met; a slice's spare places count too). A statement '..UptoSaid' is the law's where the arguments, and the package variables that the reading takes, are together of bulk at most 1048576: NARROWER than '..Said'. Prove '..Said' where nothing that the law and all that it calls make is longer than what came in: it says more and counts as full. Else prove '..UptoSaid'. A law counts once. -/
mutual
def uptoBulk {H : Type} : DataW H → Nat
  | .lit (.string bytes) => bytes.length + 1
  | .lit _ => 1
  | .nil => 1
  | .ptr d => uptoBulk d + 1
  | .slice elems spare => uptoBulkAll elems + uptoBulkAll spare + 1
  | .agg parts => uptoBulkAll parts + 1
  | .iface _ d => uptoBulk d + 1
  | .map entries => uptoBulkEntries entries + 1
  | .held _ => 1
def uptoBulkAll {H : Type} : List (DataW H) → Nat
  | [] => 0
  | d :: r => uptoBulk d + uptoBulkAll r
def uptoBulkEntries {H : Type} : List (Lit × DataW H) → Nat
  | [] => 0
  | x :: r => uptoBulkEntry x + uptoBulkEntries r
def uptoBulkEntry {H : Type} : Lit × DataW H → Nat
  | (.string bytes, d) => bytes.length + uptoBulk d + 1
  | (_, d) => uptoBulk d + 1
 end
def uptoSmall : (H : Type) → List (DataW H) → Bool := fun _ ds => decide (uptoBulkAll ds ≤ 1048576)
def OpenSpec.upto (s : _root_.Go.ChangeSpec) : _root_.Go.OpenSpec := { _root_.Go.OpenSpec.ofChange s with cond := some uptoSmall }

/-- 'laws.FnExactFits', WHERE WHAT IT READS IS OF BULK AT MOST 1048576: true; the input reads as it did. -/
def fnExactFitsUptoRow : OpenClaim := { program := "ytaidhcbchpcemab", sum := "7f77eae725defc5a9718a92b8d3827146a9ef2591def4bee4cde44d6a0176ee4", func := "loop.example/g00060/laws.FnExactFits", spec := "fnExactFits", unfollowed := true, recurses := true, apart := false, narrowed := true }
def FnExactFitsUptoSaid : Prop := fnExactFitsUptoRow.holds Try.pinned (OpenSpec.upto fnExactFitsSpec)

/-- 'laws.FnExactPick', WHERE WHAT IT READS IS OF BULK AT MOST 1048576: true; the input reads as it did. -/
def fnExactPickUptoRow : OpenClaim := { program := "ytaidhcbchpcemab", sum := "7f77eae725defc5a9718a92b8d3827146a9ef2591def4bee4cde44d6a0176ee4", func := "loop.example/g00060/laws.FnExactPick", spec := "fnExactPick", unfollowed := true, recurses := true, apart := false, narrowed := true }
def FnExactPickUptoSaid : Prop := fnExactPickUptoRow.holds Try.pinned (OpenSpec.upto fnExactPickSpec)

/-- 'laws.FnExactBloodDo', WHERE WHAT IT READS IS OF BULK AT MOST 1048576: true; the input reads as it did. -/
def fnExactBloodDoUptoRow : OpenClaim := { program := "ytaidhcbchpcemab", sum := "7f77eae725defc5a9718a92b8d3827146a9ef2591def4bee4cde44d6a0176ee4", func := "loop.example/g00060/laws.FnExactBloodDo", spec := "fnExactBloodDo", unfollowed := true, recurses := true, apart := false, narrowed := true }
def FnExactBloodDoUptoSaid : Prop := fnExactBloodDoUptoRow.holds Try.pinned (OpenSpec.upto fnExactBloodDoSpec)

/-- 'laws.FnExactTraceUnits', WHERE WHAT IT READS IS OF BULK AT MOST 1048576: true; the input reads as it did. -/
def fnExactTraceUnitsUptoRow : OpenClaim := { program := "ytaidhcbchpcemab", sum := "7f77eae725defc5a9718a92b8d3827146a9ef2591def4bee4cde44d6a0176ee4", func := "loop.example/g00060/laws.FnExactTraceUnits", spec := "fnExactTraceUnits", unfollowed := true, recurses := true, apart := false, narrowed := true }
def FnExactTraceUnitsUptoSaid : Prop := fnExactTraceUnitsUptoRow.holds Try.pinned (OpenSpec.upto fnExactTraceUnitsSpec)

end Rows
end Go.Proofs.Ytaidhcbchpcemab
