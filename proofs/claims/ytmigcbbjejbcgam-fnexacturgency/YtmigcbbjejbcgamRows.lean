/-
  No cell of these rows narrows 'for every input' (looked for: loops, veiled, ifaces, maps, wideKeys, modest, calm, conditions, laid).
  DERIVED. THE GIVEN ROWS OF THIS SEAT. 6 by the template 'for every input the law returns true; each argument reads behind the call as it read before'; 0 by the template 'total and deterministic' (their statements: YtmigcbbjejbcgamTotals.lean).
  GIVEN WITH THE SEED: the statements are not yours to turn. If you find one false, say at which input.
  Laid BY PROGRAM, IN A SANDBOX (cutbox-rows.mjs): the forced cells as the released guide's own fill.sh prints them over the translation cd28b5ecc8f1e7e1… (all of the seat's roots in one cut). By AI agents, Wed Nov 11 2026. No macro, syntax, notation, axiom, sorry.
-/
import Derived.Test.YtmigcbbjejbcgamChecked
import GoSem.Claim
import GoSem.ClaimJoined
import GoSem.ClaimMapViews
import Derived.JoinedTies
import Derived.KernelRfl
namespace Go.Proofs.Ytmigcbbjejbcgam
/- THE CELL 'sum', in the pinned program and in every row, IS THE sha256 OF THE DUMP (.gsa) THAT YtmigcbbjejbcgamProg.lean LOADS. Nothing in Lean hashes anything: it is a label: what it is worth is what the hold of that sum in a sandbox is worth. -/
noncomputable def Try.pinned : Pinned := { name := "ytmigcbbjejbcgam", sum := "cd28b5ecc8f1e7e158aab3b59031f427fc002d19967d8763fcf0360c79ec5c85", checked := Try.checked }
namespace Rows
def none {H : Type} : Left H := { results := [], args := [] }

/-- 'laws.FnExactHouseDo': WHATEVER THE INPUT: true; the input reads as it did. -/
def fnExactHouseDoSpec : ChangeSpec := { name := "fnExactHouseDo", fn := fun _ => fun
  | [d1, d2] => { results := [.lit (.bool true)], args := [d1, d2] }
  | _ => none }
def fnExactHouseDoRow : OpenClaim := { program := "ytmigcbbjejbcgam", sum := "cd28b5ecc8f1e7e158aab3b59031f427fc002d19967d8763fcf0360c79ec5c85", func := "loop.example/g00060/laws.FnExactHouseDo", spec := "fnExactHouseDo", unfollowed := true, recurses := true, apart := false }
def FnExactHouseDoSaid : Prop := fnExactHouseDoRow.holds Try.pinned (OpenSpec.ofChange fnExactHouseDoSpec)

/-- ITS FALSE NEIGHBOUR: 'it returns false'. Refute it at one input. -/
def fnExactHouseDoWrong : ChangeSpec := { name := "fnExactHouseDo", fn := fun _ => fun
  | [d1, d2] => { results := [.lit (.bool false)], args := [d1, d2] }
  | _ => none }
def FnExactHouseDoWrongFalsely : Prop := fnExactHouseDoRow.holds Try.pinned (OpenSpec.ofChange fnExactHouseDoWrong)

/-- 'laws.FnExactWhereAt': WHATEVER THE INPUT: true; the input reads as it did. -/
def fnExactWhereAtSpec : ChangeSpec := { name := "fnExactWhereAt", fn := fun _ => fun
  | [d1, d2, d3] => { results := [.lit (.bool true)], args := [d1, d2, d3] }
  | _ => none }
def fnExactWhereAtRow : OpenClaim := { program := "ytmigcbbjejbcgam", sum := "cd28b5ecc8f1e7e158aab3b59031f427fc002d19967d8763fcf0360c79ec5c85", func := "loop.example/g00060/laws.FnExactWhereAt", spec := "fnExactWhereAt", unfollowed := true, recurses := true, apart := false }
def FnExactWhereAtSaid : Prop := fnExactWhereAtRow.holds Try.pinned (OpenSpec.ofChange fnExactWhereAtSpec)

/-- ITS FALSE NEIGHBOUR: 'it returns false'. Refute it at one input. -/
def fnExactWhereAtWrong : ChangeSpec := { name := "fnExactWhereAt", fn := fun _ => fun
  | [d1, d2, d3] => { results := [.lit (.bool false)], args := [d1, d2, d3] }
  | _ => none }
def FnExactWhereAtWrongFalsely : Prop := fnExactWhereAtRow.holds Try.pinned (OpenSpec.ofChange fnExactWhereAtWrong)

/-- 'laws.FnExactMinutes': WHATEVER THE INPUT: true; the input reads as it did. -/
def fnExactMinutesSpec : ChangeSpec := { name := "fnExactMinutes", fn := fun _ => fun
  | [d1, d2, d3] => { results := [.lit (.bool true)], args := [d1, d2, d3] }
  | _ => none }
def fnExactMinutesRow : OpenClaim := { program := "ytmigcbbjejbcgam", sum := "cd28b5ecc8f1e7e158aab3b59031f427fc002d19967d8763fcf0360c79ec5c85", func := "loop.example/g00060/laws.FnExactMinutes", spec := "fnExactMinutes", unfollowed := true, recurses := true, apart := false }
def FnExactMinutesSaid : Prop := fnExactMinutesRow.holds Try.pinned (OpenSpec.ofChange fnExactMinutesSpec)

/-- ITS FALSE NEIGHBOUR: 'it returns false'. Refute it at one input. -/
def fnExactMinutesWrong : ChangeSpec := { name := "fnExactMinutes", fn := fun _ => fun
  | [d1, d2, d3] => { results := [.lit (.bool false)], args := [d1, d2, d3] }
  | _ => none }
def FnExactMinutesWrongFalsely : Prop := fnExactMinutesRow.holds Try.pinned (OpenSpec.ofChange fnExactMinutesWrong)

/-- 'laws.FnExactVitalOk': WHATEVER THE INPUT: true; the input reads as it did. -/
def fnExactVitalOkSpec : ChangeSpec := { name := "fnExactVitalOk", fn := fun _ => fun
  | [d] => { results := [.lit (.bool true)], args := [d] }
  | _ => none }
def fnExactVitalOkRow : OpenClaim := { program := "ytmigcbbjejbcgam", sum := "cd28b5ecc8f1e7e158aab3b59031f427fc002d19967d8763fcf0360c79ec5c85", func := "loop.example/g00060/laws.FnExactVitalOk", spec := "fnExactVitalOk", unfollowed := true, recurses := true, apart := false }
def FnExactVitalOkSaid : Prop := fnExactVitalOkRow.holds Try.pinned (OpenSpec.ofChange fnExactVitalOkSpec)

/-- ITS FALSE NEIGHBOUR: 'it returns false'. Refute it at one input. -/
def fnExactVitalOkWrong : ChangeSpec := { name := "fnExactVitalOk", fn := fun _ => fun
  | [d] => { results := [.lit (.bool false)], args := [d] }
  | _ => none }
def FnExactVitalOkWrongFalsely : Prop := fnExactVitalOkRow.holds Try.pinned (OpenSpec.ofChange fnExactVitalOkWrong)

/-- 'laws.FnExactPoints': WHATEVER THE INPUT: true; the input reads as it did. -/
def fnExactPointsSpec : ChangeSpec := { name := "fnExactPoints", fn := fun _ => fun
  | [d] => { results := [.lit (.bool true)], args := [d] }
  | _ => none }
def fnExactPointsRow : OpenClaim := { program := "ytmigcbbjejbcgam", sum := "cd28b5ecc8f1e7e158aab3b59031f427fc002d19967d8763fcf0360c79ec5c85", func := "loop.example/g00060/laws.FnExactPoints", spec := "fnExactPoints", unfollowed := true, recurses := true, apart := false }
def FnExactPointsSaid : Prop := fnExactPointsRow.holds Try.pinned (OpenSpec.ofChange fnExactPointsSpec)

/-- ITS FALSE NEIGHBOUR: 'it returns false'. Refute it at one input. -/
def fnExactPointsWrong : ChangeSpec := { name := "fnExactPoints", fn := fun _ => fun
  | [d] => { results := [.lit (.bool false)], args := [d] }
  | _ => none }
def FnExactPointsWrongFalsely : Prop := fnExactPointsRow.holds Try.pinned (OpenSpec.ofChange fnExactPointsWrong)

/-- 'laws.FnExactUrgency': WHATEVER THE INPUT: true; the input reads as it did. -/
def fnExactUrgencySpec : ChangeSpec := { name := "fnExactUrgency", fn := fun _ => fun
  | [d] => { results := [.lit (.bool true)], args := [d] }
  | _ => none }
def fnExactUrgencyRow : OpenClaim := { program := "ytmigcbbjejbcgam", sum := "cd28b5ecc8f1e7e158aab3b59031f427fc002d19967d8763fcf0360c79ec5c85", func := "loop.example/g00060/laws.FnExactUrgency", spec := "fnExactUrgency", unfollowed := true, recurses := true, apart := false }
def FnExactUrgencySaid : Prop := fnExactUrgencyRow.holds Try.pinned (OpenSpec.ofChange fnExactUrgencySpec)

/-- ITS FALSE NEIGHBOUR: 'it returns false'. Refute it at one input. -/
def fnExactUrgencyWrong : ChangeSpec := { name := "fnExactUrgency", fn := fun _ => fun
  | [d] => { results := [.lit (.bool false)], args := [d] }
  | _ => none }
def FnExactUrgencyWrongFalsely : Prop := fnExactUrgencyRow.holds Try.pinned (OpenSpec.ofChange fnExactUrgencyWrong)

/- THE SECOND FORM. 'bulk': how many values and letters a reading holds, each counted each time it is reached (what is shared counts as often as it is met; a slice's spare places count too). A statement '..UptoSaid' is the law's where the arguments, and the package variables that the reading takes, are together of bulk at most 1048576: NARROWER than '..Said'. Prove '..Said' where nothing that the law and all that it calls make is longer than what came in: it says more and counts as full. Else prove '..UptoSaid'. A law counts once. -/
mutual
def uptoBulk {H : Type} : DataW H → Nat
  | .lit (.string bytes) => bytes.length + 1
  | .lit _ => 1
  | .nil => 1
  | .ptr d => uptoBulk d + 1
  | .slice elems spare => uptoBulkAll elems + uptoBulkAll spare + 1
  | .agg parts => uptoBulkAll parts + 1
  | .iface _ d => uptoBulk d + 1
  | .map entries => uptoBulkEntries entries + 1
  | .held _ => 1
def uptoBulkAll {H : Type} : List (DataW H) → Nat
  | [] => 0
  | d :: r => uptoBulk d + uptoBulkAll r
def uptoBulkEntries {H : Type} : List (Lit × DataW H) → Nat
  | [] => 0
  | x :: r => uptoBulkEntry x + uptoBulkEntries r
def uptoBulkEntry {H : Type} : Lit × DataW H → Nat
  | (.string bytes, d) => bytes.length + uptoBulk d + 1
  | (_, d) => uptoBulk d + 1
 end
def uptoSmall : (H : Type) → List (DataW H) → Bool := fun _ ds => decide (uptoBulkAll ds ≤ 1048576)
def OpenSpec.upto (s : _root_.Go.ChangeSpec) : _root_.Go.OpenSpec := { _root_.Go.OpenSpec.ofChange s with cond := some uptoSmall }

/-- 'laws.FnExactHouseDo', WHERE WHAT IT READS IS OF BULK AT MOST 1048576: true; the input reads as it did. -/
def fnExactHouseDoUptoRow : OpenClaim := { program := "ytmigcbbjejbcgam", sum := "cd28b5ecc8f1e7e158aab3b59031f427fc002d19967d8763fcf0360c79ec5c85", func := "loop.example/g00060/laws.FnExactHouseDo", spec := "fnExactHouseDo", unfollowed := true, recurses := true, apart := false, narrowed := true }
def FnExactHouseDoUptoSaid : Prop := fnExactHouseDoUptoRow.holds Try.pinned (OpenSpec.upto fnExactHouseDoSpec)

/-- 'laws.FnExactWhereAt', WHERE WHAT IT READS IS OF BULK AT MOST 1048576: true; the input reads as it did. -/
def fnExactWhereAtUptoRow : OpenClaim := { program := "ytmigcbbjejbcgam", sum := "cd28b5ecc8f1e7e158aab3b59031f427fc002d19967d8763fcf0360c79ec5c85", func := "loop.example/g00060/laws.FnExactWhereAt", spec := "fnExactWhereAt", unfollowed := true, recurses := true, apart := false, narrowed := true }
def FnExactWhereAtUptoSaid : Prop := fnExactWhereAtUptoRow.holds Try.pinned (OpenSpec.upto fnExactWhereAtSpec)

/-- 'laws.FnExactMinutes', WHERE WHAT IT READS IS OF BULK AT MOST 1048576: true; the input reads as it did. -/
def fnExactMinutesUptoRow : OpenClaim := { program := "ytmigcbbjejbcgam", sum := "cd28b5ecc8f1e7e158aab3b59031f427fc002d19967d8763fcf0360c79ec5c85", func := "loop.example/g00060/laws.FnExactMinutes", spec := "fnExactMinutes", unfollowed := true, recurses := true, apart := false, narrowed := true }
def FnExactMinutesUptoSaid : Prop := fnExactMinutesUptoRow.holds Try.pinned (OpenSpec.upto fnExactMinutesSpec)

/-- 'laws.FnExactVitalOk', WHERE WHAT IT READS IS OF BULK AT MOST 1048576: true; the input reads as it did. -/
def fnExactVitalOkUptoRow : OpenClaim := { program := "ytmigcbbjejbcgam", sum := "cd28b5ecc8f1e7e158aab3b59031f427fc002d19967d8763fcf0360c79ec5c85", func := "loop.example/g00060/laws.FnExactVitalOk", spec := "fnExactVitalOk", unfollowed := true, recurses := true, apart := false, narrowed := true }
def FnExactVitalOkUptoSaid : Prop := fnExactVitalOkUptoRow.holds Try.pinned (OpenSpec.upto fnExactVitalOkSpec)

/-- 'laws.FnExactPoints', WHERE WHAT IT READS IS OF BULK AT MOST 1048576: true; the input reads as it did. -/
def fnExactPointsUptoRow : OpenClaim := { program := "ytmigcbbjejbcgam", sum := "cd28b5ecc8f1e7e158aab3b59031f427fc002d19967d8763fcf0360c79ec5c85", func := "loop.example/g00060/laws.FnExactPoints", spec := "fnExactPoints", unfollowed := true, recurses := true, apart := false, narrowed := true }
def FnExactPointsUptoSaid : Prop := fnExactPointsUptoRow.holds Try.pinned (OpenSpec.upto fnExactPointsSpec)

/-- 'laws.FnExactUrgency', WHERE WHAT IT READS IS OF BULK AT MOST 1048576: true; the input reads as it did. -/
def fnExactUrgencyUptoRow : OpenClaim := { program := "ytmigcbbjejbcgam", sum := "cd28b5ecc8f1e7e158aab3b59031f427fc002d19967d8763fcf0360c79ec5c85", func := "loop.example/g00060/laws.FnExactUrgency", spec := "fnExactUrgency", unfollowed := true, recurses := true, apart := false, narrowed := true }
def FnExactUrgencyUptoSaid : Prop := fnExactUrgencyUptoRow.holds Try.pinned (OpenSpec.upto fnExactUrgencySpec)

end Rows
end Go.Proofs.Ytmigcbbjejbcgam
