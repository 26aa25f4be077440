/-
  No cell of these rows narrows 'for every input' (looked for: loops, veiled, ifaces, maps, wideKeys, modest, calm, conditions, laid).
  DERIVED. THE GIVEN ROWS OF THIS SEAT. 6 by the template 'for every input the law returns true; each argument reads behind the call as it read before'; 0 by the template 'total and deterministic' (their statements: YtcapmobhgffnhaaTotals.lean).
  GIVEN WITH THE SEED: the statements are not yours to turn. If you find one false, say at which input.
  Laid BY PROGRAM, IN A SANDBOX (cutbox-rows.mjs): the forced cells as the released guide's own fill.sh prints them over the translation f1f6eb7688ffcf2c… (all of the seat's roots in one cut). By AI agents, Wed Nov 11 2026. No macro, syntax, notation, axiom, sorry.
-/
import Derived.Test.YtcapmobhgffnhaaChecked
import GoSem.Claim
import GoSem.ClaimJoined
import GoSem.ClaimMapViews
import Derived.JoinedTies
import Derived.KernelRfl
namespace Go.Proofs.Ytcapmobhgffnhaa
/- THE CELL 'sum', in the pinned program and in every row, IS THE sha256 OF THE DUMP (.gsa) THAT YtcapmobhgffnhaaProg.lean LOADS. Nothing in Lean hashes anything: it is a label: what it is worth is what the hold of that sum in a sandbox is worth. -/
noncomputable def Try.pinned : Pinned := { name := "ytcapmobhgffnhaa", sum := "f1f6eb7688ffcf2c811c446b0533c49bebdabc2d40c74e86b8567eba72a81137", checked := Try.checked }
namespace Rows
def none {H : Type} : Left H := { results := [], args := [] }

/-- 'laws.FnClashes': WHATEVER THE INPUT: true; the input reads as it did. -/
def fnClashesSpec : ChangeSpec := { name := "fnClashes", fn := fun _ => fun
  | [d] => { results := [.lit (.bool true)], args := [d] }
  | _ => none }
def fnClashesRow : OpenClaim := { program := "ytcapmobhgffnhaa", sum := "f1f6eb7688ffcf2c811c446b0533c49bebdabc2d40c74e86b8567eba72a81137", func := "loop.example/g00060/laws.FnClashes", spec := "fnClashes", apart := false }
def FnClashesSaid : Prop := fnClashesRow.holds Try.pinned (OpenSpec.ofChange fnClashesSpec)

/-- ITS FALSE NEIGHBOUR: 'it returns false'. Refute it at one input. -/
def fnClashesWrong : ChangeSpec := { name := "fnClashes", fn := fun _ => fun
  | [d] => { results := [.lit (.bool false)], args := [d] }
  | _ => none }
def FnClashesWrongFalsely : Prop := fnClashesRow.holds Try.pinned (OpenSpec.ofChange fnClashesWrong)

/-- 'laws.FnEarliest': WHATEVER THE INPUT: true; the input reads as it did. -/
def fnEarliestSpec : ChangeSpec := { name := "fnEarliest", fn := fun _ => fun
  | [d] => { results := [.lit (.bool true)], args := [d] }
  | _ => none }
def fnEarliestRow : OpenClaim := { program := "ytcapmobhgffnhaa", sum := "f1f6eb7688ffcf2c811c446b0533c49bebdabc2d40c74e86b8567eba72a81137", func := "loop.example/g00060/laws.FnEarliest", spec := "fnEarliest", apart := false }
def FnEarliestSaid : Prop := fnEarliestRow.holds Try.pinned (OpenSpec.ofChange fnEarliestSpec)

/-- ITS FALSE NEIGHBOUR: 'it returns false'. Refute it at one input. -/
def fnEarliestWrong : ChangeSpec := { name := "fnEarliest", fn := fun _ => fun
  | [d] => { results := [.lit (.bool false)], args := [d] }
  | _ => none }
def FnEarliestWrongFalsely : Prop := fnEarliestRow.holds Try.pinned (OpenSpec.ofChange fnEarliestWrong)

/-- 'laws.FnInsert': WHATEVER THE INPUT: true; the input reads as it did. -/
def fnInsertSpec : ChangeSpec := { name := "fnInsert", fn := fun _ => fun
  | [d] => { results := [.lit (.bool true)], args := [d] }
  | _ => none }
def fnInsertRow : OpenClaim := { program := "ytcapmobhgffnhaa", sum := "f1f6eb7688ffcf2c811c446b0533c49bebdabc2d40c74e86b8567eba72a81137", func := "loop.example/g00060/laws.FnInsert", spec := "fnInsert", apart := false }
def FnInsertSaid : Prop := fnInsertRow.holds Try.pinned (OpenSpec.ofChange fnInsertSpec)

/-- ITS FALSE NEIGHBOUR: 'it returns false'. Refute it at one input. -/
def fnInsertWrong : ChangeSpec := { name := "fnInsert", fn := fun _ => fun
  | [d] => { results := [.lit (.bool false)], args := [d] }
  | _ => none }
def FnInsertWrongFalsely : Prop := fnInsertRow.holds Try.pinned (OpenSpec.ofChange fnInsertWrong)

/-- 'laws.FnAlarmDelay': WHATEVER THE INPUT: true; the input reads as it did. -/
def fnAlarmDelaySpec : ChangeSpec := { name := "fnAlarmDelay", fn := fun _ => fun
  | [d] => { results := [.lit (.bool true)], args := [d] }
  | _ => none }
def fnAlarmDelayRow : OpenClaim := { program := "ytcapmobhgffnhaa", sum := "f1f6eb7688ffcf2c811c446b0533c49bebdabc2d40c74e86b8567eba72a81137", func := "loop.example/g00060/laws.FnAlarmDelay", spec := "fnAlarmDelay", unfollowed := true, recurses := true, leaving := true, apart := false }
def FnAlarmDelaySaid : Prop := fnAlarmDelayRow.holds Try.pinned (OpenSpec.ofChange fnAlarmDelaySpec)

/-- ITS FALSE NEIGHBOUR: 'it returns false'. Refute it at one input. -/
def fnAlarmDelayWrong : ChangeSpec := { name := "fnAlarmDelay", fn := fun _ => fun
  | [d] => { results := [.lit (.bool false)], args := [d] }
  | _ => none }
def FnAlarmDelayWrongFalsely : Prop := fnAlarmDelayRow.holds Try.pinned (OpenSpec.ofChange fnAlarmDelayWrong)

/-- 'laws.FnAlarmHeld': WHATEVER THE INPUT: true; the input reads as it did. -/
def fnAlarmHeldSpec : ChangeSpec := { name := "fnAlarmHeld", fn := fun _ => fun
  | [d] => { results := [.lit (.bool true)], args := [d] }
  | _ => none }
def fnAlarmHeldRow : OpenClaim := { program := "ytcapmobhgffnhaa", sum := "f1f6eb7688ffcf2c811c446b0533c49bebdabc2d40c74e86b8567eba72a81137", func := "loop.example/g00060/laws.FnAlarmHeld", spec := "fnAlarmHeld", unfollowed := true, recurses := true, leaving := true, apart := false }
def FnAlarmHeldSaid : Prop := fnAlarmHeldRow.holds Try.pinned (OpenSpec.ofChange fnAlarmHeldSpec)

/-- ITS FALSE NEIGHBOUR: 'it returns false'. Refute it at one input. -/
def fnAlarmHeldWrong : ChangeSpec := { name := "fnAlarmHeld", fn := fun _ => fun
  | [d] => { results := [.lit (.bool false)], args := [d] }
  | _ => none }
def FnAlarmHeldWrongFalsely : Prop := fnAlarmHeldRow.holds Try.pinned (OpenSpec.ofChange fnAlarmHeldWrong)

/-- 'laws.FnQuiet': WHATEVER THE INPUT: true; the input reads as it did. -/
def fnQuietSpec : ChangeSpec := { name := "fnQuiet", fn := fun _ => fun
  | [d] => { results := [.lit (.bool true)], args := [d] }
  | _ => none }
def fnQuietRow : OpenClaim := { program := "ytcapmobhgffnhaa", sum := "f1f6eb7688ffcf2c811c446b0533c49bebdabc2d40c74e86b8567eba72a81137", func := "loop.example/g00060/laws.FnQuiet", spec := "fnQuiet", unfollowed := true, recurses := true, leaving := true, apart := false }
def FnQuietSaid : Prop := fnQuietRow.holds Try.pinned (OpenSpec.ofChange fnQuietSpec)

/-- ITS FALSE NEIGHBOUR: 'it returns false'. Refute it at one input. -/
def fnQuietWrong : ChangeSpec := { name := "fnQuiet", fn := fun _ => fun
  | [d] => { results := [.lit (.bool false)], args := [d] }
  | _ => none }
def FnQuietWrongFalsely : Prop := fnQuietRow.holds Try.pinned (OpenSpec.ofChange fnQuietWrong)

/- THE SECOND FORM. 'bulk': how many values and letters a reading holds, each counted each time it is reached (what is shared counts as often as it is met; a slice's spare places count too). A statement '..UptoSaid' is the law's where the arguments, and the package variables that the reading takes, are together of bulk at most 1048576: NARROWER than '..Said'. Prove '..Said' where nothing that the law and all that it calls make is longer than what came in: it says more and counts as full. Else prove '..UptoSaid'. A law counts once. -/
mutual
def uptoBulk {H : Type} : DataW H → Nat
  | .lit (.string bytes) => bytes.length + 1
  | .lit _ => 1
  | .nil => 1
  | .ptr d => uptoBulk d + 1
  | .slice elems spare => uptoBulkAll elems + uptoBulkAll spare + 1
  | .agg parts => uptoBulkAll parts + 1
  | .iface _ d => uptoBulk d + 1
  | .map entries => uptoBulkEntries entries + 1
  | .held _ => 1
def uptoBulkAll {H : Type} : List (DataW H) → Nat
  | [] => 0
  | d :: r => uptoBulk d + uptoBulkAll r
def uptoBulkEntries {H : Type} : List (Lit × DataW H) → Nat
  | [] => 0
  | x :: r => uptoBulkEntry x + uptoBulkEntries r
def uptoBulkEntry {H : Type} : Lit × DataW H → Nat
  | (.string bytes, d) => bytes.length + uptoBulk d + 1
  | (_, d) => uptoBulk d + 1
 end
def uptoSmall : (H : Type) → List (DataW H) → Bool := fun _ ds => decide (uptoBulkAll ds ≤ 1048576)
def OpenSpec.upto (s : _root_.Go.ChangeSpec) : _root_.Go.OpenSpec := { _root_.Go.OpenSpec.ofChange s with cond := some uptoSmall }

/-- 'laws.FnClashes', WHERE WHAT IT READS IS OF BULK AT MOST 1048576: true; the input reads as it did. -/
def fnClashesUptoRow : OpenClaim := { program := "ytcapmobhgffnhaa", sum := "f1f6eb7688ffcf2c811c446b0533c49bebdabc2d40c74e86b8567eba72a81137", func := "loop.example/g00060/laws.FnClashes", spec := "fnClashes", apart := false, narrowed := true }
def FnClashesUptoSaid : Prop := fnClashesUptoRow.holds Try.pinned (OpenSpec.upto fnClashesSpec)

/-- 'laws.FnEarliest', WHERE WHAT IT READS IS OF BULK AT MOST 1048576: true; the input reads as it did. -/
def fnEarliestUptoRow : OpenClaim := { program := "ytcapmobhgffnhaa", sum := "f1f6eb7688ffcf2c811c446b0533c49bebdabc2d40c74e86b8567eba72a81137", func := "loop.example/g00060/laws.FnEarliest", spec := "fnEarliest", apart := false, narrowed := true }
def FnEarliestUptoSaid : Prop := fnEarliestUptoRow.holds Try.pinned (OpenSpec.upto fnEarliestSpec)

/-- 'laws.FnInsert', WHERE WHAT IT READS IS OF BULK AT MOST 1048576: true; the input reads as it did. -/
def fnInsertUptoRow : OpenClaim := { program := "ytcapmobhgffnhaa", sum := "f1f6eb7688ffcf2c811c446b0533c49bebdabc2d40c74e86b8567eba72a81137", func := "loop.example/g00060/laws.FnInsert", spec := "fnInsert", apart := false, narrowed := true }
def FnInsertUptoSaid : Prop := fnInsertUptoRow.holds Try.pinned (OpenSpec.upto fnInsertSpec)

/-- 'laws.FnAlarmDelay', WHERE WHAT IT READS IS OF BULK AT MOST 1048576: true; the input reads as it did. -/
def fnAlarmDelayUptoRow : OpenClaim := { program := "ytcapmobhgffnhaa", sum := "f1f6eb7688ffcf2c811c446b0533c49bebdabc2d40c74e86b8567eba72a81137", func := "loop.example/g00060/laws.FnAlarmDelay", spec := "fnAlarmDelay", unfollowed := true, recurses := true, leaving := true, apart := false, narrowed := true }
def FnAlarmDelayUptoSaid : Prop := fnAlarmDelayUptoRow.holds Try.pinned (OpenSpec.upto fnAlarmDelaySpec)

/-- 'laws.FnAlarmHeld', WHERE WHAT IT READS IS OF BULK AT MOST 1048576: true; the input reads as it did. -/
def fnAlarmHeldUptoRow : OpenClaim := { program := "ytcapmobhgffnhaa", sum := "f1f6eb7688ffcf2c811c446b0533c49bebdabc2d40c74e86b8567eba72a81137", func := "loop.example/g00060/laws.FnAlarmHeld", spec := "fnAlarmHeld", unfollowed := true, recurses := true, leaving := true, apart := false, narrowed := true }
def FnAlarmHeldUptoSaid : Prop := fnAlarmHeldUptoRow.holds Try.pinned (OpenSpec.upto fnAlarmHeldSpec)

/-- 'laws.FnQuiet', WHERE WHAT IT READS IS OF BULK AT MOST 1048576: true; the input reads as it did. -/
def fnQuietUptoRow : OpenClaim := { program := "ytcapmobhgffnhaa", sum := "f1f6eb7688ffcf2c811c446b0533c49bebdabc2d40c74e86b8567eba72a81137", func := "loop.example/g00060/laws.FnQuiet", spec := "fnQuiet", unfollowed := true, recurses := true, leaving := true, apart := false, narrowed := true }
def FnQuietUptoSaid : Prop := fnQuietUptoRow.holds Try.pinned (OpenSpec.upto fnQuietSpec)

end Rows
end Go.Proofs.Ytcapmobhgffnhaa
