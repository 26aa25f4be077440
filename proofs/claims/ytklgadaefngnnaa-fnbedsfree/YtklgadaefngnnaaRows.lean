/-
  No cell of these rows narrows 'for every input' (looked for: loops, veiled, ifaces, maps, wideKeys, modest, calm, conditions, laid).
  DERIVED. THE GIVEN ROWS OF THIS SEAT. 5 by the template 'for every input the law returns true; each argument reads behind the call as it read before'; 0 by the template 'total and deterministic' (their statements: YtklgadaefngnnaaTotals.lean).
  GIVEN WITH THE SEED: the statements are not yours to turn. If you find one false, say at which input.
  Laid BY PROGRAM, IN A SANDBOX (cutbox-rows.mjs): the forced cells as the released guide's own fill.sh prints them over the translation 93115980622554b9… (all of the seat's roots in one cut). By AI agents, Wed Nov 11 2026. No macro, syntax, notation, axiom, sorry.
-/
import Derived.Test.YtklgadaefngnnaaChecked
import GoSem.Claim
import GoSem.ClaimJoined
import GoSem.ClaimMapViews
import Derived.JoinedTies
import Derived.KernelRfl
namespace Go.Proofs.Ytklgadaefngnnaa
/- THE CELL 'sum', in the pinned program and in every row, IS THE sha256 OF THE DUMP (.gsa) THAT YtklgadaefngnnaaProg.lean LOADS. Nothing in Lean hashes anything: it is a label: what it is worth is what the hold of that sum in a sandbox is worth. -/
noncomputable def Try.pinned : Pinned := { name := "ytklgadaefngnnaa", sum := "93115980622554b929829a5d3f21f457ef1c32be062291184ea866f1034342bf", checked := Try.checked }
namespace Rows
def none {H : Type} : Left H := { results := [], args := [] }

/-- 'laws.FnHouseKept': WHATEVER THE INPUT: true; the input reads as it did. -/
def fnHouseKeptSpec : ChangeSpec := { name := "fnHouseKept", fn := fun _ => fun
  | [d] => { results := [.lit (.bool true)], args := [d] }
  | _ => none }
def fnHouseKeptRow : OpenClaim := { program := "ytklgadaefngnnaa", sum := "93115980622554b929829a5d3f21f457ef1c32be062291184ea866f1034342bf", func := "loop.example/g00060/laws.FnHouseKept", spec := "fnHouseKept", unfollowed := true, recurses := true, apart := false }
def FnHouseKeptSaid : Prop := fnHouseKeptRow.holds Try.pinned (OpenSpec.ofChange fnHouseKeptSpec)

/-- ITS FALSE NEIGHBOUR: 'it returns false'. Refute it at one input. -/
def fnHouseKeptWrong : ChangeSpec := { name := "fnHouseKept", fn := fun _ => fun
  | [d] => { results := [.lit (.bool false)], args := [d] }
  | _ => none }
def FnHouseKeptWrongFalsely : Prop := fnHouseKeptRow.holds Try.pinned (OpenSpec.ofChange fnHouseKeptWrong)

/-- 'laws.FnBedsFree': WHATEVER THE INPUT: true; the input reads as it did. -/
def fnBedsFreeSpec : ChangeSpec := { name := "fnBedsFree", fn := fun _ => fun
  | [d] => { results := [.lit (.bool true)], args := [d] }
  | _ => none }
def fnBedsFreeRow : OpenClaim := { program := "ytklgadaefngnnaa", sum := "93115980622554b929829a5d3f21f457ef1c32be062291184ea866f1034342bf", func := "loop.example/g00060/laws.FnBedsFree", spec := "fnBedsFree", unfollowed := true, recurses := true, apart := false }
def FnBedsFreeSaid : Prop := fnBedsFreeRow.holds Try.pinned (OpenSpec.ofChange fnBedsFreeSpec)

/-- ITS FALSE NEIGHBOUR: 'it returns false'. Refute it at one input. -/
def fnBedsFreeWrong : ChangeSpec := { name := "fnBedsFree", fn := fun _ => fun
  | [d] => { results := [.lit (.bool false)], args := [d] }
  | _ => none }
def FnBedsFreeWrongFalsely : Prop := fnBedsFreeRow.holds Try.pinned (OpenSpec.ofChange fnBedsFreeWrong)

/-- 'laws.FnClashes': WHATEVER THE INPUT: true; the input reads as it did. -/
def fnClashesSpec : ChangeSpec := { name := "fnClashes", fn := fun _ => fun
  | [d] => { results := [.lit (.bool true)], args := [d] }
  | _ => none }
def fnClashesRow : OpenClaim := { program := "ytklgadaefngnnaa", sum := "93115980622554b929829a5d3f21f457ef1c32be062291184ea866f1034342bf", func := "loop.example/g00060/laws.FnClashes", spec := "fnClashes", apart := false }
def FnClashesSaid : Prop := fnClashesRow.holds Try.pinned (OpenSpec.ofChange fnClashesSpec)

/-- ITS FALSE NEIGHBOUR: 'it returns false'. Refute it at one input. -/
def fnClashesWrong : ChangeSpec := { name := "fnClashes", fn := fun _ => fun
  | [d] => { results := [.lit (.bool false)], args := [d] }
  | _ => none }
def FnClashesWrongFalsely : Prop := fnClashesRow.holds Try.pinned (OpenSpec.ofChange fnClashesWrong)

/-- 'laws.FnSterile': WHATEVER THE INPUT: true; the input reads as it did. -/
def fnSterileSpec : ChangeSpec := { name := "fnSterile", fn := fun _ => fun
  | [d] => { results := [.lit (.bool true)], args := [d] }
  | _ => none }
def fnSterileRow : OpenClaim := { program := "ytklgadaefngnnaa", sum := "93115980622554b929829a5d3f21f457ef1c32be062291184ea866f1034342bf", func := "loop.example/g00060/laws.FnSterile", spec := "fnSterile", recurses := true, apart := false }
def FnSterileSaid : Prop := fnSterileRow.holds Try.pinned (OpenSpec.ofChange fnSterileSpec)

/-- ITS FALSE NEIGHBOUR: 'it returns false'. Refute it at one input. -/
def fnSterileWrong : ChangeSpec := { name := "fnSterile", fn := fun _ => fun
  | [d] => { results := [.lit (.bool false)], args := [d] }
  | _ => none }
def FnSterileWrongFalsely : Prop := fnSterileRow.holds Try.pinned (OpenSpec.ofChange fnSterileWrong)

/-- 'laws.FnWashAgain': WHATEVER THE INPUT: true; the input reads as it did. -/
def fnWashAgainSpec : ChangeSpec := { name := "fnWashAgain", fn := fun _ => fun
  | [d] => { results := [.lit (.bool true)], args := [d] }
  | _ => none }
def fnWashAgainRow : OpenClaim := { program := "ytklgadaefngnnaa", sum := "93115980622554b929829a5d3f21f457ef1c32be062291184ea866f1034342bf", func := "loop.example/g00060/laws.FnWashAgain", spec := "fnWashAgain", recurses := true, apart := false }
def FnWashAgainSaid : Prop := fnWashAgainRow.holds Try.pinned (OpenSpec.ofChange fnWashAgainSpec)

/-- ITS FALSE NEIGHBOUR: 'it returns false'. Refute it at one input. -/
def fnWashAgainWrong : ChangeSpec := { name := "fnWashAgain", fn := fun _ => fun
  | [d] => { results := [.lit (.bool false)], args := [d] }
  | _ => none }
def FnWashAgainWrongFalsely : Prop := fnWashAgainRow.holds Try.pinned (OpenSpec.ofChange fnWashAgainWrong)

/- THE SECOND FORM. 'bulk': how many values and letters a reading holds, each counted each time it is reached (what is shared counts as often as it is met; a slice's spare places count too). A statement '..UptoSaid' is the law's where the arguments, and the package variables that the reading takes, are together of bulk at most 1048576: NARROWER than '..Said'. Prove '..Said' where nothing that the law and all that it calls make is longer than what came in: it says more and counts as full. Else prove '..UptoSaid'. A law counts once. -/
mutual
def uptoBulk {H : Type} : DataW H → Nat
  | .lit (.string bytes) => bytes.length + 1
  | .lit _ => 1
  | .nil => 1
  | .ptr d => uptoBulk d + 1
  | .slice elems spare => uptoBulkAll elems + uptoBulkAll spare + 1
  | .agg parts => uptoBulkAll parts + 1
  | .iface _ d => uptoBulk d + 1
  | .map entries => uptoBulkEntries entries + 1
  | .held _ => 1
def uptoBulkAll {H : Type} : List (DataW H) → Nat
  | [] => 0
  | d :: r => uptoBulk d + uptoBulkAll r
def uptoBulkEntries {H : Type} : List (Lit × DataW H) → Nat
  | [] => 0
  | x :: r => uptoBulkEntry x + uptoBulkEntries r
def uptoBulkEntry {H : Type} : Lit × DataW H → Nat
  | (.string bytes, d) => bytes.length + uptoBulk d + 1
  | (_, d) => uptoBulk d + 1
 end
def uptoSmall : (H : Type) → List (DataW H) → Bool := fun _ ds => decide (uptoBulkAll ds ≤ 1048576)
def OpenSpec.upto (s : _root_.Go.ChangeSpec) : _root_.Go.OpenSpec := { _root_.Go.OpenSpec.ofChange s with cond := some uptoSmall }

/-- 'laws.FnHouseKept', WHERE WHAT IT READS IS OF BULK AT MOST 1048576: true; the input reads as it did. -/
def fnHouseKeptUptoRow : OpenClaim := { program := "ytklgadaefngnnaa", sum := "93115980622554b929829a5d3f21f457ef1c32be062291184ea866f1034342bf", func := "loop.example/g00060/laws.FnHouseKept", spec := "fnHouseKept", unfollowed := true, recurses := true, apart := false, narrowed := true }
def FnHouseKeptUptoSaid : Prop := fnHouseKeptUptoRow.holds Try.pinned (OpenSpec.upto fnHouseKeptSpec)

/-- 'laws.FnBedsFree', WHERE WHAT IT READS IS OF BULK AT MOST 1048576: true; the input reads as it did. -/
def fnBedsFreeUptoRow : OpenClaim := { program := "ytklgadaefngnnaa", sum := "93115980622554b929829a5d3f21f457ef1c32be062291184ea866f1034342bf", func := "loop.example/g00060/laws.FnBedsFree", spec := "fnBedsFree", unfollowed := true, recurses := true, apart := false, narrowed := true }
def FnBedsFreeUptoSaid : Prop := fnBedsFreeUptoRow.holds Try.pinned (OpenSpec.upto fnBedsFreeSpec)

/-- 'laws.FnClashes', WHERE WHAT IT READS IS OF BULK AT MOST 1048576: true; the input reads as it did. -/
def fnClashesUptoRow : OpenClaim := { program := "ytklgadaefngnnaa", sum := "93115980622554b929829a5d3f21f457ef1c32be062291184ea866f1034342bf", func := "loop.example/g00060/laws.FnClashes", spec := "fnClashes", apart := false, narrowed := true }
def FnClashesUptoSaid : Prop := fnClashesUptoRow.holds Try.pinned (OpenSpec.upto fnClashesSpec)

/-- 'laws.FnSterile', WHERE WHAT IT READS IS OF BULK AT MOST 1048576: true; the input reads as it did. -/
def fnSterileUptoRow : OpenClaim := { program := "ytklgadaefngnnaa", sum := "93115980622554b929829a5d3f21f457ef1c32be062291184ea866f1034342bf", func := "loop.example/g00060/laws.FnSterile", spec := "fnSterile", recurses := true, apart := false, narrowed := true }
def FnSterileUptoSaid : Prop := fnSterileUptoRow.holds Try.pinned (OpenSpec.upto fnSterileSpec)

/-- 'laws.FnWashAgain', WHERE WHAT IT READS IS OF BULK AT MOST 1048576: true; the input reads as it did. -/
def fnWashAgainUptoRow : OpenClaim := { program := "ytklgadaefngnnaa", sum := "93115980622554b929829a5d3f21f457ef1c32be062291184ea866f1034342bf", func := "loop.example/g00060/laws.FnWashAgain", spec := "fnWashAgain", recurses := true, apart := false, narrowed := true }
def FnWashAgainUptoSaid : Prop := fnWashAgainUptoRow.holds Try.pinned (OpenSpec.upto fnWashAgainSpec)

end Rows
end Go.Proofs.Ytklgadaefngnnaa
