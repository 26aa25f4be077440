/-
  No cell of these rows narrows 'for every input' (looked for: loops, veiled, ifaces, maps, wideKeys, modest, calm, conditions, laid).
  DERIVED. THE GIVEN ROWS OF THIS SEAT. 6 by the template 'for every input the law returns true; each argument reads behind the call as it read before'; 0 by the template 'total and deterministic' (their statements: YtiopmlepdjiapajTotals.lean).
  GIVEN WITH THE SEED: the statements are not yours to turn. If you find one false, say at which input.
  Laid BY PROGRAM, IN A SANDBOX (cutbox-rows.mjs): the forced cells as the released guide's own fill.sh prints them over the translation 40a393eb4a22843b… (all of the seat's roots in one cut). By AI agents, Wed Nov 11 2026. No macro, syntax, notation, axiom, sorry.
-/
import Derived.Test.YtiopmlepdjiapajChecked
import GoSem.Claim
import GoSem.ClaimJoined
import GoSem.ClaimMapViews
import Derived.JoinedTies
import Derived.KernelRfl
namespace Go.Proofs.Ytiopmlepdjiapaj
/- THE CELL 'sum', in the pinned program and in every row, IS THE sha256 OF THE DUMP (.gsa) THAT YtiopmlepdjiapajProg.lean LOADS. Nothing in Lean hashes anything: it is a label: what it is worth is what the hold of that sum in a sandbox is worth. -/
noncomputable def Try.pinned : Pinned := { name := "ytiopmlepdjiapaj", sum := "40a393eb4a22843b1b02419bed32edb5b02ea358410e4687408d1484d03d36db", checked := Try.checked }
namespace Rows
def none {H : Type} : Left H := { results := [], args := [] }

/-- 'laws.FnExactMakeAmount': WHATEVER THE INPUT: true; the input reads as it did. -/
def fnExactMakeAmountSpec : ChangeSpec := { name := "fnExactMakeAmount", fn := fun _ => fun
  | [d1, d2, d3] => { results := [.lit (.bool true)], args := [d1, d2, d3] }
  | _ => none }
def fnExactMakeAmountRow : OpenClaim := { program := "ytiopmlepdjiapaj", sum := "40a393eb4a22843b1b02419bed32edb5b02ea358410e4687408d1484d03d36db", func := "loop.example/g00060/laws.FnExactMakeAmount", spec := "fnExactMakeAmount", apart := false }
def FnExactMakeAmountSaid : Prop := fnExactMakeAmountRow.holds Try.pinned (OpenSpec.ofChange fnExactMakeAmountSpec)

/-- ITS FALSE NEIGHBOUR: 'it returns false'. Refute it at one input. -/
def fnExactMakeAmountWrong : ChangeSpec := { name := "fnExactMakeAmount", fn := fun _ => fun
  | [d1, d2, d3] => { results := [.lit (.bool false)], args := [d1, d2, d3] }
  | _ => none }
def FnExactMakeAmountWrongFalsely : Prop := fnExactMakeAmountRow.holds Try.pinned (OpenSpec.ofChange fnExactMakeAmountWrong)

/-- 'laws.FnExactConvert': WHATEVER THE INPUT: true; the input reads as it did. -/
def fnExactConvertSpec : ChangeSpec := { name := "fnExactConvert", fn := fun _ => fun
  | [d1, d2] => { results := [.lit (.bool true)], args := [d1, d2] }
  | _ => none }
def fnExactConvertRow : OpenClaim := { program := "ytiopmlepdjiapaj", sum := "40a393eb4a22843b1b02419bed32edb5b02ea358410e4687408d1484d03d36db", func := "loop.example/g00060/laws.FnExactConvert", spec := "fnExactConvert", apart := false }
def FnExactConvertSaid : Prop := fnExactConvertRow.holds Try.pinned (OpenSpec.ofChange fnExactConvertSpec)

/-- ITS FALSE NEIGHBOUR: 'it returns false'. Refute it at one input. -/
def fnExactConvertWrong : ChangeSpec := { name := "fnExactConvert", fn := fun _ => fun
  | [d1, d2] => { results := [.lit (.bool false)], args := [d1, d2] }
  | _ => none }
def FnExactConvertWrongFalsely : Prop := fnExactConvertRow.holds Try.pinned (OpenSpec.ofChange fnExactConvertWrong)

/-- 'laws.FnExactAddAmount': WHATEVER THE INPUT: true; the input reads as it did. -/
def fnExactAddAmountSpec : ChangeSpec := { name := "fnExactAddAmount", fn := fun _ => fun
  | [d1, d2] => { results := [.lit (.bool true)], args := [d1, d2] }
  | _ => none }
def fnExactAddAmountRow : OpenClaim := { program := "ytiopmlepdjiapaj", sum := "40a393eb4a22843b1b02419bed32edb5b02ea358410e4687408d1484d03d36db", func := "loop.example/g00060/laws.FnExactAddAmount", spec := "fnExactAddAmount", apart := false }
def FnExactAddAmountSaid : Prop := fnExactAddAmountRow.holds Try.pinned (OpenSpec.ofChange fnExactAddAmountSpec)

/-- ITS FALSE NEIGHBOUR: 'it returns false'. Refute it at one input. -/
def fnExactAddAmountWrong : ChangeSpec := { name := "fnExactAddAmount", fn := fun _ => fun
  | [d1, d2] => { results := [.lit (.bool false)], args := [d1, d2] }
  | _ => none }
def FnExactAddAmountWrongFalsely : Prop := fnExactAddAmountRow.holds Try.pinned (OpenSpec.ofChange fnExactAddAmountWrong)

/-- 'laws.FnExactTimesAmount': WHATEVER THE INPUT: true; the input reads as it did. -/
def fnExactTimesAmountSpec : ChangeSpec := { name := "fnExactTimesAmount", fn := fun _ => fun
  | [d1, d2, d3] => { results := [.lit (.bool true)], args := [d1, d2, d3] }
  | _ => none }
def fnExactTimesAmountRow : OpenClaim := { program := "ytiopmlepdjiapaj", sum := "40a393eb4a22843b1b02419bed32edb5b02ea358410e4687408d1484d03d36db", func := "loop.example/g00060/laws.FnExactTimesAmount", spec := "fnExactTimesAmount", apart := false }
def FnExactTimesAmountSaid : Prop := fnExactTimesAmountRow.holds Try.pinned (OpenSpec.ofChange fnExactTimesAmountSpec)

/-- ITS FALSE NEIGHBOUR: 'it returns false'. Refute it at one input. -/
def fnExactTimesAmountWrong : ChangeSpec := { name := "fnExactTimesAmount", fn := fun _ => fun
  | [d1, d2, d3] => { results := [.lit (.bool false)], args := [d1, d2, d3] }
  | _ => none }
def FnExactTimesAmountWrongFalsely : Prop := fnExactTimesAmountRow.holds Try.pinned (OpenSpec.ofChange fnExactTimesAmountWrong)

/-- 'laws.FnExactCmpAmount': WHATEVER THE INPUT: true; the input reads as it did. -/
def fnExactCmpAmountSpec : ChangeSpec := { name := "fnExactCmpAmount", fn := fun _ => fun
  | [d1, d2] => { results := [.lit (.bool true)], args := [d1, d2] }
  | _ => none }
def fnExactCmpAmountRow : OpenClaim := { program := "ytiopmlepdjiapaj", sum := "40a393eb4a22843b1b02419bed32edb5b02ea358410e4687408d1484d03d36db", func := "loop.example/g00060/laws.FnExactCmpAmount", spec := "fnExactCmpAmount", apart := false }
def FnExactCmpAmountSaid : Prop := fnExactCmpAmountRow.holds Try.pinned (OpenSpec.ofChange fnExactCmpAmountSpec)

/-- ITS FALSE NEIGHBOUR: 'it returns false'. Refute it at one input. -/
def fnExactCmpAmountWrong : ChangeSpec := { name := "fnExactCmpAmount", fn := fun _ => fun
  | [d1, d2] => { results := [.lit (.bool false)], args := [d1, d2] }
  | _ => none }
def FnExactCmpAmountWrongFalsely : Prop := fnExactCmpAmountRow.holds Try.pinned (OpenSpec.ofChange fnExactCmpAmountWrong)

/-- 'laws.FnExactFade': WHATEVER THE INPUT: true; the input reads as it did. -/
def fnExactFadeSpec : ChangeSpec := { name := "fnExactFade", fn := fun _ => fun
  | [d1, d2, d3] => { results := [.lit (.bool true)], args := [d1, d2, d3] }
  | _ => none }
def fnExactFadeRow : OpenClaim := { program := "ytiopmlepdjiapaj", sum := "40a393eb4a22843b1b02419bed32edb5b02ea358410e4687408d1484d03d36db", func := "loop.example/g00060/laws.FnExactFade", spec := "fnExactFade", apart := false }
def FnExactFadeSaid : Prop := fnExactFadeRow.holds Try.pinned (OpenSpec.ofChange fnExactFadeSpec)

/-- ITS FALSE NEIGHBOUR: 'it returns false'. Refute it at one input. -/
def fnExactFadeWrong : ChangeSpec := { name := "fnExactFade", fn := fun _ => fun
  | [d1, d2, d3] => { results := [.lit (.bool false)], args := [d1, d2, d3] }
  | _ => none }
def FnExactFadeWrongFalsely : Prop := fnExactFadeRow.holds Try.pinned (OpenSpec.ofChange fnExactFadeWrong)

/- THE SECOND FORM. 'bulk': how many values and letters a reading holds, each counted each time it is reached (what is shared counts as often as it is met; a slice's spare places count too). A statement '..UptoSaid' is the law's where the arguments, and the package variables that the reading takes, are together of bulk at most 1048576: NARROWER than '..Said'. Prove '..Said' where nothing that the law and all that it calls make is longer than what came in: it says more and counts as full. Else prove '..UptoSaid'. A law counts once. -/
mutual
def uptoBulk {H : Type} : DataW H → Nat
  | .lit (.string bytes) => bytes.length + 1
  | .lit _ => 1
  | .nil => 1
  | .ptr d => uptoBulk d + 1
  | .slice elems spare => uptoBulkAll elems + uptoBulkAll spare + 1
  | .agg parts => uptoBulkAll parts + 1
  | .iface _ d => uptoBulk d + 1
  | .map entries => uptoBulkEntries entries + 1
  | .held _ => 1
def uptoBulkAll {H : Type} : List (DataW H) → Nat
  | [] => 0
  | d :: r => uptoBulk d + uptoBulkAll r
def uptoBulkEntries {H : Type} : List (Lit × DataW H) → Nat
  | [] => 0
  | x :: r => uptoBulkEntry x + uptoBulkEntries r
def uptoBulkEntry {H : Type} : Lit × DataW H → Nat
  | (.string bytes, d) => bytes.length + uptoBulk d + 1
  | (_, d) => uptoBulk d + 1
 end
def uptoSmall : (H : Type) → List (DataW H) → Bool := fun _ ds => decide (uptoBulkAll ds ≤ 1048576)
def OpenSpec.upto (s : _root_.Go.ChangeSpec) : _root_.Go.OpenSpec := { _root_.Go.OpenSpec.ofChange s with cond := some uptoSmall }

/-- 'laws.FnExactMakeAmount', WHERE WHAT IT READS IS OF BULK AT MOST 1048576: true; the input reads as it did. -/
def fnExactMakeAmountUptoRow : OpenClaim := { program := "ytiopmlepdjiapaj", sum := "40a393eb4a22843b1b02419bed32edb5b02ea358410e4687408d1484d03d36db", func := "loop.example/g00060/laws.FnExactMakeAmount", spec := "fnExactMakeAmount", apart := false, narrowed := true }
def FnExactMakeAmountUptoSaid : Prop := fnExactMakeAmountUptoRow.holds Try.pinned (OpenSpec.upto fnExactMakeAmountSpec)

/-- 'laws.FnExactConvert', WHERE WHAT IT READS IS OF BULK AT MOST 1048576: true; the input reads as it did. -/
def fnExactConvertUptoRow : OpenClaim := { program := "ytiopmlepdjiapaj", sum := "40a393eb4a22843b1b02419bed32edb5b02ea358410e4687408d1484d03d36db", func := "loop.example/g00060/laws.FnExactConvert", spec := "fnExactConvert", apart := false, narrowed := true }
def FnExactConvertUptoSaid : Prop := fnExactConvertUptoRow.holds Try.pinned (OpenSpec.upto fnExactConvertSpec)

/-- 'laws.FnExactAddAmount', WHERE WHAT IT READS IS OF BULK AT MOST 1048576: true; the input reads as it did. -/
def fnExactAddAmountUptoRow : OpenClaim := { program := "ytiopmlepdjiapaj", sum := "40a393eb4a22843b1b02419bed32edb5b02ea358410e4687408d1484d03d36db", func := "loop.example/g00060/laws.FnExactAddAmount", spec := "fnExactAddAmount", apart := false, narrowed := true }
def FnExactAddAmountUptoSaid : Prop := fnExactAddAmountUptoRow.holds Try.pinned (OpenSpec.upto fnExactAddAmountSpec)

/-- 'laws.FnExactTimesAmount', WHERE WHAT IT READS IS OF BULK AT MOST 1048576: true; the input reads as it did. -/
def fnExactTimesAmountUptoRow : OpenClaim := { program := "ytiopmlepdjiapaj", sum := "40a393eb4a22843b1b02419bed32edb5b02ea358410e4687408d1484d03d36db", func := "loop.example/g00060/laws.FnExactTimesAmount", spec := "fnExactTimesAmount", apart := false, narrowed := true }
def FnExactTimesAmountUptoSaid : Prop := fnExactTimesAmountUptoRow.holds Try.pinned (OpenSpec.upto fnExactTimesAmountSpec)

/-- 'laws.FnExactCmpAmount', WHERE WHAT IT READS IS OF BULK AT MOST 1048576: true; the input reads as it did. -/
def fnExactCmpAmountUptoRow : OpenClaim := { program := "ytiopmlepdjiapaj", sum := "40a393eb4a22843b1b02419bed32edb5b02ea358410e4687408d1484d03d36db", func := "loop.example/g00060/laws.FnExactCmpAmount", spec := "fnExactCmpAmount", apart := false, narrowed := true }
def FnExactCmpAmountUptoSaid : Prop := fnExactCmpAmountUptoRow.holds Try.pinned (OpenSpec.upto fnExactCmpAmountSpec)

/-- 'laws.FnExactFade', WHERE WHAT IT READS IS OF BULK AT MOST 1048576: true; the input reads as it did. -/
def fnExactFadeUptoRow : OpenClaim := { program := "ytiopmlepdjiapaj", sum := "40a393eb4a22843b1b02419bed32edb5b02ea358410e4687408d1484d03d36db", func := "loop.example/g00060/laws.FnExactFade", spec := "fnExactFade", apart := false, narrowed := true }
def FnExactFadeUptoSaid : Prop := fnExactFadeUptoRow.holds Try.pinned (OpenSpec.upto fnExactFadeSpec)

end Rows
end Go.Proofs.Ytiopmlepdjiapaj
