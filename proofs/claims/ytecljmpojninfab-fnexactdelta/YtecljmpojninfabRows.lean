/-
  No cell of these rows narrows 'for every input' (looked for: loops, veiled, ifaces, maps, wideKeys, modest, calm, conditions, laid).
  DERIVED. THE GIVEN ROWS OF THIS SEAT. 4 by the template 'for every input the law returns true; each argument reads behind the call as it read before'; 0 by the template 'total and deterministic' (their statements: YtecljmpojninfabTotals.lean).
  GIVEN WITH THE SEED: the statements are not yours to turn. If you find one false, say at which input.
  Laid BY PROGRAM, IN A SANDBOX (cutbox-rows.mjs): the forced cells as the released guide's own fill.sh prints them over the translation 376fa91086331571… (all of the seat's roots in one cut). By AI agents, Wed Nov 11 2026. No macro, syntax, notation, axiom, sorry.
-/
import Derived.Test.YtecljmpojninfabChecked
import GoSem.Claim
import GoSem.ClaimJoined
import GoSem.ClaimMapViews
import Derived.JoinedTies
import Derived.KernelRfl
namespace Go.Proofs.Ytecljmpojninfab
/- THE CELL 'sum', in the pinned program and in every row, IS THE sha256 OF THE DUMP (.gsa) THAT YtecljmpojninfabProg.lean LOADS. Nothing in Lean hashes anything: it is a label: what it is worth is what the hold of that sum in a sandbox is worth. -/
noncomputable def Try.pinned : Pinned := { name := "ytecljmpojninfab", sum := "376fa91086331571fc44f70a124dd021740974d4aadb1630d497f6ad2d5ed0b0", checked := Try.checked }
namespace Rows
def none {H : Type} : Left H := { results := [], args := [] }

/-- 'laws.FnExactTrusted': WHATEVER THE INPUT: true; the input reads as it did. -/
def fnExactTrustedSpec : ChangeSpec := { name := "fnExactTrusted", fn := fun _ => fun
  | [d1, d2] => { results := [.lit (.bool true)], args := [d1, d2] }
  | _ => none }
def fnExactTrustedRow : OpenClaim := { program := "ytecljmpojninfab", sum := "376fa91086331571fc44f70a124dd021740974d4aadb1630d497f6ad2d5ed0b0", func := "loop.example/g00060/laws.FnExactTrusted", spec := "fnExactTrusted", apart := false }
def FnExactTrustedSaid : Prop := fnExactTrustedRow.holds Try.pinned (OpenSpec.ofChange fnExactTrustedSpec)

/-- ITS FALSE NEIGHBOUR: 'it returns false'. Refute it at one input. -/
def fnExactTrustedWrong : ChangeSpec := { name := "fnExactTrusted", fn := fun _ => fun
  | [d1, d2] => { results := [.lit (.bool false)], args := [d1, d2] }
  | _ => none }
def FnExactTrustedWrongFalsely : Prop := fnExactTrustedRow.holds Try.pinned (OpenSpec.ofChange fnExactTrustedWrong)

/-- 'laws.FnExactShare': WHATEVER THE INPUT: true; the input reads as it did. -/
def fnExactShareSpec : ChangeSpec := { name := "fnExactShare", fn := fun _ => fun
  | [d1, d2, d3] => { results := [.lit (.bool true)], args := [d1, d2, d3] }
  | _ => none }
def fnExactShareRow : OpenClaim := { program := "ytecljmpojninfab", sum := "376fa91086331571fc44f70a124dd021740974d4aadb1630d497f6ad2d5ed0b0", func := "loop.example/g00060/laws.FnExactShare", spec := "fnExactShare", apart := false }
def FnExactShareSaid : Prop := fnExactShareRow.holds Try.pinned (OpenSpec.ofChange fnExactShareSpec)

/-- ITS FALSE NEIGHBOUR: 'it returns false'. Refute it at one input. -/
def fnExactShareWrong : ChangeSpec := { name := "fnExactShare", fn := fun _ => fun
  | [d1, d2, d3] => { results := [.lit (.bool false)], args := [d1, d2, d3] }
  | _ => none }
def FnExactShareWrongFalsely : Prop := fnExactShareRow.holds Try.pinned (OpenSpec.ofChange fnExactShareWrong)

/-- 'laws.FnExactDelta': WHATEVER THE INPUT: true; the input reads as it did. -/
def fnExactDeltaSpec : ChangeSpec := { name := "fnExactDelta", fn := fun _ => fun
  | [d1, d2, d3] => { results := [.lit (.bool true)], args := [d1, d2, d3] }
  | _ => none }
def fnExactDeltaRow : OpenClaim := { program := "ytecljmpojninfab", sum := "376fa91086331571fc44f70a124dd021740974d4aadb1630d497f6ad2d5ed0b0", func := "loop.example/g00060/laws.FnExactDelta", spec := "fnExactDelta", unfollowed := true, recurses := true, apart := false }
def FnExactDeltaSaid : Prop := fnExactDeltaRow.holds Try.pinned (OpenSpec.ofChange fnExactDeltaSpec)

/-- ITS FALSE NEIGHBOUR: 'it returns false'. Refute it at one input. -/
def fnExactDeltaWrong : ChangeSpec := { name := "fnExactDelta", fn := fun _ => fun
  | [d1, d2, d3] => { results := [.lit (.bool false)], args := [d1, d2, d3] }
  | _ => none }
def FnExactDeltaWrongFalsely : Prop := fnExactDeltaRow.holds Try.pinned (OpenSpec.ofChange fnExactDeltaWrong)

/-- 'laws.FnExactCalls': WHATEVER THE INPUT: true; the input reads as it did. -/
def fnExactCallsSpec : ChangeSpec := { name := "fnExactCalls", fn := fun _ => fun
  | [d1, d2, d3] => { results := [.lit (.bool true)], args := [d1, d2, d3] }
  | _ => none }
def fnExactCallsRow : OpenClaim := { program := "ytecljmpojninfab", sum := "376fa91086331571fc44f70a124dd021740974d4aadb1630d497f6ad2d5ed0b0", func := "loop.example/g00060/laws.FnExactCalls", spec := "fnExactCalls", unfollowed := true, recurses := true, apart := false }
def FnExactCallsSaid : Prop := fnExactCallsRow.holds Try.pinned (OpenSpec.ofChange fnExactCallsSpec)

/-- ITS FALSE NEIGHBOUR: 'it returns false'. Refute it at one input. -/
def fnExactCallsWrong : ChangeSpec := { name := "fnExactCalls", fn := fun _ => fun
  | [d1, d2, d3] => { results := [.lit (.bool false)], args := [d1, d2, d3] }
  | _ => none }
def FnExactCallsWrongFalsely : Prop := fnExactCallsRow.holds Try.pinned (OpenSpec.ofChange fnExactCallsWrong)

/- THE SECOND FORM. 'bulk': how many values and letters a reading holds, each counted each time it is reached (what is shared counts as often as it is met; a slice's spare places count too). A statement '..UptoSaid' is the law's where the arguments, and the package variables that the reading takes, are together of bulk at most 1048576: NARROWER than '..Said'. Prove '..Said' where nothing that the law and all that it calls make is longer than what came in: it says more and counts as full. Else prove '..UptoSaid'. A law counts once. -/
mutual
def uptoBulk {H : Type} : DataW H → Nat
  | .lit (.string bytes) => bytes.length + 1
  | .lit _ => 1
  | .nil => 1
  | .ptr d => uptoBulk d + 1
  | .slice elems spare => uptoBulkAll elems + uptoBulkAll spare + 1
  | .agg parts => uptoBulkAll parts + 1
  | .iface _ d => uptoBulk d + 1
  | .map entries => uptoBulkEntries entries + 1
  | .held _ => 1
def uptoBulkAll {H : Type} : List (DataW H) → Nat
  | [] => 0
  | d :: r => uptoBulk d + uptoBulkAll r
def uptoBulkEntries {H : Type} : List (Lit × DataW H) → Nat
  | [] => 0
  | x :: r => uptoBulkEntry x + uptoBulkEntries r
def uptoBulkEntry {H : Type} : Lit × DataW H → Nat
  | (.string bytes, d) => bytes.length + uptoBulk d + 1
  | (_, d) => uptoBulk d + 1
 end
def uptoSmall : (H : Type) → List (DataW H) → Bool := fun _ ds => decide (uptoBulkAll ds ≤ 1048576)
def OpenSpec.upto (s : _root_.Go.ChangeSpec) : _root_.Go.OpenSpec := { _root_.Go.OpenSpec.ofChange s with cond := some uptoSmall }

/-- 'laws.FnExactTrusted', WHERE WHAT IT READS IS OF BULK AT MOST 1048576: true; the input reads as it did. -/
def fnExactTrustedUptoRow : OpenClaim := { program := "ytecljmpojninfab", sum := "376fa91086331571fc44f70a124dd021740974d4aadb1630d497f6ad2d5ed0b0", func := "loop.example/g00060/laws.FnExactTrusted", spec := "fnExactTrusted", apart := false, narrowed := true }
def FnExactTrustedUptoSaid : Prop := fnExactTrustedUptoRow.holds Try.pinned (OpenSpec.upto fnExactTrustedSpec)

/-- 'laws.FnExactShare', WHERE WHAT IT READS IS OF BULK AT MOST 1048576: true; the input reads as it did. -/
def fnExactShareUptoRow : OpenClaim := { program := "ytecljmpojninfab", sum := "376fa91086331571fc44f70a124dd021740974d4aadb1630d497f6ad2d5ed0b0", func := "loop.example/g00060/laws.FnExactShare", spec := "fnExactShare", apart := false, narrowed := true }
def FnExactShareUptoSaid : Prop := fnExactShareUptoRow.holds Try.pinned (OpenSpec.upto fnExactShareSpec)

/-- 'laws.FnExactDelta', WHERE WHAT IT READS IS OF BULK AT MOST 1048576: true; the input reads as it did. -/
def fnExactDeltaUptoRow : OpenClaim := { program := "ytecljmpojninfab", sum := "376fa91086331571fc44f70a124dd021740974d4aadb1630d497f6ad2d5ed0b0", func := "loop.example/g00060/laws.FnExactDelta", spec := "fnExactDelta", unfollowed := true, recurses := true, apart := false, narrowed := true }
def FnExactDeltaUptoSaid : Prop := fnExactDeltaUptoRow.holds Try.pinned (OpenSpec.upto fnExactDeltaSpec)

/-- 'laws.FnExactCalls', WHERE WHAT IT READS IS OF BULK AT MOST 1048576: true; the input reads as it did. -/
def fnExactCallsUptoRow : OpenClaim := { program := "ytecljmpojninfab", sum := "376fa91086331571fc44f70a124dd021740974d4aadb1630d497f6ad2d5ed0b0", func := "loop.example/g00060/laws.FnExactCalls", spec := "fnExactCalls", unfollowed := true, recurses := true, apart := false, narrowed := true }
def FnExactCallsUptoSaid : Prop := fnExactCallsUptoRow.holds Try.pinned (OpenSpec.upto fnExactCallsSpec)

end Rows
end Go.Proofs.Ytecljmpojninfab
