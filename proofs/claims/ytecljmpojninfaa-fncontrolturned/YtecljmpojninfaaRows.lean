/-
  No cell of these rows narrows 'for every input' (looked for: loops, veiled, ifaces, maps, wideKeys, modest, calm, conditions, laid).
  DERIVED. THE GIVEN ROWS OF THIS SEAT. 6 by the template 'for every input the law returns true; each argument reads behind the call as it read before'; 0 by the template 'total and deterministic' (their statements: YtecljmpojninfaaTotals.lean).
  GIVEN WITH THE SEED: the statements are not yours to turn. If you find one false, say at which input.
  Laid BY PROGRAM, IN A SANDBOX (cutbox-rows.mjs): the forced cells as the released guide's own fill.sh prints them over the translation bdc947374a9437e4… (all of the seat's roots in one cut). By AI agents, Wed Nov 11 2026. No macro, syntax, notation, axiom, sorry.
-/
import Derived.Test.YtecljmpojninfaaChecked
import GoSem.Claim
import GoSem.ClaimJoined
import GoSem.ClaimMapViews
import Derived.JoinedTies
import Derived.KernelRfl
namespace Go.Proofs.Ytecljmpojninfaa
/- THE CELL 'sum', in the pinned program and in every row, IS THE sha256 OF THE DUMP (.gsa) THAT YtecljmpojninfaaProg.lean LOADS. Nothing in Lean hashes anything: it is a label: what it is worth is what the hold of that sum in a sandbox is worth. -/
noncomputable def Try.pinned : Pinned := { name := "ytecljmpojninfaa", sum := "bdc947374a9437e4d0fd3d5ac05065c101dde10b5b0ca534c04dcf3be7f5c1c3", checked := Try.checked }
namespace Rows
def none {H : Type} : Left H := { results := [], args := [] }

/-- 'laws.FnControlTurned': WHATEVER THE INPUT: true; the input reads as it did. -/
def fnControlTurnedSpec : ChangeSpec := { name := "fnControlTurned", fn := fun _ => fun
  | [d] => { results := [.lit (.bool true)], args := [d] }
  | _ => none }
def fnControlTurnedRow : OpenClaim := { program := "ytecljmpojninfaa", sum := "bdc947374a9437e4d0fd3d5ac05065c101dde10b5b0ca534c04dcf3be7f5c1c3", func := "loop.example/g00060/laws.FnControlTurned", spec := "fnControlTurned", unfollowed := true, recurses := true, apart := false }
def FnControlTurnedSaid : Prop := fnControlTurnedRow.holds Try.pinned (OpenSpec.ofChange fnControlTurnedSpec)

/-- ITS FALSE NEIGHBOUR: 'it returns false'. Refute it at one input. -/
def fnControlTurnedWrong : ChangeSpec := { name := "fnControlTurned", fn := fun _ => fun
  | [d] => { results := [.lit (.bool false)], args := [d] }
  | _ => none }
def FnControlTurnedWrongFalsely : Prop := fnControlTurnedRow.holds Try.pinned (OpenSpec.ofChange fnControlTurnedWrong)

/-- 'laws.FnTrusted': WHATEVER THE INPUT: true; the input reads as it did. -/
def fnTrustedSpec : ChangeSpec := { name := "fnTrusted", fn := fun _ => fun
  | [d] => { results := [.lit (.bool true)], args := [d] }
  | _ => none }
def fnTrustedRow : OpenClaim := { program := "ytecljmpojninfaa", sum := "bdc947374a9437e4d0fd3d5ac05065c101dde10b5b0ca534c04dcf3be7f5c1c3", func := "loop.example/g00060/laws.FnTrusted", spec := "fnTrusted", apart := false }
def FnTrustedSaid : Prop := fnTrustedRow.holds Try.pinned (OpenSpec.ofChange fnTrustedSpec)

/-- ITS FALSE NEIGHBOUR: 'it returns false'. Refute it at one input. -/
def fnTrustedWrong : ChangeSpec := { name := "fnTrusted", fn := fun _ => fun
  | [d] => { results := [.lit (.bool false)], args := [d] }
  | _ => none }
def FnTrustedWrongFalsely : Prop := fnTrustedRow.holds Try.pinned (OpenSpec.ofChange fnTrustedWrong)

/-- 'laws.FnShare': WHATEVER THE INPUT: true; the input reads as it did. -/
def fnShareSpec : ChangeSpec := { name := "fnShare", fn := fun _ => fun
  | [d] => { results := [.lit (.bool true)], args := [d] }
  | _ => none }
def fnShareRow : OpenClaim := { program := "ytecljmpojninfaa", sum := "bdc947374a9437e4d0fd3d5ac05065c101dde10b5b0ca534c04dcf3be7f5c1c3", func := "loop.example/g00060/laws.FnShare", spec := "fnShare", apart := false }
def FnShareSaid : Prop := fnShareRow.holds Try.pinned (OpenSpec.ofChange fnShareSpec)

/-- ITS FALSE NEIGHBOUR: 'it returns false'. Refute it at one input. -/
def fnShareWrong : ChangeSpec := { name := "fnShare", fn := fun _ => fun
  | [d] => { results := [.lit (.bool false)], args := [d] }
  | _ => none }
def FnShareWrongFalsely : Prop := fnShareRow.holds Try.pinned (OpenSpec.ofChange fnShareWrong)

/-- 'laws.FnReflexes': WHATEVER THE INPUT: true; the input reads as it did. -/
def fnReflexesSpec : ChangeSpec := { name := "fnReflexes", fn := fun _ => fun
  | [d] => { results := [.lit (.bool true)], args := [d] }
  | _ => none }
def fnReflexesRow : OpenClaim := { program := "ytecljmpojninfaa", sum := "bdc947374a9437e4d0fd3d5ac05065c101dde10b5b0ca534c04dcf3be7f5c1c3", func := "loop.example/g00060/laws.FnReflexes", spec := "fnReflexes", unfollowed := true, recurses := true, apart := false }
def FnReflexesSaid : Prop := fnReflexesRow.holds Try.pinned (OpenSpec.ofChange fnReflexesSpec)

/-- ITS FALSE NEIGHBOUR: 'it returns false'. Refute it at one input. -/
def fnReflexesWrong : ChangeSpec := { name := "fnReflexes", fn := fun _ => fun
  | [d] => { results := [.lit (.bool false)], args := [d] }
  | _ => none }
def FnReflexesWrongFalsely : Prop := fnReflexesRow.holds Try.pinned (OpenSpec.ofChange fnReflexesWrong)

/-- 'laws.FnCalls': WHATEVER THE INPUT: true; the input reads as it did. -/
def fnCallsSpec : ChangeSpec := { name := "fnCalls", fn := fun _ => fun
  | [d] => { results := [.lit (.bool true)], args := [d] }
  | _ => none }
def fnCallsRow : OpenClaim := { program := "ytecljmpojninfaa", sum := "bdc947374a9437e4d0fd3d5ac05065c101dde10b5b0ca534c04dcf3be7f5c1c3", func := "loop.example/g00060/laws.FnCalls", spec := "fnCalls", unfollowed := true, recurses := true, apart := false }
def FnCallsSaid : Prop := fnCallsRow.holds Try.pinned (OpenSpec.ofChange fnCallsSpec)

/-- ITS FALSE NEIGHBOUR: 'it returns false'. Refute it at one input. -/
def fnCallsWrong : ChangeSpec := { name := "fnCalls", fn := fun _ => fun
  | [d] => { results := [.lit (.bool false)], args := [d] }
  | _ => none }
def FnCallsWrongFalsely : Prop := fnCallsRow.holds Try.pinned (OpenSpec.ofChange fnCallsWrong)

/-- 'laws.FnExactControl': WHATEVER THE INPUT: true; the input reads as it did. -/
def fnExactControlSpec : ChangeSpec := { name := "fnExactControl", fn := fun _ => fun
  | [d1, d2, d3] => { results := [.lit (.bool true)], args := [d1, d2, d3] }
  | _ => none }
def fnExactControlRow : OpenClaim := { program := "ytecljmpojninfaa", sum := "bdc947374a9437e4d0fd3d5ac05065c101dde10b5b0ca534c04dcf3be7f5c1c3", func := "loop.example/g00060/laws.FnExactControl", spec := "fnExactControl", unfollowed := true, recurses := true, apart := false }
def FnExactControlSaid : Prop := fnExactControlRow.holds Try.pinned (OpenSpec.ofChange fnExactControlSpec)

/-- ITS FALSE NEIGHBOUR: 'it returns false'. Refute it at one input. -/
def fnExactControlWrong : ChangeSpec := { name := "fnExactControl", fn := fun _ => fun
  | [d1, d2, d3] => { results := [.lit (.bool false)], args := [d1, d2, d3] }
  | _ => none }
def FnExactControlWrongFalsely : Prop := fnExactControlRow.holds Try.pinned (OpenSpec.ofChange fnExactControlWrong)

/- THE SECOND FORM. 'bulk': how many values and letters a reading holds, each counted each time it is reached (what is shared counts as often as it is met; a slice's spare places count too). A statement '..UptoSaid' is the law's where the arguments, and the package variables that the reading takes, are together of bulk at most 1048576: NARROWER than '..Said'. Prove '..Said' where nothing that the law and all that it calls make is longer than what came in: it says more and counts as full. Else prove '..UptoSaid'. A law counts once. -/
mutual
def uptoBulk {H : Type} : DataW H → Nat
  | .lit (.string bytes) => bytes.length + 1
  | .lit _ => 1
  | .nil => 1
  | .ptr d => uptoBulk d + 1
  | .slice elems spare => uptoBulkAll elems + uptoBulkAll spare + 1
  | .agg parts => uptoBulkAll parts + 1
  | .iface _ d => uptoBulk d + 1
  | .map entries => uptoBulkEntries entries + 1
  | .held _ => 1
def uptoBulkAll {H : Type} : List (DataW H) → Nat
  | [] => 0
  | d :: r => uptoBulk d + uptoBulkAll r
def uptoBulkEntries {H : Type} : List (Lit × DataW H) → Nat
  | [] => 0
  | x :: r => uptoBulkEntry x + uptoBulkEntries r
def uptoBulkEntry {H : Type} : Lit × DataW H → Nat
  | (.string bytes, d) => bytes.length + uptoBulk d + 1
  | (_, d) => uptoBulk d + 1
 end
def uptoSmall : (H : Type) → List (DataW H) → Bool := fun _ ds => decide (uptoBulkAll ds ≤ 1048576)
def OpenSpec.upto (s : _root_.Go.ChangeSpec) : _root_.Go.OpenSpec := { _root_.Go.OpenSpec.ofChange s with cond := some uptoSmall }

/-- 'laws.FnControlTurned', WHERE WHAT IT READS IS OF BULK AT MOST 1048576: true; the input reads as it did. -/
def fnControlTurnedUptoRow : OpenClaim := { program := "ytecljmpojninfaa", sum := "bdc947374a9437e4d0fd3d5ac05065c101dde10b5b0ca534c04dcf3be7f5c1c3", func := "loop.example/g00060/laws.FnControlTurned", spec := "fnControlTurned", unfollowed := true, recurses := true, apart := false, narrowed := true }
def FnControlTurnedUptoSaid : Prop := fnControlTurnedUptoRow.holds Try.pinned (OpenSpec.upto fnControlTurnedSpec)

/-- 'laws.FnTrusted', WHERE WHAT IT READS IS OF BULK AT MOST 1048576: true; the input reads as it did. -/
def fnTrustedUptoRow : OpenClaim := { program := "ytecljmpojninfaa", sum := "bdc947374a9437e4d0fd3d5ac05065c101dde10b5b0ca534c04dcf3be7f5c1c3", func := "loop.example/g00060/laws.FnTrusted", spec := "fnTrusted", apart := false, narrowed := true }
def FnTrustedUptoSaid : Prop := fnTrustedUptoRow.holds Try.pinned (OpenSpec.upto fnTrustedSpec)

/-- 'laws.FnShare', WHERE WHAT IT READS IS OF BULK AT MOST 1048576: true; the input reads as it did. -/
def fnShareUptoRow : OpenClaim := { program := "ytecljmpojninfaa", sum := "bdc947374a9437e4d0fd3d5ac05065c101dde10b5b0ca534c04dcf3be7f5c1c3", func := "loop.example/g00060/laws.FnShare", spec := "fnShare", apart := false, narrowed := true }
def FnShareUptoSaid : Prop := fnShareUptoRow.holds Try.pinned (OpenSpec.upto fnShareSpec)

/-- 'laws.FnReflexes', WHERE WHAT IT READS IS OF BULK AT MOST 1048576: true; the input reads as it did. -/
def fnReflexesUptoRow : OpenClaim := { program := "ytecljmpojninfaa", sum := "bdc947374a9437e4d0fd3d5ac05065c101dde10b5b0ca534c04dcf3be7f5c1c3", func := "loop.example/g00060/laws.FnReflexes", spec := "fnReflexes", unfollowed := true, recurses := true, apart := false, narrowed := true }
def FnReflexesUptoSaid : Prop := fnReflexesUptoRow.holds Try.pinned (OpenSpec.upto fnReflexesSpec)

/-- 'laws.FnCalls', WHERE WHAT IT READS IS OF BULK AT MOST 1048576: true; the input reads as it did. -/
def fnCallsUptoRow : OpenClaim := { program := "ytecljmpojninfaa", sum := "bdc947374a9437e4d0fd3d5ac05065c101dde10b5b0ca534c04dcf3be7f5c1c3", func := "loop.example/g00060/laws.FnCalls", spec := "fnCalls", unfollowed := true, recurses := true, apart := false, narrowed := true }
def FnCallsUptoSaid : Prop := fnCallsUptoRow.holds Try.pinned (OpenSpec.upto fnCallsSpec)

/-- 'laws.FnExactControl', WHERE WHAT IT READS IS OF BULK AT MOST 1048576: true; the input reads as it did. -/
def fnExactControlUptoRow : OpenClaim := { program := "ytecljmpojninfaa", sum := "bdc947374a9437e4d0fd3d5ac05065c101dde10b5b0ca534c04dcf3be7f5c1c3", func := "loop.example/g00060/laws.FnExactControl", spec := "fnExactControl", unfollowed := true, recurses := true, apart := false, narrowed := true }
def FnExactControlUptoSaid : Prop := fnExactControlUptoRow.holds Try.pinned (OpenSpec.upto fnExactControlSpec)

end Rows
end Go.Proofs.Ytecljmpojninfaa
