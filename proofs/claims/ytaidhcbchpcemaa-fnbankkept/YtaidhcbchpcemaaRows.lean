/-
  No cell of these rows narrows 'for every input' (looked for: loops, veiled, ifaces, maps, wideKeys, modest, calm, conditions, laid).
  DERIVED. THE GIVEN ROWS OF THIS SEAT. 6 by the template 'for every input the law returns true; each argument reads behind the call as it read before'; 0 by the template 'total and deterministic' (their statements: YtaidhcbchpcemaaTotals.lean).
  GIVEN WITH THE SEED: the statements are not yours to turn. If you find one false, say at which input.
  Laid BY PROGRAM, IN A SANDBOX (cutbox-rows.mjs): the forced cells as the released guide's own fill.sh prints them over the translation 5e8eccaee5e48f43… (all of the seat's roots in one cut). By AI agents, Wed Nov 11 2026. No macro, syntax, notation, axiom, sorry.
-/
import Derived.Test.YtaidhcbchpcemaaChecked
import GoSem.Claim
import GoSem.ClaimJoined
import GoSem.ClaimMapViews
import Derived.JoinedTies
import Derived.KernelRfl
namespace Go.Proofs.Ytaidhcbchpcemaa
/- THE CELL 'sum', in the pinned program and in every row, IS THE sha256 OF THE DUMP (.gsa) THAT YtaidhcbchpcemaaProg.lean LOADS. Nothing in Lean hashes anything: it is a label: what it is worth is what the hold of that sum in a sandbox is worth. -/
noncomputable def Try.pinned : Pinned := { name := "ytaidhcbchpcemaa", sum := "5e8eccaee5e48f43f6eed39e362f8f07049ae368c13fc6378853fbdb046bc213", checked := Try.checked }
namespace Rows
def none {H : Type} : Left H := { results := [], args := [] }

/-- 'laws.FnGroups': WHATEVER THE INPUT: true; the input reads as it did. -/
def fnGroupsSpec : ChangeSpec := { name := "fnGroups", fn := fun _ => fun
  | [d] => { results := [.lit (.bool true)], args := [d] }
  | _ => none }
def fnGroupsRow : OpenClaim := { program := "ytaidhcbchpcemaa", sum := "5e8eccaee5e48f43f6eed39e362f8f07049ae368c13fc6378853fbdb046bc213", func := "loop.example/g00060/laws.FnGroups", spec := "fnGroups", apart := false }
def FnGroupsSaid : Prop := fnGroupsRow.holds Try.pinned (OpenSpec.ofChange fnGroupsSpec)

/-- ITS FALSE NEIGHBOUR: 'it returns false'. Refute it at one input. -/
def fnGroupsWrong : ChangeSpec := { name := "fnGroups", fn := fun _ => fun
  | [d] => { results := [.lit (.bool false)], args := [d] }
  | _ => none }
def FnGroupsWrongFalsely : Prop := fnGroupsRow.holds Try.pinned (OpenSpec.ofChange fnGroupsWrong)

/-- 'laws.FnBankKept': WHATEVER THE INPUT: true; the input reads as it did. -/
def fnBankKeptSpec : ChangeSpec := { name := "fnBankKept", fn := fun _ => fun
  | [d] => { results := [.lit (.bool true)], args := [d] }
  | _ => none }
def fnBankKeptRow : OpenClaim := { program := "ytaidhcbchpcemaa", sum := "5e8eccaee5e48f43f6eed39e362f8f07049ae368c13fc6378853fbdb046bc213", func := "loop.example/g00060/laws.FnBankKept", spec := "fnBankKept", unfollowed := true, recurses := true, apart := false }
def FnBankKeptSaid : Prop := fnBankKeptRow.holds Try.pinned (OpenSpec.ofChange fnBankKeptSpec)

/-- ITS FALSE NEIGHBOUR: 'it returns false'. Refute it at one input. -/
def fnBankKeptWrong : ChangeSpec := { name := "fnBankKept", fn := fun _ => fun
  | [d] => { results := [.lit (.bool false)], args := [d] }
  | _ => none }
def FnBankKeptWrongFalsely : Prop := fnBankKeptRow.holds Try.pinned (OpenSpec.ofChange fnBankKeptWrong)

/-- 'laws.FnPicked': WHATEVER THE INPUT: true; the input reads as it did. -/
def fnPickedSpec : ChangeSpec := { name := "fnPicked", fn := fun _ => fun
  | [d] => { results := [.lit (.bool true)], args := [d] }
  | _ => none }
def fnPickedRow : OpenClaim := { program := "ytaidhcbchpcemaa", sum := "5e8eccaee5e48f43f6eed39e362f8f07049ae368c13fc6378853fbdb046bc213", func := "loop.example/g00060/laws.FnPicked", spec := "fnPicked", unfollowed := true, recurses := true, apart := false }
def FnPickedSaid : Prop := fnPickedRow.holds Try.pinned (OpenSpec.ofChange fnPickedSpec)

/-- ITS FALSE NEIGHBOUR: 'it returns false'. Refute it at one input. -/
def fnPickedWrong : ChangeSpec := { name := "fnPicked", fn := fun _ => fun
  | [d] => { results := [.lit (.bool false)], args := [d] }
  | _ => none }
def FnPickedWrongFalsely : Prop := fnPickedRow.holds Try.pinned (OpenSpec.ofChange fnPickedWrong)

/-- 'laws.FnExactRedFits': WHATEVER THE INPUT: true; the input reads as it did. -/
def fnExactRedFitsSpec : ChangeSpec := { name := "fnExactRedFits", fn := fun _ => fun
  | [d1, d2] => { results := [.lit (.bool true)], args := [d1, d2] }
  | _ => none }
def fnExactRedFitsRow : OpenClaim := { program := "ytaidhcbchpcemaa", sum := "5e8eccaee5e48f43f6eed39e362f8f07049ae368c13fc6378853fbdb046bc213", func := "loop.example/g00060/laws.FnExactRedFits", spec := "fnExactRedFits", apart := false }
def FnExactRedFitsSaid : Prop := fnExactRedFitsRow.holds Try.pinned (OpenSpec.ofChange fnExactRedFitsSpec)

/-- ITS FALSE NEIGHBOUR: 'it returns false'. Refute it at one input. -/
def fnExactRedFitsWrong : ChangeSpec := { name := "fnExactRedFits", fn := fun _ => fun
  | [d1, d2] => { results := [.lit (.bool false)], args := [d1, d2] }
  | _ => none }
def FnExactRedFitsWrongFalsely : Prop := fnExactRedFitsRow.holds Try.pinned (OpenSpec.ofChange fnExactRedFitsWrong)

/-- 'laws.FnExactPlasmaFits': WHATEVER THE INPUT: true; the input reads as it did. -/
def fnExactPlasmaFitsSpec : ChangeSpec := { name := "fnExactPlasmaFits", fn := fun _ => fun
  | [d1, d2] => { results := [.lit (.bool true)], args := [d1, d2] }
  | _ => none }
def fnExactPlasmaFitsRow : OpenClaim := { program := "ytaidhcbchpcemaa", sum := "5e8eccaee5e48f43f6eed39e362f8f07049ae368c13fc6378853fbdb046bc213", func := "loop.example/g00060/laws.FnExactPlasmaFits", spec := "fnExactPlasmaFits", apart := false }
def FnExactPlasmaFitsSaid : Prop := fnExactPlasmaFitsRow.holds Try.pinned (OpenSpec.ofChange fnExactPlasmaFitsSpec)

/-- ITS FALSE NEIGHBOUR: 'it returns false'. Refute it at one input. -/
def fnExactPlasmaFitsWrong : ChangeSpec := { name := "fnExactPlasmaFits", fn := fun _ => fun
  | [d1, d2] => { results := [.lit (.bool false)], args := [d1, d2] }
  | _ => none }
def FnExactPlasmaFitsWrongFalsely : Prop := fnExactPlasmaFitsRow.holds Try.pinned (OpenSpec.ofChange fnExactPlasmaFitsWrong)

/-- 'laws.FnExactBankOk': WHATEVER THE INPUT: true; the input reads as it did. -/
def fnExactBankOkSpec : ChangeSpec := { name := "fnExactBankOk", fn := fun _ => fun
  | [d] => { results := [.lit (.bool true)], args := [d] }
  | _ => none }
def fnExactBankOkRow : OpenClaim := { program := "ytaidhcbchpcemaa", sum := "5e8eccaee5e48f43f6eed39e362f8f07049ae368c13fc6378853fbdb046bc213", func := "loop.example/g00060/laws.FnExactBankOk", spec := "fnExactBankOk", apart := false }
def FnExactBankOkSaid : Prop := fnExactBankOkRow.holds Try.pinned (OpenSpec.ofChange fnExactBankOkSpec)

/-- ITS FALSE NEIGHBOUR: 'it returns false'. Refute it at one input. -/
def fnExactBankOkWrong : ChangeSpec := { name := "fnExactBankOk", fn := fun _ => fun
  | [d] => { results := [.lit (.bool false)], args := [d] }
  | _ => none }
def FnExactBankOkWrongFalsely : Prop := fnExactBankOkRow.holds Try.pinned (OpenSpec.ofChange fnExactBankOkWrong)

/- THE SECOND FORM. 'bulk': how many values and letters a reading holds, each counted each time it is reached (what is shared counts as often as it is met; a slice's spare places count too). A statement '..UptoSaid' is the law's where the arguments, and the package variables that the reading takes, are together of bulk at most 1048576: NARROWER than '..Said'. Prove '..Said' where nothing that the law and all that it calls make is longer than what came in: it says more and counts as full. Else prove '..UptoSaid'. A law counts once. -/
mutual
def uptoBulk {H : Type} : DataW H → Nat
  | .lit (.string bytes) => bytes.length + 1
  | .lit _ => 1
  | .nil => 1
  | .ptr d => uptoBulk d + 1
  | .slice elems spare => uptoBulkAll elems + uptoBulkAll spare + 1
  | .agg parts => uptoBulkAll parts + 1
  | .iface _ d => uptoBulk d + 1
  | .map entries => uptoBulkEntries entries + 1
  | .held _ => 1
def uptoBulkAll {H : Type} : List (DataW H) → Nat
  | [] => 0
  | d :: r => uptoBulk d + uptoBulkAll r
def uptoBulkEntries {H : Type} : List (Lit × DataW H) → Nat
  | [] => 0
  | x :: r => uptoBulkEntry x + uptoBulkEntries r
def uptoBulkEntry {H : Type} : Lit × DataW H → Nat
  | (.string bytes, d) => bytes.length + uptoBulk d + 1
  | (_, d) => uptoBulk d + 1
 end
def uptoSmall : (H : Type) → List (DataW H) → Bool := fun _ ds => decide (uptoBulkAll ds ≤ 1048576)
def OpenSpec.upto (s : _root_.Go.ChangeSpec) : _root_.Go.OpenSpec := { _root_.Go.OpenSpec.ofChange s with cond := some uptoSmall }

/-- 'laws.FnGroups', WHERE WHAT IT READS IS OF BULK AT MOST 1048576: true; the input reads as it did. -/
def fnGroupsUptoRow : OpenClaim := { program := "ytaidhcbchpcemaa", sum := "5e8eccaee5e48f43f6eed39e362f8f07049ae368c13fc6378853fbdb046bc213", func := "loop.example/g00060/laws.FnGroups", spec := "fnGroups", apart := false, narrowed := true }
def FnGroupsUptoSaid : Prop := fnGroupsUptoRow.holds Try.pinned (OpenSpec.upto fnGroupsSpec)

/-- 'laws.FnBankKept', WHERE WHAT IT READS IS OF BULK AT MOST 1048576: true; the input reads as it did. -/
def fnBankKeptUptoRow : OpenClaim := { program := "ytaidhcbchpcemaa", sum := "5e8eccaee5e48f43f6eed39e362f8f07049ae368c13fc6378853fbdb046bc213", func := "loop.example/g00060/laws.FnBankKept", spec := "fnBankKept", unfollowed := true, recurses := true, apart := false, narrowed := true }
def FnBankKeptUptoSaid : Prop := fnBankKeptUptoRow.holds Try.pinned (OpenSpec.upto fnBankKeptSpec)

/-- 'laws.FnPicked', WHERE WHAT IT READS IS OF BULK AT MOST 1048576: true; the input reads as it did. -/
def fnPickedUptoRow : OpenClaim := { program := "ytaidhcbchpcemaa", sum := "5e8eccaee5e48f43f6eed39e362f8f07049ae368c13fc6378853fbdb046bc213", func := "loop.example/g00060/laws.FnPicked", spec := "fnPicked", unfollowed := true, recurses := true, apart := false, narrowed := true }
def FnPickedUptoSaid : Prop := fnPickedUptoRow.holds Try.pinned (OpenSpec.upto fnPickedSpec)

/-- 'laws.FnExactRedFits', WHERE WHAT IT READS IS OF BULK AT MOST 1048576: true; the input reads as it did. -/
def fnExactRedFitsUptoRow : OpenClaim := { program := "ytaidhcbchpcemaa", sum := "5e8eccaee5e48f43f6eed39e362f8f07049ae368c13fc6378853fbdb046bc213", func := "loop.example/g00060/laws.FnExactRedFits", spec := "fnExactRedFits", apart := false, narrowed := true }
def FnExactRedFitsUptoSaid : Prop := fnExactRedFitsUptoRow.holds Try.pinned (OpenSpec.upto fnExactRedFitsSpec)

/-- 'laws.FnExactPlasmaFits', WHERE WHAT IT READS IS OF BULK AT MOST 1048576: true; the input reads as it did. -/
def fnExactPlasmaFitsUptoRow : OpenClaim := { program := "ytaidhcbchpcemaa", sum := "5e8eccaee5e48f43f6eed39e362f8f07049ae368c13fc6378853fbdb046bc213", func := "loop.example/g00060/laws.FnExactPlasmaFits", spec := "fnExactPlasmaFits", apart := false, narrowed := true }
def FnExactPlasmaFitsUptoSaid : Prop := fnExactPlasmaFitsUptoRow.holds Try.pinned (OpenSpec.upto fnExactPlasmaFitsSpec)

/-- 'laws.FnExactBankOk', WHERE WHAT IT READS IS OF BULK AT MOST 1048576: true; the input reads as it did. -/
def fnExactBankOkUptoRow : OpenClaim := { program := "ytaidhcbchpcemaa", sum := "5e8eccaee5e48f43f6eed39e362f8f07049ae368c13fc6378853fbdb046bc213", func := "loop.example/g00060/laws.FnExactBankOk", spec := "fnExactBankOk", apart := false, narrowed := true }
def FnExactBankOkUptoSaid : Prop := fnExactBankOkUptoRow.holds Try.pinned (OpenSpec.upto fnExactBankOkSpec)

end Rows
end Go.Proofs.Ytaidhcbchpcemaa
