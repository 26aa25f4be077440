/-
  No cell of these rows narrows 'for every input' (looked for: loops, veiled, ifaces, maps, wideKeys, modest, calm, conditions, laid).
  DERIVED. THE GIVEN ROWS OF THIS SEAT. 6 by the template 'for every input the law returns true; each argument reads behind the call as it read before'; 0 by the template 'total and deterministic' (their statements: YtcnhogghfedcdaaTotals.lean).
  GIVEN WITH THE SEED: the statements are not yours to turn. If you find one false, say at which input.
  Laid BY PROGRAM, IN A SANDBOX (cutbox-rows.mjs): the forced cells as the released guide's own fill.sh prints them over the translation 02676fd5f40a9dd0… (all of the seat's roots in one cut). By AI agents, Wed Nov 11 2026. No macro, syntax, notation, axiom, sorry.
-/
import Derived.Test.YtcnhogghfedcdaaChecked
import GoSem.Claim
import GoSem.ClaimJoined
import GoSem.ClaimMapViews
import Derived.JoinedTies
import Derived.KernelRfl
namespace Go.Proofs.Ytcnhogghfedcdaa
/- THE CELL 'sum', in the pinned program and in every row, IS THE sha256 OF THE DUMP (.gsa) THAT YtcnhogghfedcdaaProg.lean LOADS. Nothing in Lean hashes anything: it is a label: what it is worth is what the hold of that sum in a sandbox is worth. -/
noncomputable def Try.pinned : Pinned := { name := "ytcnhogghfedcdaa", sum := "02676fd5f40a9dd06f7a89e9da3ab0386265154d8d0796669a8cef42e4066b58", checked := Try.checked }
namespace Rows
def none {H : Type} : Left H := { results := [], args := [] }

/-- 'laws.FnDose': WHATEVER THE INPUT: true; the input reads as it did. -/
def fnDoseSpec : ChangeSpec := { name := "fnDose", fn := fun _ => fun
  | [d] => { results := [.lit (.bool true)], args := [d] }
  | _ => none }
def fnDoseRow : OpenClaim := { program := "ytcnhogghfedcdaa", sum := "02676fd5f40a9dd06f7a89e9da3ab0386265154d8d0796669a8cef42e4066b58", func := "loop.example/g00060/laws.FnDose", spec := "fnDose", apart := false }
def FnDoseSaid : Prop := fnDoseRow.holds Try.pinned (OpenSpec.ofChange fnDoseSpec)

/-- ITS FALSE NEIGHBOUR: 'it returns false'. Refute it at one input. -/
def fnDoseWrong : ChangeSpec := { name := "fnDose", fn := fun _ => fun
  | [d] => { results := [.lit (.bool false)], args := [d] }
  | _ => none }
def FnDoseWrongFalsely : Prop := fnDoseRow.holds Try.pinned (OpenSpec.ofChange fnDoseWrong)

/-- 'laws.FnInteractions': WHATEVER THE INPUT: true; the input reads as it did. -/
def fnInteractionsSpec : ChangeSpec := { name := "fnInteractions", fn := fun _ => fun
  | [d] => { results := [.lit (.bool true)], args := [d] }
  | _ => none }
def fnInteractionsRow : OpenClaim := { program := "ytcnhogghfedcdaa", sum := "02676fd5f40a9dd06f7a89e9da3ab0386265154d8d0796669a8cef42e4066b58", func := "loop.example/g00060/laws.FnInteractions", spec := "fnInteractions", apart := false }
def FnInteractionsSaid : Prop := fnInteractionsRow.holds Try.pinned (OpenSpec.ofChange fnInteractionsSpec)

/-- ITS FALSE NEIGHBOUR: 'it returns false'. Refute it at one input. -/
def fnInteractionsWrong : ChangeSpec := { name := "fnInteractions", fn := fun _ => fun
  | [d] => { results := [.lit (.bool false)], args := [d] }
  | _ => none }
def FnInteractionsWrongFalsely : Prop := fnInteractionsRow.holds Try.pinned (OpenSpec.ofChange fnInteractionsWrong)

/-- 'laws.FnMayGive': WHATEVER THE INPUT: true; the input reads as it did. -/
def fnMayGiveSpec : ChangeSpec := { name := "fnMayGive", fn := fun _ => fun
  | [d] => { results := [.lit (.bool true)], args := [d] }
  | _ => none }
def fnMayGiveRow : OpenClaim := { program := "ytcnhogghfedcdaa", sum := "02676fd5f40a9dd06f7a89e9da3ab0386265154d8d0796669a8cef42e4066b58", func := "loop.example/g00060/laws.FnMayGive", spec := "fnMayGive", unfollowed := true, recurses := true, apart := false }
def FnMayGiveSaid : Prop := fnMayGiveRow.holds Try.pinned (OpenSpec.ofChange fnMayGiveSpec)

/-- ITS FALSE NEIGHBOUR: 'it returns false'. Refute it at one input. -/
def fnMayGiveWrong : ChangeSpec := { name := "fnMayGive", fn := fun _ => fun
  | [d] => { results := [.lit (.bool false)], args := [d] }
  | _ => none }
def FnMayGiveWrongFalsely : Prop := fnMayGiveRow.holds Try.pinned (OpenSpec.ofChange fnMayGiveWrong)

/-- 'laws.FnTaper': WHATEVER THE INPUT: true; the input reads as it did. -/
def fnTaperSpec : ChangeSpec := { name := "fnTaper", fn := fun _ => fun
  | [d] => { results := [.lit (.bool true)], args := [d] }
  | _ => none }
def fnTaperRow : OpenClaim := { program := "ytcnhogghfedcdaa", sum := "02676fd5f40a9dd06f7a89e9da3ab0386265154d8d0796669a8cef42e4066b58", func := "loop.example/g00060/laws.FnTaper", spec := "fnTaper", apart := false }
def FnTaperSaid : Prop := fnTaperRow.holds Try.pinned (OpenSpec.ofChange fnTaperSpec)

/-- ITS FALSE NEIGHBOUR: 'it returns false'. Refute it at one input. -/
def fnTaperWrong : ChangeSpec := { name := "fnTaper", fn := fun _ => fun
  | [d] => { results := [.lit (.bool false)], args := [d] }
  | _ => none }
def FnTaperWrongFalsely : Prop := fnTaperRow.holds Try.pinned (OpenSpec.ofChange fnTaperWrong)

/-- 'laws.FnExactDrugOk': WHATEVER THE INPUT: true; the input reads as it did. -/
def fnExactDrugOkSpec : ChangeSpec := { name := "fnExactDrugOk", fn := fun _ => fun
  | [d] => { results := [.lit (.bool true)], args := [d] }
  | _ => none }
def fnExactDrugOkRow : OpenClaim := { program := "ytcnhogghfedcdaa", sum := "02676fd5f40a9dd06f7a89e9da3ab0386265154d8d0796669a8cef42e4066b58", func := "loop.example/g00060/laws.FnExactDrugOk", spec := "fnExactDrugOk", apart := false }
def FnExactDrugOkSaid : Prop := fnExactDrugOkRow.holds Try.pinned (OpenSpec.ofChange fnExactDrugOkSpec)

/-- ITS FALSE NEIGHBOUR: 'it returns false'. Refute it at one input. -/
def fnExactDrugOkWrong : ChangeSpec := { name := "fnExactDrugOk", fn := fun _ => fun
  | [d] => { results := [.lit (.bool false)], args := [d] }
  | _ => none }
def FnExactDrugOkWrongFalsely : Prop := fnExactDrugOkRow.holds Try.pinned (OpenSpec.ofChange fnExactDrugOkWrong)

/-- 'laws.FnExactDoseFor': WHATEVER THE INPUT: true; the input reads as it did. -/
def fnExactDoseForSpec : ChangeSpec := { name := "fnExactDoseFor", fn := fun _ => fun
  | [d1, d2, d3] => { results := [.lit (.bool true)], args := [d1, d2, d3] }
  | _ => none }
def fnExactDoseForRow : OpenClaim := { program := "ytcnhogghfedcdaa", sum := "02676fd5f40a9dd06f7a89e9da3ab0386265154d8d0796669a8cef42e4066b58", func := "loop.example/g00060/laws.FnExactDoseFor", spec := "fnExactDoseFor", apart := false }
def FnExactDoseForSaid : Prop := fnExactDoseForRow.holds Try.pinned (OpenSpec.ofChange fnExactDoseForSpec)

/-- ITS FALSE NEIGHBOUR: 'it returns false'. Refute it at one input. -/
def fnExactDoseForWrong : ChangeSpec := { name := "fnExactDoseFor", fn := fun _ => fun
  | [d1, d2, d3] => { results := [.lit (.bool false)], args := [d1, d2, d3] }
  | _ => none }
def FnExactDoseForWrongFalsely : Prop := fnExactDoseForRow.holds Try.pinned (OpenSpec.ofChange fnExactDoseForWrong)

/- THE SECOND FORM. 'bulk': how many values and letters a reading holds, each counted each time it is reached (what is shared counts as often as it is met; a slice's spare places count too). A statement '..UptoSaid' is the law's where the arguments, and the package variables that the reading takes, are together of bulk at most 1048576: NARROWER than '..Said'. Prove '..Said' where nothing that the law and all that it calls make is longer than what came in: it says more and counts as full. Else prove '..UptoSaid'. A law counts once. -/
mutual
def uptoBulk {H : Type} : DataW H → Nat
  | .lit (.string bytes) => bytes.length + 1
  | .lit _ => 1
  | .nil => 1
  | .ptr d => uptoBulk d + 1
  | .slice elems spare => uptoBulkAll elems + uptoBulkAll spare + 1
  | .agg parts => uptoBulkAll parts + 1
  | .iface _ d => uptoBulk d + 1
  | .map entries => uptoBulkEntries entries + 1
  | .held _ => 1
def uptoBulkAll {H : Type} : List (DataW H) → Nat
  | [] => 0
  | d :: r => uptoBulk d + uptoBulkAll r
def uptoBulkEntries {H : Type} : List (Lit × DataW H) → Nat
  | [] => 0
  | x :: r => uptoBulkEntry x + uptoBulkEntries r
def uptoBulkEntry {H : Type} : Lit × DataW H → Nat
  | (.string bytes, d) => bytes.length + uptoBulk d + 1
  | (_, d) => uptoBulk d + 1
 end
def uptoSmall : (H : Type) → List (DataW H) → Bool := fun _ ds => decide (uptoBulkAll ds ≤ 1048576)
def OpenSpec.upto (s : _root_.Go.ChangeSpec) : _root_.Go.OpenSpec := { _root_.Go.OpenSpec.ofChange s with cond := some uptoSmall }

/-- 'laws.FnDose', WHERE WHAT IT READS IS OF BULK AT MOST 1048576: true; the input reads as it did. -/
def fnDoseUptoRow : OpenClaim := { program := "ytcnhogghfedcdaa", sum := "02676fd5f40a9dd06f7a89e9da3ab0386265154d8d0796669a8cef42e4066b58", func := "loop.example/g00060/laws.FnDose", spec := "fnDose", apart := false, narrowed := true }
def FnDoseUptoSaid : Prop := fnDoseUptoRow.holds Try.pinned (OpenSpec.upto fnDoseSpec)

/-- 'laws.FnInteractions', WHERE WHAT IT READS IS OF BULK AT MOST 1048576: true; the input reads as it did. -/
def fnInteractionsUptoRow : OpenClaim := { program := "ytcnhogghfedcdaa", sum := "02676fd5f40a9dd06f7a89e9da3ab0386265154d8d0796669a8cef42e4066b58", func := "loop.example/g00060/laws.FnInteractions", spec := "fnInteractions", apart := false, narrowed := true }
def FnInteractionsUptoSaid : Prop := fnInteractionsUptoRow.holds Try.pinned (OpenSpec.upto fnInteractionsSpec)

/-- 'laws.FnMayGive', WHERE WHAT IT READS IS OF BULK AT MOST 1048576: true; the input reads as it did. -/
def fnMayGiveUptoRow : OpenClaim := { program := "ytcnhogghfedcdaa", sum := "02676fd5f40a9dd06f7a89e9da3ab0386265154d8d0796669a8cef42e4066b58", func := "loop.example/g00060/laws.FnMayGive", spec := "fnMayGive", unfollowed := true, recurses := true, apart := false, narrowed := true }
def FnMayGiveUptoSaid : Prop := fnMayGiveUptoRow.holds Try.pinned (OpenSpec.upto fnMayGiveSpec)

/-- 'laws.FnTaper', WHERE WHAT IT READS IS OF BULK AT MOST 1048576: true; the input reads as it did. -/
def fnTaperUptoRow : OpenClaim := { program := "ytcnhogghfedcdaa", sum := "02676fd5f40a9dd06f7a89e9da3ab0386265154d8d0796669a8cef42e4066b58", func := "loop.example/g00060/laws.FnTaper", spec := "fnTaper", apart := false, narrowed := true }
def FnTaperUptoSaid : Prop := fnTaperUptoRow.holds Try.pinned (OpenSpec.upto fnTaperSpec)

/-- 'laws.FnExactDrugOk', WHERE WHAT IT READS IS OF BULK AT MOST 1048576: true; the input reads as it did. -/
def fnExactDrugOkUptoRow : OpenClaim := { program := "ytcnhogghfedcdaa", sum := "02676fd5f40a9dd06f7a89e9da3ab0386265154d8d0796669a8cef42e4066b58", func := "loop.example/g00060/laws.FnExactDrugOk", spec := "fnExactDrugOk", apart := false, narrowed := true }
def FnExactDrugOkUptoSaid : Prop := fnExactDrugOkUptoRow.holds Try.pinned (OpenSpec.upto fnExactDrugOkSpec)

/-- 'laws.FnExactDoseFor', WHERE WHAT IT READS IS OF BULK AT MOST 1048576: true; the input reads as it did. -/
def fnExactDoseForUptoRow : OpenClaim := { program := "ytcnhogghfedcdaa", sum := "02676fd5f40a9dd06f7a89e9da3ab0386265154d8d0796669a8cef42e4066b58", func := "loop.example/g00060/laws.FnExactDoseFor", spec := "fnExactDoseFor", apart := false, narrowed := true }
def FnExactDoseForUptoSaid : Prop := fnExactDoseForUptoRow.holds Try.pinned (OpenSpec.upto fnExactDoseForSpec)

end Rows
end Go.Proofs.Ytcnhogghfedcdaa
