/-
  No cell of these rows narrows 'for every input' (looked for: loops, veiled, ifaces, maps, wideKeys, modest, calm, conditions, laid).
  DERIVED. THE GIVEN ROWS OF THIS SEAT. 6 by the template 'for every input the law returns true; each argument reads behind the call as it read before'; 0 by the template 'total and deterministic' (their statements: YtamghmnibfbgaaaTotals.lean).
  GIVEN WITH THE SEED: the statements are not yours to turn. If you find one false, say at which input.
  Laid BY PROGRAM, IN A SANDBOX (cutbox-rows.mjs): the forced cells as the released guide's own fill.sh prints them over the translation 4ae61b93ebdccf64… (all of the seat's roots in one cut). By AI agents, Wed Nov 11 2026. No macro, syntax, notation, axiom, sorry.
-/
import Derived.Test.YtamghmnibfbgaaaChecked
import GoSem.Claim
import GoSem.ClaimJoined
import GoSem.ClaimMapViews
import Derived.JoinedTies
import Derived.KernelRfl
namespace Go.Proofs.Ytamghmnibfbgaaa
/- THE CELL 'sum', in the pinned program and in every row, IS THE sha256 OF THE DUMP (.gsa) THAT YtamghmnibfbgaaaProg.lean LOADS. Nothing in Lean hashes anything: it is a label: what it is worth is what the hold of that sum in a sandbox is worth. -/
noncomputable def Try.pinned : Pinned := { name := "ytamghmnibfbgaaa", sum := "4ae61b93ebdccf64fffec912753024786dca51fcfc61ece20c92d7e0118048dc", checked := Try.checked }
namespace Rows
def none {H : Type} : Left H := { results := [], args := [] }

/-- 'laws.FnPumpRight': WHATEVER THE INPUT: true; the input reads as it did. -/
def fnPumpRightSpec : ChangeSpec := { name := "fnPumpRight", fn := fun _ => fun
  | [d] => { results := [.lit (.bool true)], args := [d] }
  | _ => none }
def fnPumpRightRow : OpenClaim := { program := "ytamghmnibfbgaaa", sum := "4ae61b93ebdccf64fffec912753024786dca51fcfc61ece20c92d7e0118048dc", func := "loop.example/g00060/laws.FnPumpRight", spec := "fnPumpRight", unfollowed := true, recurses := true, apart := false }
def FnPumpRightSaid : Prop := fnPumpRightRow.holds Try.pinned (OpenSpec.ofChange fnPumpRightSpec)

/-- ITS FALSE NEIGHBOUR: 'it returns false'. Refute it at one input. -/
def fnPumpRightWrong : ChangeSpec := { name := "fnPumpRight", fn := fun _ => fun
  | [d] => { results := [.lit (.bool false)], args := [d] }
  | _ => none }
def FnPumpRightWrongFalsely : Prop := fnPumpRightRow.holds Try.pinned (OpenSpec.ofChange fnPumpRightWrong)

/-- 'laws.FnPumpSoft': WHATEVER THE INPUT: true; the input reads as it did. -/
def fnPumpSoftSpec : ChangeSpec := { name := "fnPumpSoft", fn := fun _ => fun
  | [d] => { results := [.lit (.bool true)], args := [d] }
  | _ => none }
def fnPumpSoftRow : OpenClaim := { program := "ytamghmnibfbgaaa", sum := "4ae61b93ebdccf64fffec912753024786dca51fcfc61ece20c92d7e0118048dc", func := "loop.example/g00060/laws.FnPumpSoft", spec := "fnPumpSoft", unfollowed := true, recurses := true, apart := false }
def FnPumpSoftSaid : Prop := fnPumpSoftRow.holds Try.pinned (OpenSpec.ofChange fnPumpSoftSpec)

/-- ITS FALSE NEIGHBOUR: 'it returns false'. Refute it at one input. -/
def fnPumpSoftWrong : ChangeSpec := { name := "fnPumpSoft", fn := fun _ => fun
  | [d] => { results := [.lit (.bool false)], args := [d] }
  | _ => none }
def FnPumpSoftWrongFalsely : Prop := fnPumpSoftRow.holds Try.pinned (OpenSpec.ofChange fnPumpSoftWrong)

/-- 'laws.FnPumpPlay': WHATEVER THE INPUT: true; the input reads as it did. -/
def fnPumpPlaySpec : ChangeSpec := { name := "fnPumpPlay", fn := fun _ => fun
  | [d] => { results := [.lit (.bool true)], args := [d] }
  | _ => none }
def fnPumpPlayRow : OpenClaim := { program := "ytamghmnibfbgaaa", sum := "4ae61b93ebdccf64fffec912753024786dca51fcfc61ece20c92d7e0118048dc", func := "loop.example/g00060/laws.FnPumpPlay", spec := "fnPumpPlay", unfollowed := true, recurses := true, apart := false }
def FnPumpPlaySaid : Prop := fnPumpPlayRow.holds Try.pinned (OpenSpec.ofChange fnPumpPlaySpec)

/-- ITS FALSE NEIGHBOUR: 'it returns false'. Refute it at one input. -/
def fnPumpPlayWrong : ChangeSpec := { name := "fnPumpPlay", fn := fun _ => fun
  | [d] => { results := [.lit (.bool false)], args := [d] }
  | _ => none }
def FnPumpPlayWrongFalsely : Prop := fnPumpPlayRow.holds Try.pinned (OpenSpec.ofChange fnPumpPlayWrong)

/-- 'laws.FnExactPumpOk': WHATEVER THE INPUT: true; the input reads as it did. -/
def fnExactPumpOkSpec : ChangeSpec := { name := "fnExactPumpOk", fn := fun _ => fun
  | [d] => { results := [.lit (.bool true)], args := [d] }
  | _ => none }
def fnExactPumpOkRow : OpenClaim := { program := "ytamghmnibfbgaaa", sum := "4ae61b93ebdccf64fffec912753024786dca51fcfc61ece20c92d7e0118048dc", func := "loop.example/g00060/laws.FnExactPumpOk", spec := "fnExactPumpOk", apart := false }
def FnExactPumpOkSaid : Prop := fnExactPumpOkRow.holds Try.pinned (OpenSpec.ofChange fnExactPumpOkSpec)

/-- ITS FALSE NEIGHBOUR: 'it returns false'. Refute it at one input. -/
def fnExactPumpOkWrong : ChangeSpec := { name := "fnExactPumpOk", fn := fun _ => fun
  | [d] => { results := [.lit (.bool false)], args := [d] }
  | _ => none }
def FnExactPumpOkWrongFalsely : Prop := fnExactPumpOkRow.holds Try.pinned (OpenSpec.ofChange fnExactPumpOkWrong)

/-- 'laws.FnExactNewPump': WHATEVER THE INPUT: true; the input reads as it did. -/
def fnExactNewPumpSpec : ChangeSpec := { name := "fnExactNewPump", fn := fun _ => fun
  | [d1, d2] => { results := [.lit (.bool true)], args := [d1, d2] }
  | _ => none }
def fnExactNewPumpRow : OpenClaim := { program := "ytamghmnibfbgaaa", sum := "4ae61b93ebdccf64fffec912753024786dca51fcfc61ece20c92d7e0118048dc", func := "loop.example/g00060/laws.FnExactNewPump", spec := "fnExactNewPump", apart := false }
def FnExactNewPumpSaid : Prop := fnExactNewPumpRow.holds Try.pinned (OpenSpec.ofChange fnExactNewPumpSpec)

/-- ITS FALSE NEIGHBOUR: 'it returns false'. Refute it at one input. -/
def fnExactNewPumpWrong : ChangeSpec := { name := "fnExactNewPump", fn := fun _ => fun
  | [d1, d2] => { results := [.lit (.bool false)], args := [d1, d2] }
  | _ => none }
def FnExactNewPumpWrongFalsely : Prop := fnExactNewPumpRow.holds Try.pinned (OpenSpec.ofChange fnExactNewPumpWrong)

/-- 'laws.FnExactPumpDo': WHATEVER THE INPUT: true; the input reads as it did. -/
def fnExactPumpDoSpec : ChangeSpec := { name := "fnExactPumpDo", fn := fun _ => fun
  | [d1, d2] => { results := [.lit (.bool true)], args := [d1, d2] }
  | _ => none }
def fnExactPumpDoRow : OpenClaim := { program := "ytamghmnibfbgaaa", sum := "4ae61b93ebdccf64fffec912753024786dca51fcfc61ece20c92d7e0118048dc", func := "loop.example/g00060/laws.FnExactPumpDo", spec := "fnExactPumpDo", unfollowed := true, recurses := true, apart := false }
def FnExactPumpDoSaid : Prop := fnExactPumpDoRow.holds Try.pinned (OpenSpec.ofChange fnExactPumpDoSpec)

/-- ITS FALSE NEIGHBOUR: 'it returns false'. Refute it at one input. -/
def fnExactPumpDoWrong : ChangeSpec := { name := "fnExactPumpDo", fn := fun _ => fun
  | [d1, d2] => { results := [.lit (.bool false)], args := [d1, d2] }
  | _ => none }
def FnExactPumpDoWrongFalsely : Prop := fnExactPumpDoRow.holds Try.pinned (OpenSpec.ofChange fnExactPumpDoWrong)

/- THE SECOND FORM. 'bulk': how many values and letters a reading holds, each counted each time it is reached (what is shared counts as often as it is met; a slice's spare places count too). A statement '..UptoSaid' is the law's where the arguments, and the package variables that the reading takes, are together of bulk at most 1048576: NARROWER than '..Said'. Prove '..Said' where nothing that the law and all that it calls make is longer than what came in: it says more and counts as full. Else prove '..UptoSaid'. A law counts once. -/
mutual
def uptoBulk {H : Type} : DataW H → Nat
  | .lit (.string bytes) => bytes.length + 1
  | .lit _ => 1
  | .nil => 1
  | .ptr d => uptoBulk d + 1
  | .slice elems spare => uptoBulkAll elems + uptoBulkAll spare + 1
  | .agg parts => uptoBulkAll parts + 1
  | .iface _ d => uptoBulk d + 1
  | .map entries => uptoBulkEntries entries + 1
  | .held _ => 1
def uptoBulkAll {H : Type} : List (DataW H) → Nat
  | [] => 0
  | d :: r => uptoBulk d + uptoBulkAll r
def uptoBulkEntries {H : Type} : List (Lit × DataW H) → Nat
  | [] => 0
  | x :: r => uptoBulkEntry x + uptoBulkEntries r
def uptoBulkEntry {H : Type} : Lit × DataW H → Nat
  | (.string bytes, d) => bytes.length + uptoBulk d + 1
  | (_, d) => uptoBulk d + 1
 end
def uptoSmall : (H : Type) → List (DataW H) → Bool := fun _ ds => decide (uptoBulkAll ds ≤ 1048576)
def OpenSpec.upto (s : _root_.Go.ChangeSpec) : _root_.Go.OpenSpec := { _root_.Go.OpenSpec.ofChange s with cond := some uptoSmall }

/-- 'laws.FnPumpRight', WHERE WHAT IT READS IS OF BULK AT MOST 1048576: true; the input reads as it did. -/
def fnPumpRightUptoRow : OpenClaim := { program := "ytamghmnibfbgaaa", sum := "4ae61b93ebdccf64fffec912753024786dca51fcfc61ece20c92d7e0118048dc", func := "loop.example/g00060/laws.FnPumpRight", spec := "fnPumpRight", unfollowed := true, recurses := true, apart := false, narrowed := true }
def FnPumpRightUptoSaid : Prop := fnPumpRightUptoRow.holds Try.pinned (OpenSpec.upto fnPumpRightSpec)

/-- 'laws.FnPumpSoft', WHERE WHAT IT READS IS OF BULK AT MOST 1048576: true; the input reads as it did. -/
def fnPumpSoftUptoRow : OpenClaim := { program := "ytamghmnibfbgaaa", sum := "4ae61b93ebdccf64fffec912753024786dca51fcfc61ece20c92d7e0118048dc", func := "loop.example/g00060/laws.FnPumpSoft", spec := "fnPumpSoft", unfollowed := true, recurses := true, apart := false, narrowed := true }
def FnPumpSoftUptoSaid : Prop := fnPumpSoftUptoRow.holds Try.pinned (OpenSpec.upto fnPumpSoftSpec)

/-- 'laws.FnPumpPlay', WHERE WHAT IT READS IS OF BULK AT MOST 1048576: true; the input reads as it did. -/
def fnPumpPlayUptoRow : OpenClaim := { program := "ytamghmnibfbgaaa", sum := "4ae61b93ebdccf64fffec912753024786dca51fcfc61ece20c92d7e0118048dc", func := "loop.example/g00060/laws.FnPumpPlay", spec := "fnPumpPlay", unfollowed := true, recurses := true, apart := false, narrowed := true }
def FnPumpPlayUptoSaid : Prop := fnPumpPlayUptoRow.holds Try.pinned (OpenSpec.upto fnPumpPlaySpec)

/-- 'laws.FnExactPumpOk', WHERE WHAT IT READS IS OF BULK AT MOST 1048576: true; the input reads as it did. -/
def fnExactPumpOkUptoRow : OpenClaim := { program := "ytamghmnibfbgaaa", sum := "4ae61b93ebdccf64fffec912753024786dca51fcfc61ece20c92d7e0118048dc", func := "loop.example/g00060/laws.FnExactPumpOk", spec := "fnExactPumpOk", apart := false, narrowed := true }
def FnExactPumpOkUptoSaid : Prop := fnExactPumpOkUptoRow.holds Try.pinned (OpenSpec.upto fnExactPumpOkSpec)

/-- 'laws.FnExactNewPump', WHERE WHAT IT READS IS OF BULK AT MOST 1048576: true; the input reads as it did. -/
def fnExactNewPumpUptoRow : OpenClaim := { program := "ytamghmnibfbgaaa", sum := "4ae61b93ebdccf64fffec912753024786dca51fcfc61ece20c92d7e0118048dc", func := "loop.example/g00060/laws.FnExactNewPump", spec := "fnExactNewPump", apart := false, narrowed := true }
def FnExactNewPumpUptoSaid : Prop := fnExactNewPumpUptoRow.holds Try.pinned (OpenSpec.upto fnExactNewPumpSpec)

/-- 'laws.FnExactPumpDo', WHERE WHAT IT READS IS OF BULK AT MOST 1048576: true; the input reads as it did. -/
def fnExactPumpDoUptoRow : OpenClaim := { program := "ytamghmnibfbgaaa", sum := "4ae61b93ebdccf64fffec912753024786dca51fcfc61ece20c92d7e0118048dc", func := "loop.example/g00060/laws.FnExactPumpDo", spec := "fnExactPumpDo", unfollowed := true, recurses := true, apart := false, narrowed := true }
def FnExactPumpDoUptoSaid : Prop := fnExactPumpDoUptoRow.holds Try.pinned (OpenSpec.upto fnExactPumpDoSpec)

end Rows
end Go.Proofs.Ytamghmnibfbgaaa
