/-
  No cell of these rows narrows 'for every input' (looked for: loops, veiled, ifaces, maps, wideKeys, modest, calm, conditions, laid).
  DERIVED. THE GIVEN ROWS OF THIS SEAT. 6 by the template 'for every input the law returns true; each argument reads behind the call as it read before'; 0 by the template 'total and deterministic' (their statements: YtcfghnffacdekanTotals.lean).
  GIVEN WITH THE SEED: the statements are not yours to turn. If you find one false, say at which input.
  Laid BY PROGRAM, IN A SANDBOX (cutbox-rows.mjs): the forced cells as the released guide's own fill.sh prints them over the translation 3952381bcccf760a… (all of the seat's roots in one cut). By AI agents, Wed Nov 11 2026. No macro, syntax, notation, axiom, sorry.
-/
import Derived.Test.YtcfghnffacdekanChecked
import GoSem.Claim
import GoSem.ClaimJoined
import GoSem.ClaimMapViews
import Derived.JoinedTies
import Derived.KernelRfl
namespace Go.Proofs.Ytcfghnffacdekan
/- THE CELL 'sum', in the pinned program and in every row, IS THE sha256 OF THE DUMP (.gsa) THAT YtcfghnffacdekanProg.lean LOADS. Nothing in Lean hashes anything: it is a label: what it is worth is what the hold of that sum in a sandbox is worth. -/
noncomputable def Try.pinned : Pinned := { name := "ytcfghnffacdekan", sum := "3952381bcccf760a7ed4b3556e5e68417f2fb0b61dfcc5cab402b79c34f873be", checked := Try.checked }
namespace Rows
def none {H : Type} : Left H := { results := [], args := [] }

/-- 'laws.FnExactNextLook': WHATEVER THE INPUT: true; the input reads as it did. -/
def fnExactNextLookSpec : ChangeSpec := { name := "fnExactNextLook", fn := fun _ => fun
  | [d1, d2] => { results := [.lit (.bool true)], args := [d1, d2] }
  | _ => none }
def fnExactNextLookRow : OpenClaim := { program := "ytcfghnffacdekan", sum := "3952381bcccf760a7ed4b3556e5e68417f2fb0b61dfcc5cab402b79c34f873be", func := "loop.example/g00060/laws.FnExactNextLook", spec := "fnExactNextLook", unfollowed := true, recurses := true, apart := false }
def FnExactNextLookSaid : Prop := fnExactNextLookRow.holds Try.pinned (OpenSpec.ofChange fnExactNextLookSpec)

/-- ITS FALSE NEIGHBOUR: 'it returns false'. Refute it at one input. -/
def fnExactNextLookWrong : ChangeSpec := { name := "fnExactNextLook", fn := fun _ => fun
  | [d1, d2] => { results := [.lit (.bool false)], args := [d1, d2] }
  | _ => none }
def FnExactNextLookWrongFalsely : Prop := fnExactNextLookRow.holds Try.pinned (OpenSpec.ofChange fnExactNextLookWrong)

/-- 'laws.FnExactQueueOk': WHATEVER THE INPUT: true; the input reads as it did. -/
def fnExactQueueOkSpec : ChangeSpec := { name := "fnExactQueueOk", fn := fun _ => fun
  | [d] => { results := [.lit (.bool true)], args := [d] }
  | _ => none }
def fnExactQueueOkRow : OpenClaim := { program := "ytcfghnffacdekan", sum := "3952381bcccf760a7ed4b3556e5e68417f2fb0b61dfcc5cab402b79c34f873be", func := "loop.example/g00060/laws.FnExactQueueOk", spec := "fnExactQueueOk", unfollowed := true, recurses := true, apart := false }
def FnExactQueueOkSaid : Prop := fnExactQueueOkRow.holds Try.pinned (OpenSpec.ofChange fnExactQueueOkSpec)

/-- ITS FALSE NEIGHBOUR: 'it returns false'. Refute it at one input. -/
def fnExactQueueOkWrong : ChangeSpec := { name := "fnExactQueueOk", fn := fun _ => fun
  | [d] => { results := [.lit (.bool false)], args := [d] }
  | _ => none }
def FnExactQueueOkWrongFalsely : Prop := fnExactQueueOkRow.holds Try.pinned (OpenSpec.ofChange fnExactQueueOkWrong)

/-- 'laws.FnExactSeenOrder': WHATEVER THE INPUT: true; the input reads as it did. -/
def fnExactSeenOrderSpec : ChangeSpec := { name := "fnExactSeenOrder", fn := fun _ => fun
  | [d1, d2] => { results := [.lit (.bool true)], args := [d1, d2] }
  | _ => none }
def fnExactSeenOrderRow : OpenClaim := { program := "ytcfghnffacdekan", sum := "3952381bcccf760a7ed4b3556e5e68417f2fb0b61dfcc5cab402b79c34f873be", func := "loop.example/g00060/laws.FnExactSeenOrder", spec := "fnExactSeenOrder", unfollowed := true, recurses := true, apart := false }
def FnExactSeenOrderSaid : Prop := fnExactSeenOrderRow.holds Try.pinned (OpenSpec.ofChange fnExactSeenOrderSpec)

/-- ITS FALSE NEIGHBOUR: 'it returns false'. Refute it at one input. -/
def fnExactSeenOrderWrong : ChangeSpec := { name := "fnExactSeenOrder", fn := fun _ => fun
  | [d1, d2] => { results := [.lit (.bool false)], args := [d1, d2] }
  | _ => none }
def FnExactSeenOrderWrongFalsely : Prop := fnExactSeenOrderRow.holds Try.pinned (OpenSpec.ofChange fnExactSeenOrderWrong)

/-- 'laws.FnExactTrend': WHATEVER THE INPUT: true; the input reads as it did. -/
def fnExactTrendSpec : ChangeSpec := { name := "fnExactTrend", fn := fun _ => fun
  | [d] => { results := [.lit (.bool true)], args := [d] }
  | _ => none }
def fnExactTrendRow : OpenClaim := { program := "ytcfghnffacdekan", sum := "3952381bcccf760a7ed4b3556e5e68417f2fb0b61dfcc5cab402b79c34f873be", func := "loop.example/g00060/laws.FnExactTrend", spec := "fnExactTrend", unfollowed := true, recurses := true, apart := false }
def FnExactTrendSaid : Prop := fnExactTrendRow.holds Try.pinned (OpenSpec.ofChange fnExactTrendSpec)

/-- ITS FALSE NEIGHBOUR: 'it returns false'. Refute it at one input. -/
def fnExactTrendWrong : ChangeSpec := { name := "fnExactTrend", fn := fun _ => fun
  | [d] => { results := [.lit (.bool false)], args := [d] }
  | _ => none }
def FnExactTrendWrongFalsely : Prop := fnExactTrendRow.holds Try.pinned (OpenSpec.ofChange fnExactTrendWrong)

/-- 'laws.FnExactOpsOk': WHATEVER THE INPUT: true; the input reads as it did. -/
def fnExactOpsOkSpec : ChangeSpec := { name := "fnExactOpsOk", fn := fun _ => fun
  | [d] => { results := [.lit (.bool true)], args := [d] }
  | _ => none }
def fnExactOpsOkRow : OpenClaim := { program := "ytcfghnffacdekan", sum := "3952381bcccf760a7ed4b3556e5e68417f2fb0b61dfcc5cab402b79c34f873be", func := "loop.example/g00060/laws.FnExactOpsOk", spec := "fnExactOpsOk", apart := false }
def FnExactOpsOkSaid : Prop := fnExactOpsOkRow.holds Try.pinned (OpenSpec.ofChange fnExactOpsOkSpec)

/-- ITS FALSE NEIGHBOUR: 'it returns false'. Refute it at one input. -/
def fnExactOpsOkWrong : ChangeSpec := { name := "fnExactOpsOk", fn := fun _ => fun
  | [d] => { results := [.lit (.bool false)], args := [d] }
  | _ => none }
def FnExactOpsOkWrongFalsely : Prop := fnExactOpsOkRow.holds Try.pinned (OpenSpec.ofChange fnExactOpsOkWrong)

/-- 'laws.FnExactClashes': WHATEVER THE INPUT: true; the input reads as it did. -/
def fnExactClashesSpec : ChangeSpec := { name := "fnExactClashes", fn := fun _ => fun
  | [d1, d2] => { results := [.lit (.bool true)], args := [d1, d2] }
  | _ => none }
def fnExactClashesRow : OpenClaim := { program := "ytcfghnffacdekan", sum := "3952381bcccf760a7ed4b3556e5e68417f2fb0b61dfcc5cab402b79c34f873be", func := "loop.example/g00060/laws.FnExactClashes", spec := "fnExactClashes", apart := false }
def FnExactClashesSaid : Prop := fnExactClashesRow.holds Try.pinned (OpenSpec.ofChange fnExactClashesSpec)

/-- ITS FALSE NEIGHBOUR: 'it returns false'. Refute it at one input. -/
def fnExactClashesWrong : ChangeSpec := { name := "fnExactClashes", fn := fun _ => fun
  | [d1, d2] => { results := [.lit (.bool false)], args := [d1, d2] }
  | _ => none }
def FnExactClashesWrongFalsely : Prop := fnExactClashesRow.holds Try.pinned (OpenSpec.ofChange fnExactClashesWrong)

/- THE SECOND FORM. 'bulk': how many values and letters a reading holds, each counted each time it is reached (what is shared counts as often as it is met; a slice's spare places count too). A statement '..UptoSaid' is the law's where the arguments, and the package variables that the reading takes, are together of bulk at most 1048576: NARROWER than '..Said'. Prove '..Said' where nothing that the law and all that it calls make is longer than what came in: it says more and counts as full. Else prove '..UptoSaid'. A law counts once. -/
mutual
def uptoBulk {H : Type} : DataW H → Nat
  | .lit (.string bytes) => bytes.length + 1
  | .lit _ => 1
  | .nil => 1
  | .ptr d => uptoBulk d + 1
  | .slice elems spare => uptoBulkAll elems + uptoBulkAll spare + 1
  | .agg parts => uptoBulkAll parts + 1
  | .iface _ d => uptoBulk d + 1
  | .map entries => uptoBulkEntries entries + 1
  | .held _ => 1
def uptoBulkAll {H : Type} : List (DataW H) → Nat
  | [] => 0
  | d :: r => uptoBulk d + uptoBulkAll r
def uptoBulkEntries {H : Type} : List (Lit × DataW H) → Nat
  | [] => 0
  | x :: r => uptoBulkEntry x + uptoBulkEntries r
def uptoBulkEntry {H : Type} : Lit × DataW H → Nat
  | (.string bytes, d) => bytes.length + uptoBulk d + 1
  | (_, d) => uptoBulk d + 1
 end
def uptoSmall : (H : Type) → List (DataW H) → Bool := fun _ ds => decide (uptoBulkAll ds ≤ 1048576)
def OpenSpec.upto (s : _root_.Go.ChangeSpec) : _root_.Go.OpenSpec := { _root_.Go.OpenSpec.ofChange s with cond := some uptoSmall }

/-- 'laws.FnExactNextLook', WHERE WHAT IT READS IS OF BULK AT MOST 1048576: true; the input reads as it did. -/
def fnExactNextLookUptoRow : OpenClaim := { program := "ytcfghnffacdekan", sum := "3952381bcccf760a7ed4b3556e5e68417f2fb0b61dfcc5cab402b79c34f873be", func := "loop.example/g00060/laws.FnExactNextLook", spec := "fnExactNextLook", unfollowed := true, recurses := true, apart := false, narrowed := true }
def FnExactNextLookUptoSaid : Prop := fnExactNextLookUptoRow.holds Try.pinned (OpenSpec.upto fnExactNextLookSpec)

/-- 'laws.FnExactQueueOk', WHERE WHAT IT READS IS OF BULK AT MOST 1048576: true; the input reads as it did. -/
def fnExactQueueOkUptoRow : OpenClaim := { program := "ytcfghnffacdekan", sum := "3952381bcccf760a7ed4b3556e5e68417f2fb0b61dfcc5cab402b79c34f873be", func := "loop.example/g00060/laws.FnExactQueueOk", spec := "fnExactQueueOk", unfollowed := true, recurses := true, apart := false, narrowed := true }
def FnExactQueueOkUptoSaid : Prop := fnExactQueueOkUptoRow.holds Try.pinned (OpenSpec.upto fnExactQueueOkSpec)

/-- 'laws.FnExactSeenOrder', WHERE WHAT IT READS IS OF BULK AT MOST 1048576: true; the input reads as it did. -/
def fnExactSeenOrderUptoRow : OpenClaim := { program := "ytcfghnffacdekan", sum := "3952381bcccf760a7ed4b3556e5e68417f2fb0b61dfcc5cab402b79c34f873be", func := "loop.example/g00060/laws.FnExactSeenOrder", spec := "fnExactSeenOrder", unfollowed := true, recurses := true, apart := false, narrowed := true }
def FnExactSeenOrderUptoSaid : Prop := fnExactSeenOrderUptoRow.holds Try.pinned (OpenSpec.upto fnExactSeenOrderSpec)

/-- 'laws.FnExactTrend', WHERE WHAT IT READS IS OF BULK AT MOST 1048576: true; the input reads as it did. -/
def fnExactTrendUptoRow : OpenClaim := { program := "ytcfghnffacdekan", sum := "3952381bcccf760a7ed4b3556e5e68417f2fb0b61dfcc5cab402b79c34f873be", func := "loop.example/g00060/laws.FnExactTrend", spec := "fnExactTrend", unfollowed := true, recurses := true, apart := false, narrowed := true }
def FnExactTrendUptoSaid : Prop := fnExactTrendUptoRow.holds Try.pinned (OpenSpec.upto fnExactTrendSpec)

/-- 'laws.FnExactOpsOk', WHERE WHAT IT READS IS OF BULK AT MOST 1048576: true; the input reads as it did. -/
def fnExactOpsOkUptoRow : OpenClaim := { program := "ytcfghnffacdekan", sum := "3952381bcccf760a7ed4b3556e5e68417f2fb0b61dfcc5cab402b79c34f873be", func := "loop.example/g00060/laws.FnExactOpsOk", spec := "fnExactOpsOk", apart := false, narrowed := true }
def FnExactOpsOkUptoSaid : Prop := fnExactOpsOkUptoRow.holds Try.pinned (OpenSpec.upto fnExactOpsOkSpec)

/-- 'laws.FnExactClashes', WHERE WHAT IT READS IS OF BULK AT MOST 1048576: true; the input reads as it did. -/
def fnExactClashesUptoRow : OpenClaim := { program := "ytcfghnffacdekan", sum := "3952381bcccf760a7ed4b3556e5e68417f2fb0b61dfcc5cab402b79c34f873be", func := "loop.example/g00060/laws.FnExactClashes", spec := "fnExactClashes", apart := false, narrowed := true }
def FnExactClashesUptoSaid : Prop := fnExactClashesUptoRow.holds Try.pinned (OpenSpec.upto fnExactClashesSpec)

end Rows
end Go.Proofs.Ytcfghnffacdekan
