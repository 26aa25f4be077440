/-
  No cell of these rows narrows 'for every input' (looked for: loops, veiled, ifaces, maps, wideKeys, modest, calm, conditions, laid).
  DERIVED. THE GIVEN ROWS OF THIS SEAT. 6 by the template 'for every input the law returns true; each argument reads behind the call as it read before'; 0 by the template 'total and deterministic' (their statements: YtcfghnffacdekabTotals.lean).
  GIVEN WITH THE SEED: the statements are not yours to turn. If you find one false, say at which input.
  Laid BY PROGRAM, IN A SANDBOX (cutbox-rows.mjs): the forced cells as the released guide's own fill.sh prints them over the translation 5c4db59177334bee… (all of the seat's roots in one cut). By AI agents, Wed Nov 11 2026. No macro, syntax, notation, axiom, sorry.
-/
import Derived.Test.YtcfghnffacdekabChecked
import GoSem.Claim
import GoSem.ClaimJoined
import GoSem.ClaimMapViews
import Derived.JoinedTies
import Derived.KernelRfl
namespace Go.Proofs.Ytcfghnffacdekab
/- THE CELL 'sum', in the pinned program and in every row, IS THE sha256 OF THE DUMP (.gsa) THAT YtcfghnffacdekabProg.lean LOADS. Nothing in Lean hashes anything: it is a label: what it is worth is what the hold of that sum in a sandbox is worth. -/
noncomputable def Try.pinned : Pinned := { name := "ytcfghnffacdekab", sum := "5c4db59177334bee74921b69e5dfc7156184499549a4f5de9c0649d7d152aafb", checked := Try.checked }
namespace Rows
def none {H : Type} : Left H := { results := [], args := [] }

/-- 'laws.FnHouseKept': WHATEVER THE INPUT: true; the input reads as it did. -/
def fnHouseKeptSpec : ChangeSpec := { name := "fnHouseKept", fn := fun _ => fun
  | [d] => { results := [.lit (.bool true)], args := [d] }
  | _ => none }
def fnHouseKeptRow : OpenClaim := { program := "ytcfghnffacdekab", sum := "5c4db59177334bee74921b69e5dfc7156184499549a4f5de9c0649d7d152aafb", func := "loop.example/g00060/laws.FnHouseKept", spec := "fnHouseKept", unfollowed := true, recurses := true, apart := false }
def FnHouseKeptSaid : Prop := fnHouseKeptRow.holds Try.pinned (OpenSpec.ofChange fnHouseKeptSpec)

/-- ITS FALSE NEIGHBOUR: 'it returns false'. Refute it at one input. -/
def fnHouseKeptWrong : ChangeSpec := { name := "fnHouseKept", fn := fun _ => fun
  | [d] => { results := [.lit (.bool false)], args := [d] }
  | _ => none }
def FnHouseKeptWrongFalsely : Prop := fnHouseKeptRow.holds Try.pinned (OpenSpec.ofChange fnHouseKeptWrong)

/-- 'laws.FnBedsFree': WHATEVER THE INPUT: true; the input reads as it did. -/
def fnBedsFreeSpec : ChangeSpec := { name := "fnBedsFree", fn := fun _ => fun
  | [d] => { results := [.lit (.bool true)], args := [d] }
  | _ => none }
def fnBedsFreeRow : OpenClaim := { program := "ytcfghnffacdekab", sum := "5c4db59177334bee74921b69e5dfc7156184499549a4f5de9c0649d7d152aafb", func := "loop.example/g00060/laws.FnBedsFree", spec := "fnBedsFree", unfollowed := true, recurses := true, apart := false }
def FnBedsFreeSaid : Prop := fnBedsFreeRow.holds Try.pinned (OpenSpec.ofChange fnBedsFreeSpec)

/-- ITS FALSE NEIGHBOUR: 'it returns false'. Refute it at one input. -/
def fnBedsFreeWrong : ChangeSpec := { name := "fnBedsFree", fn := fun _ => fun
  | [d] => { results := [.lit (.bool false)], args := [d] }
  | _ => none }
def FnBedsFreeWrongFalsely : Prop := fnBedsFreeRow.holds Try.pinned (OpenSpec.ofChange fnBedsFreeWrong)

/-- 'laws.FnMinutes': WHATEVER THE INPUT: true; the input reads as it did. -/
def fnMinutesSpec : ChangeSpec := { name := "fnMinutes", fn := fun _ => fun
  | [d] => { results := [.lit (.bool true)], args := [d] }
  | _ => none }
def fnMinutesRow : OpenClaim := { program := "ytcfghnffacdekab", sum := "5c4db59177334bee74921b69e5dfc7156184499549a4f5de9c0649d7d152aafb", func := "loop.example/g00060/laws.FnMinutes", spec := "fnMinutes", unfollowed := true, recurses := true, apart := false }
def FnMinutesSaid : Prop := fnMinutesRow.holds Try.pinned (OpenSpec.ofChange fnMinutesSpec)

/-- ITS FALSE NEIGHBOUR: 'it returns false'. Refute it at one input. -/
def fnMinutesWrong : ChangeSpec := { name := "fnMinutes", fn := fun _ => fun
  | [d] => { results := [.lit (.bool false)], args := [d] }
  | _ => none }
def FnMinutesWrongFalsely : Prop := fnMinutesRow.holds Try.pinned (OpenSpec.ofChange fnMinutesWrong)

/-- 'laws.FnPointsGrow': WHATEVER THE INPUT: true; the input reads as it did. -/
def fnPointsGrowSpec : ChangeSpec := { name := "fnPointsGrow", fn := fun _ => fun
  | [d] => { results := [.lit (.bool true)], args := [d] }
  | _ => none }
def fnPointsGrowRow : OpenClaim := { program := "ytcfghnffacdekab", sum := "5c4db59177334bee74921b69e5dfc7156184499549a4f5de9c0649d7d152aafb", func := "loop.example/g00060/laws.FnPointsGrow", spec := "fnPointsGrow", unfollowed := true, recurses := true, apart := false }
def FnPointsGrowSaid : Prop := fnPointsGrowRow.holds Try.pinned (OpenSpec.ofChange fnPointsGrowSpec)

/-- ITS FALSE NEIGHBOUR: 'it returns false'. Refute it at one input. -/
def fnPointsGrowWrong : ChangeSpec := { name := "fnPointsGrow", fn := fun _ => fun
  | [d] => { results := [.lit (.bool false)], args := [d] }
  | _ => none }
def FnPointsGrowWrongFalsely : Prop := fnPointsGrowRow.holds Try.pinned (OpenSpec.ofChange fnPointsGrowWrong)

/-- 'laws.FnSeenOrder': WHATEVER THE INPUT: true; the input reads as it did. -/
def fnSeenOrderSpec : ChangeSpec := { name := "fnSeenOrder", fn := fun _ => fun
  | [d] => { results := [.lit (.bool true)], args := [d] }
  | _ => none }
def fnSeenOrderRow : OpenClaim := { program := "ytcfghnffacdekab", sum := "5c4db59177334bee74921b69e5dfc7156184499549a4f5de9c0649d7d152aafb", func := "loop.example/g00060/laws.FnSeenOrder", spec := "fnSeenOrder", unfollowed := true, recurses := true, apart := false }
def FnSeenOrderSaid : Prop := fnSeenOrderRow.holds Try.pinned (OpenSpec.ofChange fnSeenOrderSpec)

/-- ITS FALSE NEIGHBOUR: 'it returns false'. Refute it at one input. -/
def fnSeenOrderWrong : ChangeSpec := { name := "fnSeenOrder", fn := fun _ => fun
  | [d] => { results := [.lit (.bool false)], args := [d] }
  | _ => none }
def FnSeenOrderWrongFalsely : Prop := fnSeenOrderRow.holds Try.pinned (OpenSpec.ofChange fnSeenOrderWrong)

/-- 'laws.FnClashes': WHATEVER THE INPUT: true; the input reads as it did. -/
def fnClashesSpec : ChangeSpec := { name := "fnClashes", fn := fun _ => fun
  | [d] => { results := [.lit (.bool true)], args := [d] }
  | _ => none }
def fnClashesRow : OpenClaim := { program := "ytcfghnffacdekab", sum := "5c4db59177334bee74921b69e5dfc7156184499549a4f5de9c0649d7d152aafb", func := "loop.example/g00060/laws.FnClashes", spec := "fnClashes", apart := false }
def FnClashesSaid : Prop := fnClashesRow.holds Try.pinned (OpenSpec.ofChange fnClashesSpec)

/-- ITS FALSE NEIGHBOUR: 'it returns false'. Refute it at one input. -/
def fnClashesWrong : ChangeSpec := { name := "fnClashes", fn := fun _ => fun
  | [d] => { results := [.lit (.bool false)], args := [d] }
  | _ => none }
def FnClashesWrongFalsely : Prop := fnClashesRow.holds Try.pinned (OpenSpec.ofChange fnClashesWrong)

/- THE SECOND FORM. 'bulk': how many values and letters a reading holds, each counted each time it is reached (what is shared counts as often as it is met; a slice's spare places count too). A statement '..UptoSaid' is the law's where the arguments, and the package variables that the reading takes, are together of bulk at most 1048576: NARROWER than '..Said'. Prove '..Said' where nothing that the law and all that it calls make is longer than what came in: it says more and counts as full. Else prove '..UptoSaid'. A law counts once. -/
mutual
def uptoBulk {H : Type} : DataW H → Nat
  | .lit (.string bytes) => bytes.length + 1
  | .lit _ => 1
  | .nil => 1
  | .ptr d => uptoBulk d + 1
  | .slice elems spare => uptoBulkAll elems + uptoBulkAll spare + 1
  | .agg parts => uptoBulkAll parts + 1
  | .iface _ d => uptoBulk d + 1
  | .map entries => uptoBulkEntries entries + 1
  | .held _ => 1
def uptoBulkAll {H : Type} : List (DataW H) → Nat
  | [] => 0
  | d :: r => uptoBulk d + uptoBulkAll r
def uptoBulkEntries {H : Type} : List (Lit × DataW H) → Nat
  | [] => 0
  | x :: r => uptoBulkEntry x + uptoBulkEntries r
def uptoBulkEntry {H : Type} : Lit × DataW H → Nat
  | (.string bytes, d) => bytes.length + uptoBulk d + 1
  | (_, d) => uptoBulk d + 1
 end
def uptoSmall : (H : Type) → List (DataW H) → Bool := fun _ ds => decide (uptoBulkAll ds ≤ 1048576)
def OpenSpec.upto (s : _root_.Go.ChangeSpec) : _root_.Go.OpenSpec := { _root_.Go.OpenSpec.ofChange s with cond := some uptoSmall }

/-- 'laws.FnHouseKept', WHERE WHAT IT READS IS OF BULK AT MOST 1048576: true; the input reads as it did. -/
def fnHouseKeptUptoRow : OpenClaim := { program := "ytcfghnffacdekab", sum := "5c4db59177334bee74921b69e5dfc7156184499549a4f5de9c0649d7d152aafb", func := "loop.example/g00060/laws.FnHouseKept", spec := "fnHouseKept", unfollowed := true, recurses := true, apart := false, narrowed := true }
def FnHouseKeptUptoSaid : Prop := fnHouseKeptUptoRow.holds Try.pinned (OpenSpec.upto fnHouseKeptSpec)

/-- 'laws.FnBedsFree', WHERE WHAT IT READS IS OF BULK AT MOST 1048576: true; the input reads as it did. -/
def fnBedsFreeUptoRow : OpenClaim := { program := "ytcfghnffacdekab", sum := "5c4db59177334bee74921b69e5dfc7156184499549a4f5de9c0649d7d152aafb", func := "loop.example/g00060/laws.FnBedsFree", spec := "fnBedsFree", unfollowed := true, recurses := true, apart := false, narrowed := true }
def FnBedsFreeUptoSaid : Prop := fnBedsFreeUptoRow.holds Try.pinned (OpenSpec.upto fnBedsFreeSpec)

/-- 'laws.FnMinutes', WHERE WHAT IT READS IS OF BULK AT MOST 1048576: true; the input reads as it did. -/
def fnMinutesUptoRow : OpenClaim := { program := "ytcfghnffacdekab", sum := "5c4db59177334bee74921b69e5dfc7156184499549a4f5de9c0649d7d152aafb", func := "loop.example/g00060/laws.FnMinutes", spec := "fnMinutes", unfollowed := true, recurses := true, apart := false, narrowed := true }
def FnMinutesUptoSaid : Prop := fnMinutesUptoRow.holds Try.pinned (OpenSpec.upto fnMinutesSpec)

/-- 'laws.FnPointsGrow', WHERE WHAT IT READS IS OF BULK AT MOST 1048576: true; the input reads as it did. -/
def fnPointsGrowUptoRow : OpenClaim := { program := "ytcfghnffacdekab", sum := "5c4db59177334bee74921b69e5dfc7156184499549a4f5de9c0649d7d152aafb", func := "loop.example/g00060/laws.FnPointsGrow", spec := "fnPointsGrow", unfollowed := true, recurses := true, apart := false, narrowed := true }
def FnPointsGrowUptoSaid : Prop := fnPointsGrowUptoRow.holds Try.pinned (OpenSpec.upto fnPointsGrowSpec)

/-- 'laws.FnSeenOrder', WHERE WHAT IT READS IS OF BULK AT MOST 1048576: true; the input reads as it did. -/
def fnSeenOrderUptoRow : OpenClaim := { program := "ytcfghnffacdekab", sum := "5c4db59177334bee74921b69e5dfc7156184499549a4f5de9c0649d7d152aafb", func := "loop.example/g00060/laws.FnSeenOrder", spec := "fnSeenOrder", unfollowed := true, recurses := true, apart := false, narrowed := true }
def FnSeenOrderUptoSaid : Prop := fnSeenOrderUptoRow.holds Try.pinned (OpenSpec.upto fnSeenOrderSpec)

/-- 'laws.FnClashes', WHERE WHAT IT READS IS OF BULK AT MOST 1048576: true; the input reads as it did. -/
def fnClashesUptoRow : OpenClaim := { program := "ytcfghnffacdekab", sum := "5c4db59177334bee74921b69e5dfc7156184499549a4f5de9c0649d7d152aafb", func := "loop.example/g00060/laws.FnClashes", spec := "fnClashes", apart := false, narrowed := true }
def FnClashesUptoSaid : Prop := fnClashesUptoRow.holds Try.pinned (OpenSpec.upto fnClashesSpec)

end Rows
end Go.Proofs.Ytcfghnffacdekab
