/-
  No cell of these rows narrows 'for every input' (looked for: loops, veiled, ifaces, maps, wideKeys, modest, calm, conditions, laid).
  DERIVED. THE GIVEN ROWS OF THIS SEAT. 5 by the template 'for every input the law returns true; each argument reads behind the call as it read before'; 0 by the template 'total and deterministic' (their statements: YtgcpiinmcbdkmaaTotals.lean).
  GIVEN WITH THE SEED: the statements are not yours to turn. If you find one false, say at which input.
  Laid BY PROGRAM, IN A SANDBOX (cutbox-rows.mjs): the forced cells as the released guide's own fill.sh prints them over the translation bf261ed11934c33f… (all of the seat's roots in one cut). By AI agents, Wed Nov 11 2026. No macro, syntax, notation, axiom, sorry.
-/
import Derived.Test.YtgcpiinmcbdkmaaChecked
import GoSem.Claim
import GoSem.ClaimJoined
import GoSem.ClaimMapViews
import Derived.JoinedTies
import Derived.KernelRfl
namespace Go.Proofs.Ytgcpiinmcbdkmaa
/- THE CELL 'sum', in the pinned program and in every row, IS THE sha256 OF THE DUMP (.gsa) THAT YtgcpiinmcbdkmaaProg.lean LOADS. Nothing in Lean hashes anything: it is a label: what it is worth is what the hold of that sum in a sandbox is worth. -/
noncomputable def Try.pinned : Pinned := { name := "ytgcpiinmcbdkmaa", sum := "bf261ed11934c33fdf1a3980d0e1c4d759a9be73e8a04f63f447075a1a2c4e92", checked := Try.checked }
namespace Rows
def none {H : Type} : Left H := { results := [], args := [] }

/-- 'laws.FnPicked': WHATEVER THE INPUT: true; the input reads as it did. -/
def fnPickedSpec : ChangeSpec := { name := "fnPicked", fn := fun _ => fun
  | [d] => { results := [.lit (.bool true)], args := [d] }
  | _ => none }
def fnPickedRow : OpenClaim := { program := "ytgcpiinmcbdkmaa", sum := "bf261ed11934c33fdf1a3980d0e1c4d759a9be73e8a04f63f447075a1a2c4e92", func := "loop.example/g00060/laws.FnPicked", spec := "fnPicked", unfollowed := true, recurses := true, apart := false }
def FnPickedSaid : Prop := fnPickedRow.holds Try.pinned (OpenSpec.ofChange fnPickedSpec)

/-- ITS FALSE NEIGHBOUR: 'it returns false'. Refute it at one input. -/
def fnPickedWrong : ChangeSpec := { name := "fnPicked", fn := fun _ => fun
  | [d] => { results := [.lit (.bool false)], args := [d] }
  | _ => none }
def FnPickedWrongFalsely : Prop := fnPickedRow.holds Try.pinned (OpenSpec.ofChange fnPickedWrong)

/-- 'laws.FnRoster': WHATEVER THE INPUT: true; the input reads as it did. -/
def fnRosterSpec : ChangeSpec := { name := "fnRoster", fn := fun _ => fun
  | [d] => { results := [.lit (.bool true)], args := [d] }
  | _ => none }
def fnRosterRow : OpenClaim := { program := "ytgcpiinmcbdkmaa", sum := "bf261ed11934c33fdf1a3980d0e1c4d759a9be73e8a04f63f447075a1a2c4e92", func := "loop.example/g00060/laws.FnRoster", spec := "fnRoster", unfollowed := true, recurses := true, apart := false }
def FnRosterSaid : Prop := fnRosterRow.holds Try.pinned (OpenSpec.ofChange fnRosterSpec)

/-- ITS FALSE NEIGHBOUR: 'it returns false'. Refute it at one input. -/
def fnRosterWrong : ChangeSpec := { name := "fnRoster", fn := fun _ => fun
  | [d] => { results := [.lit (.bool false)], args := [d] }
  | _ => none }
def FnRosterWrongFalsely : Prop := fnRosterRow.holds Try.pinned (OpenSpec.ofChange fnRosterWrong)

/-- 'laws.FnExactPick': WHATEVER THE INPUT: true; the input reads as it did. -/
def fnExactPickSpec : ChangeSpec := { name := "fnExactPick", fn := fun _ => fun
  | [d1, d2, d3, d4] => { results := [.lit (.bool true)], args := [d1, d2, d3, d4] }
  | _ => none }
def fnExactPickRow : OpenClaim := { program := "ytgcpiinmcbdkmaa", sum := "bf261ed11934c33fdf1a3980d0e1c4d759a9be73e8a04f63f447075a1a2c4e92", func := "loop.example/g00060/laws.FnExactPick", spec := "fnExactPick", unfollowed := true, recurses := true, apart := false }
def FnExactPickSaid : Prop := fnExactPickRow.holds Try.pinned (OpenSpec.ofChange fnExactPickSpec)

/-- ITS FALSE NEIGHBOUR: 'it returns false'. Refute it at one input. -/
def fnExactPickWrong : ChangeSpec := { name := "fnExactPick", fn := fun _ => fun
  | [d1, d2, d3, d4] => { results := [.lit (.bool false)], args := [d1, d2, d3, d4] }
  | _ => none }
def FnExactPickWrongFalsely : Prop := fnExactPickRow.holds Try.pinned (OpenSpec.ofChange fnExactPickWrong)

/-- 'laws.FnExactReadMessage': WHATEVER THE INPUT: true; the input reads as it did. -/
def fnExactReadMessageSpec : ChangeSpec := { name := "fnExactReadMessage", fn := fun _ => fun
  | [d] => { results := [.lit (.bool true)], args := [d] }
  | _ => none }
def fnExactReadMessageRow : OpenClaim := { program := "ytgcpiinmcbdkmaa", sum := "bf261ed11934c33fdf1a3980d0e1c4d759a9be73e8a04f63f447075a1a2c4e92", func := "loop.example/g00060/laws.FnExactReadMessage", spec := "fnExactReadMessage", inPlace := ["internal/bytealg.IndexByteString"], apart := false }
def FnExactReadMessageSaid : Prop := fnExactReadMessageRow.holds Try.pinned (OpenSpec.ofChange fnExactReadMessageSpec)

/-- ITS FALSE NEIGHBOUR: 'it returns false'. Refute it at one input. -/
def fnExactReadMessageWrong : ChangeSpec := { name := "fnExactReadMessage", fn := fun _ => fun
  | [d] => { results := [.lit (.bool false)], args := [d] }
  | _ => none }
def FnExactReadMessageWrongFalsely : Prop := fnExactReadMessageRow.holds Try.pinned (OpenSpec.ofChange fnExactReadMessageWrong)

/-- 'laws.FnExactRoster': WHATEVER THE INPUT: true; the input reads as it did. -/
def fnExactRosterSpec : ChangeSpec := { name := "fnExactRoster", fn := fun _ => fun
  | [d1, d2, d3, d4] => { results := [.lit (.bool true)], args := [d1, d2, d3, d4] }
  | _ => none }
def fnExactRosterRow : OpenClaim := { program := "ytgcpiinmcbdkmaa", sum := "bf261ed11934c33fdf1a3980d0e1c4d759a9be73e8a04f63f447075a1a2c4e92", func := "loop.example/g00060/laws.FnExactRoster", spec := "fnExactRoster", unfollowed := true, recurses := true, apart := false }
def FnExactRosterSaid : Prop := fnExactRosterRow.holds Try.pinned (OpenSpec.ofChange fnExactRosterSpec)

/-- ITS FALSE NEIGHBOUR: 'it returns false'. Refute it at one input. -/
def fnExactRosterWrong : ChangeSpec := { name := "fnExactRoster", fn := fun _ => fun
  | [d1, d2, d3, d4] => { results := [.lit (.bool false)], args := [d1, d2, d3, d4] }
  | _ => none }
def FnExactRosterWrongFalsely : Prop := fnExactRosterRow.holds Try.pinned (OpenSpec.ofChange fnExactRosterWrong)

/- THE SECOND FORM. 'bulk': how many values and letters a reading holds, each counted each time it is reached (what is shared counts as often as it is met; a slice's spare places count too). A statement '..UptoSaid' is the law's where the arguments, and the package variables that the reading takes, are together of bulk at most 1048576: NARROWER than '..Said'. Prove '..Said' where nothing that the law and all that it calls make is longer than what came in: it says more and counts as full. Else prove '..UptoSaid'. A law counts once. -/
mutual
def uptoBulk {H : Type} : DataW H → Nat
  | .lit (.string bytes) => bytes.length + 1
  | .lit _ => 1
  | .nil => 1
  | .ptr d => uptoBulk d + 1
  | .slice elems spare => uptoBulkAll elems + uptoBulkAll spare + 1
  | .agg parts => uptoBulkAll parts + 1
  | .iface _ d => uptoBulk d + 1
  | .map entries => uptoBulkEntries entries + 1
  | .held _ => 1
def uptoBulkAll {H : Type} : List (DataW H) → Nat
  | [] => 0
  | d :: r => uptoBulk d + uptoBulkAll r
def uptoBulkEntries {H : Type} : List (Lit × DataW H) → Nat
  | [] => 0
  | x :: r => uptoBulkEntry x + uptoBulkEntries r
def uptoBulkEntry {H : Type} : Lit × DataW H → Nat
  | (.string bytes, d) => bytes.length + uptoBulk d + 1
  | (_, d) => uptoBulk d + 1
 end
def uptoSmall : (H : Type) → List (DataW H) → Bool := fun _ ds => decide (uptoBulkAll ds ≤ 1048576)
def OpenSpec.upto (s : _root_.Go.ChangeSpec) : _root_.Go.OpenSpec := { _root_.Go.OpenSpec.ofChange s with cond := some uptoSmall }

/-- 'laws.FnPicked', WHERE WHAT IT READS IS OF BULK AT MOST 1048576: true; the input reads as it did. -/
def fnPickedUptoRow : OpenClaim := { program := "ytgcpiinmcbdkmaa", sum := "bf261ed11934c33fdf1a3980d0e1c4d759a9be73e8a04f63f447075a1a2c4e92", func := "loop.example/g00060/laws.FnPicked", spec := "fnPicked", unfollowed := true, recurses := true, apart := false, narrowed := true }
def FnPickedUptoSaid : Prop := fnPickedUptoRow.holds Try.pinned (OpenSpec.upto fnPickedSpec)

/-- 'laws.FnRoster', WHERE WHAT IT READS IS OF BULK AT MOST 1048576: true; the input reads as it did. -/
def fnRosterUptoRow : OpenClaim := { program := "ytgcpiinmcbdkmaa", sum := "bf261ed11934c33fdf1a3980d0e1c4d759a9be73e8a04f63f447075a1a2c4e92", func := "loop.example/g00060/laws.FnRoster", spec := "fnRoster", unfollowed := true, recurses := true, apart := false, narrowed := true }
def FnRosterUptoSaid : Prop := fnRosterUptoRow.holds Try.pinned (OpenSpec.upto fnRosterSpec)

/-- 'laws.FnExactPick', WHERE WHAT IT READS IS OF BULK AT MOST 1048576: true; the input reads as it did. -/
def fnExactPickUptoRow : OpenClaim := { program := "ytgcpiinmcbdkmaa", sum := "bf261ed11934c33fdf1a3980d0e1c4d759a9be73e8a04f63f447075a1a2c4e92", func := "loop.example/g00060/laws.FnExactPick", spec := "fnExactPick", unfollowed := true, recurses := true, apart := false, narrowed := true }
def FnExactPickUptoSaid : Prop := fnExactPickUptoRow.holds Try.pinned (OpenSpec.upto fnExactPickSpec)

/-- 'laws.FnExactReadMessage', WHERE WHAT IT READS IS OF BULK AT MOST 1048576: true; the input reads as it did. -/
def fnExactReadMessageUptoRow : OpenClaim := { program := "ytgcpiinmcbdkmaa", sum := "bf261ed11934c33fdf1a3980d0e1c4d759a9be73e8a04f63f447075a1a2c4e92", func := "loop.example/g00060/laws.FnExactReadMessage", spec := "fnExactReadMessage", inPlace := ["internal/bytealg.IndexByteString"], apart := false, narrowed := true }
def FnExactReadMessageUptoSaid : Prop := fnExactReadMessageUptoRow.holds Try.pinned (OpenSpec.upto fnExactReadMessageSpec)

/-- 'laws.FnExactRoster', WHERE WHAT IT READS IS OF BULK AT MOST 1048576: true; the input reads as it did. -/
def fnExactRosterUptoRow : OpenClaim := { program := "ytgcpiinmcbdkmaa", sum := "bf261ed11934c33fdf1a3980d0e1c4d759a9be73e8a04f63f447075a1a2c4e92", func := "loop.example/g00060/laws.FnExactRoster", spec := "fnExactRoster", unfollowed := true, recurses := true, apart := false, narrowed := true }
def FnExactRosterUptoSaid : Prop := fnExactRosterUptoRow.holds Try.pinned (OpenSpec.upto fnExactRosterSpec)

end Rows
end Go.Proofs.Ytgcpiinmcbdkmaa
