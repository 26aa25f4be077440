/-
  No cell of these rows narrows 'for every input' (looked for: loops, veiled, ifaces, maps, wideKeys, modest, calm, conditions, laid).
  DERIVED. THE GIVEN ROWS OF THIS SEAT. 4 by the template 'for every input the law returns true; each argument reads behind the call as it read before'; 0 by the template 'total and deterministic' (their statements: YtinnmebpipnccaaTotals.lean).
  GIVEN WITH THE SEED: the statements are not yours to turn. If you find one false, say at which input.
  Laid BY PROGRAM, IN A SANDBOX (cutbox-rows.mjs): the forced cells as the released guide's own fill.sh prints them over the translation 86906df6fc38098a… (all of the seat's roots in one cut). By AI agents, Wed Nov 11 2026. No macro, syntax, notation, axiom, sorry.
-/
import Derived.Test.YtinnmebpipnccaaChecked
import GoSem.Claim
import GoSem.ClaimJoined
import GoSem.ClaimMapViews
import Derived.JoinedTies
import Derived.KernelRfl
namespace Go.Proofs.Ytinnmebpipnccaa
/- THE CELL 'sum', in the pinned program and in every row, IS THE sha256 OF THE DUMP (.gsa) THAT YtinnmebpipnccaaProg.lean LOADS. Nothing in Lean hashes anything: it is a label: what it is worth is what the hold of that sum in a sandbox is worth. -/
noncomputable def Try.pinned : Pinned := { name := "ytinnmebpipnccaa", sum := "86906df6fc38098a079cf8a5be035e3190fd6012f4eccc1dfc349d912ec7c599", checked := Try.checked }
namespace Rows
def none {H : Type} : Left H := { results := [], args := [] }

/-- 'laws.FnMasked': WHATEVER THE INPUT: true; the input reads as it did. -/
def fnMaskedSpec : ChangeSpec := { name := "fnMasked", fn := fun _ => fun
  | [d] => { results := [.lit (.bool true)], args := [d] }
  | _ => none }
def fnMaskedRow : OpenClaim := { program := "ytinnmebpipnccaa", sum := "86906df6fc38098a079cf8a5be035e3190fd6012f4eccc1dfc349d912ec7c599", func := "loop.example/g00060/laws.FnMasked", spec := "fnMasked", apart := false }
def FnMaskedSaid : Prop := fnMaskedRow.holds Try.pinned (OpenSpec.ofChange fnMaskedSpec)

/-- ITS FALSE NEIGHBOUR: 'it returns false'. Refute it at one input. -/
def fnMaskedWrong : ChangeSpec := { name := "fnMasked", fn := fun _ => fun
  | [d] => { results := [.lit (.bool false)], args := [d] }
  | _ => none }
def FnMaskedWrongFalsely : Prop := fnMaskedRow.holds Try.pinned (OpenSpec.ofChange fnMaskedWrong)

/-- 'laws.FnExactRulesOk': WHATEVER THE INPUT: true; the input reads as it did. -/
def fnExactRulesOkSpec : ChangeSpec := { name := "fnExactRulesOk", fn := fun _ => fun
  | [d] => { results := [.lit (.bool true)], args := [d] }
  | _ => none }
def fnExactRulesOkRow : OpenClaim := { program := "ytinnmebpipnccaa", sum := "86906df6fc38098a079cf8a5be035e3190fd6012f4eccc1dfc349d912ec7c599", func := "loop.example/g00060/laws.FnExactRulesOk", spec := "fnExactRulesOk", unfollowed := true, recurses := true, apart := false }
def FnExactRulesOkSaid : Prop := fnExactRulesOkRow.holds Try.pinned (OpenSpec.ofChange fnExactRulesOkSpec)

/-- ITS FALSE NEIGHBOUR: 'it returns false'. Refute it at one input. -/
def fnExactRulesOkWrong : ChangeSpec := { name := "fnExactRulesOk", fn := fun _ => fun
  | [d] => { results := [.lit (.bool false)], args := [d] }
  | _ => none }
def FnExactRulesOkWrongFalsely : Prop := fnExactRulesOkRow.holds Try.pinned (OpenSpec.ofChange fnExactRulesOkWrong)

/-- 'laws.FnExactMaySee': WHATEVER THE INPUT: true; the input reads as it did. -/
def fnExactMaySeeSpec : ChangeSpec := { name := "fnExactMaySee", fn := fun _ => fun
  | [d1, d2, d3, d4, d5, d6] => { results := [.lit (.bool true)], args := [d1, d2, d3, d4, d5, d6] }
  | _ => none }
def fnExactMaySeeRow : OpenClaim := { program := "ytinnmebpipnccaa", sum := "86906df6fc38098a079cf8a5be035e3190fd6012f4eccc1dfc349d912ec7c599", func := "loop.example/g00060/laws.FnExactMaySee", spec := "fnExactMaySee", unfollowed := true, recurses := true, apart := false }
def FnExactMaySeeSaid : Prop := fnExactMaySeeRow.holds Try.pinned (OpenSpec.ofChange fnExactMaySeeSpec)

/-- ITS FALSE NEIGHBOUR: 'it returns false'. Refute it at one input. -/
def fnExactMaySeeWrong : ChangeSpec := { name := "fnExactMaySee", fn := fun _ => fun
  | [d1, d2, d3, d4, d5, d6] => { results := [.lit (.bool false)], args := [d1, d2, d3, d4, d5, d6] }
  | _ => none }
def FnExactMaySeeWrongFalsely : Prop := fnExactMaySeeRow.holds Try.pinned (OpenSpec.ofChange fnExactMaySeeWrong)

/-- 'laws.FnExactMasked': WHATEVER THE INPUT: true; the input reads as it did. -/
def fnExactMaskedSpec : ChangeSpec := { name := "fnExactMasked", fn := fun _ => fun
  | [d1, d2] => { results := [.lit (.bool true)], args := [d1, d2] }
  | _ => none }
def fnExactMaskedRow : OpenClaim := { program := "ytinnmebpipnccaa", sum := "86906df6fc38098a079cf8a5be035e3190fd6012f4eccc1dfc349d912ec7c599", func := "loop.example/g00060/laws.FnExactMasked", spec := "fnExactMasked", apart := false }
def FnExactMaskedSaid : Prop := fnExactMaskedRow.holds Try.pinned (OpenSpec.ofChange fnExactMaskedSpec)

/-- ITS FALSE NEIGHBOUR: 'it returns false'. Refute it at one input. -/
def fnExactMaskedWrong : ChangeSpec := { name := "fnExactMasked", fn := fun _ => fun
  | [d1, d2] => { results := [.lit (.bool false)], args := [d1, d2] }
  | _ => none }
def FnExactMaskedWrongFalsely : Prop := fnExactMaskedRow.holds Try.pinned (OpenSpec.ofChange fnExactMaskedWrong)

/- THE SECOND FORM. 'bulk': how many values and letters a reading holds, each counted each time it is reached (what is shared counts as often as it is met; a slice's spare places count too). A statement '..UptoSaid' is the law's where the arguments, and the package variables that the reading takes, are together of bulk at most 1048576: NARROWER than '..Said'. Prove '..Said' where nothing that the law and all that it calls make is longer than what came in: it says more and counts as full. Else prove '..UptoSaid'. A law counts once. -/
mutual
def uptoBulk {H : Type} : DataW H → Nat
  | .lit (.string bytes) => bytes.length + 1
  | .lit _ => 1
  | .nil => 1
  | .ptr d => uptoBulk d + 1
  | .slice elems spare => uptoBulkAll elems + uptoBulkAll spare + 1
  | .agg parts => uptoBulkAll parts + 1
  | .iface _ d => uptoBulk d + 1
  | .map entries => uptoBulkEntries entries + 1
  | .held _ => 1
def uptoBulkAll {H : Type} : List (DataW H) → Nat
  | [] => 0
  | d :: r => uptoBulk d + uptoBulkAll r
def uptoBulkEntries {H : Type} : List (Lit × DataW H) → Nat
  | [] => 0
  | x :: r => uptoBulkEntry x + uptoBulkEntries r
def uptoBulkEntry {H : Type} : Lit × DataW H → Nat
  | (.string bytes, d) => bytes.length + uptoBulk d + 1
  | (_, d) => uptoBulk d + 1
 end
def uptoSmall : (H : Type) → List (DataW H) → Bool := fun _ ds => decide (uptoBulkAll ds ≤ 1048576)
def OpenSpec.upto (s : _root_.Go.ChangeSpec) : _root_.Go.OpenSpec := { _root_.Go.OpenSpec.ofChange s with cond := some uptoSmall }

/-- 'laws.FnMasked', WHERE WHAT IT READS IS OF BULK AT MOST 1048576: true; the input reads as it did. -/
def fnMaskedUptoRow : OpenClaim := { program := "ytinnmebpipnccaa", sum := "86906df6fc38098a079cf8a5be035e3190fd6012f4eccc1dfc349d912ec7c599", func := "loop.example/g00060/laws.FnMasked", spec := "fnMasked", apart := false, narrowed := true }
def FnMaskedUptoSaid : Prop := fnMaskedUptoRow.holds Try.pinned (OpenSpec.upto fnMaskedSpec)

/-- 'laws.FnExactRulesOk', WHERE WHAT IT READS IS OF BULK AT MOST 1048576: true; the input reads as it did. -/
def fnExactRulesOkUptoRow : OpenClaim := { program := "ytinnmebpipnccaa", sum := "86906df6fc38098a079cf8a5be035e3190fd6012f4eccc1dfc349d912ec7c599", func := "loop.example/g00060/laws.FnExactRulesOk", spec := "fnExactRulesOk", unfollowed := true, recurses := true, apart := false, narrowed := true }
def FnExactRulesOkUptoSaid : Prop := fnExactRulesOkUptoRow.holds Try.pinned (OpenSpec.upto fnExactRulesOkSpec)

/-- 'laws.FnExactMaySee', WHERE WHAT IT READS IS OF BULK AT MOST 1048576: true; the input reads as it did. -/
def fnExactMaySeeUptoRow : OpenClaim := { program := "ytinnmebpipnccaa", sum := "86906df6fc38098a079cf8a5be035e3190fd6012f4eccc1dfc349d912ec7c599", func := "loop.example/g00060/laws.FnExactMaySee", spec := "fnExactMaySee", unfollowed := true, recurses := true, apart := false, narrowed := true }
def FnExactMaySeeUptoSaid : Prop := fnExactMaySeeUptoRow.holds Try.pinned (OpenSpec.upto fnExactMaySeeSpec)

/-- 'laws.FnExactMasked', WHERE WHAT IT READS IS OF BULK AT MOST 1048576: true; the input reads as it did. -/
def fnExactMaskedUptoRow : OpenClaim := { program := "ytinnmebpipnccaa", sum := "86906df6fc38098a079cf8a5be035e3190fd6012f4eccc1dfc349d912ec7c599", func := "loop.example/g00060/laws.FnExactMasked", spec := "fnExactMasked", apart := false, narrowed := true }
def FnExactMaskedUptoSaid : Prop := fnExactMaskedUptoRow.holds Try.pinned (OpenSpec.upto fnExactMaskedSpec)

end Rows
end Go.Proofs.Ytinnmebpipnccaa
