/-
  No cell of these rows narrows 'for every input' (looked for: loops, veiled, ifaces, maps, wideKeys, modest, calm, conditions, laid).
  DERIVED. THE GIVEN ROWS OF THIS SEAT. 4 by the template 'for every input the law returns true; each argument reads behind the call as it read before'; 0 by the template 'total and deterministic' (their statements: YtdnnenklkfkhcakTotals.lean).
  GIVEN WITH THE SEED: the statements are not yours to turn. If you find one false, say at which input.
  Laid BY PROGRAM, IN A SANDBOX (cutbox-rows.mjs): the forced cells as the released guide's own fill.sh prints them over the translation cfa6eeba0f2a0ddf… (all of the seat's roots in one cut). By AI agents, Wed Nov 11 2026. No macro, syntax, notation, axiom, sorry.
-/
import Derived.Test.YtdnnenklkfkhcakChecked
import GoSem.Claim
import GoSem.ClaimJoined
import GoSem.ClaimMapViews
import Derived.JoinedTies
import Derived.KernelRfl
namespace Go.Proofs.Ytdnnenklkfkhcak
/- THE CELL 'sum', in the pinned program and in every row, IS THE sha256 OF THE DUMP (.gsa) THAT YtdnnenklkfkhcakProg.lean LOADS. Nothing in Lean hashes anything: it is a label: what it is worth is what the hold of that sum in a sandbox is worth. -/
noncomputable def Try.pinned : Pinned := { name := "ytdnnenklkfkhcak", sum := "cfa6eeba0f2a0ddfaa046e02f4a002873458f147cf9a182902fe028e93483d6f", checked := Try.checked }
namespace Rows
def none {H : Type} : Left H := { results := [], args := [] }

/-- 'laws.FnExactMeanOf': WHATEVER THE INPUT: true; the input reads as it did. -/
def fnExactMeanOfSpec : ChangeSpec := { name := "fnExactMeanOf", fn := fun _ => fun
  | [d] => { results := [.lit (.bool true)], args := [d] }
  | _ => none }
def fnExactMeanOfRow : OpenClaim := { program := "ytdnnenklkfkhcak", sum := "cfa6eeba0f2a0ddfaa046e02f4a002873458f147cf9a182902fe028e93483d6f", func := "loop.example/g00060/laws.FnExactMeanOf", spec := "fnExactMeanOf", inPlace := ["math.Float64frombits"], unfollowed := true, recurses := true, apart := false }
def FnExactMeanOfSaid : Prop := fnExactMeanOfRow.holds Try.pinned (OpenSpec.ofChange fnExactMeanOfSpec)

/-- ITS FALSE NEIGHBOUR: 'it returns false'. Refute it at one input. -/
def fnExactMeanOfWrong : ChangeSpec := { name := "fnExactMeanOf", fn := fun _ => fun
  | [d] => { results := [.lit (.bool false)], args := [d] }
  | _ => none }
def FnExactMeanOfWrongFalsely : Prop := fnExactMeanOfRow.holds Try.pinned (OpenSpec.ofChange fnExactMeanOfWrong)

/-- 'laws.FnExactCheckDigit': WHATEVER THE INPUT: true; the input reads as it did. -/
def fnExactCheckDigitSpec : ChangeSpec := { name := "fnExactCheckDigit", fn := fun _ => fun
  | [d] => { results := [.lit (.bool true)], args := [d] }
  | _ => none }
def fnExactCheckDigitRow : OpenClaim := { program := "ytdnnenklkfkhcak", sum := "cfa6eeba0f2a0ddfaa046e02f4a002873458f147cf9a182902fe028e93483d6f", func := "loop.example/g00060/laws.FnExactCheckDigit", spec := "fnExactCheckDigit", apart := false }
def FnExactCheckDigitSaid : Prop := fnExactCheckDigitRow.holds Try.pinned (OpenSpec.ofChange fnExactCheckDigitSpec)

/-- ITS FALSE NEIGHBOUR: 'it returns false'. Refute it at one input. -/
def fnExactCheckDigitWrong : ChangeSpec := { name := "fnExactCheckDigit", fn := fun _ => fun
  | [d] => { results := [.lit (.bool false)], args := [d] }
  | _ => none }
def FnExactCheckDigitWrongFalsely : Prop := fnExactCheckDigitRow.holds Try.pinned (OpenSpec.ofChange fnExactCheckDigitWrong)

/-- 'laws.FnExactNameKey': WHATEVER THE INPUT: true; the input reads as it did. -/
def fnExactNameKeySpec : ChangeSpec := { name := "fnExactNameKey", fn := fun _ => fun
  | [d] => { results := [.lit (.bool true)], args := [d] }
  | _ => none }
def fnExactNameKeyRow : OpenClaim := { program := "ytdnnenklkfkhcak", sum := "cfa6eeba0f2a0ddfaa046e02f4a002873458f147cf9a182902fe028e93483d6f", func := "loop.example/g00060/laws.FnExactNameKey", spec := "fnExactNameKey", apart := false }
def FnExactNameKeySaid : Prop := fnExactNameKeyRow.holds Try.pinned (OpenSpec.ofChange fnExactNameKeySpec)

/-- ITS FALSE NEIGHBOUR: 'it returns false'. Refute it at one input. -/
def fnExactNameKeyWrong : ChangeSpec := { name := "fnExactNameKey", fn := fun _ => fun
  | [d] => { results := [.lit (.bool false)], args := [d] }
  | _ => none }
def FnExactNameKeyWrongFalsely : Prop := fnExactNameKeyRow.holds Try.pinned (OpenSpec.ofChange fnExactNameKeyWrong)

/-- 'laws.FnExactJoinsOk': WHATEVER THE INPUT: true; the input reads as it did. -/
def fnExactJoinsOkSpec : ChangeSpec := { name := "fnExactJoinsOk", fn := fun _ => fun
  | [d] => { results := [.lit (.bool true)], args := [d] }
  | _ => none }
def fnExactJoinsOkRow : OpenClaim := { program := "ytdnnenklkfkhcak", sum := "cfa6eeba0f2a0ddfaa046e02f4a002873458f147cf9a182902fe028e93483d6f", func := "loop.example/g00060/laws.FnExactJoinsOk", spec := "fnExactJoinsOk", apart := false }
def FnExactJoinsOkSaid : Prop := fnExactJoinsOkRow.holds Try.pinned (OpenSpec.ofChange fnExactJoinsOkSpec)

/-- ITS FALSE NEIGHBOUR: 'it returns false'. Refute it at one input. -/
def fnExactJoinsOkWrong : ChangeSpec := { name := "fnExactJoinsOk", fn := fun _ => fun
  | [d] => { results := [.lit (.bool false)], args := [d] }
  | _ => none }
def FnExactJoinsOkWrongFalsely : Prop := fnExactJoinsOkRow.holds Try.pinned (OpenSpec.ofChange fnExactJoinsOkWrong)

/- THE SECOND FORM. 'bulk': how many values and letters a reading holds, each counted each time it is reached (what is shared counts as often as it is met; a slice's spare places count too). A statement '..UptoSaid' is the law's where the arguments, and the package variables that the reading takes, are together of bulk at most 1048576: NARROWER than '..Said'. Prove '..Said' where nothing that the law and all that it calls make is longer than what came in: it says more and counts as full. Else prove '..UptoSaid'. A law counts once. -/
mutual
def uptoBulk {H : Type} : DataW H → Nat
  | .lit (.string bytes) => bytes.length + 1
  | .lit _ => 1
  | .nil => 1
  | .ptr d => uptoBulk d + 1
  | .slice elems spare => uptoBulkAll elems + uptoBulkAll spare + 1
  | .agg parts => uptoBulkAll parts + 1
  | .iface _ d => uptoBulk d + 1
  | .map entries => uptoBulkEntries entries + 1
  | .held _ => 1
def uptoBulkAll {H : Type} : List (DataW H) → Nat
  | [] => 0
  | d :: r => uptoBulk d + uptoBulkAll r
def uptoBulkEntries {H : Type} : List (Lit × DataW H) → Nat
  | [] => 0
  | x :: r => uptoBulkEntry x + uptoBulkEntries r
def uptoBulkEntry {H : Type} : Lit × DataW H → Nat
  | (.string bytes, d) => bytes.length + uptoBulk d + 1
  | (_, d) => uptoBulk d + 1
 end
def uptoSmall : (H : Type) → List (DataW H) → Bool := fun _ ds => decide (uptoBulkAll ds ≤ 1048576)
def OpenSpec.upto (s : _root_.Go.ChangeSpec) : _root_.Go.OpenSpec := { _root_.Go.OpenSpec.ofChange s with cond := some uptoSmall }

/-- 'laws.FnExactMeanOf', WHERE WHAT IT READS IS OF BULK AT MOST 1048576: true; the input reads as it did. -/
def fnExactMeanOfUptoRow : OpenClaim := { program := "ytdnnenklkfkhcak", sum := "cfa6eeba0f2a0ddfaa046e02f4a002873458f147cf9a182902fe028e93483d6f", func := "loop.example/g00060/laws.FnExactMeanOf", spec := "fnExactMeanOf", inPlace := ["math.Float64frombits"], unfollowed := true, recurses := true, apart := false, narrowed := true }
def FnExactMeanOfUptoSaid : Prop := fnExactMeanOfUptoRow.holds Try.pinned (OpenSpec.upto fnExactMeanOfSpec)

/-- 'laws.FnExactCheckDigit', WHERE WHAT IT READS IS OF BULK AT MOST 1048576: true; the input reads as it did. -/
def fnExactCheckDigitUptoRow : OpenClaim := { program := "ytdnnenklkfkhcak", sum := "cfa6eeba0f2a0ddfaa046e02f4a002873458f147cf9a182902fe028e93483d6f", func := "loop.example/g00060/laws.FnExactCheckDigit", spec := "fnExactCheckDigit", apart := false, narrowed := true }
def FnExactCheckDigitUptoSaid : Prop := fnExactCheckDigitUptoRow.holds Try.pinned (OpenSpec.upto fnExactCheckDigitSpec)

/-- 'laws.FnExactNameKey', WHERE WHAT IT READS IS OF BULK AT MOST 1048576: true; the input reads as it did. -/
def fnExactNameKeyUptoRow : OpenClaim := { program := "ytdnnenklkfkhcak", sum := "cfa6eeba0f2a0ddfaa046e02f4a002873458f147cf9a182902fe028e93483d6f", func := "loop.example/g00060/laws.FnExactNameKey", spec := "fnExactNameKey", apart := false, narrowed := true }
def FnExactNameKeyUptoSaid : Prop := fnExactNameKeyUptoRow.holds Try.pinned (OpenSpec.upto fnExactNameKeySpec)

/-- 'laws.FnExactJoinsOk', WHERE WHAT IT READS IS OF BULK AT MOST 1048576: true; the input reads as it did. -/
def fnExactJoinsOkUptoRow : OpenClaim := { program := "ytdnnenklkfkhcak", sum := "cfa6eeba0f2a0ddfaa046e02f4a002873458f147cf9a182902fe028e93483d6f", func := "loop.example/g00060/laws.FnExactJoinsOk", spec := "fnExactJoinsOk", apart := false, narrowed := true }
def FnExactJoinsOkUptoSaid : Prop := fnExactJoinsOkUptoRow.holds Try.pinned (OpenSpec.upto fnExactJoinsOkSpec)

end Rows
end Go.Proofs.Ytdnnenklkfkhcak
