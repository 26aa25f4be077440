/-
  DERIVED. GIVEN WITH THE SEED: THE CARDS: each row of YtdnnenklkfkhcaaDoorRows.lean that lists a variable, with what it lists TIED to the program's text (the seventh form; the later family's looks); each row that meets fmt, with fmt's text TOLD by the authors' own Lean function (tested against real Go, not proved from fmt's source: count such statements apart). THE CARD IS WHAT COUNTS. Prove the row's statement (the work); the ties are given (YtdnnenklkfkhcaaDoorTie.lean); close each card by the builder's one call (the guide's Derived/Test/ToyasCard.lean, 'card_holds'). Laid BY PROGRAM, IN A SANDBOX (cutbox-door.mjs). By AI agents, Wed Nov 11 2026. No macro, syntax, notation, axiom, sorry.
-/
import Derived.Test.YtdnnenklkfkhcaaDoorRows
import GoSem.ClaimSeven
namespace Go.Proofs.YtdnnenklkfkhcaaDoor
namespace Rows

/-- THE TIED CARD OF 'laws.FnNumberBack'. -/
def fnNumberBackCard : Claim7 := { stood := { row := fnNumberBackRow, standIns := [], harness := (true, "d1b33ea048bd571cff16f04780825fa2b34bbd7f29f180da6a3bf267a596c909"), looks := true }, kinds := [], alts := [], laidByText := true, laidKinds := [.data, .data, .data, .sentinel, .sentinel], laidTests := true, laidLooks := .later }
def FnNumberBackCardSaid : Prop := Claim7.holds Tryd.pinned (.plain (OpenSpec.ofChange fnNumberBackSpec)) fnNumberBackCard

/-- THE SECOND FORM's CARD OF 'laws.FnNumberBack'. -/
def fnNumberBackUptoCard : Claim7 := { stood := { row := fnNumberBackUptoRow, standIns := [], harness := (true, "d1b33ea048bd571cff16f04780825fa2b34bbd7f29f180da6a3bf267a596c909"), looks := true }, kinds := [], alts := [], laidByText := true, laidKinds := [.data, .data, .data, .sentinel, .sentinel], laidTests := true, laidLooks := .later }
def FnNumberBackUptoCardSaid : Prop := Claim7.holds Tryd.pinned (.plain (OpenSpec.upto fnNumberBackSpec)) fnNumberBackUptoCard
end Rows
end Go.Proofs.YtdnnenklkfkhcaaDoor
