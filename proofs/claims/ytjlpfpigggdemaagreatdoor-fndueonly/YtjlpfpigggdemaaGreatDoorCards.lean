/-
  DERIVED. GIVEN WITH THE SEED: THE CARDS: each row of YtjlpfpigggdemaaGreatDoorRows.lean that lists a variable, with what it lists TIED to the program's text (the seventh form; the later family's looks); each row that meets fmt, with fmt's text TOLD by the authors' own Lean function (tested against real Go, not proved from fmt's source: count such statements apart). THE CARD IS WHAT COUNTS. Prove the row's statement (the work); the ties are given (YtjlpfpigggdemaaGreatDoorTie.lean); close each card by the builder's one call (the guide's Derived/Test/ToyasCard.lean, 'card_holds'). Laid BY PROGRAM, IN A SANDBOX (cutbox-door.mjs). By AI agents, Wed Nov 11 2026. No macro, syntax, notation, axiom, sorry.
-/
import Derived.Test.YtjlpfpigggdemaaGreatDoorRows
import GoSem.ClaimSeven
namespace Go.Proofs.YtjlpfpigggdemaaGreatDoor
namespace Rows

/-- THE TIED CARD OF 'laws.FnDueOnly'. -/
def fnDueOnlyCard : Claim7 := { stood := { row := fnDueOnlyRow, standIns := [], harness := (true, "4e4c656c4234774b0c7e1186fcc04d3988f411b6539e4344ff9d4a175cb85079"), looks := true }, kinds := [], alts := [], laidByText := true, laidKinds := [.handle], laidTests := true, laidLooks := .later }
def FnDueOnlyCardSaid : Prop := Claim7.holds Tryz.pinned (.plain (OpenSpec.ofChange fnDueOnlySpec)) fnDueOnlyCard

/-- THE SECOND FORM's CARD OF 'laws.FnDueOnly'. -/
def fnDueOnlyUptoCard : Claim7 := { stood := { row := fnDueOnlyUptoRow, standIns := [], harness := (true, "4e4c656c4234774b0c7e1186fcc04d3988f411b6539e4344ff9d4a175cb85079"), looks := true }, kinds := [], alts := [], laidByText := true, laidKinds := [.handle], laidTests := true, laidLooks := .later }
def FnDueOnlyUptoCardSaid : Prop := Claim7.holds Tryz.pinned (.plain (OpenSpec.upto fnDueOnlySpec)) fnDueOnlyUptoCard
end Rows
end Go.Proofs.YtjlpfpigggdemaaGreatDoor
