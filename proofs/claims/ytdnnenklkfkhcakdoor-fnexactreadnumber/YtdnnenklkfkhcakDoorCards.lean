/-
  DERIVED. GIVEN WITH THE SEED: THE CARDS: each row of YtdnnenklkfkhcakDoorRows.lean that lists a variable, with what it lists TIED to the program's text (the seventh form; the later family's looks); each row that meets fmt, with fmt's text TOLD by the authors' own Lean function (tested against real Go, not proved from fmt's source: count such statements apart). THE CARD IS WHAT COUNTS. Prove the row's statement (the work); the ties are given (YtdnnenklkfkhcakDoorTie.lean); close each card by the builder's one call (the guide's Derived/Test/ToyasCard.lean, 'card_holds'). Laid BY PROGRAM, IN A SANDBOX (cutbox-door.mjs). By AI agents, Wed Nov 11 2026. No macro, syntax, notation, axiom, sorry.
-/
import Derived.Test.YtdnnenklkfkhcakDoorRows
import GoSem.ClaimSeven
namespace Go.Proofs.YtdnnenklkfkhcakDoor
namespace Rows

/-- THE TIED CARD OF 'laws.FnExactMakeNumber'. -/
def fnExactMakeNumberCard : Claim7 := { stood := { row := fnExactMakeNumberRow, standIns := [], harness := (true, "4f454f0e504511e0d203b54fabf7e9c7e4ad72a50973a7e1b8c3be78fe023f79"), looks := true }, kinds := [], alts := [], laidByText := true, laidKinds := [.data, .data, .data], laidTests := true, laidLooks := .later }
def FnExactMakeNumberCardSaid : Prop := Claim7.holds Tryd.pinned (.plain (OpenSpec.ofChange fnExactMakeNumberSpec)) fnExactMakeNumberCard

/-- THE TIED CARD OF 'laws.FnExactReadNumber'. -/
def fnExactReadNumberCard : Claim7 := { stood := { row := fnExactReadNumberRow, standIns := [], harness := (true, "4f454f0e504511e0d203b54fabf7e9c7e4ad72a50973a7e1b8c3be78fe023f79"), looks := true }, kinds := [], alts := [], laidByText := true, laidKinds := [.data, .data, .data, .sentinel, .sentinel], laidTests := true, laidLooks := .later }
def FnExactReadNumberCardSaid : Prop := Claim7.holds Tryd.pinned (.plain (OpenSpec.ofChange fnExactReadNumberSpec)) fnExactReadNumberCard

/-- THE SECOND FORM's CARD OF 'laws.FnExactMakeNumber'. -/
def fnExactMakeNumberUptoCard : Claim7 := { stood := { row := fnExactMakeNumberUptoRow, standIns := [], harness := (true, "4f454f0e504511e0d203b54fabf7e9c7e4ad72a50973a7e1b8c3be78fe023f79"), looks := true }, kinds := [], alts := [], laidByText := true, laidKinds := [.data, .data, .data], laidTests := true, laidLooks := .later }
def FnExactMakeNumberUptoCardSaid : Prop := Claim7.holds Tryd.pinned (.plain (OpenSpec.upto fnExactMakeNumberSpec)) fnExactMakeNumberUptoCard

/-- THE SECOND FORM's CARD OF 'laws.FnExactReadNumber'. -/
def fnExactReadNumberUptoCard : Claim7 := { stood := { row := fnExactReadNumberUptoRow, standIns := [], harness := (true, "4f454f0e504511e0d203b54fabf7e9c7e4ad72a50973a7e1b8c3be78fe023f79"), looks := true }, kinds := [], alts := [], laidByText := true, laidKinds := [.data, .data, .data, .sentinel, .sentinel], laidTests := true, laidLooks := .later }
def FnExactReadNumberUptoCardSaid : Prop := Claim7.holds Tryd.pinned (.plain (OpenSpec.upto fnExactReadNumberSpec)) fnExactReadNumberUptoCard
end Rows
end Go.Proofs.YtdnnenklkfkhcakDoor
