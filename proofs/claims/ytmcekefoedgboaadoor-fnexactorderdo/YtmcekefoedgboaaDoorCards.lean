/-
  DERIVED. GIVEN WITH THE SEED: THE CARDS: each row of YtmcekefoedgboaaDoorRows.lean that lists a variable, with what it lists TIED to the program's text (the seventh form; the later family's looks); each row that meets fmt, with fmt's text TOLD by the authors' own Lean function (tested against real Go, not proved from fmt's source: count such statements apart). THE CARD IS WHAT COUNTS. Prove the row's statement (the work); the ties are given (YtmcekefoedgboaaDoorTie.lean); close each card by the builder's one call (the guide's Derived/Test/ToyasCard.lean, 'card_holds'). Laid BY PROGRAM, IN A SANDBOX (cutbox-door.mjs). By AI agents, Wed Nov 11 2026. No macro, syntax, notation, axiom, sorry.
-/
import Derived.Test.YtmcekefoedgboaaDoorRows
import GoSem.ClaimSeven
namespace Go.Proofs.YtmcekefoedgboaaDoor
namespace Rows

/-- THE TIED CARD OF 'laws.FnChartKept'. -/
def fnChartKeptCard : Claim7 := { stood := { row := fnChartKeptRow, standIns := [], harness := (true, "788d43defaf48a409ce98fedf98b569043649f86f9e83f5811759cc7f9ba6457"), looks := true }, kinds := [], alts := [], laidByText := true, laidKinds := [.handle], laidTests := true, laidLooks := .later }
def FnChartKeptCardSaid : Prop := Claim7.holds Tryd.pinned (.plain (OpenSpec.ofChange fnChartKeptSpec)) fnChartKeptCard

/-- THE TIED CARD OF 'laws.FnGivenOnce'. -/
def fnGivenOnceCard : Claim7 := { stood := { row := fnGivenOnceRow, standIns := [], harness := (true, "788d43defaf48a409ce98fedf98b569043649f86f9e83f5811759cc7f9ba6457"), looks := true }, kinds := [], alts := [], laidByText := true, laidKinds := [.handle], laidTests := true, laidLooks := .later }
def FnGivenOnceCardSaid : Prop := Claim7.holds Tryd.pinned (.plain (OpenSpec.ofChange fnGivenOnceSpec)) fnGivenOnceCard

/-- THE TIED CARD OF 'laws.FnExactOrderDo'. -/
def fnExactOrderDoCard : Claim7 := { stood := { row := fnExactOrderDoRow, standIns := [], harness := (true, "788d43defaf48a409ce98fedf98b569043649f86f9e83f5811759cc7f9ba6457"), looks := true }, kinds := [], alts := [], laidByText := true, laidKinds := [.handle], laidTests := true, laidLooks := .later }
def FnExactOrderDoCardSaid : Prop := Claim7.holds Tryd.pinned (.plain (OpenSpec.ofChange fnExactOrderDoSpec)) fnExactOrderDoCard

/-- THE SECOND FORM's CARD OF 'laws.FnChartKept'. -/
def fnChartKeptUptoCard : Claim7 := { stood := { row := fnChartKeptUptoRow, standIns := [], harness := (true, "788d43defaf48a409ce98fedf98b569043649f86f9e83f5811759cc7f9ba6457"), looks := true }, kinds := [], alts := [], laidByText := true, laidKinds := [.handle], laidTests := true, laidLooks := .later }
def FnChartKeptUptoCardSaid : Prop := Claim7.holds Tryd.pinned (.plain (OpenSpec.upto fnChartKeptSpec)) fnChartKeptUptoCard

/-- THE SECOND FORM's CARD OF 'laws.FnGivenOnce'. -/
def fnGivenOnceUptoCard : Claim7 := { stood := { row := fnGivenOnceUptoRow, standIns := [], harness := (true, "788d43defaf48a409ce98fedf98b569043649f86f9e83f5811759cc7f9ba6457"), looks := true }, kinds := [], alts := [], laidByText := true, laidKinds := [.handle], laidTests := true, laidLooks := .later }
def FnGivenOnceUptoCardSaid : Prop := Claim7.holds Tryd.pinned (.plain (OpenSpec.upto fnGivenOnceSpec)) fnGivenOnceUptoCard

/-- THE SECOND FORM's CARD OF 'laws.FnExactOrderDo'. -/
def fnExactOrderDoUptoCard : Claim7 := { stood := { row := fnExactOrderDoUptoRow, standIns := [], harness := (true, "788d43defaf48a409ce98fedf98b569043649f86f9e83f5811759cc7f9ba6457"), looks := true }, kinds := [], alts := [], laidByText := true, laidKinds := [.handle], laidTests := true, laidLooks := .later }
def FnExactOrderDoUptoCardSaid : Prop := Claim7.holds Tryd.pinned (.plain (OpenSpec.upto fnExactOrderDoSpec)) fnExactOrderDoUptoCard
end Rows
end Go.Proofs.YtmcekefoedgboaaDoor
