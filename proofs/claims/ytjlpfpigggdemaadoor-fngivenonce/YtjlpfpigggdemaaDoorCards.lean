/-
  DERIVED. GIVEN WITH THE SEED: THE CARDS: each row of YtjlpfpigggdemaaDoorRows.lean that lists a variable, with what it lists TIED to the program's text (the seventh form; the later family's looks); each row that meets fmt, with fmt's text TOLD by the authors' own Lean function (tested against real Go, not proved from fmt's source: count such statements apart). THE CARD IS WHAT COUNTS. Prove the row's statement (the work); the ties are given (YtjlpfpigggdemaaDoorTie.lean); close each card by the builder's one call (the guide's Derived/Test/ToyasCard.lean, 'card_holds'). Laid BY PROGRAM, IN A SANDBOX (cutbox-door.mjs). By AI agents, Wed Nov 11 2026. No macro, syntax, notation, axiom, sorry.
-/
import Derived.Test.YtjlpfpigggdemaaDoorRows
import GoSem.ClaimSeven
namespace Go.Proofs.YtjlpfpigggdemaaDoor
namespace Rows

/-- THE TIED CARD OF 'laws.FnChartKept'. -/
def fnChartKeptCard : Claim7 := { stood := { row := fnChartKeptRow, standIns := [], harness := (true, "96f12cd2770175e111c520f32e821e61cf11150445bb5cd11508d1f7bf5b354e"), looks := true }, kinds := [], alts := [], laidByText := true, laidKinds := [.handle], laidTests := true, laidLooks := .later }
def FnChartKeptCardSaid : Prop := Claim7.holds Tryd.pinned (.plain (OpenSpec.ofChange fnChartKeptSpec)) fnChartKeptCard

/-- THE TIED CARD OF 'laws.FnGivenOnce'. -/
def fnGivenOnceCard : Claim7 := { stood := { row := fnGivenOnceRow, standIns := [], harness := (true, "96f12cd2770175e111c520f32e821e61cf11150445bb5cd11508d1f7bf5b354e"), looks := true }, kinds := [], alts := [], laidByText := true, laidKinds := [.handle], laidTests := true, laidLooks := .later }
def FnGivenOnceCardSaid : Prop := Claim7.holds Tryd.pinned (.plain (OpenSpec.ofChange fnGivenOnceSpec)) fnGivenOnceCard

/-- THE SECOND FORM's CARD OF 'laws.FnChartKept'. -/
def fnChartKeptUptoCard : Claim7 := { stood := { row := fnChartKeptUptoRow, standIns := [], harness := (true, "96f12cd2770175e111c520f32e821e61cf11150445bb5cd11508d1f7bf5b354e"), looks := true }, kinds := [], alts := [], laidByText := true, laidKinds := [.handle], laidTests := true, laidLooks := .later }
def FnChartKeptUptoCardSaid : Prop := Claim7.holds Tryd.pinned (.plain (OpenSpec.upto fnChartKeptSpec)) fnChartKeptUptoCard

/-- THE SECOND FORM's CARD OF 'laws.FnGivenOnce'. -/
def fnGivenOnceUptoCard : Claim7 := { stood := { row := fnGivenOnceUptoRow, standIns := [], harness := (true, "96f12cd2770175e111c520f32e821e61cf11150445bb5cd11508d1f7bf5b354e"), looks := true }, kinds := [], alts := [], laidByText := true, laidKinds := [.handle], laidTests := true, laidLooks := .later }
def FnGivenOnceUptoCardSaid : Prop := Claim7.holds Tryd.pinned (.plain (OpenSpec.upto fnGivenOnceSpec)) fnGivenOnceUptoCard
end Rows
end Go.Proofs.YtjlpfpigggdemaaDoor
