/-
  A table of numbers, drawn beside a cursor.
-/
import Derived.Test.YtgcpiinmcbdkmaaCuC
import Derived.Test.YtgcpiinmcbdkmaaVb
import Derived.Laws.Tables
import Derived.Laws.Rows
namespace Go.Proofs.Ytgcpiinmcbdkmaa
open Go.RowKit Va
set_option linter.unusedVariables false

theorem tab_at (zs : List Int) (W W' : World) (g : Nat) (t : TypeId) (hk : Keep g (W.alloc (.cells (zs.map (fun z => Value.int .i64 z)).toArray t)) W') (hg : g < W.heap.size) (k : Nat) (hz : k < zs.length) : ∃ z : Int, W'.cell? ⟨W.heap.size, k, none⟩ = some (.int .i64 z) := by
  refine ⟨zs[k], ?_⟩
  rw [hk.cell (by simp) (by omega)]
  have e := heap_alloc_new W (.cells (zs.map (fun z => Value.int .i64 z)).toArray t)
  simp only [World.cell?, e]
  simp [hz]
end Go.Proofs.Ytgcpiinmcbdkmaa
