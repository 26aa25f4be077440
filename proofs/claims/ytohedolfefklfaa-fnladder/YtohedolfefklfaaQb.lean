/-
  Queues: the small functions, and whether somebody stands in a queue already.
-/
import Derived.Test.YtohedolfefklfaaVb
import Derived.Test.YtohedolfefklfaaQa
import Derived.Deep.RegionWith
namespace Go.Proofs.Ytohedolfefklfaa
open Go.RowKit Va
set_option linter.unusedVariables false

def csW (x : Wt) (k : Nat) : Int := match k with | 0 => x.person | 1 => x.urg | _ => x.since
def aW (x : Wt) : Value := .agg #[.int .i64 x.person, .int .i64 x.urg, .int .i64 x.since]
theorem some_of {α : Type} (l : List α) (i : Nat) (h : i < l.length) : ∃ x, l[i]? = some x := ⟨_, List.getElem?_eq_getElem h⟩
theorem take_snocW {α : Type} {l : List α} {i : Nat} {x : α} (h : l[i]? = some x) : l.take (i + 1) = l.take i ++ [x] := by
  rw [List.take_add_one, h]; rfl
/-- The three cells of who waits. -/
theorem wait_cells {w : World} {ao : Option Addr} {n cap : Nat} {l : List Wt} {k : Nat} {s : Wt} (h : Rw 3 csW w (.slice ao n cap) l) (hk : l[k]? = some s) :
    ∃ g off, ao = some ⟨g, off, none⟩ ∧ g < w.heap.size ∧ w.cell? ⟨g, off + k * 3, none⟩ = some (.int .i64 s.person) ∧ w.cell? ⟨g, off + k * 3 + 1, none⟩ = some (.int .i64 s.urg) ∧ w.cell? ⟨g, off + k * 3 + 2, none⟩ = some (.int .i64 s.since) := by
  obtain ⟨g, off, h1, h2, h3⟩ := h.at hk
  exact ⟨g, off, h1, h2, h3 0 (by omega), h3 1 (by omega), h3 2 (by omega)⟩
end Go.Proofs.Ytohedolfefklfaa
