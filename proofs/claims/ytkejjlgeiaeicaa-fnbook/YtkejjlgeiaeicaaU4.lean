/-
  The law's own helpers on rows of numbers: sameness, markings.
-/
import Derived.Test.YtkejjlgeiaeicaaRw
import Derived.Test.YtkejjlgeiaeicaaUi
import Derived.Test.YtkejjlgeiaeicaaGw
import Derived.Deep.RegionWith
namespace Go.Proofs.Ytkejjlgeiaeicaa
open Go.RowKit Va
set_option linter.all false

def csI (x : Int) (k : Nat) : Int := x
theorem int_cell {cs : Int → Nat → Int} {w : World} {ao : Option Addr} {n cap : Nat} {l : List Int} {i : Nat} {x : Int} (h : Rw 1 cs w (.slice ao n cap) l) (hk : l[i]? = some x) :
    ∃ g off, ao = some ⟨g, off, none⟩ ∧ g < w.heap.size ∧ w.cell? ⟨g, off + i, none⟩ = some (.int .i64 (cs x 0)) := by
  obtain ⟨g, off, h1, h2, h3⟩ := h.at hk
  have := h3 0 (by omega)
  rw [Nat.mul_one, Nat.add_zero] at this
  exact ⟨g, off, h1, h2, this⟩



theorem cellsI (L : List Int) : cellsL 1 csI L = L.map fun z => Value.int .i64 z := by
  induction L with
  | nil => rfl
  | cons a L ih =>
    have e : cellsL 1 csI (a :: L) = .int .i64 a :: cellsL 1 csI L := rfl
    rw [e, ih]
    rfl
theorem ownI {w : World} {base : Nat} {v : Value} {L : List Int} (h : w.ownsRow base 2 1 v L.length (L.map fun z => Value.int .i64 z)) : Own 1 csI w base v L := own_of rfl (by rw [cellsI]; exact h)
end Go.Proofs.Ytkejjlgeiaeicaa
