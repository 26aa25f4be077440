/-
  The law's own helpers on rows of numbers: sameness, markings.
-/
import Derived.Test.YtcnhogghfedcdaaRw
import Derived.Test.YtcnhogghfedcdaaGw
import Derived.Deep.RegionWith
namespace Go.Proofs.Ytcnhogghfedcdaa
open Go.RowKit Va
set_option linter.unusedVariables false

theorem some_of {α : Type} (l : List α) (i : Nat) (h : i < l.length) : ∃ x, l[i]? = some x := ⟨_, List.getElem?_eq_getElem h⟩
def csI (x : Int) (k : Nat) : Int := x
theorem int_cell {cs : Int → Nat → Int} {w : World} {ao : Option Addr} {n cap : Nat} {l : List Int} {i : Nat} {x : Int} (h : Rw 1 cs w (.slice ao n cap) l) (hk : l[i]? = some x) :
    ∃ g off, ao = some ⟨g, off, none⟩ ∧ g < w.heap.size ∧ w.cell? ⟨g, off + i, none⟩ = some (.int .i64 (cs x 0)) := by
  obtain ⟨g, off, h1, h2, h3⟩ := h.at hk
  have := h3 0 (by omega)
  rw [Nat.mul_one, Nat.add_zero] at this
  exact ⟨g, off, h1, h2, this⟩

set_option maxRecDepth 20000 in
set_option maxHeartbeats 2000000 in
theorem eqints_any (v u : Value) (l : List Int) (w : World) (h : Rw 1 csI w v l) (h' : Rw 1 csI w u l) (hn : l.length ≤ 1048576) :
    Calls Try.prog 56 #[v, u] w fun e w' => e = .returned (.bool true) ∧ Below w.heap.size w w' := by
  have HH := hidden h
  have HH' := hidden h'
  obtain ⟨ao, cap, rfl⟩ := h.form
  obtain ⟨ao', cap', rfl⟩ := h'.form
  clear h h'
  go_enter Try.func56, Try.ntmps56
  go_wp2_with fail
  go_loopw [5] (fun iv wr => ∃ i : Nat, i ≤ l.length ∧ iv = .int .i64 i ∧ Below w.heap.size w wr) (fun iv _ => l.length - (intOf iv).toNat)
  case atStart => exact ⟨0, Nat.zero_le _, rfl, Below.refl _ _⟩
  case round =>
    obtain ⟨i, hil, rfl, hb⟩ := hrel
    by_cases hlt : i < l.length
    · have hlti : (i : Int) < (l.length : Int) := by omega
      have hi0 : (0 : Int) ≤ (i : Int) := by omega
      obtain ⟨x, hx⟩ := some_of l i hlt
      obtain ⟨g, off, rfl, hg, c0⟩ := int_cell (HH.out.below hb) hx
      obtain ⟨g', off', rfl, hg', d0⟩ := int_cell (HH'.out.below hb) hx
      unfold csI at c0 d0
      clear hx
      go_wp2_with fail
      go_quiet (fail)
      go_wp2_with fail
      go_roundw
      case rel => exact ⟨i + 1, by omega, rfl, by repeat (first | exact Below.refl _ _ | assumption | refine st_drew ?_ | refine st_drewN ?_ _ | refine Below.setCell ?_ (by first | omega | (simp; done) | (simp; omega)) _ | refine Below.alloc ?_ (by first | omega | (simp; done) | (simp; omega)) _)⟩
      case measure => simp [intOf]; omega
    · have hlti : ¬ (i : Int) < (l.length : Int) := by omega
      go_wp2_with fail
      go_ret
      exact ⟨rfl, hb⟩



theorem cellsI (L : List Int) : cellsL 1 csI L = L.map fun z => Value.int .i64 z := by
  induction L with
  | nil => rfl
  | cons a L ih =>
    have e : cellsL 1 csI (a :: L) = .int .i64 a :: cellsL 1 csI L := rfl
    rw [e, ih]
    rfl
theorem ownI {w : World} {base : Nat} {v : Value} {L : List Int} (h : w.ownsRow base 2 1 v L.length (L.map fun z => Value.int .i64 z)) : Own 1 csI w base v L := own_of rfl (by rw [cellsI]; exact h)
end Go.Proofs.Ytcnhogghfedcdaa
