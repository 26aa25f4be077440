/-
  Rows of one-cell elements: read wherever they lie; made, stored into, appended to.
-/
import Derived.WalkKit
import Derived.WalkSpells
import Derived.WalkLawsBesides
namespace Go.Proofs.Ytiopmlepdjiapaa
open Go.RowKit

/-- The slice v has the n elements xs, a cell each. -/
def Row (w : World) (v : Value) (n : Nat) (xs : List Value) : Prop :=
  xs.length = n ∧ ∃ ao cap, v = .slice ao n cap ∧ (n = 0 ∨ ∃ b off, ao = some ⟨b, off, none⟩ ∧ b < w.heap.size ∧ ∀ i, i < n → w.cell? ⟨b, off + i, none⟩ = xs[i]?)

theorem Row.below {w w' : World} {v : Value} {n : Nat} {xs : List Value} (h : Row w v n xs) (hb : Below w.heap.size w w') : Row w' v n xs := by
  obtain ⟨h1, ao, cap, h2, h3⟩ := h
  refine ⟨h1, ao, cap, h2, ?_⟩
  rcases h3 with h3 | ⟨b, off, h3, h4, h5⟩
  · exact Or.inl h3
  · exact Or.inr ⟨b, off, h3, Nat.lt_of_lt_of_le h4 hb.size, fun i hi => (hb.cell (p := ⟨b, off + i, none⟩) h4).trans (h5 i hi)⟩

theorem Row.of_owns {w : World} {base : Nat} {e : TypeId} {v : Value} {n : Nat} {xs : List Value} (h : w.ownsRow base e 1 v n xs) : Row w v n xs := by
  obtain ⟨h1, h2⟩ := h
  rcases h2 with ⟨h2, h3⟩ | ⟨g, cap, cur, h2, h3, h4, h5, h6, h7, h8⟩
  · exact ⟨by omega, none, 0, by rw [h3]; exact h2, Or.inl h3⟩
  · refine ⟨by omega, some ⟨g, 0, none⟩, cap, h2, Or.inr ⟨g, 0, rfl, ?_, ?_⟩⟩
    · have := Array.getElem?_eq_some_iff.1 h4
      exact this.1
    · intro i hi
      have := World.ownsRow.cellAt (w := w) (base := base) (e := e) (size := 1) (g := g) (n := n) (cap := cap) (xs := xs) ⟨h1, .inr ⟨g, cap, cur, rfl, h3, h4, h5, h6, h7, h8⟩⟩ i (by omega)
      simpa using this

/-- What is copied so far, and noughts behind it. -/
def cur (z : Value) (xs : List Value) (k : Nat) : List Value := xs.take k ++ List.replicate (xs.length - k) z
theorem cur_zero (z : Value) (xs : List Value) : cur z xs 0 = List.replicate xs.length z := by simp [cur]
theorem cur_all (z : Value) (xs : List Value) : cur z xs xs.length = xs := by simp [cur]
theorem cur_len (z : Value) (xs : List Value) (k : Nat) (h : k ≤ xs.length) : (cur z xs k).length = xs.length := by simp [cur]; omega
theorem cur_step (z : Value) (xs : List Value) (k : Nat) (h : k < xs.length) : (cur z xs k).set k xs[k] = cur z xs (k + 1) := by
  unfold cur
  have e : xs.length - k = (xs.length - (k + 1)) + 1 := by omega
  have l : (xs.take k).length = k := by simp; omega
  rw [e, List.replicate_succ, List.set_append_right (h := by omega), l, Nat.sub_self, List.set_cons_zero, List.take_succ_eq_append_getElem h, List.append_assoc]
  rfl
end Go.Proofs.Ytiopmlepdjiapaa
