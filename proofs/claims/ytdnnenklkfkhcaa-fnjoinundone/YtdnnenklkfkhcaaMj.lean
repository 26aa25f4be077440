/-
  A row of joins of the call's own: marked, and asked for its marks.
-/
import Derived.Test.YtdnnenklkfkhcaaPj
namespace Go.Proofs.Ytdnnenklkfkhcaa
open Go.RowKit Jn Go.Maps

/-- The joins l lie at v, in a block from base on that nobody else holds. -/
def Own (w : World) (base : Nat) (v : Value) (l : List J) : Prop :=
  ∃ ao cap, v = .slice ao l.length cap ∧ (l.length = 0 ∨ ∃ G, ao = some ⟨G, 0, none⟩ ∧ base ≤ G ∧ Out w G l.length l l.length)
theorem Own.row {w : World} {base : Nat} {v : Value} {l : List J} (h : Own w base v l) : JRow w v l := by
  obtain ⟨ao, cap, rfl, h0 | ⟨G, rfl, _, ho⟩⟩ := h
  · exact ⟨ao, cap, rfl, Or.inl h0⟩
  · exact ho.row cap
theorem Own.below {w w' : World} {base : Nat} {v : Value} {l : List J} (h : Own w base v l) (hb : Below w.heap.size w w') : Own w' base v l := by
  obtain ⟨ao, cap, rfl, h0 | ⟨G, rfl, hG, ho⟩⟩ := h
  · exact ⟨ao, cap, rfl, Or.inl h0⟩
  · exact ⟨_, cap, rfl, Or.inr ⟨G, rfl, hG, ho.below hb⟩⟩
theorem Own.base_le {w : World} {base b2 : Nat} {v : Value} {l : List J} (h : Own w base v l) (hb : b2 ≤ base) : Own w b2 v l := by
  obtain ⟨ao, cap, rfl, h0 | ⟨G, rfl, hG, ho⟩⟩ := h
  · exact ⟨ao, cap, rfl, Or.inl h0⟩
  · exact ⟨_, cap, rfl, Or.inr ⟨G, rfl, Nat.le_trans hb hG, ho⟩⟩
/-- Nothing but v's block has turned. -/
structure Aside (w w' : World) (v : Value) : Prop where
  os : w'.os = w.os
  tape : w'.tape = w.tape
  output : w'.output = w.output
  size : w'.heap.size = w.heap.size
  block : ∀ j, v.ownBlock ≠ some j → w'.heap[j]? = w.heap[j]?
theorem Aside.refl (w : World) (v : Value) : Aside w w v := ⟨rfl, rfl, rfl, rfl, fun _ _ => rfl⟩
theorem Aside.set {w w' : World} {G n c o : Nat} (h : Aside w w' (.slice (some ⟨G, 0, none⟩) n c)) (x : Value) : Aside w (w'.setCell ⟨G, o, none⟩ x) (.slice (some ⟨G, 0, none⟩) n c) := by
  have hb := (Below.refl G w').setCell (p := ⟨G, o, none⟩) (Nat.le_refl _) x
  refine ⟨hb.os.trans h.os, hb.tape.trans h.tape, hb.output.trans h.output, by rw [← h.size]; simp [World.setCell], fun j hj => ?_⟩
  rw [← h.block j hj]
  have hne : G ≠ j := fun e => hj (by rw [e]; rfl)
  rw [Go.Sort.setCell_eq]
  simp [Go.Sort.mapBlock, Array.getElem?_modify, hne]
theorem Aside.below {w0 w w' : World} {base : Nat} {v : Value} (h : Aside w w' v) (hb : Below base w0 w) (hv : ∀ j, v.ownBlock = some j → base ≤ j) : Below base w0 w' :=
  ⟨h.os.trans hb.os, h.tape.trans hb.tape, h.output.trans hb.output, by rw [h.size]; exact hb.size, fun k hk => by
    rw [← hb.block k hk]
    exact h.block k (fun e => absurd (hv k e) (by omega))⟩
theorem Own.from_base {w : World} {base : Nat} {v : Value} {l : List J} (h : Own w base v l) (hn : l.length ≠ 0) : ∀ j, v.ownBlock = some j → base ≤ j := by
  obtain ⟨ao, cap, rfl, h0 | ⟨G, rfl, hG, _⟩⟩ := h
  · exact absurd h0 hn
  · intro j hj; cases hj; exact hG
theorem Out.aside {w w' : World} {G n i : Nat} {l : List J} {v : Value} (h : Out w G n l i) (ha : Aside w w' v) (hv : v.ownBlock ≠ some G) : Out w' G n l i := by
  have hb := ha.block G hv
  have hc : ∀ j, w'.cell? ⟨G, j, none⟩ = w.cell? ⟨G, j, none⟩ := fun j => by simp only [World.cell?, hb]
  have hf : ∀ j, w'.frozen? ⟨G, j, none⟩ = w.frozen? ⟨G, j, none⟩ := fun j => by simp only [World.frozen?, hb]
  refine ⟨by rw [ha.size]; exact h.1, fun j hj => ?_, fun j hj => ?_⟩
  · rw [hc, hf]; exact h.2.1 j hj
  · rw [hc, hc]; exact h.2.2 j hj

def marks (n : Nat) : List J := (List.range n).map (fun i : Nat => (1 + 2 * (i : Int), 1 + 2 * (i : Int) + 1))
theorem marks_len (n : Nat) : (marks n).length = n := by simp [marks]
theorem marks_get (n i : Nat) (h : i < n) : (marks n).getD i (0, 0) = (1 + 2 * (i : Int), 1 + 2 * (i : Int) + 1) := by
  rw [List.getD_eq_getElem?_getD, List.getElem?_eq_getElem (by rw [marks_len]; exact h)]
  simp [marks]

end Go.Proofs.Ytdnnenklkfkhcaa
