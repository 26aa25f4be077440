/-
  The law's own helpers on rows of joins: their size, a copy, sameness.
-/
import Derived.Test.YtdnnenklkfkhcaaSj
import Derived.Deep.RegionHeld3
namespace Go.Proofs.Ytdnnenklkfkhcaa
open Go.RowKit Jn Go.Maps

theorem info52 : (Try.prog.info? 50).map (fun i => (i.zero, i.size, i.bytes)) = some (some (.agg #[.int .i64 0, .int .i64 0]), 2, 16) := by kernel_rfl
/-- Block G takes n joins; the first i of l lie there. -/
def Out (w : World) (G n : Nat) (l : List J) (i : Nat) : Prop :=
  G < w.heap.size ∧ (∀ j, j < 2 * n → (∃ u, w.cell? ⟨G, j, none⟩ = some u) ∧ w.frozen? ⟨G, j, none⟩ = false) ∧
    ∀ j, j < i → w.cell? ⟨G, j * 2, none⟩ = some (.int .i64 (l.getD j (0, 0)).1) ∧ w.cell? ⟨G, j * 2 + 1, none⟩ = some (.int .i64 (l.getD j (0, 0)).2)
theorem Out.below {w w' : World} {G n i : Nat} {l : List J} (h : Out w G n l i) (hb : Below w.heap.size w w') : Out w' G n l i :=
  ⟨Nat.lt_of_lt_of_le h.1 hb.size, fun j hj => ⟨by
      obtain ⟨u, hu⟩ := (h.2.1 j hj).1
      exact ⟨u, (hb.cell (p := ⟨G, j, none⟩) h.1).trans hu⟩, by
      have := (h.2.1 j hj).2
      simp only [World.frozen?, hb.block G h.1] at this ⊢
      exact this⟩,
    fun j hj => ⟨(hb.cell (p := ⟨G, j * 2, none⟩) h.1).trans (h.2.2 j hj).1, (hb.cell (p := ⟨G, j * 2 + 1, none⟩) h.1).trans (h.2.2 j hj).2⟩⟩
theorem Out.set {w : World} {G n i : Nat} {l : List J} (h : Out w G n l i) (hi : i < n) : Out ((w.setCell ⟨G, i * 2, none⟩ (.int .i64 (l.getD i (0, 0)).1)).setCell ⟨G, i * 2 + 1, none⟩ (.int .i64 (l.getD i (0, 0)).2)) G n l (i + 1) := by
  obtain ⟨h1, h2, h3⟩ := h
  obtain ⟨⟨u0, hu0⟩, hf0⟩ := h2 (i * 2) (by omega)
  obtain ⟨⟨u1, hu1⟩, hf1⟩ := h2 (i * 2 + 1) (by omega)
  have e1 : (w.setCell ⟨G, i * 2, none⟩ (.int .i64 (l.getD i (0, 0)).1)).cell? ⟨G, i * 2 + 1, none⟩ = some u1 := by rw [World.cell?_setCell_other (h := by simp)]; exact hu1
  have key : ∀ j, j ≠ i * 2 → j ≠ i * 2 + 1 → ((w.setCell ⟨G, i * 2, none⟩ (.int .i64 (l.getD i (0, 0)).1)).setCell ⟨G, i * 2 + 1, none⟩ (.int .i64 (l.getD i (0, 0)).2)).cell? ⟨G, j, none⟩ = w.cell? ⟨G, j, none⟩ := fun j a b => by
    rw [World.cell?_setCell_other (h := by first | (simp; done) | (simp; exact b)), World.cell?_setCell_other (h := by first | (simp; done) | (simp; exact a))]
  have k0 : ((w.setCell ⟨G, i * 2, none⟩ (.int .i64 (l.getD i (0, 0)).1)).setCell ⟨G, i * 2 + 1, none⟩ (.int .i64 (l.getD i (0, 0)).2)).cell? ⟨G, i * 2, none⟩ = some (.int .i64 (l.getD i (0, 0)).1) := by
    rw [World.cell?_setCell_other (h := by simp), World.cell?_setCell_same _ _ _ hu0]
  have k1 : ((w.setCell ⟨G, i * 2, none⟩ (.int .i64 (l.getD i (0, 0)).1)).setCell ⟨G, i * 2 + 1, none⟩ (.int .i64 (l.getD i (0, 0)).2)).cell? ⟨G, i * 2 + 1, none⟩ = some (.int .i64 (l.getD i (0, 0)).2) :=
    World.cell?_setCell_same _ _ _ e1
  refine ⟨by simpa [World.setCell] using h1, fun j hj => ⟨?_, by rw [World.frozen?_setCell, World.frozen?_setCell]; exact (h2 j hj).2⟩, fun j hj => ?_⟩
  · by_cases a : j = i * 2
    · subst a; exact ⟨_, k0⟩
    · by_cases b : j = i * 2 + 1
      · subst b; exact ⟨_, k1⟩
      · rw [key j a b]; exact (h2 j hj).1
  · by_cases a : j = i
    · subst a; exact ⟨k0, k1⟩
    · rw [key (j * 2) (by omega) (by omega), key (j * 2 + 1) (by omega) (by omega)]
      exact h3 j (by omega)
theorem Out.made {w w' : World} {b n : Nat} {l : List J} (h : w'.ownsRow b 50 2 (.slice (some ⟨w.heap.size, 0, none⟩) n n) n (madeCells (Value.agg #[.int .i64 0, .int .i64 0]).cells (n * 2)).toList) : Out w' w.heap.size n l 0 := by
  obtain ⟨h1, h2⟩ := h
  rcases h2 with ⟨h2, h3⟩ | ⟨g, cap, cur, h2, h3, h4, h5, h6, h7, h8⟩
  · cases h2
  · simp only [Value.slice.injEq, Option.some.injEq, Addr.mk.injEq, and_true, true_and] at h2
    obtain ⟨rfl, rfl⟩ := h2
    refine ⟨(Array.getElem?_eq_some_iff.1 h4).1, fun j hj => ⟨?_, ?_⟩, fun j hj => absurd hj (by omega)⟩
    · have hj' : j < cur.size := by omega
      exact ⟨cur[j], by simp only [World.cell?, h4]; exact Array.getElem?_eq_getElem hj'⟩
    · simp only [World.frozen?, h4]
      simp
theorem Out.row {w : World} {G : Nat} {l : List J} (h : Out w G l.length l l.length) (c : Nat) : JRow w (.slice (some ⟨G, 0, none⟩) l.length c) l :=
  ⟨_, c, rfl, Or.inr ⟨G, 0, rfl, h.1, fun i hi => by rw [Nat.zero_add]; exact h.2.2 i hi⟩⟩

end Go.Proofs.Ytdnnenklkfkhcaa
