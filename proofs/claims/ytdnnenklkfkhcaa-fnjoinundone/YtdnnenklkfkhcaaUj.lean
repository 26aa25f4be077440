/-
  JoinUndo, the specification's: the joins but one.
-/
import Derived.Test.YtdnnenklkfkhcaaMj
import Derived.Test.YtdnnenklkfkhcaaTp
namespace Go.Proofs.Ytdnnenklkfkhcaa
open Go.RowKit Jn Go.Maps

def cellsJ (l : List J) : List Value := l.flatMap (fun j => [.int .i64 j.1, .int .i64 j.2])
theorem cellsJ_app (l : List J) (k g : Int) : cellsJ (l ++ [(k, g)]) = cellsJ l ++ [.int .i64 k, .int .i64 g] := by simp [cellsJ]
theorem cellsJ_get (l : List J) : ∀ i, i < l.length → (cellsJ l)[i * 2]? = some (.int .i64 (l.getD i (0, 0)).1) ∧ (cellsJ l)[i * 2 + 1]? = some (.int .i64 (l.getD i (0, 0)).2) := by
  induction l with
  | nil => intro i h; exact absurd h (by simp)
  | cons j l ih =>
    intro i h
    cases i with
    | zero => exact ⟨rfl, rfl⟩
    | succ i =>
      obtain ⟨h1, h2⟩ := ih i (by simpa using h)
      rw [List.getD_cons_succ, show (i + 1) * 2 = i * 2 + 2 by omega]
      exact ⟨h1, h2⟩
theorem own_of {w : World} {base : Nat} {v : Value} {l : List J} (h : w.ownsRow base 50 2 v l.length (cellsJ l)) : Own w base v l := by
  obtain ⟨h1, ⟨rfl, h2⟩ | ⟨g, cap, cur, rfl, hb, hg, hc, _, hs, ht⟩⟩ := h
  · exact ⟨none, 0, by rw [h2], Or.inl h2⟩
  · have hcell : ∀ j, j < 2 * l.length → w.cell? ⟨g, j, none⟩ = (cellsJ l)[j]? := fun j hj => by
      rw [← ht, List.getElem?_take, if_pos (by omega), Array.getElem?_toList]
      simp only [World.cell?, hg]
      rfl
    refine ⟨_, cap, rfl, Or.inr ⟨g, rfl, hb, (Array.getElem?_eq_some_iff.1 hg).1, fun j hj => ⟨?_, ?_⟩, fun j hj => ⟨?_, ?_⟩⟩⟩
    · rw [hcell j hj, List.getElem?_eq_getElem (by omega)]
      exact ⟨_, rfl⟩
    · simp only [World.frozen?, hg]
      simp
    · rw [hcell _ (by omega)]; exact (cellsJ_get l j hj).1
    · rw [hcell _ (by omega)]; exact (cellsJ_get l j hj).2
theorem own2_lt {w : World} {b e n : Nat} {v : Value} {xs : List Value} (h : w.ownsRow b e 2 v n xs) : ∀ k, v.ownBlock = some k → b ≤ k := by
  obtain ⟨_, ⟨rfl, _⟩ | ⟨g, cap, cur, rfl, hb, _⟩⟩ := h
  · intro k hk; cases hk
  · intro k hk; cases hk; exact hb
theorem own_slice {w : World} {b e s n : Nat} {v : Value} {xs : List Value} (h : w.ownsRow b e s v n xs) : ∃ ad c, v = .slice ad n c := by
  obtain ⟨_, ⟨rfl, rfl⟩ | ⟨g, cap, cur, rfl, _⟩⟩ := h
  · exact ⟨_, _, rfl⟩
  · exact ⟨_, _, rfl⟩
theorem cell_two_new (w : World) (a b : Value) (t : TypeId) : ∀ (j : Nat) (u : Value), [a, b][j]? = some u → (w.alloc (.cells #[a, b] t)).cell? ((⟨w.heap.size, 0, none⟩ : Addr).add j) = some u := fun j u hu => by
  have e := heap_alloc_new w (Obj.cells #[a, b] t)
  match j, hu with
  | 0, hu =>
    show (w.alloc (.cells #[a, b] t)).cell? ⟨w.heap.size, 0, none⟩ = some u
    simp only [World.cell?, e]
    exact hu
  | 1, hu =>
    show (w.alloc (.cells #[a, b] t)).cell? ⟨w.heap.size, 1, none⟩ = some u
    simp only [World.cell?, e]
    exact hu
  | n + 2, hu => cases hu
theorem two_one (a b : Int) : ∀ u ∈ [Value.int .i64 a, Value.int .i64 b], u.oneCell' = true := by
  intro u hu
  simp only [List.mem_cons, List.not_mem_nil, or_false] at hu
  rcases hu with rfl | rfl <;> rfl

/-- What JoinUndo answers. -/
noncomputable def undoL (l : List J) (g : Int) : List J := if okB l then l.filter (fun j => !decide (j.2 = g)) else []
noncomputable def undoC (l : List J) (g : Int) : Int := if okB l then (if isG l g then 0 else 5) else 1
theorem filter_take (l : List J) (g : Int) (i : Nat) (h : i < l.length) :
    (l.take (i + 1)).filter (fun j => !decide (j.2 = g)) = if (l.getD i (0, 0)).2 = g then (l.take i).filter (fun j => !decide (j.2 = g)) else (l.take i).filter (fun j => !decide (j.2 = g)) ++ [((l.getD i (0, 0)).1, (l.getD i (0, 0)).2)] := by
  rw [take_succ l i h, List.filter_append]
  generalize l.getD i (0, 0) = q
  by_cases e : q.2 = g
  · rw [if_pos e]; simp [e]
  · rw [if_neg e]; simp [e]
theorem filter_all (l : List J) (g : Int) (h : isG l g = false) : l.filter (fun j => !decide (j.2 = g)) = l := by
  rw [List.filter_eq_self]
  intro j hj
  have : ¬ j.2 = g := fun e => by
    have : isG l g = true := by rw [← mem_isG]; exact List.mem_map.2 ⟨j, hj, e⟩
    rw [h] at this; cases this
  simp [this]
theorem filter_less (l : List J) (g : Int) (h : isG l g = true) : (l.filter (fun j => !decide (j.2 = g))).length < l.length := by
  rw [← mem_isG] at h
  obtain ⟨j, hj, e⟩ := List.mem_map.1 h
  exact List.length_filter_lt_length_iff_exists.2 ⟨j, hj, by simp [e]⟩

theorem info41 : (Try.prog.info? 50).map (fun i => (i.zero, i.size, i.bytes)) = some (some (.agg #[.int .i64 0, .int .i64 0]), 2, 16) := by kernel_rfl
theorem ownsRow_empty (w : World) : (w.alloc (.cells #[] 50)).ownsRow w.heap.size 50 2 (.slice (some ⟨w.heap.size, 0, none⟩) 0 0) 0 [] :=
  ⟨rfl, Or.inr ⟨w.heap.size, 0, #[], rfl, Nat.le_refl _, heap_alloc_new _ _, Nat.le_refl _, Nat.zero_le _, rfl, rfl⟩⟩
end Go.Proofs.Ytdnnenklkfkhcaa
