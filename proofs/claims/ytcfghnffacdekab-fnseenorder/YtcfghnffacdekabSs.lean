/-
  A queue that grows while it is drawn of a cursor.
-/
import Derived.Test.YtcfghnffacdekabDt
import Derived.Test.YtcfghnffacdekabQb
import Derived.Laws.AppendOwn
namespace Go.Proofs.Ytcfghnffacdekab
open Go.RowKit Va
set_option linter.unusedVariables false

theorem infoWt : (Try.prog.info? 61).map (fun i => (i.zero, i.size, i.bytes)) = some (some (.agg #[.int .i64 0, .int .i64 0, .int .i64 0]), 3, 24) := by kernel_rfl
/-- The queue l at v, in a block of the call's own, beside a cursor at g. -/
structure DQ (w0 W : World) (g : Nat) (ao : Option Addr) (cap : Nat) (bs : List Int) (v : Value) (l : List Wt) : Prop where
  cur : Cur W g ao cap bs
  keep : Keep g w0 W
  own : W.ownsRow w0.heap.size 61 3 v l.length (cellsL 3 csW l)
  gg : g < w0.heap.size
section
variable {w0 W W' : World} {g cap : Nat} {ao : Option Addr} {bs : List Int} {v : Value} {l : List Wt}

theorem DQ.call (h : DQ w0 W g ao cap bs v l) (hc : Cur W' g ao cap bs) (hk : Keep g W W') : DQ w0 W' g ao cap bs v l := by
  refine ⟨hc, h.keep.trans hk, ?_, h.gg⟩
  obtain ⟨h1, h2⟩ := h.own
  refine ⟨h1, ?_⟩
  rcases h2 with h2 | ⟨b, c, cur, h2, h3, h4, h5⟩
  · exact Or.inl h2
  · have hb := (Array.getElem?_eq_some_iff.1 h4).1
    have := h.gg
    exact Or.inr ⟨b, c, cur, h2, h3, (hk.block b hb (by omega)).trans h4, h5⟩
theorem DQ.alloc (h : DQ w0 W g ao cap bs v l) (o : Obj) : DQ w0 (W.alloc o) g ao cap bs v l :=
  h.call (h.cur.below ((Below.refl _ _).alloc h.cur.1 _)) ((Keep.refl g W).alloc o)
theorem DQ.drewN (h : DQ w0 W g ao cap bs v l) (n : Nat) : DQ w0 (W.drewN n) g ao cap bs v l := ⟨h.cur, h.keep.drewN n, h.own, h.gg⟩
theorem DQ.drew (h : DQ w0 W g ao cap bs v l) : DQ w0 W.drew g ao cap bs v l := h.drewN 1
theorem DQ.form (h : DQ w0 W g ao cap bs v l) : ∃ ad c, v = .slice ad l.length c := by
  rcases h.own.2 with ⟨h1, h2⟩ | ⟨b, c, cur, h2, _⟩
  · exact ⟨none, 0, by rw [h1, h2]⟩
  · exact ⟨_, _, h2⟩
theorem DQ.row (h : DQ w0 W g ao cap bs v l) : Rw 3 csW W v l := (own_of rfl h.own).row
theorem cells_wait (l : List Wt) (x : Wt) : cellsL 3 csW (l ++ [x]) = cellsL 3 csW l ++ [.int .i64 x.person, .int .i64 x.urg, .int .i64 x.since] := by
  rw [cellsL_app]; rfl
/-- Somebody more is put behind. -/
theorem DQ.app {v' : Value} {x : Wt} (h : DQ w0 W g ao cap bs v l) (ho : W'.ownsRow w0.heap.size 61 3 v' (l.length + 1) (cellsL 3 csW l ++ [.int .i64 x.person, .int .i64 x.urg, .int .i64 x.since])) (hg : W.grownBy W' v.ownBlock) : DQ w0 W' g ao cap bs v' (l ++ [x]) := by
  have hne : ∀ j, j < w0.heap.size → some j ≠ v.ownBlock := by
    intro j hj
    rcases h.own.2 with ⟨rfl, _⟩ | ⟨b, c, cur, rfl, h3, _⟩
    · simp [Value.ownBlock]
    · simp [Value.ownBlock]; omega
  have hs := h.keep.size
  have hgg := h.gg
  refine ⟨h.cur.below ⟨hg.os, hg.tape, hg.output, hg.size, fun j hj => hg.block j (by omega) (hne j (by omega))⟩, ?_, ?_, h.gg⟩
  · exact ⟨hg.os.trans h.keep.os, hg.tape.trans h.keep.tape, hg.output.trans h.keep.output, Nat.le_trans hs hg.size, fun j hj hjg => (hg.block j (by omega) (hne j hj)).trans (h.keep.block j hj hjg)⟩
  · rw [cells_wait, List.length_append]; exact ho
theorem DQ.anew (h : DQ w0 W g ao cap bs v l) : DQ w0 (W.alloc (.cells #[] 61)) g ao cap bs (.slice (some ⟨W.heap.size, 0, none⟩) 0 0) [] := by
  have k := h.alloc (.cells #[] 61)
  exact ⟨k.cur, k.keep, ⟨rfl, .inr ⟨W.heap.size, 0, #[], rfl, h.keep.size, heap_alloc_new W _, Nat.le_refl _, Nat.zero_le _, rfl, rfl⟩⟩, h.gg⟩
theorem DQ.start (hc : Cur w0 g ao cap bs) : DQ w0 (w0.alloc (.cells #[] 61)) g ao cap bs (.slice (some ⟨w0.heap.size, 0, none⟩) 0 0) [] :=
  DQ.anew (v := .slice none 0 0) (l := []) ⟨hc, Keep.refl _ _, ⟨rfl, .inl ⟨rfl, rfl⟩⟩, hc.1⟩
def setW (x : Wt) (j : Nat) (y : Int) : Wt := match j with
  | 0 => { x with person := y }
  | 1 => { x with urg := y }
  | _ => { x with since := y }
theorem cells_cons (x : Wt) (l : List Wt) : cellsL 3 csW (x :: l) = .int .i64 x.person :: .int .i64 x.urg :: .int .i64 x.since :: cellsL 3 csW l := rfl
theorem DQ.first {x : Wt} (h : DQ w0 W g ao cap bs v (x :: l)) : ∃ G c, v = .slice (some ⟨G, 0, none⟩) (l.length + 1) c ∧ g < G ∧ (∀ j, j < 3 → (∃ u, W.cell? ⟨G, j, none⟩ = some u) ∧ W.frozen? ⟨G, j, none⟩ = false) ∧ ∀ j y, j < 3 → DQ w0 (W.setCell ⟨G, j, none⟩ (.int .i64 y)) g ao cap bs v (setW x j y :: l) := by
  rcases h.own.2 with ⟨h1, h2⟩ | ⟨G, c, cur, h2, h3, h4, h5, h6, h7, h8⟩
  · simp at h2
  have hgg := h.gg
  have hlen : 3 ≤ cur.size := by rw [h7]; simp at h5; omega
  refine ⟨G, c, h2, by omega, fun j hj => ⟨?_, ?_⟩, fun j y hj => ?_⟩
  · refine ⟨cur[j], ?_⟩
    simp only [World.cell?, h4]
    exact Array.getElem?_eq_getElem (by omega)
  · simp only [World.frozen?, h4]; simp
  have e := setCell_eq_setRow W G j _ _ _ (.int .i64 y) h4
  have hb : Below (g + 1) W (W.setCell ⟨G, j, none⟩ (.int .i64 y)) := (Below.refl _ W).setCell (p := ⟨G, j, none⟩) (show g + 1 ≤ G by omega) _
  refine ⟨h.cur.below hb, ⟨h.keep.os, h.keep.tape, h.keep.output, by have := h.keep.size; simpa [World.setCell] using this, fun b hb' hbg => ?_⟩, ?_, h.gg⟩
  · rw [e, setRow_other _ _ _ _ (by omega)]
    exact h.keep.block b hb' hbg
  · refine ⟨by rw [cellsL_len], .inr ⟨G, c, cur.setIfInBounds j (.int .i64 y), h2, h3, ?_, h5, h6, by simpa using h7, ?_⟩⟩
    · rw [e]; exact setRow_heap _ _ _ _ _ _ h4
    · rw [Array.toList_setIfInBounds, List.take_set, show (setW x j y :: l).length = (x :: l).length from rfl, h8, cells_cons, cells_cons]
      rcases (show j = 0 ∨ j = 1 ∨ j = 2 by omega) with rfl | rfl | rfl <;> rfl
theorem DQ.front {ad : Option Addr} {c : Nat} (h : DQ w0 W g ao cap bs (.slice ad l.length c) l) (hl : 0 < l.length) : ∃ G, ad = some ⟨G, 0, none⟩ ∧ g < G ∧ (∀ j, j < 3 → (∃ u, W.cell? ⟨G, j, none⟩ = some u) ∧ W.frozen? ⟨G, j, none⟩ = false) ∧ ∀ j y, j < 3 → ∃ l', l'.length = l.length ∧ DQ w0 (W.setCell ⟨G, j, none⟩ (.int .i64 y)) g ao cap bs (.slice ad l.length c) l' := by
  cases l with
  | nil => simp at hl
  | cons x l =>
    obtain ⟨G, c', he, h1, h2, h3⟩ := h.first
    obtain ⟨rfl, -⟩ : ad = some ⟨G, 0, none⟩ ∧ c = c' := by simpa using he
    exact ⟨G, rfl, h1, h2, fun j y hj => ⟨setW x j y :: l, rfl, h3 j y hj⟩⟩
theorem cell_three_new (w : World) (a b c : Value) (t : TypeId) : ∀ (j : Nat) (u : Value), [a, b, c][j]? = some u → (w.alloc (.cells #[a, b, c] t)).cell? ((⟨w.heap.size, 0, none⟩ : Addr).add j) = some u := fun j u hu => by
  have e0 := heap_alloc_new w (Obj.cells #[a, b, c] t)
  have e1 : (w.alloc (.cells #[a, b, c] t)).cell? ((⟨w.heap.size, 0, none⟩ : Addr).add j) = [a, b, c][j]? := by
    rw [Addr.add_lit, Nat.zero_add]
    simp only [World.cell?, e0]
    simp
  rw [e1, hu]
theorem three_one (a b c : Int) : ∀ u ∈ [Value.int .i64 a, .int .i64 b, .int .i64 c], u.oneCell' = true := by
  intro u hu
  simp only [List.mem_cons, List.not_mem_nil, or_false] at hu
  rcases hu with rfl | rfl | rfl <;> rfl
end
end Go.Proofs.Ytcfghnffacdekab
