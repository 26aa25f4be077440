/-
  A list of numbers that grows while it is drawn of a cursor.
-/
import Derived.Test.YthenphbmkmagaaaDt
import Derived.Test.YthenphbmkmagaaaT2
import Derived.Laws.AppendOwn
namespace Go.Proofs.Ythenphbmkmagaaa
open Go.RowKit Va Lb
set_option linter.all false

/-- The numbers l at v, in a block of the call's own, beside a cursor at g. -/
structure DI (w0 W : World) (g : Nat) (ao : Option Addr) (cap : Nat) (bs : List Int) (v : Value) (l : List Int) : Prop where
  cur : Cur W g ao cap bs
  keep : Keep g w0 W
  own : W.ownsRow w0.heap.size 2 1 v l.length (l.map fun z => Value.int .i64 z)
  gg : g < w0.heap.size
section
variable {w0 W W' : World} {g cap : Nat} {ao : Option Addr} {bs : List Int} {v : Value} {l : List Int}

theorem DI.call (h : DI w0 W g ao cap bs v l) (hc : Cur W' g ao cap bs) (hk : Keep g W W') : DI w0 W' g ao cap bs v l := by
  refine ⟨hc, h.keep.trans hk, ?_, h.gg⟩
  obtain ⟨h1, h2⟩ := h.own
  refine ⟨h1, ?_⟩
  rcases h2 with h2 | ⟨b, c, cur, h2, h3, h4, h5⟩
  · exact Or.inl h2
  · have hb := (Array.getElem?_eq_some_iff.1 h4).1
    have := h.gg
    exact Or.inr ⟨b, c, cur, h2, h3, (hk.block b hb (by omega)).trans h4, h5⟩
theorem DI.alloc (h : DI w0 W g ao cap bs v l) (o : Obj) : DI w0 (W.alloc o) g ao cap bs v l :=
  h.call (h.cur.below ((Below.refl _ _).alloc h.cur.1 _)) ((Keep.refl g W).alloc o)
theorem DI.drewN (h : DI w0 W g ao cap bs v l) (n : Nat) : DI w0 (W.drewN n) g ao cap bs v l := ⟨h.cur, h.keep.drewN n, h.own, h.gg⟩
theorem DI.drew (h : DI w0 W g ao cap bs v l) : DI w0 W.drew g ao cap bs v l := h.drewN 1
theorem DI.form (h : DI w0 W g ao cap bs v l) : ∃ ad c, v = .slice ad l.length c := by
  rcases h.own.2 with ⟨h1, h2⟩ | ⟨b, c, cur, h2, _⟩
  · exact ⟨none, 0, by rw [h1, h2]⟩
  · exact ⟨_, _, h2⟩
theorem DI.row (h : DI w0 W g ao cap bs v l) : VRw 1 cvI W v l := (vownI h.own).row
/-- One more is put behind. -/
theorem DI.app {v' : Value} {x : Int} (h : DI w0 W g ao cap bs v l) (ho : W'.ownsRow w0.heap.size 2 1 v' (l.length + 1) ((l.map fun z => Value.int .i64 z) ++ [.int .i64 x])) (hg : W.grownBy W' v.ownBlock) : DI w0 W' g ao cap bs v' (l ++ [x]) := by
  have hne : ∀ j, j < w0.heap.size → some j ≠ v.ownBlock := by
    intro j hj
    rcases h.own.2 with ⟨rfl, _⟩ | ⟨b, c, cur, rfl, h3, _⟩
    · simp [Value.ownBlock]
    · simp [Value.ownBlock]; omega
  have hs := h.keep.size
  have hgg := h.gg
  refine ⟨h.cur.below ⟨hg.os, hg.tape, hg.output, hg.size, fun j hj => hg.block j (by omega) (hne j (by omega))⟩, ?_, ?_, h.gg⟩
  · exact ⟨hg.os.trans h.keep.os, hg.tape.trans h.keep.tape, hg.output.trans h.keep.output, Nat.le_trans hs hg.size, fun j hj hjg => (hg.block j (by omega) (hne j hj)).trans (h.keep.block j hj hjg)⟩
  · rw [List.map_append, List.length_append]; exact ho
theorem DI.anew (h : DI w0 W g ao cap bs v l) : DI w0 (W.alloc (.cells #[] 2)) g ao cap bs (.slice (some ⟨W.heap.size, 0, none⟩) 0 0) [] := by
  have k := h.alloc (.cells #[] 2)
  exact ⟨k.cur, k.keep, ⟨rfl, .inr ⟨W.heap.size, 0, #[], rfl, h.keep.size, heap_alloc_new W _, Nat.le_refl _, Nat.zero_le _, rfl, rfl⟩⟩, h.gg⟩
theorem DI.start (hc : Cur w0 g ao cap bs) : DI w0 (w0.alloc (.cells #[] 2)) g ao cap bs (.slice (some ⟨w0.heap.size, 0, none⟩) 0 0) [] :=
  DI.anew (v := .slice none 0 0) (l := []) ⟨hc, Keep.refl _ _, ⟨rfl, .inl ⟨rfl, rfl⟩⟩, hc.1⟩
theorem DI.first {x : Int} (h : DI w0 W g ao cap bs v (x :: l)) : ∃ G c, v = .slice (some ⟨G, 0, none⟩) (l.length + 1) c ∧ g < G ∧ ((∃ u, W.cell? ⟨G, 0, none⟩ = some u) ∧ W.frozen? ⟨G, 0, none⟩ = false) ∧ ∀ y, DI w0 (W.setCell ⟨G, 0, none⟩ (.int .i64 y)) g ao cap bs v (y :: l) := by
  rcases h.own.2 with ⟨h1, h2⟩ | ⟨G, c, cur, h2, h3, h4, h5, h6, h7, h8⟩
  · simp at h2
  have hgg := h.gg
  have hlen : 1 ≤ cur.size := by rw [h7]; simp at h5; omega
  refine ⟨G, c, h2, by omega, ⟨?_, ?_⟩, fun y => ?_⟩
  · refine ⟨cur[0], ?_⟩
    simp only [World.cell?, h4]
    exact Array.getElem?_eq_getElem (by omega)
  · simp only [World.frozen?, h4]; simp
  have e := setCell_eq_setRow W G 0 _ _ _ (.int .i64 y) h4
  have hb : Below (g + 1) W (W.setCell ⟨G, 0, none⟩ (.int .i64 y)) := (Below.refl _ W).setCell (p := ⟨G, 0, none⟩) (show g + 1 ≤ G by omega) _
  refine ⟨h.cur.below hb, ⟨h.keep.os, h.keep.tape, h.keep.output, by have := h.keep.size; simpa [World.setCell] using this, fun b hb' hbg => ?_⟩, ?_, h.gg⟩
  · rw [e, setRow_other _ _ _ _ (by omega)]
    exact h.keep.block b hb' hbg
  · refine ⟨by simp, .inr ⟨G, c, cur.setIfInBounds 0 (.int .i64 y), h2, h3, ?_, h5, h6, by simpa using h7, ?_⟩⟩
    · rw [e]; exact setRow_heap _ _ _ _ _ _ h4
    · rw [Array.toList_setIfInBounds, List.take_set, show (y :: l).length = (x :: l).length from rfl, h8]
      rfl
theorem DI.front {ad : Option Addr} {c : Nat} (h : DI w0 W g ao cap bs (.slice ad l.length c) l) (hl : 0 < l.length) : ∃ G, ad = some ⟨G, 0, none⟩ ∧ g < G ∧ ((∃ u, W.cell? ⟨G, 0, none⟩ = some u) ∧ W.frozen? ⟨G, 0, none⟩ = false) ∧ ∀ y, ∃ l', l'.length = l.length ∧ DI w0 (W.setCell ⟨G, 0, none⟩ (.int .i64 y)) g ao cap bs (.slice ad l.length c) l' := by
  cases l with
  | nil => simp at hl
  | cons x l =>
    obtain ⟨G, c', he, h1, h2, h3⟩ := h.first
    obtain ⟨rfl, -⟩ : ad = some ⟨G, 0, none⟩ ∧ c = c' := by simpa using he
    exact ⟨G, rfl, h1, h2, fun y => ⟨y :: l, rfl, h3 y⟩⟩
theorem cell_oneD (w : World) (a : Value) (t : TypeId) : ∀ (j : Nat) (u : Value), [a][j]? = some u → (w.alloc (.cells #[a] t)).cell? ((⟨w.heap.size, 0, none⟩ : Addr).add j) = some u := fun j u hu => by
  have e0 := heap_alloc_new w (Obj.cells #[a] t)
  have e1 : (w.alloc (.cells #[a] t)).cell? ((⟨w.heap.size, 0, none⟩ : Addr).add j) = [a][j]? := by
    rw [Addr.add_lit, Nat.zero_add]
    simp only [World.cell?, e0]
    simp
  rw [e1, hu]
end

theorem DI.grownT {w0 W W' : World} {g cap n : Nat} {ao : Option Addr} {bs : List Int} {v v' : Value} {l l' : List Int} (h : DI w0 W g ao cap bs v l) (ho : W'.ownsRow w0.heap.size 2 1 v' l'.length (l'.map fun z => Value.int .i64 z)) (hg : W.grownBy W' none) : DI w0 W' g ao cap bs v' l' := by
  have hs := h.keep.size
  have hgg := h.gg
  exact ⟨h.cur.below ⟨hg.os, hg.tape, hg.output, hg.size, fun j hj => hg.block j (by omega) (by simp)⟩, ⟨hg.os.trans h.keep.os, hg.tape.trans h.keep.tape, hg.output.trans h.keep.output, Nat.le_trans hs hg.size, fun j hj hjg => (hg.block j (by omega) (by simp)).trans (h.keep.block j hj hjg)⟩, ho, h.gg⟩
end Go.Proofs.Ythenphbmkmagaaa
