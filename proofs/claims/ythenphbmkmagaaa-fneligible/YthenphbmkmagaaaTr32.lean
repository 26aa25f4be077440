/-
  Values, knowns and criteria that are drawn, in blocks of the call's own beside a cursor.
-/
import Derived.Test.YthenphbmkmagaaaT20
import Derived.Test.YthenphbmkmagaaaTr15
import Derived.Test.YthenphbmkmagaaaTr16
namespace Go.Proofs.Ythenphbmkmagaaa
open Go.RowKit Go.WideShapes Va Lb El Go.Maps
set_option linter.all false

section
variable {W W' w0 : World} {b b' t t' s s' n n' g : Nat} {v u : Value} {xs ys : List Value}
theorem own_keepE (h : W.ownsRow b t s v n xs) (hg : g < b) (hk : Keep g W W') : W'.ownsRow b t s v n xs := by
  obtain ⟨h1, h2⟩ := h
  refine ⟨h1, ?_⟩
  rcases h2 with h2 | ⟨j, c, cur, h2, h3, h4, h5⟩
  · exact Or.inl h2
  · exact Or.inr ⟨j, c, cur, h2, h3, (hk.block j (Array.getElem?_eq_some_iff.1 h4).1 (by omega)).trans h4, h5⟩
theorem own_apartE (h : W.ownsRow b t s v n xs) (h' : W.ownsRow b' t' s' u n' ys) (hne : t ≠ t') : ∀ j, v.ownBlock = some j → u.ownBlock ≠ some j := by
  intro j hj hu
  rcases h.2 with ⟨rfl, _⟩ | ⟨j1, c, cur, rfl, h3, h4, _⟩
  · simp [Value.ownBlock] at hj
  · rcases h'.2 with ⟨rfl, _⟩ | ⟨j2, c', cur', rfl, h3', h4', _⟩
    · simp [Value.ownBlock] at hu
    · have e1 : j1 = j := by simpa [Value.ownBlock] using hj
      have e2 : j2 = j := by simpa [Value.ownBlock] using hu
      subst e1 e2
      have := h4.symm.trans h4'
      simp only [Option.some.injEq, Obj.cells.injEq] at this
      exact hne this.2.1
theorem own_otherE (h : W.ownsRow b t s v n xs) (hg : W.grownBy W' u.ownBlock) (hne : ∀ j, v.ownBlock = some j → u.ownBlock ≠ some j) : W'.ownsRow b t s v n xs := by
  obtain ⟨h1, h2⟩ := h
  refine ⟨h1, ?_⟩
  rcases h2 with h2 | ⟨j, c, cur, h2, h3, h4, h5⟩
  · exact Or.inl h2
  · refine Or.inr ⟨j, c, cur, h2, h3, (hg.block j (Array.getElem?_eq_some_iff.1 h4).1 (fun e => hne j (by rw [h2]; rfl) e.symm)).trans h4, h5⟩
theorem own_farE (h : W.ownsRow b t s v n xs) {B : Nat} (hne : ∀ j, v.ownBlock = some j → j ≠ B) (k : Nat) (x : Value) : (W.setCell ⟨B, k, none⟩ x).ownsRow b t s v n xs := by
  obtain ⟨h1, h2⟩ := h
  refine ⟨h1, ?_⟩
  rcases h2 with h2 | ⟨j, c, cur, h2, h3, h4, h5⟩
  · exact Or.inl h2
  · refine Or.inr ⟨j, c, cur, h2, h3, ?_, h5⟩
    rw [Below.heap_setCell _ _ _ _ (by show j ≠ B; exact hne j (by rw [h2]; rfl))]
    exact h4
end

/-- Values, knowns and criteria beside a cursor at g. -/
structure D3 (w0 W : World) (g : Nat) (ao : Option Addr) (cap : Nat) (bs : List Int) (v1 : Value) (l1 : List Int) (v2 : Value) (l2 : List Bool) (v3 : Value) (l3 : List Cr) : Prop where
  cur : Cur W g ao cap bs
  keep : Keep g w0 W
  o1 : W.ownsRow w0.heap.size 2 1 v1 l1.length (l1.map fun z => Value.int .i64 z)
  o2 : W.ownsRow w0.heap.size 4 1 v2 l2.length (vcellsL 1 cvB l2)
  o3 : W.ownsRow w0.heap.size 31 4 v3 l3.length (vcellsL 4 cvCr l3)
  gg : g < w0.heap.size
section
variable {w0 W W' : World} {g cap : Nat} {ao : Option Addr} {bs : List Int} {v1 v2 v3 u : Value} {l1 : List Int} {l2 : List Bool} {l3 : List Cr}
theorem D3.call (h : D3 w0 W g ao cap bs v1 l1 v2 l2 v3 l3) (hc : Cur W' g ao cap bs) (hk : Keep g W W') : D3 w0 W' g ao cap bs v1 l1 v2 l2 v3 l3 :=
  ⟨hc, h.keep.trans hk, own_keepE h.o1 h.gg hk, own_keepE h.o2 h.gg hk, own_keepE h.o3 h.gg hk, h.gg⟩
theorem D3.alloc (h : D3 w0 W g ao cap bs v1 l1 v2 l2 v3 l3) (o : Obj) : D3 w0 (W.alloc o) g ao cap bs v1 l1 v2 l2 v3 l3 :=
  h.call (h.cur.below ((Below.refl _ _).alloc h.cur.1 _)) ((Keep.refl g W).alloc o)
theorem D3.lo (h : D3 w0 W g ao cap bs v1 l1 v2 l2 v3 l3) : (∀ j, v1.ownBlock = some j → w0.heap.size ≤ j ∧ j < W.heap.size) ∧ (∀ j, v2.ownBlock = some j → w0.heap.size ≤ j ∧ j < W.heap.size) ∧ (∀ j, v3.ownBlock = some j → w0.heap.size ≤ j ∧ j < W.heap.size) :=
  ⟨ownW_lt h.o1, ownW_lt h.o2, ownW_lt h.o3⟩
theorem D3.base (h : D3 w0 W g ao cap bs v1 l1 v2 l2 v3 l3) (hu : ∀ j, u.ownBlock = some j → w0.heap.size ≤ j) (hg : W.grownBy W' u.ownBlock) : Cur W' g ao cap bs ∧ Keep g w0 W' := by
  have hs := h.keep.size
  have hgg := h.gg
  have hne : ∀ j, j < w0.heap.size → some j ≠ u.ownBlock := fun j hj e => by have := hu j e.symm; omega
  exact ⟨h.cur.below ⟨hg.os, hg.tape, hg.output, hg.size, fun j hj => hg.block j (by omega) (hne j (by omega))⟩, ⟨hg.os.trans h.keep.os, hg.tape.trans h.keep.tape, hg.output.trans h.keep.output, Nat.le_trans hs hg.size, fun j hj hjg => (hg.block j (by omega) (hne j hj)).trans (h.keep.block j hj hjg)⟩⟩
theorem D3.app1 {v' : Value} {x : Int} (h : D3 w0 W g ao cap bs v1 l1 v2 l2 v3 l3) (ho : W'.ownsRow w0.heap.size 2 1 v' (l1.length + 1) ((l1.map fun z => Value.int .i64 z) ++ [.int .i64 x])) (hg : W.grownBy W' v1.ownBlock) : D3 w0 W' g ao cap bs v' (l1 ++ [x]) v2 l2 v3 l3 := by
  obtain ⟨b1, b2⟩ := h.base (fun j hj => (h.lo.1 j hj).1) hg
  exact ⟨b1, b2, by rw [List.map_append, List.length_append]; exact ho, own_otherE h.o2 hg (own_apartE h.o2 h.o1 (by decide)), own_otherE h.o3 hg (own_apartE h.o3 h.o1 (by decide)), h.gg⟩
theorem D3.app2 {v' : Value} {x : Bool} (h : D3 w0 W g ao cap bs v1 l1 v2 l2 v3 l3) (ho : W'.ownsRow w0.heap.size 4 1 v' (l2.length + 1) (vcellsL 1 cvB l2 ++ [.bool x])) (hg : W.grownBy W' v2.ownBlock) : D3 w0 W' g ao cap bs v1 l1 v' (l2 ++ [x]) v3 l3 := by
  obtain ⟨b1, b2⟩ := h.base (fun j hj => (h.lo.2.1 j hj).1) hg
  exact ⟨b1, b2, own_otherE h.o1 hg (own_apartE h.o1 h.o2 (by decide)), by rw [vcellsL_app, List.length_append]; exact ho, own_otherE h.o3 hg (own_apartE h.o3 h.o2 (by decide)), h.gg⟩
theorem D3.app3 {v' : Value} {x : Cr} (h : D3 w0 W g ao cap bs v1 l1 v2 l2 v3 l3) (ho : W'.ownsRow w0.heap.size 31 4 v' (l3.length + 1) (vcellsL 4 cvCr l3 ++ [.int .i64 x.f, .int .i64 x.lo, .int .i64 x.hi, .bool x.must])) (hg : W.grownBy W' v3.ownBlock) : D3 w0 W' g ao cap bs v1 l1 v2 l2 v' (l3 ++ [x]) := by
  obtain ⟨b1, b2⟩ := h.base (fun j hj => (h.lo.2.2 j hj).1) hg
  exact ⟨b1, b2, own_otherE h.o1 hg (own_apartE h.o1 h.o3 (by decide)), own_otherE h.o2 hg (own_apartE h.o2 h.o3 (by decide)), by rw [vcellsL_app, List.length_append]; exact ho, h.gg⟩
/-- A box that is younger than the rows is written. -/
theorem D3.put {B : Nat} (h : D3 w0 W g ao cap bs v1 l1 v2 l2 v3 l3) (hB : w0.heap.size ≤ B) (h1 : ∀ j, v1.ownBlock = some j → j ≠ B) (h2 : ∀ j, v2.ownBlock = some j → j ≠ B) (h3 : ∀ j, v3.ownBlock = some j → j ≠ B) (k : Nat) (x : Value) : D3 w0 (W.setCell ⟨B, k, none⟩ x) g ao cap bs v1 l1 v2 l2 v3 l3 := by
  have hgg := h.gg
  refine ⟨h.cur.below ((Below.refl _ W).setCell (p := ⟨B, k, none⟩) (show g + 1 ≤ B by omega) _), ⟨h.keep.os, h.keep.tape, h.keep.output, by have := h.keep.size; simpa [World.setCell] using this, fun j hj hjg => ?_⟩, own_farE h.o1 h1 k x, own_farE h.o2 h2 k x, own_farE h.o3 h3 k x, h.gg⟩
  rw [Below.heap_setCell _ _ _ _ (by show j ≠ B; omega)]
  exact h.keep.block j hj hjg
end
end Go.Proofs.Ythenphbmkmagaaa
