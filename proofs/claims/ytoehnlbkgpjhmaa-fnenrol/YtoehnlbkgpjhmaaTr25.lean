/-
  A trial that is drawn, in its box beside a cursor.
-/
import Derived.Test.YtoehnlbkgpjhmaaT20
import Derived.Test.YtoehnlbkgpjhmaaTr3
import Derived.Test.YtoehnlbkgpjhmaaRs
namespace Go.Proofs.Ytoehnlbkgpjhmaa
open Go.RowKit Go.WideShapes Va Lb Tr Go.Maps
set_option linter.all false

/-- The box of a trial, beside a cursor at g. -/
structure DT (w0 W : World) (g : Nat) (ao : Option Addr) (cap : Nat) (bs : List Int) (B : Nat) (a b : Int) (sv : Value) (t : Int) : Prop where
  cur : Cur W g ao cap bs
  keep : Keep g w0 W
  box : PB W B #[.int .i64 a, .int .i64 b, sv, .int .i64 t] 26
  gg : g < w0.heap.size
  bb : w0.heap.size ≤ B
/-- The coins, in a block of the call's own. -/
def DO (w0 W : World) (v : Value) (l : List Int) : Prop := W.ownsRow w0.heap.size 2 1 v l.length (l.map fun z => Value.int .i64 z)
section
variable {w0 W W' : World} {g cap B : Nat} {ao : Option Addr} {bs : List Int} {v sv : Value} {l : List Int} {a b t : Int}
theorem DT.call (h : DT w0 W g ao cap bs B a b sv t) (hc : Cur W' g ao cap bs) (hk : Keep g W W') : DT w0 W' g ao cap bs B a b sv t :=
  ⟨hc, h.keep.trans hk, (hk.block B h.box.lt (by have := h.gg; have := h.bb; omega)).trans h.box, h.gg, h.bb⟩
theorem DT.alloc (h : DT w0 W g ao cap bs B a b sv t) (o : Obj) : DT w0 (W.alloc o) g ao cap bs B a b sv t :=
  h.call (h.cur.below ((Below.refl _ _).alloc h.cur.1 _)) ((Keep.refl g W).alloc o)
theorem DT.drew (h : DT w0 W g ao cap bs B a b sv t) : DT w0 W.drew g ao cap bs B a b sv t := ⟨h.cur, h.keep.drewN 1, h.box, h.gg, h.bb⟩
theorem DT.ne (h : DT w0 W g ao cap bs B a b sv t) : B ≠ g := by have := h.gg; have := h.bb; omega
theorem DT.put (h : DT w0 W g ao cap bs B a b sv t) (k : Nat) (u : Value) {a' b' t' : Int} {sv' : Value} (e : (#[.int .i64 a, .int .i64 b, sv, .int .i64 t] : Array Value).setIfInBounds k u = #[.int .i64 a', .int .i64 b', sv', .int .i64 t']) : DT w0 (W.setCell ⟨B, k, none⟩ u) g ao cap bs B a' b' sv' t' := by
  have hne := h.ne
  have hbb := h.bb
  have hgg := h.gg
  have hb : Below (g + 1) W (W.setCell ⟨B, k, none⟩ u) := (Below.refl _ W).setCell (p := ⟨B, k, none⟩) (show g + 1 ≤ B by omega) _
  refine ⟨h.cur.below hb, ⟨h.keep.os, h.keep.tape, h.keep.output, by have := h.keep.size; simpa [World.setCell] using this, fun j hj hjg => ?_⟩, h.box.put k u e, h.gg, h.bb⟩
  rw [Below.heap_setCell _ _ _ _ (by show j ≠ B; omega)]
  exact h.keep.block j hj hjg
theorem DO.call (h : DO w0 W v l) (hg : g < w0.heap.size) (hk : Keep g W W') : DO w0 W' v l := by
  obtain ⟨h1, h2⟩ := h
  refine ⟨h1, ?_⟩
  rcases h2 with h2 | ⟨b, c, cur, h2, h3, h4, h5⟩
  · exact Or.inl h2
  · have hb := (Array.getElem?_eq_some_iff.1 h4).1
    exact Or.inr ⟨b, c, cur, h2, h3, (hk.block b hb (by omega)).trans h4, h5⟩
theorem DO.put (h : DO w0 W v l) {vs : Array Value} (p : PB W B vs 26) (k : Nat) (u : Value) : DO w0 (W.setCell ⟨B, k, none⟩ u) v l := by
  obtain ⟨h1, h2⟩ := h
  refine ⟨h1, ?_⟩
  rcases h2 with h2 | ⟨b, c, cur, h2, h3, h4, h5⟩
  · exact Or.inl h2
  · have hne : b ≠ B := by
      rintro rfl
      have := p.symm.trans h4
      simp only [Option.some.injEq, Obj.cells.injEq] at this
      exact absurd this.2 (by decide)
    exact Or.inr ⟨b, c, cur, h2, h3, (by rw [Below.heap_setCell _ _ _ _ (by show b ≠ B; exact hne)]; exact h4), h5⟩
theorem DO.form (h : DO w0 W v l) : ∃ ad c, v = .slice ad l.length c := by
  rcases h.2 with ⟨h1, h2⟩ | ⟨b, c, cur, h2, _⟩
  · exact ⟨none, 0, by rw [h1, h2]⟩
  · exact ⟨_, _, h2⟩
theorem DO.row (h : DO w0 W v l) : VRw 1 cvI W v l := (vownI h).row
theorem DO.lo (h : DO w0 W v l) : ∀ j, v.ownBlock = some j → w0.heap.size ≤ j := by
  intro j hj
  rcases h.2 with ⟨rfl, _⟩ | ⟨b, c, cur, rfl, h3, _⟩
  · simp [Value.ownBlock] at hj
  · simp [Value.ownBlock] at hj; omega
/-- What an append onto the coins leaves of the box. -/
theorem DT.app (h : DT w0 W g ao cap bs B a b sv t) (ho : DO w0 W v l) (hg : W.grownBy W' v.ownBlock) : DT w0 W' g ao cap bs B a b sv t := by
  have hs := h.keep.size
  have hgg := h.gg
  have hne : ∀ j, j < w0.heap.size → some j ≠ v.ownBlock := fun j hj e => by have := ho.lo j e.symm; omega
  have hbne : some B ≠ v.ownBlock := by
    intro e
    rcases ho.2 with ⟨h1, _⟩ | ⟨b, c, cur, h2, h3, h4, h5⟩
    · rw [h1] at e; simp [Value.ownBlock] at e
    · rw [h2] at e
      have e2 : B = b := by simpa [Value.ownBlock] using e
      subst e2
      have := h.box.symm.trans h4
      simp only [Option.some.injEq, Obj.cells.injEq] at this
      exact absurd this.2 (by decide)
  exact ⟨h.cur.below ⟨hg.os, hg.tape, hg.output, hg.size, fun j hj => hg.block j (by omega) (hne j (by omega))⟩, ⟨hg.os.trans h.keep.os, hg.tape.trans h.keep.tape, hg.output.trans h.keep.output, Nat.le_trans hs hg.size, fun j hj hjg => (hg.block j (by omega) (hne j hj)).trans (h.keep.block j hj hjg)⟩, (hg.block B h.box.lt hbne).trans h.box, h.gg, h.bb⟩
end
end Go.Proofs.Ytoehnlbkgpjhmaa
