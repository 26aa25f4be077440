/-
  Boxes, tables and lists of numbers beside a cursor.
-/
import Derived.Test.YtfhecdedanlmfaaCuC
import Derived.Test.YtfhecdedanlmfaaRg
import Derived.Test.YtfhecdedanlmfaaR7
import Derived.Laws.AppendOwn
import Derived.Laws.Tables
import Derived.Laws.Rows
namespace Go.Proofs.Ytfhecdedanlmfaa
open Go.RowKit Va Rc
set_option linter.all false

theorem PB.keep {W W' : World} {g B : Nat} {vs : Array Value} {t : TypeId} (h : PB W B vs t) (hk : Keep g W W') (hg : B ≠ g) : PB W' B vs t := (hk.block B h.lt hg).trans h
theorem Keep.far {g V j n : Nat} {a b : World} (h : Keep g a b) (hV : a.heap.size ≤ V) (u : Value) : Keep g a (b.setCell ⟨V, j, none⟩ u) :=
  ⟨h.os, h.tape, h.output, by simpa [World.setCell] using h.size, fun i hi hg => (heap_setCell_other b ⟨V, j, none⟩ i u (fun e => by have e' : i = V := e; omega)).trans (h.block i hi hg)⟩
theorem Cur.far {w : World} {g cap V j : Nat} {ao : Option Addr} {bs : List Int} (h : Cur w g ao cap bs) (hV : g < V) (u : Value) : Cur (w.setCell ⟨V, j, none⟩ u) g ao cap bs := h.below ((Below.refl _ _).setCell (show g + 1 ≤ V by omega) u)
theorem Cur.alloc {w : World} {g cap : Nat} {ao : Option Addr} {bs : List Int} (h : Cur w g ao cap bs) (o : Obj) : Cur (w.alloc o) g ao cap bs := h.below ((Below.refl _ _).alloc h.1 _)
/-- A table of numbers in a block apart from the cursor's. -/
def Tb (g : Nat) (w : World) (T : Nat) (zs : List Int) : Prop := T ≠ g ∧ PB w T (zs.map (fun z => Value.int .i64 z)).toArray 2
theorem Tb.keep {g T : Nat} {w w' : World} {zs : List Int} (h : Tb g w T zs) (hk : Keep g w w') : Tb g w' T zs := ⟨h.1, h.2.keep hk h.1⟩
theorem Tb.at {g T k : Nat} {w : World} {zs : List Int} (h : Tb g w T zs) (hk : k < zs.length) : w.cell? ⟨T, k, none⟩ = some (.int .i64 zs[k]) := by
  rw [h.2.cell]
  simp [hk]
theorem Tb.new {g : Nat} {w : World} (zs : List Int) (hg : g < w.heap.size) : Tb g (w.alloc (.cells (zs.map (fun z => Value.int .i64 z)).toArray 2)) w.heap.size zs := ⟨by omega, PB.new _ _ _⟩
/-- A box R for the answer and a box V in which it is made, beside a cursor at g. -/
structure DX (w0 W : World) (g : Nat) (ao : Option Addr) (cap : Nat) (bs : List Int) (R V : Nat) (rs vs : Array Value) (t : TypeId) : Prop where
  cur : Cur W g ao cap bs
  keep : Keep g w0 W
  res : PB W R rs t
  box : PB W V vs t
  gg : g < w0.heap.size
  rr : w0.heap.size ≤ R
  vv : w0.heap.size ≤ V
  rv : V ≠ R
section
variable {w0 W W' : World} {g cap R V : Nat} {ao : Option Addr} {bs : List Int} {rs vs : Array Value} {t : TypeId}
theorem DX.call (h : DX w0 W g ao cap bs R V rs vs t) (hc : Cur W' g ao cap bs) (hk : Keep g W W') : DX w0 W' g ao cap bs R V rs vs t := by
  have := h.gg
  have := h.rr
  have := h.vv
  exact ⟨hc, h.keep.trans hk, h.res.keep hk (by omega), h.box.keep hk (by omega), h.gg, h.rr, h.vv, h.rv⟩
theorem DX.alloc (h : DX w0 W g ao cap bs R V rs vs t) (o : Obj) : DX w0 (W.alloc o) g ao cap bs R V rs vs t := h.call (h.cur.alloc o) ((Keep.refl g W).alloc o)
theorem DX.put (h : DX w0 W g ao cap bs R V rs vs t) (j : Nat) (u : Value) {vs' : Array Value} (e : vs.setIfInBounds j u = vs') : DX w0 (W.setCell ⟨V, j, none⟩ u) g ao cap bs R V rs vs' t := by
  have := h.gg
  have := h.vv
  exact ⟨h.cur.far (by omega) u, Keep.far (n := 0) h.keep h.vv u, h.res.far h.rv j u, h.box.put j u e, h.gg, h.rr, h.vv, h.rv⟩
theorem DX.gV (h : DX w0 W g ao cap bs R V rs vs t) : V ≠ g := by have := h.gg; have := h.vv; omega
end
/-- The numbers l at v, in a block of the call's own, beside a cursor at g. -/
structure DI (w0 W : World) (g : Nat) (ao : Option Addr) (cap : Nat) (bs : List Int) (v : Value) (l : List Int) : Prop where
  cur : Cur W g ao cap bs
  keep : Keep g w0 W
  own : W.ownsRow w0.heap.size 2 1 v l.length (l.map fun z => Value.int .i64 z)
  gg : g < w0.heap.size
section
variable {w0 W W' : World} {g cap : Nat} {ao : Option Addr} {bs : List Int} {v : Value} {l : List Int}

theorem DI.call (h : DI w0 W g ao cap bs v l) (hc : Cur W' g ao cap bs) (hk : Keep g W W') : DI w0 W' g ao cap bs v l := by
  refine ⟨hc, h.keep.trans hk, ?_, h.gg⟩
  obtain ⟨h1, h2⟩ := h.own
  refine ⟨h1, ?_⟩
  rcases h2 with h2 | ⟨b, c, cur, h2, h3, h4, h5⟩
  · exact Or.inl h2
  · have hb := (Array.getElem?_eq_some_iff.1 h4).1
    have := h.gg
    exact Or.inr ⟨b, c, cur, h2, h3, (hk.block b hb (by omega)).trans h4, h5⟩
theorem DI.alloc (h : DI w0 W g ao cap bs v l) (o : Obj) : DI w0 (W.alloc o) g ao cap bs v l :=
  h.call (h.cur.below ((Below.refl _ _).alloc h.cur.1 _)) ((Keep.refl g W).alloc o)
theorem DI.drewN (h : DI w0 W g ao cap bs v l) (n : Nat) : DI w0 (W.drewN n) g ao cap bs v l := ⟨h.cur, h.keep.drewN n, h.own, h.gg⟩
theorem DI.drew (h : DI w0 W g ao cap bs v l) : DI w0 W.drew g ao cap bs v l := h.drewN 1
theorem DI.form (h : DI w0 W g ao cap bs v l) : ∃ ad c, v = .slice ad l.length c := by
  rcases h.own.2 with ⟨h1, h2⟩ | ⟨b, c, cur, h2, _⟩
  · exact ⟨none, 0, by rw [h1, h2]⟩
  · exact ⟨_, _, h2⟩
theorem DI.row (h : DI w0 W g ao cap bs v l) : IRw W v l := by
  rcases h.own.2 with ⟨h1, h2⟩ | ⟨b, c, cur, h2, h3, h4, h5, h6, h7, h8⟩
  · have : l = [] := List.length_eq_zero_iff.1 h2
    subst this
    exact ⟨none, 0, h1, Nat.le_refl _, Or.inl rfl⟩
  · refine ⟨_, c, h2, by omega, Or.inr ⟨b, 0, rfl, (Array.getElem?_eq_some_iff.1 h4).1, fun i x hx => ?_⟩⟩
    have hlt := get_lt' hx
    have e : (cur.toList.take (l.length * 1))[i]? = some (.int .i64 x) := by rw [h8, List.getElem?_map, hx]; rfl
    rw [List.getElem?_take, if_pos (by omega)] at e
    simp only [World.cell?, h4, Nat.zero_add]
    simpa using e
/-- One more is put behind. -/
theorem DI.app {v' : Value} {x : Int} (h : DI w0 W g ao cap bs v l) (ho : W'.ownsRow w0.heap.size 2 1 v' (l.length + 1) ((l.map fun z => Value.int .i64 z) ++ [.int .i64 x])) (hg : W.grownBy W' v.ownBlock) : DI w0 W' g ao cap bs v' (l ++ [x]) := by
  have hne : ∀ j, j < w0.heap.size → some j ≠ v.ownBlock := by
    intro j hj
    rcases h.own.2 with ⟨rfl, _⟩ | ⟨b, c, cur, rfl, h3, _⟩
    · simp [Value.ownBlock]
    · simp [Value.ownBlock]; omega
  have hs := h.keep.size
  have hgg := h.gg
  refine ⟨h.cur.below ⟨hg.os, hg.tape, hg.output, hg.size, fun j hj => hg.block j (by omega) (hne j (by omega))⟩, ?_, ?_, h.gg⟩
  · exact ⟨hg.os.trans h.keep.os, hg.tape.trans h.keep.tape, hg.output.trans h.keep.output, Nat.le_trans hs hg.size, fun j hj hjg => (hg.block j (by omega) (hne j hj)).trans (h.keep.block j hj hjg)⟩
  · rw [List.map_append, List.length_append]; exact ho
theorem DI.anew (h : DI w0 W g ao cap bs v l) : DI w0 (W.alloc (.cells #[] 2)) g ao cap bs (.slice (some ⟨W.heap.size, 0, none⟩) 0 0) [] := by
  have k := h.alloc (.cells #[] 2)
  exact ⟨k.cur, k.keep, ⟨rfl, .inr ⟨W.heap.size, 0, #[], rfl, h.keep.size, heap_alloc_new W _, Nat.le_refl _, Nat.zero_le _, rfl, rfl⟩⟩, h.gg⟩
theorem DI.start (hc : Cur w0 g ao cap bs) : DI w0 (w0.alloc (.cells #[] 2)) g ao cap bs (.slice (some ⟨w0.heap.size, 0, none⟩) 0 0) [] :=
  DI.anew (v := .slice none 0 0) (l := []) ⟨hc, Keep.refl _ _, ⟨rfl, .inl ⟨rfl, rfl⟩⟩, hc.1⟩
theorem cell_oneD (w : World) (a : Value) (t : TypeId) : ∀ (j : Nat) (u : Value), [a][j]? = some u → (w.alloc (.cells #[a] t)).cell? ((⟨w.heap.size, 0, none⟩ : Addr).add j) = some u := fun j u hu => by
  have e0 := heap_alloc_new w (Obj.cells #[a] t)
  have e1 : (w.alloc (.cells #[a] t)).cell? ((⟨w.heap.size, 0, none⟩ : Addr).add j) = [a][j]? := by
    rw [Addr.add_lit, Nat.zero_add]
    simp only [World.cell?, e0]
    simp
  rw [e1, hu]
end
theorem DI.lift {w0 w W : World} {g cap : Nat} {ao : Option Addr} {bs : List Int} {v : Value} {l : List Int} (h : DI w W g ao cap bs v l) (hk : Keep g w0 w) (hg : g < w0.heap.size) : DI w0 W g ao cap bs v l :=
  ⟨h.cur, hk.trans h.keep, ownW_base h.own hk.size, hg⟩
theorem PB.grown {W W' : World} {B : Nat} {vs : Array Value} {t : TypeId} {r : Option Nat} (h : PB W B vs t) (hg : W.grownBy W' r) (hr : ∀ k, r = some k → k ≠ B) : PB W' B vs t :=
  (hg.block B h.lt (fun e => hr B e.symm rfl)).trans h
theorem DX.grown {w0 W W' : World} {g cap R V : Nat} {ao : Option Addr} {bs : List Int} {rs vs : Array Value} {t : TypeId} {r : Option Nat} (h : DX w0 W g ao cap bs R V rs vs t) (hg : W.grownBy W' r) (hr : ∀ k, r = some k → w0.heap.size ≤ k ∧ k ≠ V ∧ k ≠ R) : DX w0 W' g ao cap bs R V rs vs t := by
  have hgg := h.gg
  have hb : Below w0.heap.size W W' := (Below.refl _ _).grown hg h.keep.size (fun k hk => (hr k hk).1)
  exact ⟨h.cur.below (hb.mono hgg), ⟨hb.os.trans h.keep.os, hb.tape.trans h.keep.tape, hb.output.trans h.keep.output, Nat.le_trans h.keep.size hg.size, fun i hi hig => (hb.block i hi).trans (h.keep.block i hi hig)⟩, h.res.grown hg (fun k hk => (hr k hk).2.2), h.box.grown hg (fun k hk => (hr k hk).2.1), h.gg, h.rr, h.vv, h.rv⟩
/-- The row at v lies in neither of two boxes. -/
def Ap (v : Value) (V R : Nat) : Prop := ∀ k, v.ownBlock = some k → k ≠ V ∧ k ≠ R
theorem DI.far {w0 W : World} {g cap : Nat} {ao : Option Addr} {bs : List Int} {v : Value} {l : List Int} (h : DI w0 W g ao cap bs v l) {V R : Nat} (hV : w0.heap.size ≤ V) (ha : Ap v V R) (j : Nat) (u : Value) : DI w0 (W.setCell ⟨V, j, none⟩ u) g ao cap bs v l := by
  have hgg := h.gg
  refine ⟨h.cur.far (by omega) u, Keep.far (n := 0) h.keep hV u, ?_, h.gg⟩
  obtain ⟨h1, h2⟩ := h.own
  refine ⟨h1, ?_⟩
  rcases h2 with h2 | ⟨b, c, cur, h2, h3, h4, h5⟩
  · exact Or.inl h2
  · have hb : b ≠ V := (ha b (by rw [h2]; rfl)).1
    exact Or.inr ⟨b, c, cur, h2, h3, (heap_setCell_other W ⟨V, j, none⟩ b u hb).trans h4, h5⟩
end Go.Proofs.Ytfhecdedanlmfaa
