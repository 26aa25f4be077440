/-
  Boxes and tables beside a cursor.
-/
import Derived.Test.YtbabknhccapaoaaGx
import Derived.Test.YtbabknhccapaoaaCuC
import Derived.Test.YtbabknhccapaoaaRg
import Derived.Laws.Tables
import Derived.Laws.Rows
namespace Go.Proofs.Ytbabknhccapaoaa
open Go.RowKit Va
set_option linter.all false

theorem PB.keep {W W' : World} {g B : Nat} {vs : Array Value} {t : TypeId} (h : PB W B vs t) (hk : Keep g W W') (hg : B ≠ g) : PB W' B vs t := (hk.block B h.lt hg).trans h
theorem Keep.far {g V j n : Nat} {a b : World} (h : Keep g a b) (hV : a.heap.size ≤ V) (u : Value) : Keep g a (b.setCell ⟨V, j, none⟩ u) :=
  ⟨h.os, h.tape, h.output, by simpa [World.setCell] using h.size, fun i hi hg => (heap_setCell_other b ⟨V, j, none⟩ i u (fun e => by have e' : i = V := e; omega)).trans (h.block i hi hg)⟩
theorem Cur.far {w : World} {g cap V j : Nat} {ao : Option Addr} {bs : List Int} (h : Cur w g ao cap bs) (hV : g < V) (u : Value) : Cur (w.setCell ⟨V, j, none⟩ u) g ao cap bs := h.below ((Below.refl _ _).setCell (show g + 1 ≤ V by omega) u)
theorem Cur.alloc {w : World} {g cap : Nat} {ao : Option Addr} {bs : List Int} (h : Cur w g ao cap bs) (o : Obj) : Cur (w.alloc o) g ao cap bs := h.below ((Below.refl _ _).alloc h.1 _)
/-- A table of numbers in a block apart from the cursor's. -/
def Tb (g : Nat) (w : World) (T : Nat) (zs : List Int) : Prop := T ≠ g ∧ PB w T (zs.map (fun z => Value.int .i64 z)).toArray 2
theorem Tb.keep {g T : Nat} {w w' : World} {zs : List Int} (h : Tb g w T zs) (hk : Keep g w w') : Tb g w' T zs := ⟨h.1, h.2.keep hk h.1⟩
theorem Tb.at {g T k : Nat} {w : World} {zs : List Int} (h : Tb g w T zs) (hk : k < zs.length) : w.cell? ⟨T, k, none⟩ = some (.int .i64 zs[k]) := by
  rw [h.2.cell]
  simp [hk]
theorem Tb.new {g : Nat} {w : World} (zs : List Int) (hg : g < w.heap.size) : Tb g (w.alloc (.cells (zs.map (fun z => Value.int .i64 z)).toArray 2)) w.heap.size zs := ⟨by omega, PB.new _ _ _⟩
/-- A box R for the answer and a box V in which it is made, beside a cursor at g. -/
structure DX (w0 W : World) (g : Nat) (ao : Option Addr) (cap : Nat) (bs : List Int) (R V : Nat) (rs vs : Array Value) (t : TypeId) : Prop where
  cur : Cur W g ao cap bs
  keep : Keep g w0 W
  res : PB W R rs t
  box : PB W V vs t
  gg : g < w0.heap.size
  rr : w0.heap.size ≤ R
  vv : w0.heap.size ≤ V
  rv : V ≠ R
section
variable {w0 W W' : World} {g cap R V : Nat} {ao : Option Addr} {bs : List Int} {rs vs : Array Value} {t : TypeId}
theorem DX.call (h : DX w0 W g ao cap bs R V rs vs t) (hc : Cur W' g ao cap bs) (hk : Keep g W W') : DX w0 W' g ao cap bs R V rs vs t := by
  have := h.gg
  have := h.rr
  have := h.vv
  exact ⟨hc, h.keep.trans hk, h.res.keep hk (by omega), h.box.keep hk (by omega), h.gg, h.rr, h.vv, h.rv⟩
theorem DX.alloc (h : DX w0 W g ao cap bs R V rs vs t) (o : Obj) : DX w0 (W.alloc o) g ao cap bs R V rs vs t := h.call (h.cur.alloc o) ((Keep.refl g W).alloc o)
theorem DX.put (h : DX w0 W g ao cap bs R V rs vs t) (j : Nat) (u : Value) {vs' : Array Value} (e : vs.setIfInBounds j u = vs') : DX w0 (W.setCell ⟨V, j, none⟩ u) g ao cap bs R V rs vs' t := by
  have := h.gg
  have := h.vv
  exact ⟨h.cur.far (by omega) u, Keep.far (n := 0) h.keep h.vv u, h.res.far h.rv j u, h.box.put j u e, h.gg, h.rr, h.vv, h.rv⟩
theorem DX.gV (h : DX w0 W g ao cap bs R V rs vs t) : V ≠ g := by have := h.gg; have := h.vv; omega
end
end Go.Proofs.Ytbabknhccapaoaa
