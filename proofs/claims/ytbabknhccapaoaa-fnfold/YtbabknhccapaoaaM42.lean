/-
  Letters that are drawn of a cursor.
-/
import Derived.Test.YtbabknhccapaoaaM41
import Derived.Maps.AppendAt
import Derived.OwnWalk
import Derived.Deep.CutRange
namespace Go.Proofs.Ytbabknhccapaoaa
open Go.RowKit Va Mg
set_option linter.all false

theorem ownL_keep {g base e s n : Nat} {w w' : World} {v : Value} {xs : List Value} (ho : w.ownsRow base e s v n xs) (hk : Keep g w w') (hg : g < base) : w'.ownsRow base e s v n xs := by
  obtain ⟨q, ⟨q1, q2⟩ | ⟨b, c, cur, rfl, hb, hh, r⟩⟩ := ho
  · exact ⟨q, Or.inl ⟨q1, q2⟩⟩
  · exact ⟨q, Or.inr ⟨b, c, cur, rfl, hb, (hk.block b (Array.getElem?_eq_some_iff.1 hh).1 (by omega)).trans hh, r⟩⟩
theorem ownL_far {base e s n B j : Nat} {w : World} {v u : Value} {xs : List Value} (ho : w.ownsRow base e s v n xs) (hr : ∀ k, v.ownBlock = some k → k ≠ B) : (w.setCell ⟨B, j, none⟩ u).ownsRow base e s v n xs := by
  obtain ⟨q, ⟨q1, q2⟩ | ⟨b, c, cur, rfl, hb, hh, r2⟩⟩ := ho
  · exact ⟨q, Or.inl ⟨q1, q2⟩⟩
  · exact ⟨q, Or.inr ⟨b, c, cur, rfl, hb, (heap_setCell_other w ⟨B, j, none⟩ b u (hr b rfl)).trans hh, r2⟩⟩
/-- The letters l at v, in a block of the call's own, beside a cursor at g. -/
structure DL15 (w0 W : World) (g : Nat) (ao : Option Addr) (cap : Nat) (bs : List Int) (v : Value) (l : List Lt) : Prop where
  cur : Cur W g ao cap bs
  keep : Keep g w0 W
  own : W.ownsRow w0.heap.size 29 5 v l.length (vcellsL 5 cvLt l)
  gg : g < w0.heap.size
  nn : v ≠ .slice none 0 0
section
variable {w0 W W' : World} {g cap : Nat} {ao : Option Addr} {bs : List Int} {v : Value} {l : List Lt}
theorem DL15.nonnil (h : DL15 w0 W g ao cap bs v l) : ∃ G k, v = .slice (some ⟨G, 0, none⟩) l.length k := by
  obtain ⟨_, ⟨h1, _⟩ | ⟨G, k, cur, h1, _⟩⟩ := h.own
  · exact absurd h1 h.nn
  · exact ⟨G, k, h1⟩
theorem DL15.call (h : DL15 w0 W g ao cap bs v l) (hc : Cur W' g ao cap bs) (hk : Keep g W W') : DL15 w0 W' g ao cap bs v l := ⟨hc, h.keep.trans hk, ownL_keep h.own hk h.gg, h.gg, h.nn⟩
theorem DL15.alloc (h : DL15 w0 W g ao cap bs v l) (o : Obj) : DL15 w0 (W.alloc o) g ao cap bs v l := h.call (h.cur.alloc o) ((Keep.refl g W).alloc o)
theorem DL15.below (h : DL15 w0 W g ao cap bs v l) (hb : Below W.heap.size W W') : DL15 w0 W' g ao cap bs v l := h.call (h.cur.below (hb.mono h.cur.1)) (Keep.of_below hb)
theorem DL15.form (h : DL15 w0 W g ao cap bs v l) : ∃ a k, v = .slice a l.length k := ownW_slice h.own
theorem DL15.row (h : DL15 w0 W g ao cap bs v l) : VRw 5 cvLt W v l := (vown_of rfl h.own).row
theorem DL15.lt (h : DL15 w0 W g ao cap bs v l) : ∀ k, v.ownBlock = some k → w0.heap.size ≤ k ∧ k < W.heap.size := ownW_lt h.own
theorem DL15.far {B : Nat} (h : DL15 w0 W g ao cap bs v l) (hge : w0.heap.size ≤ B) (hne : ∀ k, v.ownBlock = some k → k ≠ B) (j : Nat) (u : Value) : DL15 w0 (W.setCell ⟨B, j, none⟩ u) g ao cap bs v l := by
  have hgg := h.gg
  exact ⟨h.cur.far (by omega) u, Keep.far (n := 0) h.keep hge u, ownL_far h.own hne, h.gg, h.nn⟩
theorem DL15.grown {r : Option Nat} (h : DL15 w0 W g ao cap bs v l) (hg : W.grownBy W' r) (hr : ∀ k, r = some k → w0.heap.size ≤ k ∧ v.ownBlock ≠ some k) : DL15 w0 W' g ao cap bs v l := by
  have hgg := h.gg
  have hb : Below w0.heap.size W W' := (Below.refl _ _).grown hg h.keep.size (fun k hk => (hr k hk).1)
  refine ⟨h.cur.below (hb.mono hgg), ⟨hb.os.trans h.keep.os, hb.tape.trans h.keep.tape, hb.output.trans h.keep.output, Nat.le_trans h.keep.size hg.size, fun i hi hig => (hb.block i hi).trans (h.keep.block i hi hig)⟩, ?_, h.gg, h.nn⟩
  obtain ⟨q, ⟨q1, q2⟩ | ⟨b, c, cu, rfl, hbb, hh, r2⟩⟩ := h.own
  · exact ⟨q, Or.inl ⟨q1, q2⟩⟩
  · exact ⟨q, Or.inr ⟨b, c, cu, rfl, hbb, (hg.block b (Array.getElem?_eq_some_iff.1 hh).1 (fun e => (hr b e.symm).2 rfl)).trans hh, r2⟩⟩
theorem DL15.app {v' : Value} {y : Lt} (h : DL15 w0 W g ao cap bs v l) (ho : W'.ownsRow w0.heap.size 29 5 v' (l.length + 1) (vcellsL 5 cvLt l ++ [.int .i64 y.f, .int .i64 y.s, .int .i64 y.c, .int .i64 y.k, .int .i64 y.v])) (hg : W.grownBy W' v.ownBlock) (hn' : v' ≠ .slice none 0 0) : DL15 w0 W' g ao cap bs v' (l ++ [y]) := by
  have h0 := ownW_lt h.own
  have hgg := h.gg
  have hb : Below w0.heap.size W W' := (Below.refl _ _).grown hg h.keep.size (fun k hk => (h0 k hk).1)
  refine ⟨h.cur.below (hb.mono hgg), ⟨hb.os.trans h.keep.os, hb.tape.trans h.keep.tape, hb.output.trans h.keep.output, Nat.le_trans h.keep.size hg.size, fun i hi hig => (hb.block i hi).trans (h.keep.block i hi hig)⟩, ?_, h.gg, hn'⟩
  rw [List.length_append, vcellsL_app]
  exact ho
theorem DL15.start (hc : Cur w0 g ao cap bs) : DL15 w0 (w0.alloc (.cells #[] 29)) g ao cap bs (.slice (some ⟨w0.heap.size, 0, none⟩) 0 0) [] :=
  ⟨hc.alloc _, (Keep.refl g w0).alloc _, ⟨rfl, .inr ⟨w0.heap.size, 0, #[], rfl, Nat.le_refl _, heap_alloc_new w0 _, Nat.le_refl _, Nat.zero_le _, rfl, rfl⟩⟩, hc.1, by simp⟩
end


theorem cell_fiveD (w : World) (a b c d e : Value) (t : TypeId) : ∀ (j : Nat) (u : Value), [a, b, c, d, e][j]? = some u → (w.alloc (.cells #[a, b, c, d, e] t)).cell? ((⟨w.heap.size, 0, none⟩ : Addr).add j) = some u := fun j u hu => by
  have e0 : (w.alloc (Obj.cells #[a, b, c, d, e] t)).heap[w.heap.size]? = some (Obj.cells #[a, b, c, d, e] t) := (MapKept.heap_alloc w _).1
  rw [Addr.add_lit, Nat.zero_add]
  simp only [World.cell?, e0]
  simpa using hu
theorem infoLetD : (Try.prog.info? 29).map (fun i => (i.zero, i.size, i.bytes)) = some (some (.agg #[.int .i64 0, .int .i64 0, .int .i64 0, .int .i64 0, .int .i64 0]), 5, 40) := by kernel_rfl
theorem wz {x : Int} (h0 : -1000000 ≤ x) (h1 : x ≤ 1000000) : (Lit.int .i64 x).wf = true := WalkArith.wf_i64 (by omega)
/-- A letter in a box beside what is drawn. -/
structure DB15 (w0 W : World) (g : Nat) (ao : Option Addr) (cap : Nat) (bs : List Int) (v : Value) (l : List Lt) (V : Nat) (x : Lt) : Prop where
  d : DL15 w0 W g ao cap bs v l
  box : PB W V #[.int .i64 x.f, .int .i64 x.s, .int .i64 x.c, .int .i64 x.k, .int .i64 x.v] 29
  ge : w0.heap.size ≤ V
  ne : ∀ k, v.ownBlock = some k → k ≠ V
section
variable {w0 W W' : World} {g cap : Nat} {ao : Option Addr} {bs : List Int} {v : Value} {l : List Lt} {V : Nat} {x : Lt}
theorem DB15.call (h : DB15 w0 W g ao cap bs v l V x) (hc : Cur W' g ao cap bs) (hk : Keep g W W') : DB15 w0 W' g ao cap bs v l V x :=
  ⟨h.d.call hc hk, h.box.keep hk (by have := h.d.gg; have := h.ge; omega), h.ge, h.ne⟩
theorem DB15.new (h : DL15 w0 W g ao cap bs v l) (x : Lt) : DB15 w0 (W.alloc (.cells #[.int .i64 x.f, .int .i64 x.s, .int .i64 x.c, .int .i64 x.k, .int .i64 x.v] 29)) g ao cap bs v l W.heap.size x :=
  ⟨h.alloc _, PB.new _ _ _, h.keep.size, fun k hk => by have := (h.lt k hk).2; omega⟩
theorem DB15.set (h : DB15 w0 W g ao cap bs v l V x) (j : Nat) (u : Value) (x' : Lt) (e : (#[.int .i64 x.f, .int .i64 x.s, .int .i64 x.c, .int .i64 x.k, .int .i64 x.v] : Array Value).setIfInBounds j u = #[.int .i64 x'.f, .int .i64 x'.s, .int .i64 x'.c, .int .i64 x'.k, .int .i64 x'.v]) : DB15 w0 (W.setCell ⟨V, j, none⟩ u) g ao cap bs v l V x' :=
  ⟨h.d.far h.ge h.ne j u, h.box.put j u e, h.ge, h.ne⟩
theorem DB15.alloc (h : DB15 w0 W g ao cap bs v l V x) (o : Obj) : DB15 w0 (W.alloc o) g ao cap bs v l V x := h.call (h.d.cur.alloc o) ((Keep.refl g W).alloc o)
theorem DB15.app {v' : Value} {y : Lt} (h : DB15 w0 W g ao cap bs v l V x) (ho : W'.ownsRow w0.heap.size 29 5 v' (l.length + 1) (vcellsL 5 cvLt l ++ [.int .i64 y.f, .int .i64 y.s, .int .i64 y.c, .int .i64 y.k, .int .i64 y.v])) (hg : W.grownBy W' v.ownBlock) (hn' : v' ≠ .slice none 0 0) (hlo : v'.ownBlock = v.ownBlock ∨ v'.ownBlock = some W.heap.size) : DB15 w0 W' g ao cap bs v' (l ++ [y]) V x :=
  ⟨h.d.app ho hg hn', (hg.block V h.box.lt (fun e => h.ne V e.symm rfl)).trans h.box, h.ge, fun k hk => by
    rcases hlo with q | q
    · exact h.ne k (q ▸ hk)
    · rw [q] at hk
      have e2 := Option.some.inj hk
      have := h.box.lt
      omega⟩
theorem DB15.all (h : DB15 w0 W g ao cap bs v l V x) (y : Lt) : DB15 w0 (((((W.setCell ⟨V, 0, none⟩ (.int .i64 y.f)).setCell ⟨V, 1, none⟩ (.int .i64 y.s)).setCell ⟨V, 2, none⟩ (.int .i64 y.c)).setCell ⟨V, 3, none⟩ (.int .i64 y.k)).setCell ⟨V, 4, none⟩ (.int .i64 y.v)) g ao cap bs v l V y :=
  ((((h.set 0 (.int .i64 y.f) ⟨y.f, x.s, x.c, x.k, x.v⟩ rfl).set 1 (.int .i64 y.s) ⟨y.f, y.s, x.c, x.k, x.v⟩ rfl).set 2 (.int .i64 y.c) ⟨y.f, y.s, y.c, x.k, x.v⟩ rfl).set 3 (.int .i64 y.k) ⟨y.f, y.s, y.c, y.k, x.v⟩ rfl).set 4 (.int .i64 y.v) y rfl
end
/-- The wrong letters. -/
def tab7 : List Lt := [⟨-1, 0, -1, 0, 0⟩, ⟨20, 0, -1, 0, 0⟩, ⟨0, 3, 3, 0, 0⟩, ⟨0, 10000, -1, 0, 0⟩, ⟨0, 9999, -1, 100, 0⟩, ⟨0, 0, -1, 0, 100001⟩, ⟨0, 0, -2, 0, 0⟩]
theorem tab7_wf : ∀ x ∈ tab7, WfL x := fun x hx => by
  simp only [tab7, List.mem_cons, List.not_mem_nil, or_false] at hx
  rcases hx with rfl | rfl | rfl | rfl | rfl | rfl | rfl <;> exact ⟨wz (by decide) (by decide), wz (by decide) (by decide), wz (by decide) (by decide), wz (by decide) (by decide), wz (by decide) (by decide)⟩
/-- The cells of the wrong letters. -/
def tab35 : Array Value := #[.int .i64 (-1), .int .i64 0, .int .i64 (-1), .int .i64 0, .int .i64 0, .int .i64 20, .int .i64 0, .int .i64 (-1), .int .i64 0, .int .i64 0, .int .i64 0, .int .i64 3, .int .i64 3, .int .i64 0, .int .i64 0, .int .i64 0, .int .i64 10000, .int .i64 (-1), .int .i64 0, .int .i64 0, .int .i64 0, .int .i64 9999, .int .i64 (-1), .int .i64 100, .int .i64 0, .int .i64 0, .int .i64 0, .int .i64 (-1), .int .i64 0, .int .i64 100001, .int .i64 0, .int .i64 0, .int .i64 (-2), .int .i64 0, .int .i64 0]
theorem tab7_at {W : World} {T n : Nat} {t : TypeId} (h : PB W T tab35 t) (hn : n < 7) : ∃ x : Lt, WfL x ∧ W.cell? ⟨T, n * 5, none⟩ = some (.int .i64 x.f) ∧ W.cell? ⟨T, n * 5 + 1, none⟩ = some (.int .i64 x.s) ∧ W.cell? ⟨T, n * 5 + 2, none⟩ = some (.int .i64 x.c) ∧ W.cell? ⟨T, n * 5 + 3, none⟩ = some (.int .i64 x.k) ∧ W.cell? ⟨T, n * 5 + 4, none⟩ = some (.int .i64 x.v) := by
  rcases (show n = 0 ∨ n = 1 ∨ n = 2 ∨ n = 3 ∨ n = 4 ∨ n = 5 ∨ n = 6 by omega) with rfl | rfl | rfl | rfl | rfl | rfl | rfl
  · exact ⟨⟨-1, 0, -1, 0, 0⟩, tab7_wf _ (by simp [tab7]), h.cell 0, h.cell 1, h.cell 2, h.cell 3, h.cell 4⟩
  · exact ⟨⟨20, 0, -1, 0, 0⟩, tab7_wf _ (by simp [tab7]), h.cell 5, h.cell 6, h.cell 7, h.cell 8, h.cell 9⟩
  · exact ⟨⟨0, 3, 3, 0, 0⟩, tab7_wf _ (by simp [tab7]), h.cell 10, h.cell 11, h.cell 12, h.cell 13, h.cell 14⟩
  · exact ⟨⟨0, 10000, -1, 0, 0⟩, tab7_wf _ (by simp [tab7]), h.cell 15, h.cell 16, h.cell 17, h.cell 18, h.cell 19⟩
  · exact ⟨⟨0, 9999, -1, 100, 0⟩, tab7_wf _ (by simp [tab7]), h.cell 20, h.cell 21, h.cell 22, h.cell 23, h.cell 24⟩
  · exact ⟨⟨0, 0, -1, 0, 100001⟩, tab7_wf _ (by simp [tab7]), h.cell 25, h.cell 26, h.cell 27, h.cell 28, h.cell 29⟩
  · exact ⟨⟨0, 0, -2, 0, 0⟩, tab7_wf _ (by simp [tab7]), h.cell 30, h.cell 31, h.cell 32, h.cell 33, h.cell 34⟩
end Go.Proofs.Ytbabknhccapaoaa
