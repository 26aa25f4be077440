/-
  Results that are drawn beside a cursor, in a block of the call's own.
-/
import Derived.Test.YtecljmpojninfaaT20
import Derived.Test.YtecljmpojninfaaT21
import Derived.Test.YtecljmpojninfaaT7
import Derived.Test.YtecljmpojninfaaGx
import Derived.Maps.AppendAt
namespace Go.Proofs.Ytecljmpojninfaa
open Go.RowKit Go.Maps Va Lb
set_option linter.all false

theorem ownU_cell {w : World} {base t s n G c : Nat} {xs : List Value} (h : w.ownsRow base t s (.slice (some ⟨G, 0, none⟩) n c) n xs) (k : Nat) (hk : k < n * s) (v : Value) : (w.setCell ⟨G, k, none⟩ v).ownsRow base t s (.slice (some ⟨G, 0, none⟩) n c) n (xs.set k v) := by
  obtain ⟨h1, ⟨h2, _⟩ | ⟨g, cap, cur, h2, hb, hg, hc, hm, hs, ht⟩⟩ := h
  · cases h2
  · simp only [Value.slice.injEq, Option.some.injEq, Addr.mk.injEq, and_true, true_and] at h2
    obtain ⟨rfl, rfl⟩ := h2
    refine ⟨by rw [List.length_set]; exact h1, Or.inr ⟨G, c, cur.setIfInBounds k v, rfl, hb, ?_, hc, hm, by simpa using hs, ?_⟩⟩
    · simp only [World.setCell, Array.getElem?_modify]
      rw [if_pos trivial, hg]
      rfl
    · rw [Array.toList_setIfInBounds, List.take_set, ht]
theorem ownU_at {w : World} {base t s n G c : Nat} {xs : List Value} (h : w.ownsRow base t s (.slice (some ⟨G, 0, none⟩) n c) n xs) {k : Nat} {v : Value} (hk : xs[k]? = some v) : w.cell? ⟨G, k, none⟩ = some v ∧ w.frozen? ⟨G, k, none⟩ = false := by
  obtain ⟨h1, ⟨h2, _⟩ | ⟨g, cap, cur, h2, hb, hg, hc, hm, hs, ht⟩⟩ := h
  · cases h2
  · simp only [Value.slice.injEq, Option.some.injEq, Addr.mk.injEq, and_true, true_and] at h2
    obtain ⟨rfl, rfl⟩ := h2
    constructor
    · rw [← ht, List.getElem?_take] at hk
      split at hk
      · rw [Array.getElem?_toList] at hk
        simp only [World.cell?, hg]
        exact hk
      · cases hk
    · simp only [World.frozen?, hg]
      simp
theorem ownU_lt {w : World} {base t s n G c : Nat} {xs : List Value} (h : w.ownsRow base t s (.slice (some ⟨G, 0, none⟩) n c) n xs) : base ≤ G ∧ G < w.heap.size := by
  obtain ⟨h1, ⟨h2, _⟩ | ⟨g, cap, cur, h2, hb, hg, hc, hm, hs, ht⟩⟩ := h
  · cases h2
  · simp only [Value.slice.injEq, Option.some.injEq, Addr.mk.injEq, and_true, true_and] at h2
    obtain ⟨rfl, rfl⟩ := h2
    exact ⟨hb, (Array.getElem?_eq_some_iff.1 hg).1⟩

theorem vset1 (l : List Rs) (i f : Nat) (x x' : Rs) (hx : l[i]? = some x) (hf : f < 3) (hs : ∀ k, k < 3 → k ≠ f → cvRs x' k = cvRs x k) : (vcellsL 3 cvRs l).set (i * 3 + f) (cvRs x' f) = vcellsL 3 cvRs (l.set i x') := by
  have hi := get_ltL hx
  apply List.ext_getElem?
  intro j
  by_cases hj : j < l.length * 3
  · obtain ⟨a, b, hb, rfl⟩ : ∃ a b, b < 3 ∧ j = a * 3 + b := ⟨j / 3, j % 3, by omega, by omega⟩
    have ha : a < l.length := by omega
    obtain ⟨y, hy⟩ := some_of l a ha
    by_cases e : a = i
    · subst e
      obtain rfl : x = y := Option.some.inj (hx.symm.trans hy)
      rw [vcellsL_get (s := 3) (cs := cvRs) (l.set a x') a x' (by rw [List.getElem?_set_self (by omega)]) b hb, List.getElem?_set]
      by_cases e2 : b = f
      · subst e2
        rw [if_pos rfl, if_pos (by rw [vcellsL_len]; omega)]
      · rw [if_neg (by omega), vcellsL_get (s := 3) (cs := cvRs) l a x hx b hb, hs b hb e2]
    · rw [vcellsL_get (s := 3) (cs := cvRs) (l.set i x') a y (by rw [List.getElem?_set_ne (by omega)]; exact hy) b hb, List.getElem?_set, if_neg (by omega), vcellsL_get (s := 3) (cs := cvRs) l a y hy b hb]
  · rw [List.getElem?_eq_none (by rw [List.length_set, vcellsL_len]; omega), List.getElem?_eq_none (by rw [vcellsL_len, List.length_set]; omega)]

theorem grownBy_setT25 (w : World) (b i : Nat) (v : Value) : w.grownBy (w.setCell ⟨b, i, none⟩ v) (some b) :=
  ⟨rfl, rfl, rfl, by simp [World.setCell], fun k _ hk => Below.heap_setCell _ _ _ _ (fun e => hk (by simp [e]))⟩
structure DRs (w0 W : World) (g : Nat) (ao : Option Addr) (cap : Nat) (bs : List Int) (v : Value) (l : List Rs) : Prop where
  cur : Cur W g ao cap bs
  keep : Keep g w0 W
  own : W.ownsRow w0.heap.size 46 3 v l.length (vcellsL 3 cvRs l)
  gg : g < w0.heap.size
section
variable {w0 W W' : World} {g cap : Nat} {ao : Option Addr} {bs : List Int} {v : Value} {l : List Rs}
theorem DRs.call (h : DRs w0 W g ao cap bs v l) (hc : Cur W' g ao cap bs) (hk : Keep g W W') : DRs w0 W' g ao cap bs v l := by
  refine ⟨hc, h.keep.trans hk, ?_, h.gg⟩
  obtain ⟨h1, h2⟩ := h.own
  refine ⟨h1, ?_⟩
  rcases h2 with h2 | ⟨b, c, cur, h2, h3, h4, h5⟩
  · exact Or.inl h2
  · have hb := (Array.getElem?_eq_some_iff.1 h4).1
    have := h.gg
    exact Or.inr ⟨b, c, cur, h2, h3, (hk.block b hb (by omega)).trans h4, h5⟩
theorem DRs.alloc (h : DRs w0 W g ao cap bs v l) (o : Obj) : DRs w0 (W.alloc o) g ao cap bs v l :=
  h.call (h.cur.below ((Below.refl _ _).alloc h.cur.1 _)) ((Keep.refl g W).alloc o)
theorem DRs.form (h : DRs w0 W g ao cap bs v l) : ∃ a k, v = .slice a l.length k := ownW_slice h.own
theorem DRs.row (h : DRs w0 W g ao cap bs v l) : VRw 3 cvRs W v l := (vown_of rfl h.own).row
theorem DRs.lt (h : DRs w0 W g ao cap bs v l) : ∀ k, v.ownBlock = some k → w0.heap.size ≤ k ∧ k < W.heap.size := ownW_lt h.own
theorem DRs.far {B : Nat} (h : DRs w0 W g ao cap bs v l) (hge : w0.heap.size ≤ B) (hne : v.ownBlock ≠ some B) (j : Nat) (u : Value) : DRs w0 (W.setCell ⟨B, j, none⟩ u) g ao cap bs v l := by
  have hgg := h.gg
  have hg := grownBy_setT25 W B j u
  refine ⟨h.cur.below ((Below.refl _ W).setCell (p := ⟨B, j, none⟩) (show g + 1 ≤ B by omega) u), ⟨h.keep.os, h.keep.tape, h.keep.output, Nat.le_trans h.keep.size hg.size, fun i hi hig => (hg.block i (Nat.lt_of_lt_of_le hi h.keep.size) (fun e => by have := Option.some.inj e; omega)).trans (h.keep.block i hi hig)⟩, h.own.kept hg (.inr hne), h.gg⟩
theorem DRs.app {v' : Value} {y : Rs} (h : DRs w0 W g ao cap bs v l) (ho : W'.ownsRow w0.heap.size 46 3 v' (l.length + 1) (vcellsL 3 cvRs l ++ [.int .i64 y.v, .int .i64 y.t, .bool y.k])) (hg : W.grownBy W' v.ownBlock) : DRs w0 W' g ao cap bs v' (l ++ [y]) := by
  have h0 := ownW_lt h.own
  have hgg := h.gg
  have hb : Below w0.heap.size W W' := (Below.refl _ _).grown hg h.keep.size (fun k hk => (h0 k hk).1)
  refine ⟨h.cur.below (hb.mono hgg), ⟨hb.os.trans h.keep.os, hb.tape.trans h.keep.tape, hb.output.trans h.keep.output, Nat.le_trans h.keep.size hg.size, fun i hi hig => (hb.block i hi).trans (h.keep.block i hi hig)⟩, ?_, h.gg⟩
  rw [List.length_append, vcellsL_app]
  exact ho
theorem DRs.start (hc : Cur w0 g ao cap bs) : DRs w0 (w0.alloc (.cells #[] 46)) g ao cap bs (.slice (some ⟨w0.heap.size, 0, none⟩) 0 0) [] :=
  ⟨hc.below ((Below.refl _ _).alloc hc.1 _), (Keep.refl g w0).alloc _, ⟨rfl, .inr ⟨w0.heap.size, 0, #[], rfl, Nat.le_refl _, heap_alloc_new w0 _, Nat.le_refl _, Nat.zero_le _, rfl, rfl⟩⟩, hc.1⟩
theorem DRs.made {l' : List Rs} {v' : Value} (h : DRs w0 W g ao cap bs v l) (ho : W'.ownsRow w0.heap.size 46 3 v' l'.length (vcellsL 3 cvRs l')) (hg : W.grownBy W' none) : DRs w0 W' g ao cap bs v' l' := by
  have hs := h.keep.size
  have hgg := h.gg
  exact ⟨h.cur.below ⟨hg.os, hg.tape, hg.output, hg.size, fun j hj => hg.block j (by omega) (by simp)⟩, ⟨hg.os.trans h.keep.os, hg.tape.trans h.keep.tape, hg.output.trans h.keep.output, Nat.le_trans hs hg.size, fun j hj hjg => (hg.block j (by omega) (by simp)).trans (h.keep.block j hj hjg)⟩, ho, h.gg⟩
/-- One field of one is written. -/
theorem DRs.put {G n c i f : Nat} {x x' : Rs} (h : DRs w0 W g ao cap bs (.slice (some ⟨G, 0, none⟩) n c) l) (hx : l[i]? = some x) (hf : f < 3) (hs : ∀ k, k < 3 → k ≠ f → cvRs x' k = cvRs x k) : DRs w0 (W.setCell ⟨G, i * 3 + f, none⟩ (cvRs x' f)) g ao cap bs (.slice (some ⟨G, 0, none⟩) n c) (l.set i x') := by
  have hgg := h.gg
  have hi := get_ltL hx
  obtain ⟨a, k, e⟩ := ownW_slice h.own
  obtain rfl : n = l.length := by simp only [Value.slice.injEq] at e; exact e.2.1
  have hl := ownU_lt h.own
  have hg := grownBy_setT25 W G (i * 3 + f) (cvRs x' f)
  refine ⟨h.cur.below ((Below.refl _ W).setCell (p := ⟨G, i * 3 + f, none⟩) (show g + 1 ≤ G by omega) _), ⟨h.keep.os, h.keep.tape, h.keep.output, Nat.le_trans h.keep.size hg.size, fun j hj hjg => (hg.block j (Nat.lt_of_lt_of_le hj h.keep.size) (fun e => by have := Option.some.inj e; omega)).trans (h.keep.block j hj hjg)⟩, ?_, h.gg⟩
  rw [List.length_set, ← vset1 l i f x x' hx hf hs]
  exact ownU_cell h.own (i * 3 + f) (by omega) _
end
theorem cell_three25 (w : World) (a b c : Value) (t : TypeId) : ∀ (j : Nat) (u : Value), [a, b, c][j]? = some u → (w.alloc (.cells #[a, b, c] t)).cell? ((⟨w.heap.size, 0, none⟩ : Addr).add j) = some u := fun j u hu => by
  have e0 := heap_alloc_new w (Obj.cells #[a, b, c] t)
  rw [Addr.add_lit, Nat.zero_add]
  simp only [World.cell?, e0]
  simpa using hu
theorem infoRs : (Try.prog.info? 46).map (fun i => (i.zero, i.size, i.bytes)) = some (some (.agg #[.int .i64 0, .int .i64 0, .bool false]), 3, 24) := by kernel_rfl
theorem made_res (n : Nat) : (madeCells (Value.agg #[.int .i64 0, .int .i64 0, .bool false]).cells (n * 3)).toList = vcellsL 3 cvRs (List.replicate n ⟨0, 0, false⟩) := by
  apply List.ext_getElem?
  intro j
  have hz : (Value.agg #[.int .i64 0, .int .i64 0, .bool false]).cells = #[.int .i64 0, .int .i64 0, .bool false] := by rfl
  rw [hz]
  by_cases hj : j < n * 3
  · obtain ⟨a, b, hb, rfl⟩ : ∃ a b, b < 3 ∧ j = a * 3 + b := ⟨j / 3, j % 3, by omega, by omega⟩
    rw [vcellsL_get (s := 3) (cs := cvRs) (List.replicate n ⟨0, 0, false⟩) a ⟨0, 0, false⟩ (by rw [List.getElem?_replicate, if_pos (by omega)]) b hb]
    rw [Array.getElem?_toList]
    unfold madeCells
    rw [Array.getElem?_map, Array.getElem?_range, if_pos (by omega)]
    simp only [Option.map_some]
    have hm : (a * 3 + b) % (#[Value.int .i64 0, .int .i64 0, .bool false] : Array Value).size = b := by simp; omega
    rw [hm]
    rcases (show b = 0 ∨ b = 1 ∨ b = 2 by omega) with rfl | rfl | rfl <;> rfl
  · rw [List.getElem?_eq_none (by simp [madeCells]; omega), List.getElem?_eq_none (by rw [vcellsL_len, List.length_replicate]; omega)]
end Go.Proofs.Ytecljmpojninfaa
