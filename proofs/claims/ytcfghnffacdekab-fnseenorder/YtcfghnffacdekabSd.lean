/-
  A heap kept in a slice: two items exchanged.
-/
import Derived.Test.YtcfghnffacdekabSc
import Derived.Laws.Tables
import Derived.Laws.Rows
import Derived.BigRegion
namespace Go.Proofs.Ytcfghnffacdekab
open Go.RowKit Va Vh
set_option linter.unusedVariables false

/-- All but one block as it was. -/
structure Kp (b : Nat) (w w' : World) : Prop where
  os : w'.os = w.os
  tape : w'.tape = w.tape
  output : w'.output = w.output
  size : w.heap.size ≤ w'.heap.size
  block : ∀ j, j < w.heap.size → j ≠ b → w'.heap[j]? = w.heap[j]?
theorem Kp.refl (b : Nat) (w : World) : Kp b w w := ⟨rfl, rfl, rfl, Nat.le_refl _, fun _ _ _ => rfl⟩
theorem Kp.trans {b : Nat} {x y z : World} (h : Kp b x y) (k : Kp b y z) : Kp b x z := ⟨k.os.trans h.os, k.tape.trans h.tape, k.output.trans h.output, Nat.le_trans h.size k.size, fun j hj hb => (k.block j (Nat.lt_of_lt_of_le hj h.size) hb).trans (h.block j hj hb)⟩
theorem Kp.of_below {b : Nat} {w w' : World} (h : Below w.heap.size w w') : Kp b w w' := ⟨h.os, h.tape, h.output, h.size, fun j hj _ => h.block j hj⟩
theorem Kp.drew {b : Nat} {x y : World} (h : Kp b x y) : Kp b x y.drew := ⟨h.os, h.tape, h.output, h.size, h.block⟩
theorem Kp.drewN {b : Nat} {x y : World} (h : Kp b x y) (n : Nat) : Kp b x (y.drewN n) := ⟨h.os, h.tape, h.output, h.size, h.block⟩
theorem Kp.set {b : Nat} {x y : World} (h : Kp b x y) (j : Nat) (u : Value) : Kp b x (y.setCell ⟨b, j, none⟩ u) :=
  ⟨h.os, h.tape, h.output, by have := h.size; simpa [World.setCell] using this, fun k hk hb => (Below.heap_setCell _ _ _ _ (by simpa using hb)).trans (h.block k hk hb)⟩

/-- A heap at block H, its items at block gi. -/
structure HP (W : World) (H : Nat) (f : Value) (gi cap : Nat) (l : List Int) : Prop where
  c0 : W.cell? ⟨H, 0, none⟩ = some (.slice (some ⟨gi, 0, none⟩) l.length cap)
  c1 : W.cell? ⟨H, 1, none⟩ = some f
  f0 : W.frozen? ⟨H, 0, none⟩ = false
  blk : ∃ cur : Array Value, W.heap[gi]? = some (.cells cur 2 (0, 0)) ∧ cur.size = cap ∧ l.length ≤ cap ∧ ∀ i, i < l.length → cur[i]? = some (.int .i64 (g l i))
  ne : H ≠ gi
theorem HP.hlt {W : World} {H gi cap : Nat} {f : Value} {l : List Int} (h : HP W H f gi cap l) : H < W.heap.size := World.block_lt_of_cell? W _ h.c0
theorem HP.glt {W : World} {H gi cap : Nat} {f : Value} {l : List Int} (h : HP W H f gi cap l) : gi < W.heap.size := by
  obtain ⟨cur, h1, _⟩ := h.blk
  exact (Array.getElem?_eq_some_iff.1 h1).1
theorem HP.at {W : World} {H gi cap : Nat} {f : Value} {l : List Int} (h : HP W H f gi cap l) {i : Nat} (hi : i < l.length) : W.cell? ⟨gi, i, none⟩ = some (.int .i64 (g l i)) ∧ W.frozen? ⟨gi, i, none⟩ = false := by
  obtain ⟨cur, h1, h2, h3, h4⟩ := h.blk
  constructor
  · simp only [World.cell?, h1]
    exact h4 i hi
  · simp only [World.frozen?, h1]; simp
theorem HP.below {W W' : World} {H gi cap : Nat} {f : Value} {l : List Int} (h : HP W H f gi cap l) (hb : Below W.heap.size W W') : HP W' H f gi cap l := by
  refine ⟨(hb.cell (p := ⟨H, 0, none⟩) h.hlt).trans h.c0, (hb.cell (p := ⟨H, 1, none⟩) h.hlt).trans h.c1, (hb.frozen (p := ⟨H, 0, none⟩) h.hlt).trans h.f0, ?_, h.ne⟩
  obtain ⟨cur, h1, h2⟩ := h.blk
  exact ⟨cur, (hb.block gi h.glt).trans h1, h2⟩
theorem HP.drew {W : World} {H gi cap : Nat} {f : Value} {l : List Int} (h : HP W H f gi cap l) : HP W.drew H f gi cap l := ⟨h.c0, h.c1, h.f0, h.blk, h.ne⟩
theorem HP.drewN {W : World} {H gi cap : Nat} {f : Value} {l : List Int} (h : HP W H f gi cap l) (n : Nat) : HP (W.drewN n) H f gi cap l := ⟨h.c0, h.c1, h.f0, h.blk, h.ne⟩
theorem HP.set {W : World} {H gi cap : Nat} {f : Value} {l : List Int} (h : HP W H f gi cap l) {i : Nat} (hi : i < l.length) (v : Int) : HP (W.setCell ⟨gi, i, none⟩ (.int .i64 v)) H f gi cap (l.set i v) := by
  obtain ⟨fa, fb⟩ := farS h.ne
  obtain ⟨cur, h1, h2, h3, h4⟩ := h.blk
  refine ⟨by rw [fa, List.length_set]; exact h.c0, by rw [fa]; exact h.c1, by rw [fb]; exact h.f0, ⟨cur.setIfInBounds i (.int .i64 v), ?_, by simp [h2], by simpa using h3, ?_⟩, h.ne⟩
  · rw [setCell_eq_setRow W gi i _ _ _ _ h1]
    exact setRow_heap _ _ _ _ _ _ h1
  · intro j hj
    rw [List.length_set] at hj
    rw [Array.getElem?_setIfInBounds, g_set]
    by_cases q : i = j
    · subst q
      rw [if_pos rfl, if_pos (by omega), if_pos ⟨rfl, hi⟩]
    · rw [if_neg q, if_neg (fun e => q e.1)]
      exact h4 j hj
theorem HP.swp {W : World} {H gi cap : Nat} {f : Value} {l : List Int} (h : HP W H f gi cap l) {a b : Nat} (ha : a < l.length) (hb : b < l.length) : HP ((W.setCell ⟨gi, a, none⟩ (.int .i64 (g l b))).setCell ⟨gi, b, none⟩ (.int .i64 (g l a))) H f gi cap (swp l a b) :=
  (h.set ha (g l b)).set (by simpa using hb) (g l a)

set_option maxRecDepth 20000 in
set_option maxHeartbeats 4000000 in
theorem swap_any (H gi cap : Nat) (f : Value) (l : List Int) (a b : Nat) (w : World) (h : HP w H f gi cap l) (ha : a < l.length) (hb : b < l.length) (hl : l.length ≤ 1000) :
    Calls Try.prog 113 #[.pointer (some ⟨H, 0, none⟩), .int .i64 a, .int .i64 b] w fun e w' => e = .returned (.tuple #[]) ∧ HP w' H f gi cap (swp l a b) ∧ Kp gi w w' := by
  have c0 := h.c0
  obtain ⟨x0, x1⟩ := h.at ha
  obtain ⟨y0, y1⟩ := h.at hb
  obtain ⟨z0, z1⟩ := (h.set ha (g l b)).at (i := b) (by simpa using hb)
  have hh := hidden (h.swp ha hb)
  obtain ⟨fa, fb⟩ := farS h.ne
  have hai : (a : Int) < (l.length : Int) := by omega
  have hbi : (b : Int) < (l.length : Int) := by omega
  have K := hidden (fun u v => (((Kp.refl gi w).set a u).set b v))
  clear h
  generalize g (l.set a (g l b)) b = vz at *
  generalize g l a = va at *
  generalize g l b = vb at *
  go_enter Try.func113, Try.ntmps113
  go_wp2_with fail
  go_region
  all_goals go_wp2_with fail
  all_goals go_end0
  all_goals exact ⟨rfl, by first | exact hh.out | exact hh.out.drew, by first | exact K.out _ _ | exact (K.out _ _).drew⟩
end Go.Proofs.Ytcfghnffacdekab
