/-
  The room of trays as the specification keeps it: three rows of a thousand, and what it tells.
-/
import Derived.Test.YtklgadaefngnnaaWk
import Derived.Maps.AppendAt
import Derived.BigQuiet
import Derived.Deep.QuietTactic
import Derived.Deep.RegionWith
import Derived.Deep.CutRange
namespace Go.Proofs.Ytklgadaefngnnaa
open Go.RowKit Va Wa Go.Maps
set_option linter.unusedVariables false

/-- A row of a thousand. -/
def Th (w : World) (S : Nat) (e : TypeId) (f : Nat → Value) : Prop := ∃ vs : Array Value, w.heap[S]? = some (Obj.cells vs e (0, 0)) ∧ vs.size = 1000 ∧ ∀ t, t < 1000 → vs[t]? = some (f t)
theorem Th.lt {w : World} {S : Nat} {e : TypeId} {f : Nat → Value} (h : Th w S e f) : S < w.heap.size := by
  obtain ⟨vs, h1, -⟩ := h; exact (Array.getElem?_eq_some_iff.1 h1).1
theorem Th.cell {w : World} {S : Nat} {e : TypeId} {f : Nat → Value} (h : Th w S e f) {t : Nat} (ht : t < 1000) : w.cell? ⟨S, t, none⟩ = some (f t) := by
  obtain ⟨vs, h1, h2, h3⟩ := h; simp only [World.cell?, h1]; exact h3 t ht
theorem Th.fro {w : World} {S : Nat} {e : TypeId} {f : Nat → Value} (h : Th w S e f) (j : Nat) : w.frozen? ⟨S, j, none⟩ = false := by
  obtain ⟨vs, h1, -⟩ := h; simp [World.frozen?, h1]
theorem Th.keep {w w' : World} {S : Nat} {e : TypeId} {f : Nat → Value} (h : Th w S e f) (hk : w'.heap[S]? = w.heap[S]?) : Th w' S e f := by
  obtain ⟨vs, h1, h2⟩ := h; exact ⟨vs, hk.trans h1, h2⟩
theorem Th.eq {w : World} {S : Nat} {e : TypeId} {f g : Nat → Value} (h : Th w S e f) (hk : ∀ t, t < 1000 → g t = f t) : Th w S e g := by
  obtain ⟨vs, h1, h2, h3⟩ := h; exact ⟨vs, h1, h2, fun t ht => by rw [hk t ht]; exact h3 t ht⟩
theorem Th.set {w : World} {S : Nat} {e : TypeId} {f : Nat → Value} (h : Th w S e f) {t : Nat} (ht : t < 1000) (v : Value) : Th (w.setCell ⟨S, t, none⟩ v) S e (upd f t v) := by
  obtain ⟨vs, h1, h2, h3⟩ := h
  refine ⟨_, set_heap h1 _ _, by simp [h2], fun s hs => ?_⟩
  by_cases q : s = t
  · subst q; rw [sib_eq (by omega), upd_same]
  · rw [sib_ne (fun e => q e.symm), upd_other _ q]; exact h3 s hs
theorem Th.made {w w' : World} {b : Nat} {e : TypeId} {z : Value} (h : w'.ownsRow b e 1 (.slice (some ⟨w.heap.size, 0, none⟩) 1000 1000) 1000 (madeCells #[z] (1000 * 1)).toList) : Th w' w.heap.size e (fun _ => z) := by
  obtain ⟨h1, h2⟩ := h
  rcases h2 with ⟨h2, h3⟩ | ⟨g, cap, cur, h2, h3, h4, h5, h6, h7, h8⟩
  · cases h2
  · simp only [Value.slice.injEq, Option.some.injEq, Addr.mk.injEq, and_true, true_and] at h2
    obtain ⟨rfl, rfl⟩ := h2
    refine ⟨cur, h4, by omega, fun t ht => ?_⟩
    have e1 : (cur.toList.take (1000 * 1))[t]? = cur[t]? := by rw [List.getElem?_take, if_pos (by omega), Array.getElem?_toList]
    rw [← e1, h8]
    simp [madeCells, Nat.mod_one, show t < 1000 from ht]

structure SR (w : World) (base T S C E : Nat) (cv bv : Value) (R : Rm) : Prop where
  t : w.heap[T]? = some (Obj.cells #[cv, bv, .slice (some ⟨S, 0, none⟩) 1000 1000, .slice (some ⟨C, 0, none⟩) 1000 1000] 100 (0, 0))
  s : Th w S 2 (fun t => .int .i64 (R.st t))
  c : Th w C 2 (fun t => .int .i64 (R.cy t))
  e : Th w E 4 (fun t => .bool (R.ov t))
  ne : S ≠ C
  bt : base ≤ T
  bs : base ≤ S
  bc : base ≤ C
  be : base ≤ E
theorem SR.apart {w : World} {base T S C E : Nat} {cv bv : Value} {R : Rm} (h : SR w base T S C E cv bv R) : T ≠ S ∧ T ≠ C ∧ T ≠ E ∧ S ≠ E ∧ C ≠ E := by
  have ht := h.t
  obtain ⟨vs, hs, -⟩ := h.s
  obtain ⟨vc, hc, -⟩ := h.c
  obtain ⟨ve, he, -⟩ := h.e
  refine ⟨fun e => ?_, fun e => ?_, fun e => ?_, fun e => ?_, fun e => ?_⟩
  · rw [e, hs] at ht; simp only [Option.some.injEq, Obj.cells.injEq] at ht; exact absurd ht.2.1 (by decide)
  · rw [e, hc] at ht; simp only [Option.some.injEq, Obj.cells.injEq] at ht; exact absurd ht.2.1 (by decide)
  · rw [e, he] at ht; simp only [Option.some.injEq, Obj.cells.injEq] at ht; exact absurd ht.2.1 (by decide)
  · rw [e, he] at hs; simp only [Option.some.injEq, Obj.cells.injEq] at hs; exact absurd hs.2.1 (by decide)
  · rw [e, he] at hc; simp only [Option.some.injEq, Obj.cells.injEq] at hc; exact absurd hc.2.1 (by decide)
theorem SR.lt {w : World} {base T S C E : Nat} {cv bv : Value} {R : Rm} (h : SR w base T S C E cv bv R) : T < w.heap.size ∧ S < w.heap.size ∧ C < w.heap.size ∧ E < w.heap.size :=
  ⟨(Array.getElem?_eq_some_iff.1 h.t).1, h.s.lt, h.c.lt, h.e.lt⟩
theorem SR.keep {w w' : World} {base T S C E : Nat} {cv bv : Value} {R : Rm} (h : SR w base T S C E cv bv R) (hk : ∀ b, b = T ∨ b = S ∨ b = C ∨ b = E → w'.heap[b]? = w.heap[b]?) : SR w' base T S C E cv bv R :=
  ⟨(hk T (by simp)).trans h.t, h.s.keep (hk S (by simp)), h.c.keep (hk C (by simp)), h.e.keep (hk E (by simp)), h.ne, h.bt, h.bs, h.bc, h.be⟩
theorem SR.below {w w' : World} {base T S C E : Nat} {cv bv : Value} {R : Rm} (h : SR w base T S C E cv bv R) (hb : Below w.heap.size w w') : SR w' base T S C E cv bv R :=
  h.keep fun b q => hb.block b (by have := h.lt; rcases q with rfl | rfl | rfl | rfl <;> omega)
theorem SR.cells {w : World} {base T S C E : Nat} {cv bv : Value} {R : Rm} (h : SR w base T S C E cv bv R) : w.cell? ⟨T, 0, none⟩ = some cv ∧ w.cell? ⟨T, 1, none⟩ = some bv ∧ w.cell? ⟨T, 2, none⟩ = some (.slice (some ⟨S, 0, none⟩) 1000 1000) ∧ w.cell? ⟨T, 3, none⟩ = some (.slice (some ⟨C, 0, none⟩) 1000 1000) ∧ ∀ j, w.frozen? ⟨T, j, none⟩ = false := by
  have ht := h.t
  refine ⟨?_, ?_, ?_, ?_, fun j => ?_⟩ <;> simp [World.cell?, World.frozen?, ht]
theorem SR.setS {w : World} {base T S C E : Nat} {cv bv : Value} {R : Rm} (h : SR w base T S C E cv bv R) {t : Nat} (ht : t < 1000) (v : Int) : SR (w.setCell ⟨S, t, none⟩ (.int .i64 v)) base T S C E cv bv ⟨upd R.st t v, R.cy, R.ov⟩ := by
  obtain ⟨a1, a2, a3, a4, a5⟩ := h.apart
  have hk : ∀ b, b ≠ S → (w.setCell ⟨S, t, none⟩ (.int .i64 v)).heap[b]? = w.heap[b]? := fun b hb => Below.heap_setCell _ _ _ _ hb
  refine ⟨(hk T a1).trans h.t, (h.s.set ht _).eq (fun s _ => ?_), h.c.keep (hk C (fun e => h.ne e.symm)), h.e.keep (hk E (fun e => a4 e.symm)), h.ne, h.bt, h.bs, h.bc, h.be⟩
  simp only [upd]; split <;> rfl
theorem SR.setC {w : World} {base T S C E : Nat} {cv bv : Value} {R : Rm} (h : SR w base T S C E cv bv R) {t : Nat} (ht : t < 1000) (v : Int) : SR (w.setCell ⟨C, t, none⟩ (.int .i64 v)) base T S C E cv bv ⟨R.st, upd R.cy t v, R.ov⟩ := by
  obtain ⟨a1, a2, a3, a4, a5⟩ := h.apart
  have hk : ∀ b, b ≠ C → (w.setCell ⟨C, t, none⟩ (.int .i64 v)).heap[b]? = w.heap[b]? := fun b hb => Below.heap_setCell _ _ _ _ hb
  refine ⟨(hk T a2).trans h.t, h.s.keep (hk S h.ne), (h.c.set ht _).eq (fun s _ => ?_), h.e.keep (hk E (fun e => a5 e.symm)), h.ne, h.bt, h.bs, h.bc, h.be⟩
  simp only [upd]; split <;> rfl
theorem SR.setE {w : World} {base T S C E : Nat} {cv bv : Value} {R : Rm} (h : SR w base T S C E cv bv R) {t : Nat} (ht : t < 1000) (v : Bool) : SR (w.setCell ⟨E, t, none⟩ (.bool v)) base T S C E cv bv ⟨R.st, R.cy, upd R.ov t v⟩ := by
  obtain ⟨a1, a2, a3, a4, a5⟩ := h.apart
  have hk : ∀ b, b ≠ E → (w.setCell ⟨E, t, none⟩ (.bool v)).heap[b]? = w.heap[b]? := fun b hb => Below.heap_setCell _ _ _ _ hb
  refine ⟨(hk T a3).trans h.t, h.s.keep (hk S a4), h.c.keep (hk C a5), (h.e.set ht _).eq (fun s _ => ?_), h.ne, h.bt, h.bs, h.bc, h.be⟩
  simp only [upd]; split <;> rfl
theorem SR.stEq {w : World} {base T S C E : Nat} {cv bv : Value} {s s' cy : Nat → Int} {ov : Nat → Bool} (h : SR w base T S C E cv bv ⟨s, cy, ov⟩) (hk : ∀ t, t < 1000 → s' t = s t) : SR w base T S C E cv bv ⟨s', cy, ov⟩ :=
  ⟨h.t, h.s.eq (fun t ht => by simp only; rw [hk t ht]), h.c, h.e, h.ne, h.bt, h.bs, h.bc, h.be⟩
/-- What is told is put into its box. -/
theorem SR.setT {w : World} {base T S C E : Nat} {cv bv : Value} {R : Rm} (h : SR w base T S C E cv bv R) (v : Value) : SR (w.setCell ⟨T, 0, none⟩ v) base T S C E v bv R ∧ SR (w.setCell ⟨T, 1, none⟩ v) base T S C E cv v R := by
  obtain ⟨a1, a2, a3, a4, a5⟩ := h.apart
  have hk : ∀ j b, b ≠ T → (w.setCell ⟨T, j, none⟩ v).heap[b]? = w.heap[b]? := fun j b hb => Below.heap_setCell _ _ _ _ hb
  exact ⟨⟨set_heap h.t _ _, h.s.keep (hk _ S (fun e => a1 e.symm)), h.c.keep (hk _ C (fun e => a2 e.symm)), h.e.keep (hk _ E (fun e => a3 e.symm)), h.ne, h.bt, h.bs, h.bc, h.be⟩,
    ⟨set_heap h.t _ _, h.s.keep (hk _ S (fun e => a1 e.symm)), h.c.keep (hk _ C (fun e => a2 e.symm)), h.e.keep (hk _ E (fun e => a3 e.symm)), h.ne, h.bt, h.bs, h.bc, h.be⟩⟩
/-- Nothing elder turns but the blocks of X. -/
structure Sx (X : Nat → Prop) (w w' : World) : Prop where
  os : w'.os = w.os
  tape : w'.tape = w.tape
  output : w'.output = w.output
  size : w.heap.size ≤ w'.heap.size
  block : ∀ b : Nat, b < w.heap.size → ¬ X b → w'.heap[b]? = w.heap[b]?
theorem Sx.refl (X : Nat → Prop) (w : World) : Sx X w w := ⟨rfl, rfl, rfl, Nat.le_refl _, fun _ _ _ => rfl⟩
theorem Sx.set {X : Nat → Prop} {w w' : World} (h : Sx X w w') {S : Nat} (hS : X S) (j : Nat) (v : Value) : Sx X w (w'.setCell ⟨S, j, none⟩ v) := by
  have hb := (Below.refl S w').setCell (p := ⟨S, j, none⟩) (Nat.le_refl _) v
  exact ⟨hb.os.trans h.os, hb.tape.trans h.tape, hb.output.trans h.output, by simpa [World.setCell] using h.size, fun b q1 q2 => (Below.heap_setCell _ _ _ _ (fun e => q2 (by have : b = S := e; rw [this]; exact hS))).trans (h.block b q1 q2)⟩
theorem Sx.drew {X : Nat → Prop} {w w' : World} (h : Sx X w w') : Sx X w w'.drew := ⟨h.os, h.tape, h.output, h.size, h.block⟩
theorem Sx.step {X : Nat → Prop} {w w1 w2 : World} (h : Sx X w w1) (hb : Below w1.heap.size w1 w2) : Sx X w w2 :=
  ⟨hb.os.trans h.os, hb.tape.trans h.tape, hb.output.trans h.output, Nat.le_trans h.size hb.size, fun b q1 q2 => (hb.block b (by have := h.size; omega)).trans (h.block b q1 q2)⟩
theorem Sx.below {X : Nat → Prop} {w0 w w' : World} {base : Nat} (h : Sx X w w') (hb : Below base w0 w) (hX : ∀ b, X b → base ≤ b) (hl : base ≤ w.heap.size) : Below base w0 w' :=
  ⟨h.os.trans hb.os, h.tape.trans hb.tape, h.output.trans hb.output, Nat.le_trans hb.size h.size, fun b q => (h.block b (by omega) (fun k => by have := hX b k; omega)).trans (hb.block b q)⟩
theorem Sx.own {X : Nat → Prop} {w w' : World} {b e s n : Nat} {v : Value} {xs : List Value} (h : Sx X w w') (ho : w.ownsRow b e s v n xs) (hne : ∀ k, v.ownBlock = some k → ¬ X k) : w'.ownsRow b e s v n xs := by
  obtain ⟨q, ⟨q1, q2⟩ | ⟨g, c, cur, rfl, hg, hh, r⟩⟩ := ho
  · exact ⟨q, Or.inl ⟨q1, q2⟩⟩
  · exact ⟨q, Or.inr ⟨g, c, cur, rfl, hg, (h.block g (Array.getElem?_eq_some_iff.1 hh).1 (hne g rfl)).trans hh, r⟩⟩
theorem ends_succ {R : Rm} {c v : Int} {k : Nat} (h : inC R c k = true) : ∀ t, ends R c v (k + 1) t = upd (ends R c v k) k v t := fun t => by
  unfold ends upd
  by_cases q : t = k
  · subst q; rw [if_pos rfl, if_pos ⟨by omega, h⟩]
  · rw [if_neg q]
    by_cases q2 : t < k
    · simp [q2, show t < k + 1 by omega]
    · simp [q2, show ¬ t < k + 1 by omega]
theorem ends_skip {R : Rm} {c v : Int} {k : Nat} (h : inC R c k = false) : ∀ t, ends R c v (k + 1) t = ends R c v k t := fun t => by
  unfold ends
  by_cases q : t = k
  · subst q; simp [h]
  · by_cases q2 : t < k
    · simp [q2, show t < k + 1 by omega]
    · simp [q2, show ¬ t < k + 1 by omega]
theorem ends_at {R : Rm} {c v : Int} {k : Nat} : ends R c v k k = R.st k := by unfold ends; rw [if_neg (fun h => absurd h.1 (by omega))]
theorem ends_none {R : Rm} {c v : Int} {n : Nat} (h : ¬ anyC R c n = true) : ∀ t, R.st t = ends R c v n t := fun t => by
  unfold ends
  rw [if_neg (fun q => h (anyC_iff.2 ⟨t, q⟩))]
end Go.Proofs.Ytklgadaefngnnaa
