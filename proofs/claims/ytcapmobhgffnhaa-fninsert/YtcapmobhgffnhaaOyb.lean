/-
  What stays while some blocks are written.
-/
import Derived.Test.YtcapmobhgffnhaaOy
namespace Go.Proofs.Ytcapmobhgffnhaa
open Go.RowKit Va Oa
set_option linter.unusedVariables false

/-- Since w3 nothing elder has turned but the blocks of X. -/
structure Stdx (w3 : World) (X : Nat → Prop) (w : World) : Prop where
  os : w.os = w3.os
  tape : w.tape = w3.tape
  output : w.output = w3.output
  size : w3.heap.size ≤ w.heap.size
  block : ∀ b, b < w3.heap.size → ¬ X b → w.heap[b]? = w3.heap[b]?
theorem Stdx.refl (w : World) (X : Nat → Prop) : Stdx w X w := ⟨rfl, rfl, rfl, Nat.le_refl _, fun _ _ _ => rfl⟩
theorem Stdx.step {w3 w w' : World} {X : Nat → Prop} (h : Stdx w3 X w) (hb : Below w.heap.size w w') : Stdx w3 X w' :=
  ⟨hb.os.trans h.os, hb.tape.trans h.tape, hb.output.trans h.output, Nat.le_trans h.size hb.size, fun b hb1 hb2 => (hb.block b (by have := h.size; omega)).trans (h.block b hb1 hb2)⟩
theorem Stdx.grown {w3 w w' : World} {X : Nat → Prop} {rr : Option Nat} (h : Stdx w3 X w) (hg : w.grownBy w' rr) (hr : ∀ k, rr = some k → X k ∨ w3.heap.size ≤ k) : Stdx w3 X w' :=
  ⟨hg.os.trans h.os, hg.tape.trans h.tape, hg.output.trans h.output, Nat.le_trans h.size hg.size, fun b hb1 hb2 => (hg.block b (by have := h.size; omega) (fun e => by
    rcases hr b e.symm with k | k
    · exact hb2 k
    · omega)).trans (h.block b hb1 hb2)⟩
theorem Stdx.set {w3 w : World} {X : Nat → Prop} {G : Nat} (h : Stdx w3 X w) (hX : X G) (o : Nat) (v : Value) : Stdx w3 X (w.setCell ⟨G, o, none⟩ v) := by
  have hb := (Below.refl G w).setCell (p := ⟨G, o, none⟩) (Nat.le_refl _) v
  exact ⟨hb.os.trans h.os, hb.tape.trans h.tape, hb.output.trans h.output, by simpa [World.setCell] using h.size, fun b hb1 hb2 => (Below.heap_setCell _ _ _ _ (by show b ≠ G; intro e; rw [e] at hb2; exact hb2 hX)).trans (h.block b hb1 hb2)⟩
theorem Stdx.below {w0 w3 w : World} {X : Nat → Prop} {b : Nat} (h : Stdx w3 X w) (hb : Below b w0 w3) (hX : ∀ k, X k → b ≤ k) (hl : b ≤ w3.heap.size) : Below b w0 w :=
  ⟨h.os.trans hb.os, h.tape.trans hb.tape, h.output.trans hb.output, Nat.le_trans hb.size h.size, fun k hk => (h.block k (by omega) (fun e => by have := hX k e; omega)).trans (hb.block k hk)⟩
theorem Stdx.irw {w3 w : World} {X : Nat → Prop} {v : Value} {l : List Int} (h : Stdx w3 X w) (hr : IRw w3 v l) (hne : ∀ k, v.ownBlock = some k → ¬ X k) : IRw w v l := by
  obtain ⟨ao, cap, rfl, hlc, h2⟩ := hr
  refine ⟨ao, cap, rfl, hlc, ?_⟩
  rcases h2 with h2 | ⟨b, off, rfl, h4, h5⟩
  · exact Or.inl h2
  · refine Or.inr ⟨b, off, rfl, Nat.lt_of_lt_of_le h4 h.size, fun i x hx => ?_⟩
    rw [← h5 i x hx]
    exact World.cell?_of_block (h.block b h4 (hne b rfl))
theorem Stdx.own {w3 w : World} {X : Nat → Prop} {base e s n : Nat} {v : Value} {xs : List Value} (h : Stdx w3 X w) (ho : w3.ownsRow base e s v n xs) (hne : ∀ k, v.ownBlock = some k → ¬ X k) : w.ownsRow base e s v n xs := by
  obtain ⟨q, ⟨q1, q2⟩ | ⟨g, c, cur, rfl, hg, hh, r⟩⟩ := ho
  · exact ⟨q, Or.inl ⟨q1, q2⟩⟩
  · exact ⟨q, Or.inr ⟨g, c, cur, rfl, hg, (h.block g (Array.getElem?_eq_some_iff.1 hh).1 (hne g rfl)).trans hh, r⟩⟩
theorem Stdx.tbox {w3 w : World} {X : Nat → Prop} {B : Nat} {vs : Array Value} {t : TypeId} (h : Stdx w3 X w) (hb : TBox w3 B vs t) (hne : ¬ X B) : TBox w B vs t := (h.block B hb.lt hne).trans hb
theorem Teams.stdx {w3 w : World} {X : Nat → Prop} {base : Nat} {L : List (Opn × Value)} (h : Teams w3 base L) (hst : Stdx w3 X w) (hv : ∀ p ∈ L, ∀ k, p.2.ownBlock = some k → ¬ X k) : Teams w base L :=
  ⟨fun p hp => hst.own (h.1 p hp) (hv p hp), h.2⟩
/-- The times of one are set. -/
theorem cellsO_set2 (L : List (Opn × Value)) : ∀ i x tv f t, L[i]? = some (x, tv) → ((cellsO L).set (i * 4 + 1) (.int .i64 f)).set (i * 4 + 2) (.int .i64 t) = cellsO (L.set i (⟨x.room, f, t, x.team⟩, tv)) := by
  induction L with
  | nil => intro i x tv f t h; cases h
  | cons q L ih =>
    intro i x tv f t h
    cases i with
    | zero =>
      obtain rfl : q = (x, tv) := by simpa using h
      rfl
    | succ i =>
      have e := ih i x tv f t (by simpa using h)
      show _ = [Value.int .i64 q.1.room, .int .i64 q.1.fr, .int .i64 q.1.to, q.2] ++ cellsO (L.set i _)
      rw [← e, Nat.succ_mul]
      rfl
theorem own_set_at {w : World} {base e s n : Nat} {v : Value} {xs : List Value} (h : w.ownsRow base e s v n xs) {b o : Nat} (hb : ∀ k, v.ownBlock = some k → k ≠ b) (u : Value) : (w.setCell ⟨b, o, none⟩ u).ownsRow base e s v n xs := by
  obtain ⟨q, ⟨q1, q2⟩ | ⟨g, c, cur, rfl, hg, hh, r⟩⟩ := h
  · exact ⟨q, Or.inl ⟨q1, q2⟩⟩
  · exact ⟨q, Or.inr ⟨g, c, cur, rfl, hg, by rw [Below.heap_setCell _ _ _ _ (by show g ≠ b; exact hb g rfl)]; exact hh, r⟩⟩
theorem wrapO {n : Int} (h1 : -1000000000000 ≤ n) (h2 : n ≤ 1000000000000) : IntKind.i64.wrap n = n := by
  first
    | exact wrap64_in n (by omega)
    | (go_num; done)
    | (simp only [IntKind.wrap, IntKind.signed, IntKind.bits]; omega)
    | (unfold IntKind.wrap; simp [IntKind.bits, IntKind.signed]; omega)
    | (simp [IntKind.wrap]; omega)
theorem own_any {w : World} {base e s n G c : Nat} {xs : List Value} (h : w.ownsRow base e s (.slice (some ⟨G, 0, none⟩) n c) n xs) {j : Nat} (hj : j < n * s) : (∃ u, w.cell? ⟨G, j, none⟩ = some u) ∧ w.frozen? ⟨G, j, none⟩ = false ∧ G < w.heap.size := by
  obtain ⟨q, ⟨h1, _⟩ | ⟨g, cap, cur, h1, hb, hg, hc, hm, hs, hx⟩⟩ := h
  · cases h1
  · simp only [Value.slice.injEq, Option.some.injEq, Addr.mk.injEq, and_true, true_and] at h1
    obtain ⟨rfl, rfl⟩ := h1
    have hjc : j < cur.size := by
      have : n * s ≤ c * s := Nat.mul_le_mul_right s hc
      omega
    refine ⟨⟨cur[j], ?_⟩, ?_, (Array.getElem?_eq_some_iff.1 hg).1⟩
    · simp only [World.cell?, hg]
      exact Array.getElem?_eq_getElem hjc
    · simp only [World.frozen?, hg]
      rfl
end Go.Proofs.Ytcapmobhgffnhaa
