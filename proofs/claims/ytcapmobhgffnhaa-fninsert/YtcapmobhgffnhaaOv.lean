/-
  An emergency: plain facts; what stays while a list is put back.
-/
import Derived.Test.YtcapmobhgffnhaaOu
namespace Go.Proofs.Ytcapmobhgffnhaa
open Go.RowKit Va Oa
set_option linter.unusedVariables false

theorem ins_stay {l : List Opn} {u x : Opn} {r h : Int} {i : Nat} {P S : List Opn} (hi : ins l u r i = some (P, S, h)) (hx : l[i]? = some x) (hw : why x u r = 0) : ins l u r (i + 1) = some (P ++ [x], S, h) := by
  rw [ins, hi, hx]; simp [hw]
theorem ins_none {l : List Opn} {u x : Opn} {r h : Int} {i : Nat} {P S : List Opn} (hi : ins l u r i = some (P, S, h)) (hx : l[i]? = some x) (hw : why x u r ≠ 0) (he : earl S x r < 0) : ins l u r (i + 1) = none := by
  rw [ins, hi, hx]; simp [hw, he]
theorem ins_move {l : List Opn} {u x : Opn} {r h : Int} {i : Nat} {P S : List Opn} (hi : ins l u r i = some (P, S, h)) (hx : l[i]? = some x) (hw : why x u r ≠ 0) (he : ¬ earl S x r < 0) : ins l u r (i + 1) = some (P ++ [mv x (earl S x r)], S ++ [mv x (earl S x r)], h + (earl S x r - x.fr)) := by
  rw [ins, hi, hx]; simp only [if_neg hw, if_neg he]
theorem ins_dead {l : List Opn} {u : Opn} {r : Int} {i : Nat} (hi : ins l u r i = none) : ∀ k, ins l u r (i + k) = none := by
  intro k
  induction k with
  | zero => exact hi
  | succ k ih => rw [← Nat.add_assoc, ins, ih]
theorem insert_no {l : List Opn} {u : Opn} {r : Int} (h : ¬ (OpsOk l ∧ opB u = true ∧ isR r ∧ l.length ≠ 200 ∧ (clash l r).length = 0)) : Oa.insert l u r = ([], 0, false) := by
  unfold Oa.insert; rw [if_neg h]
theorem insert_yes {l : List Opn} {u : Opn} {r h : Int} {P S : List Opn} (hc : OpsOk l ∧ opB u = true ∧ isR r ∧ l.length ≠ 200 ∧ (clash l r).length = 0) (hi : ins l u r l.length = some (P, S, h)) : Oa.insert l u r = (P ++ [u], h, true) := by
  unfold Oa.insert; rw [if_pos hc, hi]
theorem insert_dead {l : List Opn} {u : Opn} {r : Int} {i : Nat} (hc : OpsOk l ∧ opB u = true ∧ isR r ∧ l.length ≠ 200 ∧ (clash l r).length = 0) (hi : ins l u r i = none) (hl : i ≤ l.length) : Oa.insert l u r = ([], 0, false) := by
  have := ins_dead hi (l.length - i)
  rw [show i + (l.length - i) = l.length by omega] at this
  unfold Oa.insert; rw [if_pos hc, this]
theorem opB_mv {x : Opn} {t : Int} (hx : opB x = true) (h0 : 0 ≤ t) (h1 : t + (x.to - x.fr) ≤ 10000000) : opB (mv x t) = true := by
  obtain ⟨a, b, c, d, e⟩ := of_opB hx
  have e1 : tmv t = true := tmv_iff.2 ⟨h0, by omega⟩
  have e2 : tmv (t + (x.to - x.fr)) = true := tmv_iff.2 ⟨by omega, h1⟩
  have e3 : decide (t < t + (x.to - x.fr)) = true := decide_eq_true (by omega)
  show (rng x.room 0 99 && (tmv t && (tmv (t + (x.to - x.fr)) && (decide (t < t + (x.to - x.fr)) && tmB x.team)))) = true
  rw [rng_iff.2 a, e1, e2, e3, tmB_true e]
  rfl
theorem stay_mem {l : List Opn} {u : Opn} {r : Int} : ∀ i x, x ∈ stay l u r i → x = u ∨ x ∈ l := by
  intro i
  induction i with
  | zero => intro x hx; exact Or.inl (by simpa [stay] using hx)
  | succ i ih =>
    intro x hx
    rw [stay] at hx
    rcases List.mem_append.1 hx with hx | hx
    · exact ih x hx
    · right
      split at hx
      · rename_i y hy
        split at hx
        · obtain rfl : x = y := by simpa using hx
          exact List.mem_of_getElem? hy
        · cases hx
      · cases hx
theorem stay_len (l : List Opn) (u : Opn) (r : Int) : ∀ i, (stay l u r i).length ≤ i + 1 := by
  intro i
  induction i with
  | zero => simp [stay]
  | succ i ih =>
    rw [stay, List.length_append]
    split
    · split <;> simp <;> omega
    · simp; omega

/-- Since w3 nothing elder has turned but block G. -/
structure Stdy (w3 : World) (G : Nat) (w : World) : Prop where
  os : w.os = w3.os
  tape : w.tape = w3.tape
  output : w.output = w3.output
  size : w3.heap.size ≤ w.heap.size
  block : ∀ b, b < w3.heap.size → b ≠ G → w.heap[b]? = w3.heap[b]?
theorem Stdy.refl (w : World) (G : Nat) : Stdy w G w := ⟨rfl, rfl, rfl, Nat.le_refl _, fun _ _ _ => rfl⟩
theorem Stdy.step {w3 w w' : World} {G : Nat} (h : Stdy w3 G w) (hb : Below w.heap.size w w') : Stdy w3 G w' :=
  ⟨hb.os.trans h.os, hb.tape.trans h.tape, hb.output.trans h.output, Nat.le_trans h.size hb.size, fun b hb1 hb2 => (hb.block b (by have := h.size; omega)).trans (h.block b hb1 hb2)⟩
theorem Stdy.grown {w3 w w' : World} {G : Nat} {rr : Option Nat} (h : Stdy w3 G w) (hg : w.grownBy w' rr) (hr : ∀ k, rr = some k → w3.heap.size ≤ k) : Stdy w3 G w' :=
  ⟨hg.os.trans h.os, hg.tape.trans h.tape, hg.output.trans h.output, Nat.le_trans h.size hg.size, fun b hb1 hb2 => (hg.block b (by have := h.size; omega) (fun e => by have := hr b e.symm; omega)).trans (h.block b hb1 hb2)⟩
theorem Stdy.set {w3 w : World} {G : Nat} (h : Stdy w3 G w) (o : Nat) (v : Value) : Stdy w3 G (w.setCell ⟨G, o, none⟩ v) := by
  have hb := (Below.refl G w).setCell (p := ⟨G, o, none⟩) (Nat.le_refl _) v
  exact ⟨hb.os.trans h.os, hb.tape.trans h.tape, hb.output.trans h.output, by simpa [World.setCell] using h.size, fun b hb1 hb2 => (Below.heap_setCell _ _ _ _ (by show b ≠ G; exact hb2)).trans (h.block b hb1 hb2)⟩
theorem Stdy.below {w0 w3 w : World} {G b : Nat} (h : Stdy w3 G w) (hb : Below b w0 w3) (hG : b ≤ G) (hl : b ≤ w3.heap.size) : Below b w0 w :=
  ⟨h.os.trans hb.os, h.tape.trans hb.tape, h.output.trans hb.output, Nat.le_trans hb.size h.size, fun k hk => (h.block k (by omega) (by omega)).trans (hb.block k hk)⟩
theorem Stdy.irw {w3 w : World} {G : Nat} {v : Value} {l : List Int} (h : Stdy w3 G w) (hr : IRw w3 v l) (hne : ∀ k, v.ownBlock = some k → k ≠ G) : IRw w v l := by
  obtain ⟨ao, cap, rfl, hlc, h2⟩ := hr
  refine ⟨ao, cap, rfl, hlc, ?_⟩
  rcases h2 with h2 | ⟨b, off, rfl, h4, h5⟩
  · exact Or.inl h2
  · refine Or.inr ⟨b, off, rfl, Nat.lt_of_lt_of_le h4 h.size, fun i x hx => ?_⟩
    rw [← h5 i x hx]
    exact World.cell?_of_block (h.block b h4 (hne b rfl))
theorem Stdy.own {w3 w : World} {G base e s n : Nat} {v : Value} {xs : List Value} (h : Stdy w3 G w) (ho : w3.ownsRow base e s v n xs) (hne : ∀ k, v.ownBlock = some k → k ≠ G) : w.ownsRow base e s v n xs := by
  obtain ⟨q, ⟨q1, q2⟩ | ⟨g, c, cur, rfl, hg, hh, r⟩⟩ := ho
  · exact ⟨q, Or.inl ⟨q1, q2⟩⟩
  · exact ⟨q, Or.inr ⟨g, c, cur, rfl, hg, (h.block g (Array.getElem?_eq_some_iff.1 hh).1 (hne g rfl)).trans hh, r⟩⟩
theorem Stdy.tbox {w3 w : World} {G B : Nat} {vs : Array Value} {t : TypeId} (h : Stdy w3 G w) (hb : TBox w3 B vs t) (hne : B ≠ G) : TBox w B vs t := (h.block B hb.lt hne).trans hb

/-- A cell of an owned row is set. -/
theorem own_cell {w : World} {base e s n G c : Nat} {xs : List Value} (h : w.ownsRow base e s (.slice (some ⟨G, 0, none⟩) n c) n xs) (j : Nat) (hj : j < n * s) (u : Value) : (w.setCell ⟨G, j, none⟩ u).ownsRow base e s (.slice (some ⟨G, 0, none⟩) n c) n (xs.set j u) := by
  obtain ⟨q, ⟨q1, q2⟩ | ⟨g, c', cur, q1, hg, hh, h5, h6, h7, h8⟩⟩ := h
  · cases q1
  · simp only [Value.slice.injEq, Option.some.injEq, Addr.mk.injEq, and_true, true_and] at q1
    obtain ⟨rfl, rfl⟩ := q1
    refine ⟨by rw [List.length_set]; exact q, Or.inr ⟨G, c, cur.setIfInBounds j u, rfl, hg, (TBox.set (W := w) (B := G) hh j u), h5, h6, by simpa using h7, ?_⟩⟩
    rw [Array.toList_setIfInBounds, List.take_set, h8]
theorem cellsO_set (L : List (Opn × Value)) : ∀ i p, i < L.length → ((((cellsO L).set (i * 4) (.int .i64 p.1.room)).set (i * 4 + 1) (.int .i64 p.1.fr)).set (i * 4 + 2) (.int .i64 p.1.to)).set (i * 4 + 3) p.2 = cellsO (L.set i p) := by
  induction L with
  | nil => intro i p h; simp at h
  | cons q L ih =>
    intro i p h
    cases i with
    | zero => rfl
    | succ i =>
      have e := ih i p (by simpa using h)
      show _ = [Value.int .i64 q.1.room, .int .i64 q.1.fr, .int .i64 q.1.to, q.2] ++ cellsO (L.set i p)
      rw [← e, Nat.succ_mul]
      rfl
end Go.Proofs.Ytcapmobhgffnhaa
