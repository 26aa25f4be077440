/-
  A house that may be wrong, drawn of a cursor.
-/
import Derived.Test.YtklgadaefngnnaaYl
namespace Go.Proofs.Ytklgadaefngnnaa
open Go.RowKit Hm
set_option linter.all false

def setSt (x : St) (j : Nat) (y : Int) : St := match j with
  | 0 => { x with person := y }
  | 1 => { x with sex := y }
  | 2 => { x with need := y }
  | 3 => { x with bed := y }
  | 4 => { x with frm := y }
  | _ => { x with til := y }

def setBd (x : Bd) (j : Nat) (y : Int) : Bd := match j with
  | 0 => { x with room := y }
  | _ => { x with kind := y }
theorem cellsS_cons (x : St) (l : List St) : cellsL 6 csS (x :: l) = .int .i64 x.person :: .int .i64 x.sex :: .int .i64 x.need :: .int .i64 x.bed :: .int .i64 x.frm :: .int .i64 x.til :: cellsL 6 csS l := rfl
theorem cellsB_cons (x : Bd) (l : List Bd) : cellsL 2 csB (x :: l) = .int .i64 x.room :: .int .i64 x.kind :: cellsL 2 csB l := rfl
theorem cellsS_set (j : Nat) (hj : j < 6) (y : Int) : ∀ (l : List St) (i : Nat) (x : St), l[i]? = some x → (cellsL 6 csS l).set (i * 6 + j) (.int .i64 y) = cellsL 6 csS (l.set i (setSt x j y))
  | [], _, _, h => by cases h
  | a :: l, 0, x, h => by
    obtain rfl : a = x := by simpa using h
    rw [List.set_cons_zero, cellsS_cons, cellsS_cons]
    rcases (show j = 0 ∨ j = 1 ∨ j = 2 ∨ j = 3 ∨ j = 4 ∨ j = 5 by omega) with rfl | rfl | rfl | rfl | rfl | rfl <;> rfl
  | a :: l, i + 1, x, h => by
    rw [List.set_cons_succ, cellsS_cons, cellsS_cons, ← cellsS_set j hj y l i x (by simpa using h), show (i + 1) * 6 + j = (i * 6 + j) + 1 + 1 + 1 + 1 + 1 + 1 from by omega]
    rfl
theorem cellsB_set (j : Nat) (hj : j < 2) (y : Int) : ∀ (l : List Bd) (i : Nat) (x : Bd), l[i]? = some x → (cellsL 2 csB l).set (i * 2 + j) (.int .i64 y) = cellsL 2 csB (l.set i (setBd x j y))
  | [], _, _, h => by cases h
  | a :: l, 0, x, h => by
    obtain rfl : a = x := by simpa using h
    rw [List.set_cons_zero, cellsB_cons, cellsB_cons]
    rcases (show j = 0 ∨ j = 1 by omega) with rfl | rfl <;> rfl
  | a :: l, i + 1, x, h => by
    rw [List.set_cons_succ, cellsB_cons, cellsB_cons, ← cellsB_set j hj y l i x (by simpa using h), show (i + 1) * 2 + j = (i * 2 + j) + 1 + 1 from by omega]
    rfl
theorem f700_set (j : Nat) (hj : j < 6) (y : Int) {S : List St} {i : Nat} {x : St} (hx : S[i]? = some x) (hf : F700 S) (h0 : j = 0 → y ≠ 700) : F700 (S.set i (setSt x j y)) := by
  intro z hz
  rcases List.mem_or_eq_of_mem_set hz with q | q
  · exact hf z q
  · have hp := hf x (List.mem_of_getElem? hx)
    subst q
    rcases (show j = 0 ∨ j = 1 ∨ j = 2 ∨ j = 3 ∨ j = 4 ∨ j = 5 by omega) with rfl | rfl | rfl | rfl | rfl | rfl
    · exact h0 rfl
    all_goals exact hp
theorem own_write {w : World} {b e s n c k : Nat} {ad : Option Addr} {xs : List Value} (h : w.ownsRow b e s (.slice ad n c) n xs) (hk : k < n * s) : ∃ G, ad = some ⟨G, 0, none⟩ ∧ b ≤ G ∧ G < w.heap.size ∧ IsT w G e ∧ (∃ u, w.cell? ⟨G, k, none⟩ = some u) ∧ w.frozen? ⟨G, k, none⟩ = false ∧ ∀ u, u.oneCell' = true → (w.setCell ⟨G, k, none⟩ u).ownsRow b e s (.slice ad n c) n (xs.set k u) := by
  obtain ⟨hl, ⟨q1, q2⟩ | ⟨G, c', cur, he, h3, h4, h5, h6, h7, h8⟩⟩ := h
  · subst q2; omega
  obtain ⟨rfl, rfl⟩ : ad = some ⟨G, 0, none⟩ ∧ c = c' := by simpa using he
  have hc : n * s ≤ cur.size := by rw [h7]; exact Nat.mul_le_mul_right _ h5
  refine ⟨G, rfl, h3, (Array.getElem?_eq_some_iff.1 h4).1, ⟨_, h4⟩, ⟨cur[k]'(by omega), ?_⟩, ?_, fun u _ => ?_⟩
  · simp only [World.cell?, h4]
    exact Array.getElem?_eq_getElem (by omega)
  · simp only [World.frozen?, h4]; simp
  · have e := setCell_eq_setRow w G k _ _ _ u h4
    refine ⟨by rw [List.length_set]; exact hl, .inr ⟨G, c, cur.setIfInBounds k u, rfl, h3, ?_, h5, h6, by simpa using h7, ?_⟩⟩
    · rw [e]; exact setRow_heap _ _ _ _ _ _ h4
    · rw [Array.toList_setIfInBounds, List.take_set, h8]
section
variable {w0 W W' : World} {g cap R X : Nat} {ao : Option Addr} {bs : List Int} {vb vs : Value} {B : List Bd} {S : List St}
theorem DH.far {G k : Nat} {t : Nat} (h : DH w0 W g ao cap bs R X vb vs B S) (hG : w0.heap.size ≤ G) (hT : IsT W G t) (ht : t ≠ 27) (u : Value) : Cur (W.setCell ⟨G, k, none⟩ u) g ao cap bs ∧ Keep g w0 (W.setCell ⟨G, k, none⟩ u) ∧ (W.setCell ⟨G, k, none⟩ u).heap[X]? = some (.cells #[vb, vs] 27 (0, 0)) ∧ (W.setCell ⟨G, k, none⟩ u).heap[R]? = some (.cells #[.slice none 0 0, .slice none 0 0] 27 (0, 0)) := by
  have hgg := h.gg
  obtain ⟨c, hc⟩ := hT
  have hne : ∀ {Z : Nat} {c' : Array Value}, W.heap[Z]? = some (.cells c' 27 (0, 0)) → Z ≠ G := fun {Z c'} hz e => by
    rw [e, hc] at hz
    have := Option.some.inj hz
    simp only [Obj.cells.injEq] at this
    exact ht this.2.1
  have hb : Below w0.heap.size W (W.setCell ⟨G, k, none⟩ u) := (Below.refl _ W).setCell (p := ⟨G, k, none⟩) hG _
  exact ⟨h.cur.below (hb.mono (by omega)), ⟨hb.os.trans h.keep.os, hb.tape.trans h.keep.tape, hb.output.trans h.keep.output, Nat.le_trans h.keep.size hb.size, fun b hb' hbg => (hb.block b hb').trans (h.keep.block b hb' hbg)⟩, (Below.heap_setCell W ⟨G, k, none⟩ u X (hne h.x)).trans h.x, (Below.heap_setCell W ⟨G, k, none⟩ u R (hne h.r)).trans h.r⟩
theorem DH.stay {a2 : Option Addr} {c2 i : Nat} (h : DH w0 W g ao cap bs R X vb (.slice a2 S.length c2) B S) (hi : i < S.length) : ∃ G, a2 = some ⟨G, 0, none⟩ ∧ G < W.heap.size ∧ (∀ j, j < 6 → (∃ u, W.cell? ⟨G, i * 6 + j, none⟩ = some u) ∧ W.frozen? ⟨G, i * 6 + j, none⟩ = false) ∧ ∀ j y, j < 6 → ∃ S', S'.length = S.length ∧ (F700 S → (j = 0 → y ≠ 700) → F700 S') ∧ DH w0 (W.setCell ⟨G, i * 6 + j, none⟩ (.int .i64 y)) g ao cap bs R X vb (.slice a2 S.length c2) B S' := by
  obtain ⟨G, rfl, hG, hGl, hT, -⟩ := own_write (k := i * 6) h.own.2 (by omega)
  refine ⟨G, rfl, hGl, fun j hj => ?_, fun j y hj => ?_⟩
  · obtain ⟨G', e, _, _, _, q1, q2, _⟩ := own_write (k := i * 6 + j) h.own.2 (by omega)
    obtain rfl : G = G' := by simpa using e
    exact ⟨q1, q2⟩
  · obtain ⟨G', e, _, _, _, _, _, q3⟩ := own_write (k := i * 6 + j) h.own.2 (by omega)
    obtain rfl : G = G' := by simpa using e
    obtain ⟨k1, k2, k3, k4⟩ := h.far (k := i * 6 + j) hG hT (by decide) (.int .i64 y)
    have hx := List.getElem?_eq_getElem hi
    have ho := q3 (.int .i64 y) rfl
    rw [cellsS_set j hj y S i _ hx] at ho
    exact ⟨S.set i (setSt S[i] j y), by simp, f700_set j hj y hx, ⟨k1, k2, k3, k4, ⟨own_ty h.own.1 (p := ⟨G, i * 6 + j, none⟩) hT (by decide) _, by rw [List.length_set]; exact ho⟩, h.ne, h.old, h.gg⟩⟩
theorem DH.bed {a1 : Option Addr} {c1 i : Nat} (h : DH w0 W g ao cap bs R X (.slice a1 B.length c1) vs B S) (hi : i < B.length) : ∃ G, a1 = some ⟨G, 0, none⟩ ∧ G < W.heap.size ∧ (∀ j, j < 2 → (∃ u, W.cell? ⟨G, i * 2 + j, none⟩ = some u) ∧ W.frozen? ⟨G, i * 2 + j, none⟩ = false) ∧ ∀ j y, j < 2 → ∃ B', B'.length = B.length ∧ DH w0 (W.setCell ⟨G, i * 2 + j, none⟩ (.int .i64 y)) g ao cap bs R X (.slice a1 B.length c1) vs B' S := by
  obtain ⟨G, rfl, hG, hGl, hT, -⟩ := own_write (k := i * 2) h.own.1 (by omega)
  refine ⟨G, rfl, hGl, fun j hj => ?_, fun j y hj => ?_⟩
  · obtain ⟨G', e, _, _, _, q1, q2, _⟩ := own_write (k := i * 2 + j) h.own.1 (by omega)
    obtain rfl : G = G' := by simpa using e
    exact ⟨q1, q2⟩
  · obtain ⟨G', e, _, _, _, _, _, q3⟩ := own_write (k := i * 2 + j) h.own.1 (by omega)
    obtain rfl : G = G' := by simpa using e
    obtain ⟨k1, k2, k3, k4⟩ := h.far (k := i * 2 + j) hG hT (by decide) (.int .i64 y)
    have hx := List.getElem?_eq_getElem hi
    have ho := q3 (.int .i64 y) rfl
    rw [cellsB_set j hj y B i _ hx] at ho
    exact ⟨B.set i (setBd B[i] j y), by simp, ⟨k1, k2, k3, k4, ⟨by rw [List.length_set]; exact ho, own_ty h.own.2 (p := ⟨G, i * 2 + j, none⟩) hT (by decide) _⟩, h.ne, h.old, h.gg⟩⟩
end
end Go.Proofs.Ytklgadaefngnnaa
