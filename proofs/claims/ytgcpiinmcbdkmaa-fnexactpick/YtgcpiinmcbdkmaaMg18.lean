/-
  Merged: Pk3.
-/
import Derived.Test.YtgcpiinmcbdkmaaMg17
import Derived.Test.YtgcpiinmcbdkmaaMg11
import Derived.Test.YtgcpiinmcbdkmaaMg3
namespace Go.Proofs.Ytgcpiinmcbdkmaa
open Go.RowKit Va Bl Pq
set_option linter.all false
abbrev UE := Ut × Value
instance : Inhabited UE := ⟨(default, .slice none 0 0)⟩
theorem own_putK {W : World} {b e s n G c j : Nat} {xs : List Value} {u : Value} (h : W.ownsRow b e s (.slice (some ⟨G, 0, none⟩) n c) n xs) (hj : j < n * s) : (W.setCell ⟨G, j, none⟩ u).ownsRow b e s (.slice (some ⟨G, 0, none⟩) n c) n (xs.set j u) := by
  obtain ⟨q, ⟨h1, _⟩ | ⟨g, cap, cur, h1, hb, hg, hc, hm, hs, ht⟩⟩ := h
  · cases h1
  · simp only [Value.slice.injEq, Option.some.injEq, Addr.mk.injEq, and_true, true_and] at h1
    obtain ⟨rfl, rfl⟩ := h1
    have hP : PB W G cur e := hg
    have hns : n * s ≤ c * s := Nat.mul_le_mul_right s hc
    refine ⟨by rw [List.length_set]; exact q, .inr ⟨G, c, cur.setIfInBounds j u, rfl, hb, hP.set j u, hc, hm, by rw [Array.size_setIfInBounds]; exact hs, ?_⟩⟩
    rw [Array.toList_setIfInBounds, List.take_set, ht]
def SU (c : Nat) (w : World) (G : Nat) (l : List UE) : Prop := w.ownsRow 0 81 6 (.slice (some ⟨G, 0, none⟩) l.length c) l.length (cellsU l)
theorem SU.blk {c : Nat} {w : World} {G : Nat} {l : List UE} (h : SU c w G l) : ∃ cur, PB w G cur 81 ∧ l.length ≤ c ∧ cur.toList.take (l.length * 6) = cellsU l := by
  obtain ⟨q, ⟨h1, _⟩ | ⟨g, cap, cur, h1, hb, hg, hc, hm, hs, ht⟩⟩ := h
  · cases h1
  · simp only [Value.slice.injEq, Option.some.injEq, Addr.mk.injEq, and_true, true_and] at h1
    obtain ⟨rfl, rfl⟩ := h1
    exact ⟨cur, hg, hc, ht⟩
theorem SU.lt {c : Nat} {w : World} {G : Nat} {l : List UE} (h : SU c w G l) : G < w.heap.size := by
  obtain ⟨cur, hg, _⟩ := h.blk
  exact (Array.getElem?_eq_some_iff.1 hg).1
theorem SU.cell {c : Nat} {w : World} {G : Nat} {l : List UE} (h : SU c w G l) {i k : Nat} {p : UE} {u : Value} (hp : l[i]? = some p) (hk : k < 6) (hu : (cells6 p)[k]? = some u) : w.cell? ⟨G, i * 6 + k, none⟩ = some u ∧ w.frozen? ⟨G, i * 6 + k, none⟩ = false := by
  obtain ⟨cur, hg, h1, h3⟩ := h.blk
  refine ⟨?_, hg.frozen _⟩
  have hi := get_lt' hp
  rw [hg.cell, ← hu, ← cellsU_get l i p k hp hk, ← h3, List.getElem?_take, if_pos (by omega), Array.getElem?_toList]
structure UC (w : World) (G o : Nat) (p : UE) : Prop where
  c0 : w.cell? ⟨G, o, none⟩ = some (.int .i64 p.1.id)
  c1 : w.cell? ⟨G, o + 1, none⟩ = some (.int .i64 p.1.grp)
  c2 : w.cell? ⟨G, o + 2, none⟩ = some p.2
  c3 : w.cell? ⟨G, o + 3, none⟩ = some (.int .i64 p.1.til)
  c4 : w.cell? ⟨G, o + 4, none⟩ = some (.int .i64 p.1.st)
  c5 : w.cell? ⟨G, o + 5, none⟩ = some (.int .i64 p.1.fr)
  f0 : w.frozen? ⟨G, o, none⟩ = false
  f1 : w.frozen? ⟨G, o + 1, none⟩ = false
  f2 : w.frozen? ⟨G, o + 2, none⟩ = false
  f3 : w.frozen? ⟨G, o + 3, none⟩ = false
  f4 : w.frozen? ⟨G, o + 4, none⟩ = false
  f5 : w.frozen? ⟨G, o + 5, none⟩ = false
theorem SU.at {c : Nat} {w : World} {G : Nat} {l : List UE} (h : SU c w G l) {i : Nat} (hi : i < l.length) : UC w G (i * 6) (at' l i) := by
  have hp := at_some hi
  have k0 := h.cell hp (k := 0) (by omega) rfl
  have k1 := h.cell hp (k := 1) (by omega) rfl
  have k2 := h.cell hp (k := 2) (by omega) rfl
  have k3 := h.cell hp (k := 3) (by omega) rfl
  have k4 := h.cell hp (k := 4) (by omega) rfl
  have k5 := h.cell hp (k := 5) (by omega) rfl
  exact ⟨k0.1, k1.1, k2.1, k3.1, k4.1, k5.1, k0.2, k1.2, k2.2, k3.2, k4.2, k5.2⟩
theorem SU.below {c : Nat} {w w' : World} {G : Nat} {l : List UE} (h : SU c w G l) (hb : Below w.heap.size w w') : SU c w' G l := ownW_below h hb
def put6 (w : World) (G o : Nat) (p : UE) : World := (((((w.setCell ⟨G, o, none⟩ (.int .i64 p.1.id)).setCell ⟨G, o + 1, none⟩ (.int .i64 p.1.grp)).setCell ⟨G, o + 2, none⟩ p.2).setCell ⟨G, o + 3, none⟩ (.int .i64 p.1.til)).setCell ⟨G, o + 4, none⟩ (.int .i64 p.1.st)).setCell ⟨G, o + 5, none⟩ (.int .i64 p.1.fr)
theorem cellsU_set (l : List UE) (i : Nat) (p : UE) (hi : i < l.length) : ((((((cellsU l).set (i * 6) (.int .i64 p.1.id)).set (i * 6 + 1) (.int .i64 p.1.grp)).set (i * 6 + 2) p.2).set (i * 6 + 3) (.int .i64 p.1.til)).set (i * 6 + 4) (.int .i64 p.1.st)).set (i * 6 + 5) (.int .i64 p.1.fr) = cellsU (l.set i p) := by
  induction l generalizing i with
  | nil => simp at hi
  | cons q l ih =>
    cases i with
    | zero => rfl
    | succ i =>
      have h := ih i (by simpa using hi)
      show _ = cells6 q ++ cellsU (l.set i p)
      rw [← h]
      have hq : (cells6 q).length = 6 := rfl
      have e : ∀ (xs : List Value) (k : Nat) (v : Value), (cells6 q ++ xs).set ((i + 1) * 6 + k) v = cells6 q ++ xs.set (i * 6 + k) v := fun xs k v => by
        rw [List.set_append_right _ _ (by rw [hq]; omega), hq]; congr 2; omega
      have e0 : ∀ (xs : List Value) (v : Value), (cells6 q ++ xs).set ((i + 1) * 6) v = cells6 q ++ xs.set (i * 6) v := fun xs v => e xs 0 v
      show ((((((cells6 q ++ cellsU l).set ((i + 1) * 6) _).set _ _).set _ _).set _ _).set _ _).set _ _ = _
      rw [e0, e, e, e, e, e]
theorem SU.put {c : Nat} {w : World} {G : Nat} {l : List UE} (h : SU c w G l) {i : Nat} (hi : i < l.length) (p : UE) : SU c (put6 w G (i * 6) p) G (l.set i p) := by
  have h2 := own_putK (own_putK (own_putK (own_putK (own_putK (own_putK h (j := i * 6) (u := .int .i64 p.1.id) (by omega)) (j := i * 6 + 1) (u := .int .i64 p.1.grp) (by omega)) (j := i * 6 + 2) (u := p.2) (by omega)) (j := i * 6 + 3) (u := .int .i64 p.1.til) (by omega)) (j := i * 6 + 4) (u := .int .i64 p.1.st) (by omega)) (j := i * 6 + 5) (u := .int .i64 p.1.fr) (by omega)
  rw [cellsU_set l i p hi] at h2
  unfold SU
  rw [List.length_set]
  exact h2
theorem SU.sw {c : Nat} {w : World} {G : Nat} {l : List UE} (h : SU c w G l) {i j : Nat} (hi : i < l.length) (hj : j < l.length) : SU c (put6 (put6 w G (i * 6) (at' l j)) G (j * 6) (at' l i)) G (Pq.sw l i j) :=
  (h.put hi (at' l j)).put (by rw [List.length_set]; exact hj) (at' l i)
theorem put6_below {B : Nat} {w0 w : World} {G o : Nat} (h : Below B w0 w) (hG : B ≤ G) (p : UE) : Below B w0 (put6 w G o p) :=
  (((((h.setCell (p := ⟨G, o, none⟩) hG _).setCell (p := ⟨G, o + 1, none⟩) hG _).setCell (p := ⟨G, o + 2, none⟩) hG _).setCell (p := ⟨G, o + 3, none⟩) hG _).setCell (p := ⟨G, o + 4, none⟩) hG _).setCell (p := ⟨G, o + 5, none⟩) hG _
end Go.Proofs.Ytgcpiinmcbdkmaa
