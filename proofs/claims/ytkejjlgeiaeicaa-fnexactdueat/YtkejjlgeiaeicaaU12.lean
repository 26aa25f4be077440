/-
  Rows in blocks of one's own that are written into: structs of three cells. No program in sight.
-/
import Derived.Test.YtkejjlgeiaeicaaRv
import Derived.Test.YtkejjlgeiaeicaaGw
import Derived.Test.YtkejjlgeiaeicaaGx
import Derived.Maps.AppendAt
namespace Go.Proofs.Ytkejjlgeiaeicaa
open Go.RowKit Go.Maps
set_option linter.all false

theorem ownU_cell {w : World} {base t s n G c : Nat} {xs : List Value} (h : w.ownsRow base t s (.slice (some ⟨G, 0, none⟩) n c) n xs) (k : Nat) (hk : k < n * s) (v : Value) : (w.setCell ⟨G, k, none⟩ v).ownsRow base t s (.slice (some ⟨G, 0, none⟩) n c) n (xs.set k v) := by
  obtain ⟨h1, ⟨h2, _⟩ | ⟨g, cap, cur, h2, hb, hg, hc, hm, hs, ht⟩⟩ := h
  · cases h2
  · simp only [Value.slice.injEq, Option.some.injEq, Addr.mk.injEq, and_true, true_and] at h2
    obtain ⟨rfl, rfl⟩ := h2
    refine ⟨by rw [List.length_set]; exact h1, Or.inr ⟨G, c, cur.setIfInBounds k v, rfl, hb, ?_, hc, hm, by simpa using hs, ?_⟩⟩
    · simp only [World.setCell, Array.getElem?_modify]
      rw [if_pos trivial, hg]
      rfl
    · rw [Array.toList_setIfInBounds, List.take_set, ht]
theorem ownU_at {w : World} {base t s n G c : Nat} {xs : List Value} (h : w.ownsRow base t s (.slice (some ⟨G, 0, none⟩) n c) n xs) {k : Nat} {v : Value} (hk : xs[k]? = some v) : w.cell? ⟨G, k, none⟩ = some v ∧ w.frozen? ⟨G, k, none⟩ = false := by
  obtain ⟨h1, ⟨h2, _⟩ | ⟨g, cap, cur, h2, hb, hg, hc, hm, hs, ht⟩⟩ := h
  · cases h2
  · simp only [Value.slice.injEq, Option.some.injEq, Addr.mk.injEq, and_true, true_and] at h2
    obtain ⟨rfl, rfl⟩ := h2
    constructor
    · rw [← ht, List.getElem?_take] at hk
      split at hk
      · rw [Array.getElem?_toList] at hk
        simp only [World.cell?, hg]
        exact hk
      · cases hk
    · simp only [World.frozen?, hg]
      simp
theorem ownU_lt {w : World} {base t s n G c : Nat} {xs : List Value} (h : w.ownsRow base t s (.slice (some ⟨G, 0, none⟩) n c) n xs) : base ≤ G ∧ G < w.heap.size := by
  obtain ⟨h1, ⟨h2, _⟩ | ⟨g, cap, cur, h2, hb, hg, hc, hm, hs, ht⟩⟩ := h
  · cases h2
  · simp only [Value.slice.injEq, Option.some.injEq, Addr.mk.injEq, and_true, true_and] at h2
    obtain ⟨rfl, rfl⟩ := h2
    exact ⟨hb, (Array.getElem?_eq_some_iff.1 hg).1⟩
theorem ownU_ty {w : World} {base t s n B tb : Nat} {v : Value} {xs : List Value} {vs : Array Value} (h : w.ownsRow base t s v n xs) (hp : PB w B vs tb) (hne : tb ≠ t) : v.ownBlock ≠ some B := by
  obtain ⟨h1, ⟨rfl, _⟩ | ⟨g, cap, cur, rfl, hb, hg, hc, hm, hs, ht⟩⟩ := h
  · intro e; cases e
  · intro e
    obtain rfl : g = B := by simpa [Value.ownBlock] using e
    unfold PB at hp
    rw [hp] at hg
    simp at hg
    exact hne hg.2
theorem PB.kept {w w' : World} {B tb : Nat} {vs : Array Value} {r : Option Nat} (h : PB w B vs tb) (hg : w.grownBy w' r) (hr : r ≠ some B) : PB w' B vs tb := (hg.block B h.lt (fun e => hr e.symm)).trans h
theorem ownU_keep {w w' : World} {b e s n : Nat} {v : Value} {xs : List Value} (h : w.ownsRow b e s v n xs) (hb : Below w.heap.size w w') : w'.ownsRow b e s v n xs := ownW_below h hb

section
variable {α : Type} {cs : α → Nat → Value}
theorem vcells3_set (l : List α) (i : Nat) (x : α) (hi : i < l.length) : (((vcellsL 3 cs l).set (i * 3) (cs x 0)).set (i * 3 + 1) (cs x 1)).set (i * 3 + 2) (cs x 2) = vcellsL 3 cs (l.set i x) := by
  refine List.ext_getElem? fun k => ?_
  have hlen : (vcellsL 3 cs l).length = l.length * 3 := vcellsL_len l
  by_cases hk : k < l.length * 3
  · obtain ⟨q, r, hr, rfl⟩ : ∃ q r, r < 3 ∧ k = q * 3 + r := ⟨k / 3, k % 3, Nat.mod_lt _ (by decide), by omega⟩
    obtain ⟨y, hy⟩ : ∃ y, l[q]? = some y := ⟨_, List.getElem?_eq_getElem (by omega)⟩
    by_cases e : q = i
    · subst e
      rw [vcellsL_get (l.set q x) q x (by rw [List.getElem?_set_self hi]) r hr]
      have hl3 : q * 3 + r < (vcellsL 3 cs l).length := by rw [hlen]; omega
      rcases (show r = 0 ∨ r = 1 ∨ r = 2 by omega) with rfl | rfl | rfl
      · rw [List.getElem?_set_ne (by omega), List.getElem?_set_ne (by omega), Nat.add_zero, List.getElem?_set_self (by omega)]
      · rw [List.getElem?_set_ne (by omega), List.getElem?_set_self (by rw [List.length_set]; omega)]
      · rw [List.getElem?_set_self (by rw [List.length_set, List.length_set]; omega)]
    · rw [vcellsL_get (l.set i x) q y (by rw [List.getElem?_set_ne (Ne.symm e)]; exact hy) r hr, List.getElem?_set_ne (by omega), List.getElem?_set_ne (by omega), List.getElem?_set_ne (by omega)]
      exact vcellsL_get l q y hy r hr
  · rw [List.getElem?_eq_none (by rw [List.length_set, List.length_set, List.length_set, hlen]; omega), List.getElem?_eq_none (by rw [vcellsL_len, List.length_set]; omega)]
theorem ownU_put3 {w : World} {base t n G c : Nat} {l : List α} (h : w.ownsRow base t 3 (.slice (some ⟨G, 0, none⟩) n c) n (vcellsL 3 cs l)) (hn : l.length = n) {i : Nat} (hi : i < n) (x : α) :
    (((w.setCell ⟨G, i * 3, none⟩ (cs x 0)).setCell ⟨G, i * 3 + 1, none⟩ (cs x 1)).setCell ⟨G, i * 3 + 2, none⟩ (cs x 2)).ownsRow base t 3 (.slice (some ⟨G, 0, none⟩) n c) n (vcellsL 3 cs (l.set i x)) := by
  rw [← vcells3_set l i x (by omega)]
  exact ownU_cell (ownU_cell (ownU_cell h (i * 3) (by omega) _) (i * 3 + 1) (by omega) _) (i * 3 + 2) (by omega) _
end
theorem below_put3 {w0 w : World} {base G : Nat} (hb : Below base w0 w) (hG : base ≤ G) (k : Nat) (a b c : Value) : Below base w0 (((w.setCell ⟨G, k, none⟩ a).setCell ⟨G, k + 1, none⟩ b).setCell ⟨G, k + 2, none⟩ c) :=
  ((hb.setCell hG _).setCell hG _).setCell hG _
theorem PB.far3 {W : World} {B b tb : Nat} {vs : Array Value} (h : PB W B vs tb) (hb : b ≠ B) (k : Nat) (x y z : Value) : PB (((W.setCell ⟨b, k, none⟩ x).setCell ⟨b, k + 1, none⟩ y).setCell ⟨b, k + 2, none⟩ z) B vs tb :=
  ((h.far hb _ _).far hb _ _).far hb _ _
end Go.Proofs.Ytkejjlgeiaeicaa
