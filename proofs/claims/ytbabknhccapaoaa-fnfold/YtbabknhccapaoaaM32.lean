/-
  Rows of letters of the call's own: read, written in place. Plain steps of the fold.
-/
import Derived.Test.YtbabknhccapaoaaM31
import Derived.Test.YtbabknhccapaoaaM3
import Derived.Test.YtbabknhccapaoaaM2f
import Derived.Maps.AppendAt
namespace Go.Proofs.Ytbabknhccapaoaa
open Go.RowKit Va Mg Go.Maps
set_option linter.all false

theorem ownM_cell {w : World} {base t s n G c : Nat} {xs : List Value} (h : w.ownsRow base t s (.slice (some ⟨G, 0, none⟩) n c) n xs) (k : Nat) (hk : k < n * s) (v : Value) : (w.setCell ⟨G, k, none⟩ v).ownsRow base t s (.slice (some ⟨G, 0, none⟩) n c) n (xs.set k v) := by
  obtain ⟨h1, ⟨h2, _⟩ | ⟨g, cap, cur, h2, hb, hg, hc, hm, hs, ht⟩⟩ := h
  · cases h2
  · simp only [Value.slice.injEq, Option.some.injEq, Addr.mk.injEq, and_true, true_and] at h2
    obtain ⟨rfl, rfl⟩ := h2
    refine ⟨by rw [List.length_set]; exact h1, Or.inr ⟨G, c, cur.setIfInBounds k v, rfl, hb, ?_, hc, hm, by simpa using hs, ?_⟩⟩
    · simp only [World.setCell, Array.getElem?_modify]
      rw [if_pos trivial, hg]
      rfl
    · rw [Array.toList_setIfInBounds, List.take_set, ht]
theorem ownM_at {w : World} {base t s n G c : Nat} {xs : List Value} (h : w.ownsRow base t s (.slice (some ⟨G, 0, none⟩) n c) n xs) {k : Nat} {v : Value} (hk : xs[k]? = some v) : w.cell? ⟨G, k, none⟩ = some v ∧ w.frozen? ⟨G, k, none⟩ = false := by
  obtain ⟨h1, ⟨h2, _⟩ | ⟨g, cap, cur, h2, hb, hg, hc, hm, hs, ht⟩⟩ := h
  · cases h2
  · simp only [Value.slice.injEq, Option.some.injEq, Addr.mk.injEq, and_true, true_and] at h2
    obtain ⟨rfl, rfl⟩ := h2
    constructor
    · rw [← ht, List.getElem?_take] at hk
      split at hk
      · rw [Array.getElem?_toList] at hk
        simp only [World.cell?, hg]
        exact hk
      · cases hk
    · simp only [World.frozen?, hg]
      simp
theorem ownM_lt {w : World} {base t s n G c : Nat} {xs : List Value} (h : w.ownsRow base t s (.slice (some ⟨G, 0, none⟩) n c) n xs) : base ≤ G ∧ G < w.heap.size := by
  obtain ⟨h1, ⟨h2, _⟩ | ⟨g, cap, cur, h2, hb, hg, hc, hm, hs, ht⟩⟩ := h
  · cases h2
  · simp only [Value.slice.injEq, Option.some.injEq, Addr.mk.injEq, and_true, true_and] at h2
    obtain ⟨rfl, rfl⟩ := h2
    exact ⟨hb, (Array.getElem?_eq_some_iff.1 hg).1⟩
section
variable {α : Type} {cs : α → Nat → Value}
theorem vcells5_set (l : List α) (i : Nat) (x : α) (hi : i < l.length) : (((((vcellsL 5 cs l).set (i * 5) (cs x 0)).set (i * 5 + 1) (cs x 1)).set (i * 5 + 2) (cs x 2)).set (i * 5 + 3) (cs x 3)).set (i * 5 + 4) (cs x 4) = vcellsL 5 cs (l.set i x) := by
  refine List.ext_getElem? fun k => ?_
  have hlen : (vcellsL 5 cs l).length = l.length * 5 := vcellsL_len l
  by_cases hk : k < l.length * 5
  · obtain ⟨q, r, hr, rfl⟩ : ∃ q r, r < 5 ∧ k = q * 5 + r := ⟨k / 5, k % 5, Nat.mod_lt _ (by decide), by omega⟩
    obtain ⟨y, hy⟩ : ∃ y, l[q]? = some y := ⟨_, List.getElem?_eq_getElem (by omega)⟩
    by_cases e : q = i
    · subst e
      rw [vcellsL_get (l.set q x) q x (by rw [List.getElem?_set_self hi]) r hr]
      have hl3 : q * 5 + r < (vcellsL 5 cs l).length := by rw [hlen]; omega
      rcases (show r = 0 ∨ r = 1 ∨ r = 2 ∨ r = 3 ∨ r = 4 by omega) with rfl | rfl | rfl | rfl | rfl
      · rw [List.getElem?_set_ne (by omega), List.getElem?_set_ne (by omega), List.getElem?_set_ne (by omega), List.getElem?_set_ne (by omega), Nat.add_zero, List.getElem?_set_self (by omega)]
      · rw [List.getElem?_set_ne (by omega), List.getElem?_set_ne (by omega), List.getElem?_set_ne (by omega), List.getElem?_set_self (by simp only [List.length_set]; omega)]
      · rw [List.getElem?_set_ne (by omega), List.getElem?_set_ne (by omega), List.getElem?_set_self (by simp only [List.length_set]; omega)]
      · rw [List.getElem?_set_ne (by omega), List.getElem?_set_self (by simp only [List.length_set]; omega)]
      · rw [List.getElem?_set_self (by simp only [List.length_set]; omega)]
    · rw [vcellsL_get (l.set i x) q y (by rw [List.getElem?_set_ne (Ne.symm e)]; exact hy) r hr, List.getElem?_set_ne (by omega), List.getElem?_set_ne (by omega), List.getElem?_set_ne (by omega), List.getElem?_set_ne (by omega), List.getElem?_set_ne (by omega)]
      exact vcellsL_get l q y hy r hr
  · rw [List.getElem?_eq_none (by simp only [List.length_set]; rw [hlen]; omega), List.getElem?_eq_none (by rw [vcellsL_len, List.length_set]; omega)]
theorem ownM_put5 {w : World} {base t n G c : Nat} {l : List α} (h : w.ownsRow base t 5 (.slice (some ⟨G, 0, none⟩) n c) n (vcellsL 5 cs l)) (hn : l.length = n) {i : Nat} (hi : i < n) (x : α) :
    (((((w.setCell ⟨G, i * 5, none⟩ (cs x 0)).setCell ⟨G, i * 5 + 1, none⟩ (cs x 1)).setCell ⟨G, i * 5 + 2, none⟩ (cs x 2)).setCell ⟨G, i * 5 + 3, none⟩ (cs x 3)).setCell ⟨G, i * 5 + 4, none⟩ (cs x 4)).ownsRow base t 5 (.slice (some ⟨G, 0, none⟩) n c) n (vcellsL 5 cs (l.set i x)) := by
  rw [← vcells5_set l i x (by omega)]
  exact ownM_cell (ownM_cell (ownM_cell (ownM_cell (ownM_cell h (i * 5) (by omega) _) (i * 5 + 1) (by omega) _) (i * 5 + 2) (by omega) _) (i * 5 + 3) (by omega) _) (i * 5 + 4) (by omega) _
end
/-- The letters I lie in block G. -/
abbrev InR (w : World) (base G c : Nat) (I : List Lt) : Prop := w.ownsRow base 29 5 (.slice (some ⟨G, 0, none⟩) I.length c) I.length (vcellsL 5 cvLt I)
theorem inr_cell {w : World} {base G c : Nat} {I : List Lt} (h : InR w base G c I) {j : Nat} {y : Lt} (hy : I[j]? = some y) {k : Nat} (hk : k < 5) : w.cell? ⟨G, j * 5 + k, none⟩ = some (cvLt y k) ∧ w.frozen? ⟨G, j * 5 + k, none⟩ = false :=
  ownM_at h (vcellsL_get I j y hy k hk)
theorem inr_some {w : World} {base e s n : Nat} {v : Value} {xs : List Value} (h : w.ownsRow base e s v n xs) (hn : 0 < n) : ∃ G c, v = .slice (some ⟨G, 0, none⟩) n c := by
  obtain ⟨_, ⟨rfl, h0⟩ | ⟨g, cap, cur, rfl, _⟩⟩ := h
  · omega
  · exact ⟨g, cap, rfl⟩
theorem infoLet : (Try.prog.info? 29).map (fun i => (i.zero, i.size, i.bytes)) = some (some (.agg #[.int .i64 0, .int .i64 0, .int .i64 0, .int .i64 0, .int .i64 0]), 5, 40) := by kernel_rfl
theorem infoFc : (Try.prog.info? 31).map (fun i => (i.zero, i.size, i.bytes)) = some (some (.agg #[.int .i64 0, .int .i64 0]), 2, 16) := by kernel_rfl
theorem cell_fiveM (w : World) (a b c d e : Value) (t : TypeId) : ∀ (j : Nat) (u : Value), [a, b, c, d, e][j]? = some u → (w.alloc (.cells #[a, b, c, d, e] t)).cell? ((⟨w.heap.size, 0, none⟩ : Addr).add j) = some u := fun j u hu => by
  have e0 : (w.alloc (Obj.cells #[a, b, c, d, e] t)).heap[w.heap.size]? = some (Obj.cells #[a, b, c, d, e] t) := (MapKept.heap_alloc w _).1
  rw [Addr.add_lit, Nat.zero_add]
  simp only [World.cell?, e0]
  simpa using hu
theorem cell_twoS (w : World) (a b : Value) (t : TypeId) : ∀ (j : Nat) (u : Value), [a, b][j]? = some u → (w.alloc (.cells #[a, b] t)).cell? ((⟨w.heap.size, 0, none⟩ : Addr).add j) = some u := fun j u hu => by
  have e0 : (w.alloc (Obj.cells #[a, b] t)).heap[w.heap.size]? = some (Obj.cells #[a, b] t) := (MapKept.heap_alloc w _).1
  rw [Addr.add_lit, Nat.zero_add]
  simp only [World.cell?, e0]
  simpa using hu
theorem PB.fiveS {W : World} {B : Nat} {t : TypeId} {v0 v1 v2 v3 v4 : Value} (h : PB W B #[v0, v1, v2, v3, v4] t) : W.cell? ⟨B, 0, none⟩ = some v0 ∧ W.cell? ⟨B, 1, none⟩ = some v1 ∧ W.cell? ⟨B, 2, none⟩ = some v2 ∧ W.cell? ⟨B, 3, none⟩ = some v3 ∧ W.cell? ⟨B, 4, none⟩ = some v4 := ⟨h.cell 0, h.cell 1, h.cell 2, h.cell 3, h.cell 4⟩
def ivS (v : Value) : Nat := match v with | .int _ z => z.toNat | _ => 0
theorem own_grownS {w w' : World} {base e s n : Nat} {v : Value} {xs : List Value} {row : Option Nat} (h : w.ownsRow base e s v n xs) (hg : w.grownBy w' row) (hne : ∀ k, v.ownBlock = some k → some k ≠ row) : w'.ownsRow base e s v n xs := by
  obtain ⟨q, ⟨q1, q2⟩ | ⟨g, c, cur, rfl, hb, hh, r⟩⟩ := h
  · exact ⟨q, Or.inl ⟨q1, q2⟩⟩
  · exact ⟨q, Or.inr ⟨g, c, cur, rfl, hb, (hg.block g (Array.getElem?_eq_some_iff.1 hh).1 (hne g rfl)).trans hh, r⟩⟩
theorem own_apartS {w : World} {b1 b2 e1 e2 s1 s2 n1 n2 : Nat} {v1 v2 : Value} {xs ys : List Value} (h1 : w.ownsRow b1 e1 s1 v1 n1 xs) (h2 : w.ownsRow b2 e2 s2 v2 n2 ys) (he : e1 ≠ e2) : ∀ k, v1.ownBlock = some k → some k ≠ v2.ownBlock := by
  intro k hk e
  obtain ⟨_, ⟨rfl, _⟩ | ⟨g, c, cur, rfl, _, hh, _⟩⟩ := h1
  · cases hk
  · obtain ⟨_, ⟨rfl, _⟩ | ⟨g', c', cur', rfl, _, hh', _⟩⟩ := h2
    · cases e
    · have a1 : g = k := by simpa [Value.ownBlock] using hk
      have a2 : k = g' := by simpa [Value.ownBlock] using e
      subst a1 a2
      rw [hh] at hh'
      simp only [Option.some.injEq, Obj.cells.injEq] at hh'
      exact he hh'.2.1
end Go.Proofs.Ytbabknhccapaoaa
