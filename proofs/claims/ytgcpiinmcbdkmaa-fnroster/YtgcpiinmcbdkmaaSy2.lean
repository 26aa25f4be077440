/-
  Numbers in a block that are written in place; two ranges exchanged.
-/
import Derived.Test.YtgcpiinmcbdkmaaT2
import Derived.Test.YtgcpiinmcbdkmaaSy4
import Derived.Test.YtgcpiinmcbdkmaaGx
namespace Go.Proofs.Ytgcpiinmcbdkmaa
open Go.RowKit Go.WideShapes Va Lb Go.Maps
set_option linter.all false

theorem own_putS {W : World} {b e s n G c j : Nat} {xs : List Value} {u : Value} (h : W.ownsRow b e s (.slice (some ⟨G, 0, none⟩) n c) n xs) (hj : j < n * s) : (W.setCell ⟨G, j, none⟩ u).ownsRow b e s (.slice (some ⟨G, 0, none⟩) n c) n (xs.set j u) := by
  obtain ⟨q, ⟨h1, _⟩ | ⟨g, cap, cur, h1, hb, hg, hc, hm, hs, ht⟩⟩ := h
  · cases h1
  · simp only [Value.slice.injEq, Option.some.injEq, Addr.mk.injEq, and_true, true_and] at h1
    obtain ⟨rfl, rfl⟩ := h1
    have hP : PB W G cur e := hg
    have hns : n * s ≤ c * s := Nat.mul_le_mul_right s hc
    refine ⟨by rw [List.length_set]; exact q, .inr ⟨G, c, cur.setIfInBounds j u, rfl, hb, hP.set j u, hc, hm, by rw [Array.size_setIfInBounds]; exact hs, ?_⟩⟩
    rw [Array.toList_setIfInBounds, List.take_set, ht]
/-- The numbers l lie in block G, of room c, and may be written there. -/
def SR (c : Nat) (w : World) (G : Nat) (l : List Int) : Prop := w.ownsRow 0 2 1 (.slice (some ⟨G, 0, none⟩) l.length c) l.length (l.map fun z => Value.int .i64 z)
theorem SR.blk {c : Nat} {w : World} {G : Nat} {l : List Int} (h : SR c w G l) : ∃ cur, PB w G cur 2 ∧ l.length ≤ c ∧ cur.size = c ∧ cur.toList.take l.length = l.map fun z => Value.int .i64 z := by
  obtain ⟨q, ⟨h1, _⟩ | ⟨g, cap, cur, h1, hb, hg, hc, hm, hs, ht⟩⟩ := h
  · cases h1
  · simp only [Value.slice.injEq, Option.some.injEq, Addr.mk.injEq, and_true, true_and] at h1
    obtain ⟨rfl, rfl⟩ := h1
    exact ⟨cur, hg, hc, by simpa using hs, by simpa using ht⟩
theorem SR.lt {c : Nat} {w : World} {G : Nat} {l : List Int} (h : SR c w G l) : G < w.heap.size := by
  obtain ⟨cur, hg, _⟩ := h.blk
  exact (Array.getElem?_eq_some_iff.1 hg).1
theorem SR.get {c : Nat} {w : World} {G : Nat} {l : List Int} (h : SR c w G l) (i : Nat) (x : Int) (hx : l[i]? = some x) : w.cell? ⟨G, i, none⟩ = some (.int .i64 x) ∧ w.frozen? ⟨G, i, none⟩ = false := by
  obtain ⟨cur, hg, h1, h2, h3⟩ := h.blk
  refine ⟨?_, hg.frozen i⟩
  rw [hg.cell]
  have hk : (l.map fun z => Value.int .i64 z)[i]? = some (.int .i64 x) := by rw [List.getElem?_map, hx]; rfl
  rw [← h3, List.getElem?_take, if_pos (get_lt' hx), Array.getElem?_toList] at hk
  exact hk
theorem SR.below {c : Nat} {w w' : World} {G : Nat} {l : List Int} (h : SR c w G l) (hb : Below w.heap.size w w') : SR c w' G l := ownW_below h hb
theorem SR.set {c : Nat} {w : World} {G : Nat} {l : List Int} (h : SR c w G l) (i : Nat) (y : Int) : SR c (w.setCell ⟨G, i, none⟩ (.int .i64 y)) G (l.set i y) := by
  rcases Nat.lt_or_ge i l.length with hi | hi
  · have h2 := own_putS (j := i) (u := .int .i64 y) h (by omega)
    unfold SR
    rw [List.length_set, List.map_set]
    exact h2
  · rw [List.set_eq_of_length_le hi]
    obtain ⟨cur, hg, h1, h2, h3⟩ := h.blk
    refine ⟨by simp, .inr ⟨G, c, cur.setIfInBounds i (.int .i64 y), rfl, Nat.zero_le _, hg.set i _, h1, ?_, by simp [h2], ?_⟩⟩
    · obtain ⟨q, ⟨h1, _⟩ | ⟨g, cap, cur, h1, hb, hg, hc, hm, hs, ht⟩⟩ := h
      · cases h1
      · simp only [Value.slice.injEq, Option.some.injEq, Addr.mk.injEq, and_true, true_and] at h1
        obtain ⟨_, rfl⟩ := h1
        exact hm
    · rw [Array.toList_setIfInBounds, List.take_set, Nat.mul_one, h3, List.set_eq_of_length_le (by simp; omega)]
theorem SR.own {c : Nat} {w : World} {G b : Nat} {l : List Int} (h : SR c w G l) (hb : b ≤ G) : w.ownsRow b 2 1 (.slice (some ⟨G, 0, none⟩) l.length c) l.length (l.map fun z => Value.int .i64 z) := by
  obtain ⟨q, ⟨h1, _⟩ | ⟨g, cap, cur, h1, hb2, hg, hc, hm, hs, ht⟩⟩ := h
  · cases h1
  · simp only [Value.slice.injEq, Option.some.injEq, Addr.mk.injEq, and_true, true_and] at h1
    obtain ⟨rfl, rfl⟩ := h1
    exact ⟨q, .inr ⟨G, c, cur, rfl, hb, hg, hc, hm, hs, ht⟩⟩
open Sy

set_option maxRecDepth 20000 in
set_option maxHeartbeats 8000000 in
theorem swaprange_any (G c a b n : Nat) (d : List Int) (fv : Value) (w : World) (h : SR c w G d) (hl : d.length ≤ 1000) (ha : a + n ≤ d.length) (hb : b + n ≤ d.length) :
    Calls Try.prog 179 #[.slice (some ⟨G, 0, none⟩) d.length c, .int .i64 a, .int .i64 b, .int .i64 n, fv] w fun e w' => e = .returned (.tuple #[]) ∧ SR c w' G (swR d a b n) ∧ Below G w w' := by
  have HH := hidden h
  clear h
  go_enter Try.func179, Try.ntmps179
  go_wp2_with fail
  go_loopw [10] (fun iv wr => ∃ i : Nat, i ≤ n ∧ iv = .int .i64 i ∧ SR c wr G (swR d a b i) ∧ Below G w wr) (fun iv _ => n - (intOf iv).toNat)
  case atStart => exact ⟨0, Nat.zero_le _, rfl, HH.out, Below.refl _ _⟩
  case round =>
    obtain ⟨i, hi, rfl, hs, hbr⟩ := hrel
    by_cases hlt : i < n
    · have hlti : (i : Int) < (n : Int) := by omega
      have hlen := swR_len d a b i
      obtain ⟨x, hx⟩ : ∃ x, (swR d a b i)[a + i]? = some x := ⟨_, List.getElem?_eq_getElem (by omega)⟩
      obtain ⟨y, hy⟩ : ∃ y, (swR d a b i)[b + i]? = some y := ⟨_, List.getElem?_eq_getElem (by omega)⟩
      have e : swR d a b (i + 1) = ((swR d a b i).set (a + i) y).set (b + i) x := by
        rw [swR, sw, List.getD_eq_getElem?_getD, List.getD_eq_getElem?_getD, hx, hy]; rfl
      obtain ⟨e1, f1⟩ := hs.get _ _ hx
      obtain ⟨e2, f2⟩ := hs.get _ _ hy
      have HS3 : Hid (SR c ((wr.setCell ⟨G, a + i, none⟩ (.int .i64 y)).setCell ⟨G, b + i, none⟩ (.int .i64 x)) G (swR d a b (i + 1))) := by rw [e]; exact (hs.set (a + i) y).set (b + i) x
      have HB3 := hidden ((hbr.setCell (p := ⟨G, a + i, none⟩) (Nat.le_refl _) (.int .i64 y)).setCell (p := ⟨G, b + i, none⟩) (Nat.le_refl _) (.int .i64 x))
      obtain ⟨z, hz⟩ : ∃ z, ((swR d a b i).set (a + i) y)[b + i]? = some z := ⟨_, List.getElem?_eq_getElem (by rw [List.length_set]; omega)⟩
      obtain ⟨e3, f3⟩ := (hs.set (a + i) y).get _ _ hz
      have hwa : IntKind.i64.wrap ((a : Int) + (i : Int)) = ((a + i : Nat) : Int) := by rw [IntKind.wrap_i64]; omega
      have hwb : IntKind.i64.wrap ((b : Int) + (i : Int)) = ((b + i : Nat) : Int) := by rw [IntKind.wrap_i64]; omega
      have g1 : (a : Int) + (i : Int) < (d.length : Int) := by omega
      have g2 : (b : Int) + (i : Int) < (d.length : Int) := by omega
      have g3 : (0 : Int) ≤ (a : Int) + (i : Int) := by omega
      have g4 : (0 : Int) ≤ (b : Int) + (i : Int) := by omega
      clear hs hbr hx hy hz e hlen
      go_wp2_with fail
      go_region
      all_goals go_wp2_with fail
      all_goals go_roundw
      case rel => exact ⟨i + 1, by omega, rfl, HS3.out.below (st_drew (Below.refl _ _)), st_drew HB3.out⟩
      case measure => simp [intOf]; omega
    · obtain rfl : i = n := by omega
      have HS := hidden hs
      have HB := hidden hbr
      clear hs hbr
      go_wp2_with fail
      go_end0
      exact ⟨rfl, HS.out, HB.out⟩
end Go.Proofs.Ytgcpiinmcbdkmaa
