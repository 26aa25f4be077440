/-
  Numbers sorted, each once: the program's.
-/
import Derived.Test.YtbabknhccapaoaaShelf
import Derived.Test.YtbabknhccapaoaaM5
import Derived.Test.YtbabknhccapaoaaM2w
import Derived.Shelf.SortM.SortNone
import Derived.Lib.OwnBridge
import Derived.Lib.AppendIntMem
namespace Go.Proofs.Ytbabknhccapaoaa
open Go.RowKit Va Mg Go.Maps Go.Sort Go.Shelf
set_option linter.all false

theorem sortW_any (g cap base : Nat) (zs : List Int) (w : World) (hl : zs.length ≤ 1000000) (hrow : w.ownsRow base 2 1 (.slice (some ⟨g, 0, none⟩) zs.length cap) zs.length (zs.map (Value.int .i64))) :
    Calls Try.prog 43 #[.slice (some ⟨g, 0, none⟩) zs.length cap] w fun e w' => e = .returned (.tuple #[]) ∧ w'.ownsRow base 2 1 (.slice (some ⟨g, 0, none⟩) zs.length cap) zs.length ((zs.mergeSort (fun x y => decide (x ≤ y))).map (Value.int .i64)) ∧ (∀ w0, Below base w0 w → Below base w0 w') := by
  obtain ⟨g', cap', e0, hbg, hgl, _, _, _, hH⟩ := Go.Lib.holds_of_ownsRow hrow (by simp)
  obtain ⟨rfl, rfl⟩ : g = g' ∧ cap = cap' := by simpa using e0
  have hS := AnyM.slices_Sort_int Try.srtL g 0 cap zs w hH hgl (by omega)
  refine hS.mono ?_
  rintro e w' ⟨rfl, q, os, rfl⟩
  have ho := Go.Lib.ownsRow_putRow (q := q) (k := zs.length) (ys := zs.mergeSort (fun x y => decide (x ≤ y))) hrow (by simp) (Nat.le_refl _)
  rw [List.take_of_length_le (by simp)] at ho
  refine ⟨rfl, Go.Lib.ownsRow_grow ho 0 os, fun w0 hb0 => ?_⟩
  exact (Go.Lib.below_putRow hb0 hbg).trans (Go.Lib.below_grow base _ (by simp [putRow, mapBlock, Sort.ahead]; omega) 0 os)
theorem compW_any (g cap base : Nat) (zs : List Int) (w : World) (hl : zs.length ≤ 1000000) (hrow : w.ownsRow base 2 1 (.slice (some ⟨g, 0, none⟩) zs.length cap) zs.length (zs.map (Value.int .i64))) :
    Calls Try.prog 46 #[.slice (some ⟨g, 0, none⟩) zs.length cap] w fun e w' => e = .returned (.slice (some ⟨g, 0, none⟩) (Go.Lib.compact zs).length cap) ∧ w'.ownsRow base 2 1 (.slice (some ⟨g, 0, none⟩) (Go.Lib.compact zs).length cap) (Go.Lib.compact zs).length ((Go.Lib.compact zs).map (Value.int .i64)) ∧ (∀ w0, Below base w0 w → Below base w0 w') := by
  obtain ⟨g', cap', e0, hbg, hgl, hcp, _, _, hH⟩ := Go.Lib.holds_of_ownsRow hrow (by simp)
  obtain ⟨rfl, rfl⟩ : g = g' ∧ cap = cap' := by simpa using e0
  have hS := AnyG.slices_Compact_int Try.cmpL g 0 cap zs w hH (by omega) hcp
  have hcl : (Go.Lib.compact zs).length ≤ zs.length := by
    unfold Go.Lib.compact Go.Lib.compactUpTo
    rw [List.length_map]
    have := List.length_filter_le (Go.Lib.keeps zs.toArray) (List.range zs.length)
    simpa using this
  refine hS.mono ?_
  rintro e w' ⟨rfl, q, rfl⟩
  have ho := Go.Lib.ownsRow_putRow (q := q) (k := (Go.Lib.compact zs).length) (ys := Go.Lib.compact zs ++ List.replicate (zs.length - (Go.Lib.compact zs).length) 0) hrow (by simp; omega) hcl
  rw [List.take_left'  rfl] at ho
  exact ⟨rfl, ho, fun w0 hb0 => Go.Lib.below_putRow hb0 hbg⟩
theorem ownY_base {w : World} {b b' e s n : Nat} {v : Value} {xs : List Value} (h : w.ownsRow b e s v n xs) (hb : b' ≤ b) : w.ownsRow b' e s v n xs := by
  obtain ⟨q, ⟨q1, q2⟩ | ⟨g, c, cur, rfl, hg, r⟩⟩ := h
  · exact ⟨q, Or.inl ⟨q1, q2⟩⟩
  · exact ⟨q, Or.inr ⟨g, c, cur, rfl, Nat.le_trans hb hg, r⟩⟩
theorem ownY_grown {w w' : World} {base e s n : Nat} {v : Value} {xs : List Value} {row : Option Nat} (h : w.ownsRow base e s v n xs) (hg : w.grownBy w' row) (hne : ∀ k, v.ownBlock = some k → some k ≠ row) : w'.ownsRow base e s v n xs := by
  obtain ⟨q, ⟨q1, q2⟩ | ⟨g, c, cur, rfl, hb, hh, r⟩⟩ := h
  · exact ⟨q, Or.inl ⟨q1, q2⟩⟩
  · exact ⟨q, Or.inr ⟨g, c, cur, rfl, hb, (hg.block g (Array.getElem?_eq_some_iff.1 hh).1 (hne g rfl)).trans hh, r⟩⟩
theorem ownY_apart {w : World} {b1 b2 e1 e2 s1 s2 n1 n2 : Nat} {v1 v2 : Value} {xs ys : List Value} (h1 : w.ownsRow b1 e1 s1 v1 n1 xs) (h2 : w.ownsRow b2 e2 s2 v2 n2 ys) (he : e1 ≠ e2) : ∀ k, v1.ownBlock = some k → some k ≠ v2.ownBlock := by
  obtain ⟨_, ⟨rfl, _⟩ | ⟨g, c, cur, rfl, hb, hh, _⟩⟩ := h1
  · intro k hk; cases hk
  · obtain ⟨_, ⟨rfl, _⟩ | ⟨g2, c2, cur2, rfl, hb2, hh2, _⟩⟩ := h2
    · intro k hk e; cases e
    · intro k hk e
      cases hk
      have e2 : g = g2 := Option.some.inj e
      rw [← e2, hh] at hh2
      have := Option.some.inj hh2
      simp only [Obj.cells.injEq] at this
      exact he this.2.1
theorem cell_overW (w : World) (o : Obj) (a : Value) (t : TypeId) : ∀ (j : Nat) (u : Value), [a][j]? = some u → ((w.alloc o).alloc (.cells #[a] t)).cell? ((⟨w.heap.size + 1, 0, none⟩ : Addr).add j) = some u := fun j u hu => by
  have := cell_oneW (w.alloc o) a t j u hu
  simpa using this

set_option maxRecDepth 20000 in
set_option maxHeartbeats 4000000 in
theorem rising_any (ad : Option Addr) (cap base : Nat) (zs : List Int) (w : World) (hl : zs.length ≤ 1000000) (hrow : w.ownsRow base 2 1 (.slice ad zs.length cap) zs.length (zs.map fun z => Value.int .i64 z)) :
    Calls Try.prog 26 #[.slice ad zs.length cap] w fun e w' => e = .returned (.slice ad (rise zs).length cap) ∧ w'.ownsRow base 2 1 (.slice ad (rise zs).length cap) (rise zs).length ((rise zs).map fun z => Value.int .i64 z) ∧ (∀ w0, Below base w0 w → Below base w0 w') := by
  by_cases hz : zs = []
  · subst hz
    have k1 := fun W => AnyM.slices_Sort_int_none Try.srtL ad cap W
    have k2 := fun W => AnyG.slices_Compact_int_empty Try.cmpL ad cap W
    have HR := hidden hrow
    clear hrow hl
    simp only [rise_nil]
    simp only [List.length_nil] at *
    go_enter Try.func26, Try.ntmps26
    go_wp2_with (first
      | (go_at_call 43; refine (k1 _).mono ?_; rintro e w1 ⟨rfl, rfl⟩)
      | (go_at_call 46; refine (k2 _).mono ?_; rintro e w2 ⟨rfl, rfl⟩))
    go_ret
    exact ⟨rfl, HR.out, fun w0 h => h⟩
  · have hpos : 0 < zs.length := List.length_pos_iff.2 hz
    obtain ⟨g, rfl⟩ : ∃ g, ad = some ⟨g, 0, none⟩ := by
      obtain ⟨g', cap', e0, -⟩ := Go.Lib.holds_of_ownsRow hrow (by intro e; simp only [Value.slice.injEq] at e; omega)
      exact ⟨g', by simpa using (show _ ∧ _ from by simpa using e0).1⟩
    have k1 := sortW_any g cap base zs w hl hrow
    have k2 := fun W (hW : W.ownsRow base 2 1 (.slice (some ⟨g, 0, none⟩) zs.length cap) zs.length ((zs.mergeSort (fun x y => decide (x ≤ y))).map (Value.int .i64))) => compW_any g cap base (zs.mergeSort (fun x y => decide (x ≤ y))) W (by rw [List.length_mergeSort]; exact hl) (by rw [List.length_mergeSort]; exact hW)
    simp only [List.length_mergeSort] at k2
    change ∀ W, _ → Calls Try.prog _ _ W fun e w' => e = .returned (.slice (some ⟨g, 0, none⟩) (rise zs).length cap) ∧ w'.ownsRow base 2 1 (.slice (some ⟨g, 0, none⟩) (rise zs).length cap) (rise zs).length ((rise zs).map (Value.int .i64)) ∧ (∀ w0, Below base w0 W → Below base w0 w') at k2
    clear hrow hz
    generalize rise zs = R at *
    go_enter Try.func26, Try.ntmps26
    go_wp2_with (first
      | (go_at_call 43; refine k1.mono ?_; rintro e w1 ⟨rfl, ho1, hb1⟩)
      | (go_at_call 46; refine (k2 _ ho1).mono ?_; rintro e w2 ⟨rfl, ho2, hb2⟩))
    go_ret
    exact ⟨rfl, ho2, fun w0 h => hb2 _ (hb1 _ h)⟩

end Go.Proofs.Ytbabknhccapaoaa
