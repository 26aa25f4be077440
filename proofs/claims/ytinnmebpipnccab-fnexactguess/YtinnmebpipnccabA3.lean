/-
  Masked and Guess: the program.
-/
import Derived.Test.YtinnmebpipnccabA2
import Derived.Test.YtinnmebpipnccabGx
import Derived.Deep.AppendSrc
import Derived.Laws.AppendOwn
namespace Go.Proofs.Ytinnmebpipnccab
open Go.RowKit Va Ax
set_option linter.all false

theorem own_putA {W : World} {b e s n G c j : Nat} {xs : List Value} {u : Value} (h : W.ownsRow b e s (.slice (some ⟨G, 0, none⟩) n c) n xs) (hj : j < n * s) : (∃ u, W.cell? ⟨G, j, none⟩ = some u) ∧ W.frozen? ⟨G, j, none⟩ = false ∧ (W.setCell ⟨G, j, none⟩ u).ownsRow b e s (.slice (some ⟨G, 0, none⟩) n c) n (xs.set j u) := by
  obtain ⟨q, ⟨h1, _⟩ | ⟨g, cap, cur, h1, hb, hg, hc, hm, hs, ht⟩⟩ := h
  · cases h1
  · simp only [Value.slice.injEq, Option.some.injEq, Addr.mk.injEq, and_true, true_and] at h1
    obtain ⟨rfl, rfl⟩ := h1
    have hP : PB W G cur e := hg
    have hns : n * s ≤ c * s := Nat.mul_le_mul_right s hc
    refine ⟨⟨cur[j]'(by omega), by rw [hP.cell]; exact Array.getElem?_eq_getElem (by omega)⟩, hP.frozen j, by rw [List.length_set]; exact q, .inr ⟨G, c, cur.setIfInBounds j u, rfl, hb, hP.set j u, hc, hm, by rw [Array.size_setIfInBounds]; exact hs, ?_⟩⟩
    rw [Array.toList_setIfInBounds, List.take_set, ht]
theorem intsA_one (l : List Int) : ∀ u ∈ (l.map fun z => Value.int .i64 z), u.oneCell' = true := by
  intro u hu
  obtain ⟨z, _, rfl⟩ := List.mem_map.1 hu
  rfl
theorem ownA_some {w : World} {b e n cc : Nat} {ca : Option Addr} {xs : List Value} (h : w.ownsRow b e 1 (.slice ca n cc) n xs) (hn : 0 < n) : ∃ g, ca = some ⟨g, 0, none⟩ ∧ b ≤ g := by
  obtain ⟨_, ⟨h1, _⟩ | ⟨g, cap, cur, h1, hb, hh, _⟩⟩ := h
  · cases h1; omega
  · cases h1; exact ⟨g, rfl, hb⟩
theorem map_setA (l : List Int) (i : Nat) (z : Int) : (l.map fun z => Value.int .i64 z).set i (.int .i64 z) = (l.set i z).map fun z => Value.int .i64 z := by
  rw [List.map_set]

/-- Numbers are appended to an empty row of one's own; they may be none, and the slice nil. -/
theorem wpList_newA {ops : Array Oper} {rest : List Oper} {o : Oper} {a : Act} {w : World} {Q : Exit → Act → World → Prop} (hgd : o.guard = none) (s x : Operand)
    (ho : o.op = .call { callee := .builtin .append, args := #[s, x], argTypes := #[22, 22] }) (g : Nat) (hs : a.eval s = .slice (some ⟨g, 0, none⟩) 0 0) (hblk : w.heap[g]? = some (.cells #[] 2))
    (ao : Option Addr) (n cap : Nat) (l : List Int) (hx : a.eval x = .slice ao n cap) (hrow : VRw 1 cvI w (.slice ao n cap) l) (hn : l.length ≤ 1048576)
    (h : ∀ v' w', w'.ownsRow g 2 1 v' l.length (l.map fun z => Value.int .i64 z) → w.grownBy w' (some g) → wpList Try.prog ops Q rest (a.put o.dst v') w') : wpList Try.prog ops Q (o :: rest) a w := by
  obtain ⟨i0, hi, hz0, hz1, hz2⟩ := info_partsW infoW64
  have hlt := (Array.getElem?_eq_some_iff.1 hblk).1
  have hown : w.ownsRow g 2 1 (.slice (some ⟨g, 0, none⟩) 0 0) 0 [] := ⟨by simp, .inr ⟨g, 0, #[], rfl, Nat.le_refl _, hblk, Nat.le_refl _, Nat.zero_le _, by simp, by simp⟩⟩
  obtain rfl := hrow.len
  cases ao with
  | none =>
    have hl : l = [] := by
      obtain ⟨ao', cap', he, _, h2⟩ := hrow
      simp only [Value.slice.injEq, true_and] at he
      rcases h2 with h2 | ⟨b, off, h3, _⟩
      · exact List.eq_nil_of_length_eq_zero h2
      · rw [← he.1] at h3; cases h3
    subst hl
    refine wpList_plain hgd fun _ hK => ?_
    have hsrc : Src Try.prog i0.size 22 (.slice none ([] : List Int).length cap) 0 [] w := Src.ofNil w Try.underlying22 cap
    have hr := run_append_room_src (P := Try.prog) w 22 22 o.type 2 i0 Try.underlying22 hi g 0 0 0 _ 0 [] hsrc (Nat.le_refl _) (fun j hj => absurd hj (Nat.not_lt_zero _)) (fun j hj => absurd hj (Nat.not_lt_zero _))
    unfold Oper.wp execOp
    simp only [ho, resolve, invoke, builtin, Sem.run_bind, Sem.run_pure, Result.andThen_ok, List.map_toArray, List.map_cons, List.map_nil, hs, hx, hr]
    exact hK _ _ (h _ _ hown ⟨rfl, rfl, rfl, Nat.le_refl _, fun _ _ _ => rfl⟩)
  | some ad =>
    refine wpList_append_own w hgd s x 22 ho g 2 i0 (.int .i64 0) 1 8 Try.underlying22 hi hz0 hz1 hz2 rfl (by decide) _ 0 [] hs hown ad l.length cap (l.map fun z => Value.int .i64 z) hx (by simp) (fun j u hu => ?_) (intsA_one _) (by unfold maxLen; omega) (by omega) (by omega) (fun v' w' h1 h2 _ => h v' w' (by simpa using h1) h2)
    rw [List.getElem?_map] at hu
    obtain ⟨z, hz, rfl⟩ := Option.map_eq_some_iff.1 hu
    obtain ⟨b, off, he, _, hc⟩ := vint_cell hrow hz
    obtain rfl := Option.some.inj he
    rw [Addr.add_lit]
    exact hc
end Go.Proofs.Ytinnmebpipnccab
