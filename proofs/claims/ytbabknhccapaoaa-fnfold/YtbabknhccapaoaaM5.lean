/-
  Numbers sorted, each once: no Go in sight.
-/
import Derived.Lib.SlicesCompact
namespace Go.Proofs.Ytbabknhccapaoaa.Mg
set_option linter.all false

theorem incr_ext : ∀ (a b : List Int), a.Pairwise (· < ·) → b.Pairwise (· < ·) → (∀ x, x ∈ a ↔ x ∈ b) → a = b
  | [], [], _, _, _ => rfl
  | [], y :: b, _, _, h => absurd ((h y).2 (by simp)) (by simp)
  | x :: a, [], _, _, h => absurd ((h x).1 (by simp)) (by simp)
  | x :: a, y :: b, ha, hb, h => by
    have ha1 := (List.pairwise_cons.1 ha).1
    have hb1 := (List.pairwise_cons.1 hb).1
    have e1 := List.mem_cons.1 ((h x).1 (by simp))
    have e2 := List.mem_cons.1 ((h y).2 (by simp))
    have e : x = y := by
      rcases e1 with e1 | e1
      · exact e1
      · rcases e2 with e2 | e2
        · exact e2.symm
        · have := ha1 y e2
          have := hb1 x e1
          omega
    subst e
    congr 1
    refine incr_ext a b (List.pairwise_cons.1 ha).2 (List.pairwise_cons.1 hb).2 fun z => ⟨fun hz => ?_, fun hz => ?_⟩
    · rcases List.mem_cons.1 ((h z).1 (List.mem_cons_of_mem _ hz)) with q | q
      · have := ha1 z hz; omega
      · exact q
    · rcases List.mem_cons.1 ((h z).2 (List.mem_cons_of_mem _ hz)) with q | q
      · have := hb1 z hz; omega
      · exact q
theorem comp_inv (d : Array Int) (hs : ∀ i j, i < j → j < d.size → d[i]! ≤ d[j]!) : ∀ m, m ≤ d.size → (Go.Lib.compactUpTo d m).Pairwise (· < ·) ∧ (∀ x, x ∈ Go.Lib.compactUpTo d m ↔ ∃ j, j < m ∧ d[j]! = x) := by
  intro m
  induction m with
  | zero => intro _; simp [Go.Lib.compactUpTo]
  | succ m ih =>
    intro hm
    obtain ⟨h1, h2⟩ := ih (by omega)
    rw [Go.Lib.compactUpTo_succ]
    by_cases hk : Go.Lib.keeps d m = true
    · rw [if_pos hk]
      refine ⟨List.pairwise_append.2 ⟨h1, by simp, fun a ha b hb => ?_⟩, fun x => ?_⟩
      · obtain rfl := List.mem_singleton.1 hb
        obtain ⟨j, hj, rfl⟩ := (h2 a).1 ha
        have hk2 : m = 0 ∨ d[m]! ≠ d[m - 1]! := by simpa [Go.Lib.keeps] using hk
        rcases hk2 with q | q
        · omega
        · have q1 := hs (m - 1) m (by omega) (by omega)
          have q2 : d[j]! ≤ d[m - 1]! := by
            rcases Nat.lt_or_ge j (m - 1) with z | z
            · exact hs j (m - 1) z (by omega)
            · rw [show j = m - 1 from by omega]; exact Int.le_refl _
          omega
      · rw [List.mem_append, h2, List.mem_singleton]
        constructor
        · rintro (⟨j, hj, e⟩ | e)
          · exact ⟨j, by omega, e⟩
          · exact ⟨m, by omega, e.symm⟩
        · rintro ⟨j, hj, e⟩
          rcases Nat.lt_succ_iff_lt_or_eq.1 hj with q | q
          · exact Or.inl ⟨j, q, e⟩
          · subst q; exact Or.inr e.symm
    · rw [if_neg hk, List.append_nil]
      have hk2 : ¬ (m = 0 ∨ d[m]! ≠ d[m - 1]!) := by simpa [Go.Lib.keeps] using hk
      refine ⟨h1, fun x => (h2 x).trans ⟨?_, ?_⟩⟩
      · rintro ⟨j, hj, e⟩; exact ⟨j, by omega, e⟩
      · rintro ⟨j, hj, e⟩
        rcases Nat.lt_succ_iff_lt_or_eq.1 hj with q | q
        · exact ⟨j, q, e⟩
        · subst q
          have hz : ¬ j = 0 := fun q => hk2 (Or.inl q)
          have he : d[j]! = d[j - 1]! := Decidable.byContradiction fun q => hk2 (Or.inr q)
          exact ⟨j - 1, by omega, by rw [← he]; exact e⟩
/-- The numbers of a list, each once, rising. -/
def rise (zs : List Int) : List Int := Go.Lib.compact (zs.mergeSort fun x y => decide (x ≤ y))
theorem rise_inv (zs : List Int) : (rise zs).Pairwise (· < ·) ∧ ∀ x, x ∈ rise zs ↔ x ∈ zs := by
  have hp : (zs.mergeSort fun x y => decide (x ≤ y)).Pairwise fun x y => decide (x ≤ y) = true := List.pairwise_mergeSort (by intro a b c; simp; omega) (by intro a b; simp; omega) zs
  have hm := fun x => (List.mergeSort_perm zs fun x y => decide (x ≤ y)).mem_iff (a := x)
  unfold rise Go.Lib.compact
  generalize (zs.mergeSort fun x y => decide (x ≤ y)) = ys at *
  have hs : ∀ i j, i < j → j < ys.toArray.size → ys.toArray[i]! ≤ ys.toArray[j]! := by
    intro i j hij hj
    have hj2 : j < ys.length := by simpa using hj
    have := List.pairwise_iff_getElem.1 hp i j (by omega) hj2 hij
    simpa [getElem!_pos, hj2, show i < ys.length from by omega] using this
  obtain ⟨h1, h2⟩ := comp_inv ys.toArray hs ys.length (by simp)
  refine ⟨h1, fun x => ((h2 x).trans ?_).trans (hm x)⟩
  constructor
  · rintro ⟨j, hj, e⟩
    rw [← e]
    simp [getElem!_pos, hj]
  · intro hx
    obtain ⟨j, hj, e⟩ := List.getElem_of_mem hx
    exact ⟨j, hj, by simpa [getElem!_pos, hj] using e⟩
theorem rise_len (zs : List Int) : (rise zs).length ≤ zs.length := by
  unfold rise Go.Lib.compact Go.Lib.compactUpTo
  rw [List.length_map]
  have := List.length_filter_le (Go.Lib.keeps (zs.mergeSort fun x y => decide (x ≤ y)).toArray) (List.range (zs.mergeSort fun x y => decide (x ≤ y)).length)
  simpa using this
theorem rise_nil : rise [] = [] := List.eq_nil_of_length_eq_zero (by have := rise_len []; simpa using this)
end Go.Proofs.Ytbabknhccapaoaa.Mg
