/-
  Where each test's value stands: a table of places; no Go in sight.
-/
import Derived.Test.YtldggndhdilncaaT46
namespace Go.Proofs.Ytldggndhdilncaa
open Va Lb
set_option linter.all false

/-- Behind the first i values: the place of test j's value and one more, or 0. -/
def atF (vs : List Vl) : Nat → Nat → Nat
  | 0, _ => 0
  | i + 1, j => match vs[i]? with
    | some x => if x.te = (j : Int) then i + 1 else atF vs i j
    | none => atF vs i j
theorem atF_next {vs : List Vl} {i j : Nat} {x : Vl} (h : vs[i]? = some x) : atF vs (i + 1) j = if x.te = (j : Int) then i + 1 else atF vs i j := by
  rw [atF, h]
theorem atF_le (vs : List Vl) (j : Nat) : ∀ i, atF vs i j ≤ i
  | 0 => Nat.le_refl _
  | i + 1 => by
    have := atF_le vs j i
    rw [atF]
    split
    · split <;> omega
    · omega
theorem atF_pos {vs : List Vl} {j : Nat} : ∀ {i : Nat}, i ≤ vs.length → (0 < atF vs i j ↔ vlAt (vs.take i) (j : Int) ≠ none)
  | 0, _ => by simp [atF, vlAt]
  | i + 1, h => by
    obtain ⟨x, hx⟩ := some_of vs i (by omega)
    rw [atF_next hx, take_next hx, vlAt_snoc]
    have ih := atF_pos (vs := vs) (j := j) (i := i) (by omega)
    by_cases q : x.te = (j : Int)
    · rw [if_pos q, if_pos q]
      cases vlAt (vs.take i) (j : Int) <;> simp
    · rw [if_neg q, if_neg q, Option.or_none]
      exact ih
theorem atF_get {vs : List Vl} {j : Nat} : ∀ {i : Nat}, 0 < atF vs i j → ∃ p x, atF vs i j = p + 1 ∧ p < i ∧ vs[p]? = some x ∧ x.te = (j : Int)
  | 0, h => absurd h (by simp [atF])
  | i + 1, h => by
    rw [atF] at h ⊢
    split at h
    · rename_i x hx
      split at h
      · rename_i q
        exact ⟨i, x, by simp [q], by omega, hx, q⟩
      · rename_i q
        obtain ⟨p, y, e1, e2, e3, e4⟩ := atF_get h
        refine ⟨p, y, ?_, by omega, e3, e4⟩
        simp only [q, if_false]
        exact e1
    · obtain ⟨p, y, e1, e2, e3, e4⟩ := atF_get h
      exact ⟨p, y, e1, by omega, e3, e4⟩
theorem vlAt_of {vs : List Vl} (hn : (vs.map Vl.te).Nodup) {p : Nat} {x : Vl} (hp : vs[p]? = some x) : vlAt vs x.te = some x.v := by
  cases e : vs.find? (fun z => z.te == x.te) with
  | none =>
    have := List.find?_eq_none.1 e x (List.mem_of_getElem? hp)
    simp at this
  | some y =>
    have h1 : y.te = x.te := by simpa using List.find?_some e
    have h2 := List.mem_of_find?_eq_some e
    obtain ⟨q, hq⟩ := List.getElem?_of_mem h2
    have h3 : p = q := by
      have a : (vs.map Vl.te)[p]? = some x.te := by rw [List.getElem?_map, hp]; rfl
      have b : (vs.map Vl.te)[q]? = some x.te := by rw [List.getElem?_map, hq, ← h1]; rfl
      have lp : p < (vs.map Vl.te).length := get_ltL a
      exact (List.getElem?_inj lp hn).1 (a.trans b.symm)
    subst h3
    rw [hp] at hq
    cases hq
    unfold vlAt
    rw [e]
    rfl
/-- What a rule reads of the table is what it calls. -/
theorem atF_calls {vs : List Vl} (hv : VlOk vs) {j : Nat} {r : Rx} (hr : r.te = (j : Int)) : (0 < atF vs vs.length j → ∃ p x, atF vs vs.length j = p + 1 ∧ p < vs.length ∧ vs[p]? = some x ∧ calls1 vs r = rng x.v r.lo r.hi) ∧ (atF vs vs.length j = 0 → calls1 vs r = false) := by
  constructor
  · intro h
    obtain ⟨p, x, e1, e2, e3, e4⟩ := atF_get h
    refine ⟨p, x, e1, e2, e3, ?_⟩
    unfold calls1
    rw [hr, ← e4, vlAt_of hv.2.2 e3]
    rfl
  · intro h
    have : vlAt vs (j : Int) = none := by
      have k := atF_pos (vs := vs) (j := j) (i := vs.length) (Nat.le_refl _)
      rw [List.take_length] at k
      cases e : vlAt vs (j : Int) with
      | none => rfl
      | some v => exact absurd (k.2 (by rw [e]; simp)) (by omega)
    unfold calls1
    rw [hr, this]
end Go.Proofs.Ytldggndhdilncaa
