/-
  Warnings of the drugs turned round, and why there is one: plain facts.
-/
import Derived.Test.YtcnhogghfedcdaaNa
namespace Go.Proofs.Ytcnhogghfedcdaa.Ga
open Va
set_option linter.unusedVariables false

theorem rfit_comm (r : Ru) (l m : List Int) : rfit r l m = rfit r m l := by
  unfold rfit
  cases hasB l r.a <;> cases hasB l r.b <;> cases hasB m r.a <;> cases hasB m r.b <;> rfl
theorem bestTo_comm (rs : List Ru) (l m : List Int) : ∀ n, bestTo rs l m n = bestTo rs m l n
  | 0 => rfl
  | n + 1 => by rw [bestTo, bestTo, bestTo_comm rs l m n, rfit_comm]
theorem best_comm (rs : List Ru) (x y : Dg) : best rs x y = best rs y x := bestTo_comm rs _ _ _
theorem bestTo_fit (rs : List Ru) (l m : List Int) : ∀ n, 0 ≤ bestTo rs l m n → rfit (rs.getD (bestTo rs l m n).toNat default) l m = true
  | 0 => fun h => by simp [bestTo] at h
  | n + 1 => fun h => by
    rw [bestTo] at h ⊢
    split
    · rename_i q; simpa using q.1
    · rename_i q; rw [if_neg q] at h; exact bestTo_fit rs l m n h
def badW (rs : List Ru) (x y : Dg) : Bool := decide (¬ best rs x y < 0)
theorem badW_comm (rs : List Ru) (x y : Dg) : badW rs x y = badW rs y x := by unfold badW; rw [best_comm]
/-- How many twos are warned of. -/
def cntW (rs : List Ru) : List Dg → Nat
  | [] => 0
  | x :: l => (l.filter (badW rs x)).length + cntW rs l
theorem cntW_snoc (rs : List Ru) (l : List Dg) (x : Dg) : cntW rs (l ++ [x]) = cntW rs l + (l.filter (badW rs x)).length := by
  induction l with
  | nil => simp [cntW]
  | cons y l ih =>
    rw [List.cons_append, cntW, cntW, ih, List.filter_append, List.length_append]
    have e : badW rs x y = badW rs y x := badW_comm rs x y
    cases h : badW rs y x
    · rw [h] at e; simp [h, e]; omega
    · rw [h] at e; simp [h, e]; omega
theorem cntW_reverse (rs : List Ru) (l : List Dg) : cntW rs l.reverse = cntW rs l := by
  induction l with
  | nil => rfl
  | cons x l ih => rw [List.reverse_cons, cntW_snoc, ih, cntW, List.filter_reverse, List.length_reverse]; omega
theorem wRow_cnt (rs : List Ru) (l : List Dg) (i : Nat) (x : Dg) : ∀ k, k ≤ l.length → (wRow rs l i x k).length = (((l.take k).drop (i + 1)).filter (badW rs x)).length := by
  intro k
  induction k with
  | zero => intro _; simp [wRow]
  | succ k ih =>
    intro hk
    obtain ⟨y, hy⟩ : ∃ y, l[k]? = some y := ⟨_, List.getElem?_eq_getElem (by omega)⟩
    rw [wRow, List.length_append, ih (by omega), hy, List.take_add_one, hy]
    by_cases hi : i < k
    · rw [if_pos hi, List.drop_append_of_le_length (by rw [List.length_take]; omega), List.filter_append, List.length_append]
      congr 1
      by_cases q : best rs x y < 0
      · simp [q, badW]
      · simp [q, badW]
    · rw [if_neg hi]
      have e1 : (l.take k).drop (i + 1) = [] := List.drop_eq_nil_of_le (by rw [List.length_take]; omega)
      have e2 : (l.take k ++ (some y).toList).drop (i + 1) = [] := List.drop_eq_nil_of_le (by rw [List.length_append, List.length_take]; simp; omega)
      rw [e1, e2]
      rfl
theorem wTo_cnt (rs : List Ru) (l : List Dg) : ∀ i, i ≤ l.length → (wTo rs l i).length + cntW rs (l.drop i) = cntW rs l := by
  intro i
  induction i with
  | zero => intro _; simp [wTo]
  | succ i ih =>
    intro hi
    have hlt : i < l.length := by omega
    have e := ih (by omega)
    rw [List.drop_eq_getElem_cons hlt, cntW] at e
    rw [wTo_succ (List.getElem?_eq_getElem hlt), List.length_append, wRow_cnt rs l i _ l.length (Nat.le_refl _), List.take_length]
    omega
theorem warn_cnt {rs : List Ru} {l : List Dg} (h : dsB l = true) (h2 : rsB rs = true) : (warn rs l).length = cntW rs l := by
  rw [warn_yes h h2]
  have := wTo_cnt rs l l.length (Nat.le_refl _)
  rw [List.drop_length] at this
  simpa [cntW] using this
theorem dsB_reverse (l : List Dg) : dsB l.reverse = dsB l := by simp [dsB]
theorem warn_reverse (rs : List Ru) (l : List Dg) : (warn rs l.reverse).length = (warn rs l).length := by
  cases h : dsB l with
  | false => rw [warn_no h, warn_no (by rw [dsB_reverse]; exact h)]
  | true => cases h2 : rsB rs with
    | false => rw [warn_no2 h2, warn_no2 h2]
    | true => rw [warn_cnt (by rw [dsB_reverse]; exact h) h2, warn_cnt h h2, cntW_reverse]
/-- The places of a warning. -/
theorem wRow_in (rs : List Ru) (l : List Dg) (i : Nat) (x : Dg) : ∀ k, ∀ c ∈ wRow rs l i x k, ∃ (j : Nat) (y : Dg), i < j ∧ l[j]? = some y ∧ ¬ best rs x y < 0 ∧ c = ⟨i, j, best rs x y⟩ := by
  intro k
  induction k with
  | zero => intro c hc; cases hc
  | succ k ih =>
    intro c hc
    rw [wRow] at hc
    rcases List.mem_append.1 hc with q | q
    · exact ih c q
    · split at q
      · rename_i hik
        split at q
        · rename_i y hy
          split at q
          · cases q
          · rename_i hb; simp at q; exact ⟨k, y, hik, hy, hb, q⟩
        · cases q
      · cases q
theorem wTo_in (rs : List Ru) (l : List Dg) : ∀ n, ∀ c ∈ wTo rs l n, ∃ (i j : Nat) (x y : Dg), i < j ∧ l[i]? = some x ∧ l[j]? = some y ∧ ¬ best rs x y < 0 ∧ c = ⟨i, j, best rs x y⟩ := by
  intro n
  induction n with
  | zero => intro c hc; cases hc
  | succ i ih =>
    intro c hc
    rw [wTo] at hc
    rcases List.mem_append.1 hc with q | q
    · exact ih c q
    · split at q
      · rename_i x hx
        obtain ⟨j, y, h1, h2, h3, h4⟩ := wRow_in rs l i x l.length c q
        exact ⟨i, j, x, y, h1, hx, h2, h3, h4⟩
      · cases q
theorem warn_in {rs : List Ru} {l : List Dg} {c : Wg} (hc : c ∈ warn rs l) : dsB l = true ∧ rsB rs = true ∧ ∃ (i j : Nat) (x y : Dg), i < j ∧ l[i]? = some x ∧ l[j]? = some y ∧ ¬ best rs x y < 0 ∧ c = ⟨i, j, best rs x y⟩ := by
  unfold warn at hc
  split at hc
  · rename_i h; exact ⟨h.1, h.2, wTo_in rs l l.length c hc⟩
  · cases hc
theorem in_wRow {rs : List Ru} {l : List Dg} {i j : Nat} {x y : Dg} (hij : i < j) (hy : l[j]? = some y) (hb : ¬ best rs x y < 0) : ∀ k, j < k → (⟨i, j, best rs x y⟩ : Wg) ∈ wRow rs l i x k := by
  intro k
  induction k with
  | zero => intro h; omega
  | succ k ih =>
    intro h
    rw [wRow]
    rcases Nat.lt_succ_iff_lt_or_eq.1 h with q | rfl
    · exact List.mem_append.2 (.inl (ih q))
    · refine List.mem_append.2 (.inr ?_)
      rw [if_pos hij, hy]
      simp [hb]
theorem in_wTo {rs : List Ru} {l : List Dg} {i j : Nat} {x y : Dg} (hij : i < j) (hx : l[i]? = some x) (hy : l[j]? = some y) (hb : ¬ best rs x y < 0) : ∀ n, i < n → (⟨i, j, best rs x y⟩ : Wg) ∈ wTo rs l n := by
  intro n
  induction n with
  | zero => intro h; omega
  | succ k ih =>
    intro h
    rw [wTo]
    rcases Nat.lt_succ_iff_lt_or_eq.1 h with q | rfl
    · exact List.mem_append.2 (.inl (ih q))
    · refine List.mem_append.2 (.inr ?_)
      rw [hx]
      exact in_wRow hij hy hb _ (List.getElem?_eq_some_iff.1 hy).1
/-- A warning stands in the list turned round too. -/
theorem warn_back {rs : List Ru} {l : List Dg} {c : Wg} (hc : c ∈ warn rs l) : (⟨(l.length : Int) - 1 - c.b, (l.length : Int) - 1 - c.a, c.r⟩ : Wg) ∈ warn rs l.reverse := by
  obtain ⟨h1, h2, i, j, x, y, hij, hx, hy, hb, rfl⟩ := warn_in hc
  have hil := (List.getElem?_eq_some_iff.1 hx).1
  have hjl := (List.getElem?_eq_some_iff.1 hy).1
  rw [warn_yes (by rw [dsB_reverse]; exact h1) h2]
  have ex : l.reverse[l.length - 1 - i]? = some x := by rw [List.getElem?_reverse (by omega), ← hx]; congr 1; omega
  have ey : l.reverse[l.length - 1 - j]? = some y := by rw [List.getElem?_reverse (by omega), ← hy]; congr 1; omega
  have := in_wTo (rs := rs) (show l.length - 1 - j < l.length - 1 - i by omega) ey ex (by rw [best_comm]; exact hb) l.reverse.length (by rw [List.length_reverse]; omega)
  rw [best_comm rs y x, show ((l.length - 1 - j : Nat) : Int) = (l.length : Int) - 1 - (j : Int) by omega, show ((l.length - 1 - i : Nat) : Int) = (l.length : Int) - 1 - (i : Int) by omega] at this
  exact this
/-- Both drugs of a warning have a class of its rule. -/
theorem warn_why {rs : List Ru} {l : List Dg} {c : Wg} (hc : c ∈ warn rs l) : ∃ (i j k : Nat) (x y : Dg) (r : Ru), c = ⟨i, j, k⟩ ∧ l[i]? = some x ∧ l[j]? = some y ∧ rs[k]? = some r ∧ allergic x [r.a, r.b] = true ∧ allergic y [r.a, r.b] = true := by
  obtain ⟨h1, h2, i, j, x, y, hij, hx, hy, hb, rfl⟩ := warn_in hc
  have hbd := best_bd rs x y
  obtain ⟨k, hk⟩ := Int.eq_ofNat_of_zero_le (show 0 ≤ best rs x y by omega)
  have hf := bestTo_fit rs x.cls y.cls rs.length (by show 0 ≤ best rs x y; omega)
  rw [show bestTo rs x.cls y.cls rs.length = (k : Int) from hk, show ((k : Int).toNat) = k from rfl] at hf
  obtain ⟨r, hr⟩ : ∃ r, rs[k]? = some r := ⟨_, List.getElem?_eq_getElem (by omega)⟩
  rw [ru_getD hr] at hf
  refine ⟨i, j, k, x, y, r, by rw [hk], hx, hy, hr, ?_, ?_⟩
  · simp only [allergic, dsB_all h1 x (List.mem_of_getElem? hx), Bool.true_and, List.any_eq_true]
    simp only [rfit, Bool.or_eq_true, Bool.and_eq_true, hasB, List.any_eq_true] at hf
    rcases hf with ⟨⟨z, hz, e⟩, -⟩ | ⟨⟨z, hz, e⟩, -⟩
    · exact ⟨z, hz, by simp at e; simp [hasB, e]⟩
    · exact ⟨z, hz, by simp at e; simp [hasB, e]⟩
  · simp only [allergic, dsB_all h1 y (List.mem_of_getElem? hy), Bool.true_and, List.any_eq_true]
    simp only [rfit, Bool.or_eq_true, Bool.and_eq_true, hasB, List.any_eq_true] at hf
    rcases hf with ⟨-, ⟨z, hz, e⟩⟩ | ⟨-, ⟨z, hz, e⟩⟩
    · exact ⟨z, hz, by simp at e; simp [hasB, e]⟩
    · exact ⟨z, hz, by simp at e; simp [hasB, e]⟩
end Go.Proofs.Ytcnhogghfedcdaa.Ga
