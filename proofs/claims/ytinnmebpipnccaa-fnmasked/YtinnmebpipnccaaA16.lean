/-
  What masking tells, and what can be guessed: no Go in sight.
-/
import Derived.Test.YtinnmebpipnccaaA1
namespace Go.Proofs.Ytinnmebpipnccaa.Ax
open Va
set_option linter.all false

def GoodM (l : List Int) (s : Int) : Prop := rng s 0 100 = true ∧ rowB 0 l = true
theorem masked_bad {l : List Int} {s : Int} (h : ¬ GoodM l s) : masked l s = [] := if_neg h
theorem masked_good {l : List Int} {s : Int} (h : GoodM l s) : masked l s = if hid (mk s l) = 1 ∧ 0 ≤ leTo s l l.length then (mk s l).set (leTo s l l.length).toNat (-1) else mk s l := if_pos h
theorem masked_leq {l : List Int} {s : Int} (h : GoodM l s) : (masked l s).length = l.length := by
  rw [masked_good h]
  split
  · rw [List.length_set, mk_len]
  · rw [mk_len]
theorem masked_at {l : List Int} {s : Int} (h : GoodM l s) {i : Nat} {x : Int} (hx : l[i]? = some x) : ∃ y, (masked l s)[i]? = some y ∧ (y = -1 ∨ y = x) ∧ (1 ≤ x → x ≤ s → y = -1) := by
  have hm := mk_get (s := s) hx
  have h1 : mk1 s x = -1 ∨ mk1 s x = x := by unfold mk1; split <;> simp
  have h2 : 1 ≤ x → x ≤ s → mk1 s x = -1 := fun a b => if_pos ⟨a, b⟩
  rw [masked_good h]
  split
  · by_cases q : (leTo s l l.length).toNat = i
    · refine ⟨-1, ?_, .inl rfl, fun _ _ => rfl⟩
      rw [q, List.getElem?_set_self (by rw [mk_len]; exact get_ltA hx)]
    · exact ⟨mk1 s x, by rw [List.getElem?_set_ne q]; exact hm, h1, h2⟩
  · exact ⟨mk1 s x, hm, h1, h2⟩
theorem leTo_none {s : Int} {l : List Int} (i : Nat) (h : leTo s l i < 0) : ∀ j x, j < i → l[j]? = some x → ¬ s < x := by
  induction i with
  | zero => intro j x hj; omega
  | succ i ih =>
    intro j x hj hx q
    by_cases hi : i < l.length
    · have hy : l[i]? = some l[i] := List.getElem?_eq_getElem hi
      generalize l[i] = y at hy
      by_cases h0 : leTo s l i < 0
      · by_cases q2 : s < y
        · rw [leTo_new hy q2 h0] at h; omega
        · by_cases e : j = i
          · subst e
            rw [hy] at hx
            cases hx
            exact q2 q
          · exact ih h0 j x (by omega) hx q
      · obtain ⟨p, hp⟩ := Int.eq_ofNat_of_zero_le (show 0 ≤ leTo s l i by omega)
        obtain ⟨z, hz, _⟩ := leTo_above s l i (by omega)
        rw [hp] at hz
        have hz' : l[p]? = some z := hz
        by_cases q2 : s < y
        · by_cases q3 : y < z
          · rw [leTo_less hy q2 hp hz' q3] at h; omega
          · rw [leTo_not hy hp hz' q3] at h; omega
        · rw [leTo_low hy q2] at h; exact h0 h
    · have := get_ltA hx
      have e : leTo s l (i + 1) = leTo s l i := by
        show (if s < (l[i]?).getD s ∧ (leTo s l i < 0 ∨ (l[i]?).getD s < (l[(leTo s l i).toNat]?).getD 0) then (i : Int) else leTo s l i) = leTo s l i
        rw [if_neg]
        rw [List.getElem?_eq_none (by omega)]
        simp
      rw [e] at h
      exact ih h j x (by omega) hx q
theorem mk_none {s : Int} {a : List Int} (h : hid (mk s a) = 0) : mk s a = a := by
  rw [hid_zero] at h
  have : ∀ x ∈ a, mk1 s x = x := by
    intro x hx
    have h1 := h (mk1 s x) (by rw [mk]; exact List.mem_map.2 ⟨x, hx, rfl⟩)
    unfold mk1 at h1 ⊢
    split
    · rw [if_pos (by assumption)] at h1; omega
    · rfl
  rw [mk]
  conv => rhs; rw [← List.map_id a]
  exact List.map_congr_left this
theorem mk_split {s : Int} {l : List Int} {i : Nat} (hi : i < l.length) (ht : hid ((mk s l).take i) = 0) (hd : hid ((mk s l).drop (i + 1)) = 0) : (mk s l).take i = l.take i ∧ (mk s l).drop (i + 1) = l.drop (i + 1) := by
  have e1 : (mk s l).take i = mk s (l.take i) := by simp [mk]
  have e2 : (mk s l).drop (i + 1) = mk s (l.drop (i + 1)) := by simp [mk]
  rw [e1] at ht ⊢
  rw [e2] at hd ⊢
  exact ⟨mk_none ht, mk_none hd⟩
theorem row_sum {l : List Int} (h : rowB 0 l = true) : 0 ≤ l.sum ∧ l.sum ≤ 10000000 := by
  have h2 := rowB_iff.1 h
  have h3 : hid l = 0 := hid_zero.2 (fun x hx => by have := (h2.2 x hx).1; omega)
  have h4 := sumL_bd (l := l) (fun x hx => (h2.2 x hx).2)
  rw [sumL_pos h3] at h4
  have : (l.length : Int) ≤ 100 := by omega
  omega
theorem masked_row {l : List Int} {s : Int} (h : GoodM l s) : rowB (-1) (masked l s) = true := by
  have h2 := rowB_iff.1 h.2
  rw [rowB_iff]
  refine ⟨by rw [masked_leq h]; exact h2.1, fun y hy => ?_⟩
  obtain ⟨i, hi⟩ := List.getElem?_of_mem hy
  have hlt := get_ltA hi
  rw [masked_leq h] at hlt
  have hx : l[i]? = some l[i] := List.getElem?_eq_getElem hlt
  obtain ⟨y', h3, h4, _⟩ := masked_at h hx
  rw [hi] at h3
  obtain rfl := Option.some.inj h3
  have := h2.2 l[i] (List.getElem_mem hlt)
  rcases h4 with rfl | rfl <;> omega
theorem hid_set {L : List Int} {p : Nat} {x : Int} (hx : L[p]? = some x) (h : ¬ x < 0) : hid (L.set p (-1)) = hid L + 1 := by
  have hp := get_ltA hx
  have e : L.set p (-1) = L.take p ++ (-1) :: L.drop (p + 1) := by rw [List.set_eq_take_append_cons_drop, if_pos hp]
  rw [e, hid_app, hid_cut hx, if_neg h]
  simp [hid]
  omega
/-- Where just one is masked nothing is above the bound, and it is guessed. -/
theorem guess_one {l : List Int} {s : Int} (h : GoodM l s) (h1 : hid (masked l s) = 1) : (∀ x ∈ l, ¬ s < x) ∧ guess (masked l s) l.sum = l := by
  have hs := rng_iff.1 h.1
  have hrow := masked_row h
  have hsum := row_sum h.2
  by_cases q : hid (mk s l) = 1 ∧ 0 ≤ leTo s l l.length
  · exfalso
    rw [masked_good h, if_pos q] at h1
    obtain ⟨x, hx, hxs⟩ := leTo_above s l l.length q.2
    have hm := mk_get (s := s) hx
    have e : mk1 s x = x := if_neg (by omega)
    rw [e] at hm
    rw [hid_set hm (by omega)] at h1
    omega
  · have e0 : masked l s = mk s l := by rw [masked_good h, if_neg q]
    rw [e0] at h1 hrow ⊢
    have hle : leTo s l l.length < 0 := by
      rcases Int.lt_or_le (leTo s l l.length) 0 with z | z
      · exact z
      · exact absurd ⟨h1, z⟩ q
    refine ⟨fun x hx => ?_, ?_⟩
    · obtain ⟨j, hj⟩ := List.getElem?_of_mem hx
      exact leTo_none l.length hle j x (get_ltA hj) hj
    · obtain ⟨i, y, g1, g2, g3, g4⟩ := hid_one h1
      have hi : i < l.length := by have := get_ltA g1; rw [mk_len] at this; exact this
      obtain ⟨k1, k2⟩ := mk_split hi g3 g4
      have hlo := lone_at g1 g2 g3 g4
      rw [lone, if_pos h1] at hlo
      have hat : atL (mk s l) (mk s l).length = i := by omega
      unfold guess
      rw [if_pos ⟨rng_iff.2 hsum, hrow⟩, if_pos h1, hat]
      have hset : (mk s l).set i (l.sum - sumL (mk s l)) = l.take i ++ (l.sum - sumL (mk s l)) :: l.drop (i + 1) := by
        rw [List.set_eq_take_append_cons_drop, if_pos (by rw [mk_len]; exact hi), k1, k2]
      have hx : l[i]? = some l[i] := List.getElem?_eq_getElem hi
      have hl : l = l.take i ++ l[i] :: l.drop (i + 1) := by
        rw [← List.drop_eq_getElem_cons hi, List.take_append_drop]
      have hsl : sumL (mk s l) = (l.take i).sum + (l.drop (i + 1)).sum := by
        have e1 := sum_set g1 g2 g3 g4
        rw [← e1, List.set_eq_take_append_cons_drop, if_pos (by rw [mk_len]; exact hi), k1, k2]
        simp
      have hsm : l.sum = (l.take i).sum + (l[i] + (l.drop (i + 1)).sum) := by
        have : l.sum = (l.take i ++ l[i] :: l.drop (i + 1)).sum := by rw [← hl]
        rw [this, List.sum_append, List.sum_cons]
      rw [hset]
      have : l.sum - sumL (mk s l) = l[i] := by omega
      rw [this, ← hl]
theorem guess_many {l : List Int} {s : Int} (h : GoodM l s) (h1 : hid (masked l s) ≠ 1) : guess (masked l s) l.sum = masked l s := by
  unfold guess
  rw [if_pos ⟨rng_iff.2 (row_sum h.2), masked_row h⟩, if_neg h1]
theorem guess_nil : guess [] 0 = [] := by
  unfold guess
  split <;> simp [hid]
end Go.Proofs.Ytinnmebpipnccaa.Ax
