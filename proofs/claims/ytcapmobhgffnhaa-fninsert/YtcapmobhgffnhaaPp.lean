/-
  How many clash: by twos; in the list turned round; with one more. Plain facts.
-/
import Derived.Test.YtcapmobhgffnhaaOa
namespace Go.Proofs.Ytcapmobhgffnhaa.Oa
open Va
set_option linter.unusedVariables false

def bad (x : Opn) (r : Int) (y : Opn) : Bool := decide (why x y r ≠ 0)
theorem bad_comm (x y : Opn) (r : Int) : bad x r y = bad y r x := by unfold bad; rw [why_comm]
/-- How many twos clash. -/
def cnt (r : Int) : List Opn → Nat
  | [] => 0
  | x :: l => (l.filter (bad x r)).length + cnt r l
theorem cnt_snoc (r : Int) (l : List Opn) (x : Opn) : cnt r (l ++ [x]) = cnt r l + (l.filter (bad x r)).length := by
  induction l with
  | nil => simp [cnt]
  | cons y l ih =>
    rw [List.cons_append, cnt, cnt, ih, List.filter_append, List.length_append]
    have e : bad x r y = bad y r x := bad_comm x y r
    cases h : bad y r x
    · rw [h] at e; simp [h, e]; omega
    · rw [h] at e; simp [h, e]; omega
theorem cnt_reverse (r : Int) (l : List Opn) : cnt r l.reverse = cnt r l := by
  induction l with
  | nil => rfl
  | cons x l ih => rw [List.reverse_cons, cnt_snoc, ih, cnt, List.filter_reverse, List.length_reverse]; omega
theorem inner_cnt (l : List Opn) (r : Int) (i : Nat) (x : Opn) : ∀ k, k ≤ l.length → (inner l r i x k).length = (((l.take k).drop (i + 1)).filter (bad x r)).length := by
  intro k
  induction k with
  | zero => intro _; simp [inner]
  | succ k ih =>
    intro hk
    obtain ⟨y, hy⟩ : ∃ y, l[k]? = some y := ⟨_, List.getElem?_eq_getElem (by omega)⟩
    rw [inner, List.length_append, ih (by omega), hy, List.take_add_one, hy]
    by_cases hi : i < k
    · rw [if_pos hi, List.drop_append_of_le_length (by rw [List.length_take]; omega), List.filter_append, List.length_append]
      congr 1
      by_cases q : why x y r = 0
      · simp [q, bad]
      · simp [q, bad]
    · rw [if_neg hi]
      have e1 : (l.take k).drop (i + 1) = [] := List.drop_eq_nil_of_le (by rw [List.length_take]; omega)
      have e2 : (l.take k ++ (some y).toList).drop (i + 1) = [] := List.drop_eq_nil_of_le (by rw [List.length_append, List.length_take]; simp; omega)
      rw [e1, e2]
      rfl
theorem upto_cnt (l : List Opn) (r : Int) : ∀ i, i ≤ l.length → (upto l r i).length + cnt r (l.drop i) = cnt r l := by
  intro i
  induction i with
  | zero => intro _; simp [upto]
  | succ i ih =>
    intro hi
    have hlt : i < l.length := by omega
    have e := ih (by omega)
    rw [List.drop_eq_getElem_cons hlt, cnt] at e
    rw [upto_succ (List.getElem?_eq_getElem hlt), List.length_append, inner_cnt l r i _ l.length (Nat.le_refl _), List.take_length]
    omega
theorem clash_cnt {l : List Opn} {r : Int} (h : OpsOk l) (h2 : isR r) : (clash l r).length = cnt r l := by
  rw [clash_yes h h2]
  have := upto_cnt l r l.length (Nat.le_refl _)
  rw [List.drop_length] at this
  simpa [cnt] using this
theorem opsOk_mem {l : List Opn} : OpsOk l ↔ l.length ≤ 200 ∧ ∀ x ∈ l, opB x = true :=
  ⟨fun h => ⟨h.1, fun x hx => h.mem hx⟩, fun h => ⟨h.1, fun i x _ hx => h.2 x (List.mem_of_getElem? hx)⟩⟩
theorem opsOk_reverse {l : List Opn} : OpsOk l.reverse ↔ OpsOk l := by
  rw [opsOk_mem, opsOk_mem]; simp
theorem clash_reverse (l : List Opn) (r : Int) : (clash l.reverse r).length = (clash l r).length := by
  by_cases h : OpsOk l ∧ isR r
  · rw [clash_cnt (opsOk_reverse.2 h.1) h.2, clash_cnt h.1 h.2, cnt_reverse]
  · rw [clash_no h, clash_no (fun q => h ⟨opsOk_reverse.1 q.1, q.2⟩)]
/-- The places of a clash. -/
theorem inner_in (l : List Opn) (r : Int) (i : Nat) (x : Opn) : ∀ k, ∀ c ∈ inner l r i x k, c.a = (i : Int) ∧ (i : Int) < c.b ∧ c.b < (k : Int) := by
  intro k
  induction k with
  | zero => intro c hc; cases hc
  | succ k ih =>
    intro c hc
    rw [inner] at hc
    rcases List.mem_append.1 hc with q | q
    · have := ih c q; omega
    · split at q
      · split at q
        · split at q
          · cases q
          · simp at q; subst q; simp; omega
        · cases q
      · cases q
theorem upto_in (l : List Opn) (r : Int) : ∀ i, ∀ c ∈ upto l r i, 0 ≤ c.a ∧ c.a < c.b ∧ c.b < (l.length : Int) := by
  intro i
  induction i with
  | zero => intro c hc; cases hc
  | succ i ih =>
    intro c hc
    rw [upto] at hc
    rcases List.mem_append.1 hc with q | q
    · exact ih c q
    · split at q
      · have := inner_in l r i _ l.length c q; omega
      · cases q
theorem clash_in {l : List Opn} {r : Int} {c : Cl} (hc : c ∈ clash l r) : 0 ≤ c.a ∧ c.a < c.b ∧ c.b < (l.length : Int) := by
  by_cases h : OpsOk l ∧ isR r
  · rw [clash_yes h.1 h.2] at hc; exact upto_in l r l.length c hc
  · rw [clash_no h] at hc; cases hc
/-- One more, clashing with none, makes none more; clashing with one, more. -/
theorem clash_snoc {l : List Opn} {x : Opn} {r : Int} (h : OpsOk l) (h2 : isR r) (hx : opB x = true) (hl : l.length < 200) : (clash (l ++ [x]) r).length = (clash l r).length + (l.filter (bad x r)).length := by
  have h' : OpsOk (l ++ [x]) := by
    rw [opsOk_mem]
    refine ⟨by simp; omega, fun y hy => ?_⟩
    rcases List.mem_append.1 hy with q | q
    · exact h.mem q
    · simp at q; subst q; exact hx
  rw [clash_cnt h' h2, clash_cnt h h2, cnt_snoc]
theorem filter_none {l : List Opn} {x : Opn} {r : Int} (h : ∀ y ∈ l, why y x r = 0) : (l.filter (bad x r)).length = 0 := by
  rw [List.length_eq_zero_iff, List.filter_eq_nil_iff]
  intro y hy
  simp [bad, why_comm x y, h y hy]
theorem filter_some {l : List Opn} {x : Opn} {r : Int} (h : ¬ ∀ y ∈ l, why y x r = 0) : 0 < (l.filter (bad x r)).length := by
  rw [List.length_pos_iff]
  intro e
  rw [List.filter_eq_nil_iff] at e
  refine h fun y hy => ?_
  have := e y hy
  simpa [bad, why_comm x y] using this
end Go.Proofs.Ytcapmobhgffnhaa.Oa
