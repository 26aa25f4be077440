/-
  Access: no Go in sight.
-/
import Derived.Test.YtinnmebpipnccaaVa
namespace Go.Proofs.Ytinnmebpipnccaa.Ax
open Va
set_option linter.all false

theorem take_snA {α : Type} {l : List α} {i : Nat} {x : α} (h : l[i]? = some x) : l.take (i + 1) = l.take i ++ [x] := by
  rw [List.take_add_one, h]; rfl
theorem get_ltA {α : Type} {l : List α} {i : Nat} {x : α} (h : l[i]? = some x) : i < l.length := (List.getElem?_eq_some_iff.1 h).1
theorem any_trueA {α : Type} {l : List α} {i : Nat} {x : α} {p : α → Bool} (h : l[i]? = some x) (hp : p x = true) : l.any p = true := by
  simp only [List.any_eq_true]
  exact ⟨x, List.mem_of_getElem? h, hp⟩
theorem any_takeA {α : Type} {l : List α} {i : Nat} {x : α} {p : α → Bool} (h : (l.take i).any p = false) (hx : l[i]? = some x) (hp : p x = false) : (l.take (i + 1)).any p = false := by
  rw [take_snA hx, List.any_append, h]
  simp [hp]
theorem any_stepA {α : Type} {l : List α} {i : Nat} {x : α} {p : α → Bool} (hx : l[i]? = some x) : (l.take (i + 1)).any p = ((l.take i).any p || p x) := by
  rw [take_snA hx, List.any_append]
  simp
theorem all_falseA {α : Type} {l : List α} {i : Nat} {x : α} {p : α → Bool} (h : l[i]? = some x) (hp : p x = false) : l.all p = false := by
  rw [List.all_eq_false]
  exact ⟨x, List.mem_of_getElem? h, by simp [hp]⟩
theorem all_takeA {α : Type} {l : List α} {i : Nat} {x : α} {p : α → Bool} (h : (l.take i).all p = true) (hx : l[i]? = some x) (hp : p x = true) : (l.take (i + 1)).all p = true := by
  rw [take_snA hx, List.all_append, h]
  simp [hp]
theorem all_endA {α : Type} {l : List α} {i : Nat} {p : α → Bool} (h : (l.take i).all p = true) (hi : ¬ i < l.length) : l.all p = true := by
  rw [List.take_of_length_le (by omega)] at h
  exact h
theorem all_atA {α : Type} {l : List α} {i : Nat} {x : α} {p : α → Bool} (h : l.all p = true) (hx : l[i]? = some x) : p x = true := by
  rw [List.all_eq_true] at h
  exact h x (List.mem_of_getElem? hx)

/- Rows of counts -/
def rowB (lo : Int) (l : List Int) : Bool := decide (l.length ≤ 100) && l.all fun x => rng x lo 100000
theorem rowB_iff {lo : Int} {l : List Int} : rowB lo l = true ↔ l.length ≤ 100 ∧ ∀ x ∈ l, lo ≤ x ∧ x ≤ 100000 := by
  simp [rowB, rng]
def mk1 (s x : Int) : Int := if 1 ≤ x ∧ x ≤ s then -1 else x
def mk (s : Int) (l : List Int) : List Int := l.map (mk1 s)
theorem mk_len (s : Int) (l : List Int) : (mk s l).length = l.length := by simp [mk]
theorem mk_take {s : Int} {l : List Int} {i : Nat} {x : Int} (h : l[i]? = some x) : mk s (l.take (i + 1)) = mk s (l.take i) ++ [mk1 s x] := by
  rw [take_snA h, mk, List.map_append]; rfl
theorem mk_get {s : Int} {l : List Int} {i : Nat} {x : Int} (h : l[i]? = some x) : (mk s l)[i]? = some (mk1 s x) := by
  rw [mk, List.getElem?_map, h]; rfl
/-- The row while the first i are masked. -/
def mkTo (s : Int) (l : List Int) (i : Nat) : List Int := mk s (l.take i) ++ l.drop i
theorem mkTo_len (s : Int) (l : List Int) (i : Nat) : (mkTo s l i).length = l.length := by
  simp [mkTo, mk]; omega
theorem mkTo_zero (s : Int) (l : List Int) : mkTo s l 0 = l := by simp [mkTo, mk]
theorem mkTo_end (s : Int) (l : List Int) : mkTo s l l.length = mk s l := by simp [mkTo]
theorem mkTo_get {s : Int} {l : List Int} {i : Nat} {x : Int} (h : l[i]? = some x) : (mkTo s l i)[i]? = some x := by
  have hi := get_ltA h
  rw [mkTo, List.getElem?_append_right (by simp [mk]; omega)]
  simp [mk, List.getElem?_drop]
  rw [Nat.min_eq_left (by omega)]
  simpa using h
theorem mkTo_stay {s : Int} {l : List Int} {i : Nat} {x : Int} (h : l[i]? = some x) (hn : ¬ (1 ≤ x ∧ x ≤ s)) : mkTo s l (i + 1) = mkTo s l i := by
  have hi := get_ltA h
  have hd : l.drop i = x :: l.drop (i + 1) := by
    rw [List.drop_eq_getElem_cons hi]
    rw [List.getElem?_eq_getElem hi] at h
    rw [Option.some.inj h]
  rw [mkTo, mkTo, mk_take h, hd]
  simp [mk1, hn]
theorem mkTo_set {s : Int} {l : List Int} {i : Nat} {x : Int} (h : l[i]? = some x) (hn : 1 ≤ x ∧ x ≤ s) : mkTo s l (i + 1) = (mkTo s l i).set i (-1) := by
  have hi := get_ltA h
  have hd : l.drop i = x :: l.drop (i + 1) := by
    rw [List.drop_eq_getElem_cons hi]
    rw [List.getElem?_eq_getElem hi] at h
    rw [Option.some.inj h]
  rw [mkTo, mkTo, mk_take h, hd]
  rw [List.set_append_right _ _ (by simp [mk]; omega)]
  have : i - (mk s (l.take i)).length = 0 := by simp [mk]; omega
  rw [this]
  simp [mk1, hn]

def hid (l : List Int) : Nat := l.countP fun x => decide (x < 0)
theorem hid_app (a b : List Int) : hid (a ++ b) = hid a + hid b := by simp [hid]
theorem hid_le (l : List Int) : hid l ≤ l.length := List.countP_le_length
theorem hid_take {l : List Int} {i : Nat} {x : Int} (h : l[i]? = some x) : hid (l.take (i + 1)) = hid (l.take i) + (if x < 0 then 1 else 0) := by
  rw [take_snA h, hid_app]
  by_cases q : x < 0
  · rw [if_pos q]; simp [hid, q]
  · rw [if_neg q]; simp [hid, q]
theorem hid_cut {l : List Int} {i : Nat} {x : Int} (h : l[i]? = some x) : hid l = hid (l.take i) + (if x < 0 then 1 else 0) + hid (l.drop (i + 1)) := by
  rw [← hid_take h, ← hid_app, List.take_append_drop]
theorem hid_zero {l : List Int} : hid l = 0 ↔ ∀ x ∈ l, ¬ x < 0 := by
  rw [hid, List.countP_eq_zero]
  simp
def has (l : List Int) (x : Int) : Bool := l.any (fun y => decide (x = y))
theorem has_iff {l : List Int} {x : Int} : has l x = true ↔ x ∈ l := by simp [has]
theorem has_not {l : List Int} {x : Int} (h : has l x = false) : x ∉ l := fun q => by rw [has_iff.2 q] at h; cases h
theorem has_take {l : List Int} {i : Nat} {x y : Int} (h : has (l.take i) x = false) (hy : l[i]? = some y) (hn : x ≠ y) : has (l.take (i + 1)) x = false := by
  rw [List.take_add_one, hy, has, List.any_append]
  rw [has] at h
  rw [h]
  simp [hn]
theorem has_true {l : List Int} {i : Nat} {x : Int} (hx : l[i]? = some x) : has l x = true := has_iff.2 (List.mem_of_getElem? hx)
/-- No number is below -1. -/
def Ge (l : List Int) : Prop := ∀ x ∈ l, -1 ≤ x
theorem Ge.take {l : List Int} (h : Ge l) (i : Nat) : Ge (l.take i) := fun x hx => h x (List.mem_of_mem_take hx)
theorem Ge.drop {l : List Int} (h : Ge l) (i : Nat) : Ge (l.drop i) := fun x hx => h x (List.mem_of_mem_drop hx)
theorem hid_none {l : List Int} (hg : Ge l) (h : has l (-1) = false) : hid l = 0 := by
  rw [hid_zero]
  intro x hx q
  have := hg x hx
  have e : x = -1 := by omega
  subst e
  exact has_not h hx
theorem hid_some {l : List Int} (h : has l (-1) = true) : 1 ≤ hid l := by
  rcases Nat.eq_zero_or_pos (hid l) with q | q
  · exact absurd (show (-1 : Int) < 0 by omega) (hid_zero.1 q _ (has_iff.1 h))
  · exact q

/-- The place of the last of the first i that is masked. -/
def atL (l : List Int) : Nat → Nat
  | 0 => 0
  | i + 1 => if (l[i]?).getD 0 < 0 then i else atL l i
theorem atL_yes {l : List Int} {i : Nat} {x : Int} (h : l[i]? = some x) (hx : x < 0) : atL l (i + 1) = i := by
  show (if (l[i]?).getD 0 < 0 then i else atL l i) = i
  rw [h]
  exact if_pos hx
theorem atL_no {l : List Int} {i : Nat} {x : Int} (h : l[i]? = some x) (hx : ¬ x < 0) : atL l (i + 1) = atL l i := by
  show (if (l[i]?).getD 0 < 0 then i else atL l i) = atL l i
  rw [h]
  exact if_neg hx
theorem atL_lt {l : List Int} (i : Nat) (hi : 0 < i) : atL l i < i := by
  induction i with
  | zero => omega
  | succ i ih =>
    show (if (l[i]?).getD 0 < 0 then i else atL l i) < i + 1
    split
    · omega
    · rcases Nat.eq_zero_or_pos i with q | q
      · subst q; show 0 < 1; omega
      · have := ih q; omega
theorem atL_le {l : List Int} (i : Nat) : atL l i ≤ i := by
  rcases Nat.eq_zero_or_pos i with q | q
  · subst q; exact Nat.le_refl _
  · exact Nat.le_of_lt (atL_lt i q)
theorem atL_far {l : List Int} {i : Nat} {x : Int} (h : l[i]? = some x) (hx : x < 0) (hd : hid (l.drop (i + 1)) = 0) (d : Nat) (hl : i + 1 + d ≤ l.length) : atL l (i + 1 + d) = i := by
  induction d with
  | zero => exact atL_yes h hx
  | succ d ih =>
    have hlt : i + 1 + d < l.length := by omega
    have hy : l[i + 1 + d]? = some l[i + 1 + d] := List.getElem?_eq_getElem hlt
    have : ¬ l[i + 1 + d] < 0 := by
      refine hid_zero.1 hd _ ?_
      have e : (l.drop (i + 1))[d]? = some l[i + 1 + d] := by rw [List.getElem?_drop, hy]
      exact List.mem_of_getElem? e
    show atL l (i + 1 + d + 1) = i
    rw [atL_no hy this]
    exact ih (by omega)
/-- The place of the one that is masked alone, or -1. -/
def lone (l : List Int) : Int := if hid l = 1 then (atL l l.length : Int) else -1
theorem lone_none {l : List Int} (hg : Ge l) (h : has l (-1) = false) : lone l = -1 := by
  rw [lone, if_neg]; rw [hid_none hg h]; omega
theorem lone_two {l : List Int} {i : Nat} (h : l[i]? = some (-1)) (hd : has (l.drop (i + 1)) (-1) = true) : lone l = -1 := by
  rw [lone, if_neg]
  rw [hid_cut h]
  have := hid_some hd
  simp
  omega
theorem lone_at {l : List Int} {i : Nat} {x : Int} (h : l[i]? = some x) (hx : x < 0) (ht : hid (l.take i) = 0) (hd : hid (l.drop (i + 1)) = 0) : lone l = (i : Int) := by
  have hi := get_ltA h
  have e : hid l = 1 := by rw [hid_cut h, ht, hd]; simp [hx]
  rw [lone, if_pos e]
  have := atL_far h hx hd (l.length - (i + 1)) (by omega)
  rw [show i + 1 + (l.length - (i + 1)) = l.length by omega] at this
  rw [this]
theorem lone_one {l : List Int} {i : Nat} (hg : Ge l) (h : l[i]? = some (-1)) (ht : has (l.take i) (-1) = false) (hd : has (l.drop (i + 1)) (-1) = false) : lone l = (i : Int) :=
  lone_at h (by omega) (hid_none (hg.take _) ht) (hid_none (hg.drop _) hd)
theorem lone_neg {l : List Int} : (lone l < 0) ↔ hid l ≠ 1 := by
  unfold lone
  split <;> omega
/-- Where one is masked alone: that very place. -/
theorem hid_one {l : List Int} (h : hid l = 1) : ∃ i x, l[i]? = some x ∧ x < 0 ∧ hid (l.take i) = 0 ∧ hid (l.drop (i + 1)) = 0 := by
  induction l with
  | nil => simp [hid] at h
  | cons a l ih =>
    by_cases q : a < 0
    · refine ⟨0, a, rfl, q, by simp [hid], ?_⟩
      have : hid (a :: l) = 1 + hid l := by simp [hid, q]; omega
      simp
      omega
    · have : hid (a :: l) = hid l := by simp [hid, q]
      obtain ⟨i, x, h1, h2, h3, h4⟩ := ih (by omega)
      refine ⟨i + 1, x, by simpa using h1, h2, ?_, by simpa using h4⟩
      have e : (a :: l).take (i + 1) = a :: l.take i := rfl
      rw [e]
      have : hid (a :: l.take i) = hid (l.take i) := by simp [hid, q]
      omega

/-- The place of the first of the least above s, of the first i. -/
def leTo (s : Int) (l : List Int) : Nat → Int
  | 0 => -1
  | i + 1 => if s < (l[i]?).getD s ∧ (leTo s l i < 0 ∨ (l[i]?).getD s < (l[(leTo s l i).toNat]?).getD 0) then (i : Int) else leTo s l i
theorem leTo_bd (s : Int) (l : List Int) (i : Nat) : -1 ≤ leTo s l i ∧ leTo s l i < (i : Int) := by
  induction i with
  | zero => exact ⟨Int.le_refl _, by show (-1 : Int) < 0; omega⟩
  | succ i ih =>
    show -1 ≤ (if s < (l[i]?).getD s ∧ (leTo s l i < 0 ∨ (l[i]?).getD s < (l[(leTo s l i).toNat]?).getD 0) then (i : Int) else leTo s l i) ∧ (if s < (l[i]?).getD s ∧ (leTo s l i < 0 ∨ (l[i]?).getD s < (l[(leTo s l i).toNat]?).getD 0) then (i : Int) else leTo s l i) < ((i + 1 : Nat) : Int)
    split
    · constructor <;> omega
    · constructor <;> omega
/-- What stands at that place is above s. -/
theorem leTo_above (s : Int) (l : List Int) (i : Nat) (h : 0 ≤ leTo s l i) : ∃ x, l[(leTo s l i).toNat]? = some x ∧ s < x := by
  induction i with
  | zero => exact absurd h (by show ¬ (0 : Int) ≤ -1; omega)
  | succ i ih =>
    have e : leTo s l (i + 1) = if s < (l[i]?).getD s ∧ (leTo s l i < 0 ∨ (l[i]?).getD s < (l[(leTo s l i).toNat]?).getD 0) then (i : Int) else leTo s l i := rfl
    rw [e] at h ⊢
    split at h
    next q =>
      rw [if_pos q]
      cases hx : l[i]? with
      | none => rw [hx] at q; exact absurd q.1 (by simp)
      | some x => rw [hx] at q; exact ⟨x, by simpa using hx, by simpa using q.1⟩
    next q =>
      rw [if_neg q]
      exact ih h
theorem leTo_new {s : Int} {l : List Int} {i : Nat} {x : Int} (hx : l[i]? = some x) (h1 : s < x) (h2 : leTo s l i < 0) : leTo s l (i + 1) = (i : Int) := by
  show (if s < (l[i]?).getD s ∧ (leTo s l i < 0 ∨ (l[i]?).getD s < (l[(leTo s l i).toNat]?).getD 0) then (i : Int) else leTo s l i) = (i : Int)
  rw [if_pos]
  rw [hx]
  exact ⟨h1, .inl h2⟩
theorem leTo_less {s : Int} {l : List Int} {i p : Nat} {x y : Int} (hx : l[i]? = some x) (h1 : s < x) (h2 : leTo s l i = (p : Int)) (hy : l[p]? = some y) (h3 : x < y) : leTo s l (i + 1) = (i : Int) := by
  show (if s < (l[i]?).getD s ∧ (leTo s l i < 0 ∨ (l[i]?).getD s < (l[(leTo s l i).toNat]?).getD 0) then (i : Int) else leTo s l i) = (i : Int)
  rw [if_pos]
  rw [hx, h2]
  refine ⟨h1, .inr ?_⟩
  show x < (l[p]?).getD 0
  rw [hy]
  exact h3
theorem leTo_not {s : Int} {l : List Int} {i p : Nat} {x y : Int} (hx : l[i]? = some x) (h2 : leTo s l i = (p : Int)) (hy : l[p]? = some y) (h3 : ¬ x < y) : leTo s l (i + 1) = (p : Int) := by
  show (if s < (l[i]?).getD s ∧ (leTo s l i < 0 ∨ (l[i]?).getD s < (l[(leTo s l i).toNat]?).getD 0) then (i : Int) else leTo s l i) = (p : Int)
  rw [if_neg, h2]
  rw [hx, h2]
  rintro ⟨_, q | q⟩
  · omega
  · have q' : x < (l[p]?).getD 0 := q
    rw [hy] at q'
    exact h3 q'
theorem leTo_low {s : Int} {l : List Int} {i : Nat} {x : Int} (hx : l[i]? = some x) (h1 : ¬ s < x) : leTo s l (i + 1) = leTo s l i := by
  show (if s < (l[i]?).getD s ∧ (leTo s l i < 0 ∨ (l[i]?).getD s < (l[(leTo s l i).toNat]?).getD 0) then (i : Int) else leTo s l i) = leTo s l i
  rw [if_neg]
  rw [hx]
  exact fun q => h1 q.1
/-- Masked numbers are never the least above s. -/
theorem leTo_mk {s : Int} {l : List Int} (hs : 0 ≤ s) (i : Nat) (hi : i ≤ l.length) : leTo s (mk s l) i = leTo s l i := by
  induction i with
  | zero => rfl
  | succ i ih =>
    have hlt : i < l.length := by omega
    have ih' := ih (by omega)
    have hx : l[i]? = some l[i] := List.getElem?_eq_getElem hlt
    have hm := mk_get (s := s) hx
    generalize l[i] = x at hx hm
    by_cases q : s < x
    · have hmx : mk1 s x = x := by unfold mk1; rw [if_neg]; omega
      rw [hmx] at hm
      rcases Int.lt_or_le (leTo s l i) 0 with q2 | q2
      · rw [leTo_new hx q q2, leTo_new hm q (by rw [ih']; exact q2)]
      · obtain ⟨p, hp⟩ := Int.eq_ofNat_of_zero_le q2
        obtain ⟨y, hy, hys⟩ := leTo_above s l i q2
        rw [hp] at hy
        have hy' : l[p]? = some y := hy
        have hmy : (mk s l)[p]? = some y := by
          rw [mk_get hy']
          unfold mk1
          rw [if_neg]; omega
        by_cases q3 : x < y
        · rw [leTo_less hx q hp hy' q3, leTo_less hm q (by rw [ih']; exact hp) hmy q3]
        · rw [leTo_not hx hp hy' q3, leTo_not hm (by rw [ih']; exact hp) hmy q3]
    · have hmx : ¬ s < mk1 s x := by
        unfold mk1
        split
        · omega
        · exact q
      rw [leTo_low hx q, leTo_low hm hmx]
      exact ih'

def masked (l : List Int) (s : Int) : List Int :=
  if rng s 0 100 = true ∧ rowB 0 l = true then (if hid (mk s l) = 1 ∧ 0 ≤ leTo s l l.length then (mk s l).set (leTo s l l.length).toNat (-1) else mk s l) else []
theorem masked_len (l : List Int) (s : Int) : (masked l s).length ≤ 100 := by
  unfold masked
  split
  next h =>
    have := (rowB_iff.1 h.2).1
    split
    · rw [List.length_set, mk_len]; exact this
    · rw [mk_len]; exact this
  · simp
theorem mk_ge {s : Int} {l : List Int} (h : rowB 0 l = true) : Ge (mk s l) := by
  intro x hx
  rw [mk, List.mem_map] at hx
  obtain ⟨y, hy, rfl⟩ := hx
  have := ((rowB_iff.1 h).2 y hy).1
  unfold mk1
  split <;> omega

/- Guess -/
theorem sumL_take {l : List Int} {i : Nat} {x : Int} (h : l[i]? = some x) : sumL (l.take (i + 1)) = sumL (l.take i) + (if x < 0 then 0 else x) := by
  rw [take_snA h, sumL_snoc]
theorem sumL_bd {l : List Int} (h : ∀ x ∈ l, x ≤ 100000) : 0 ≤ sumL l ∧ sumL l ≤ 100000 * (l.length : Int) := by
  induction l with
  | nil => exact ⟨Int.le_refl _, Int.le_refl _⟩
  | cons a l ih =>
    have h1 := ih (fun x hx => h x (List.mem_cons_of_mem _ hx))
    have h2 := h a (List.mem_cons_self ..)
    have e : sumL (a :: l) = (if a < 0 then 0 else a) + sumL l := by simp [sumL]
    rw [e, List.length_cons]
    push_cast
    split <;> constructor <;> omega
theorem sumL_pos {l : List Int} (h : hid l = 0) : sumL l = l.sum := by
  rw [hid_zero] at h
  induction l with
  | nil => rfl
  | cons a l ih =>
    have e : sumL (a :: l) = (if a < 0 then 0 else a) + sumL l := by simp [sumL]
    rw [e, if_neg (h a (List.mem_cons_self ..)), ih (fun x hx => h x (List.mem_cons_of_mem _ hx)), List.sum_cons]
theorem sumL_app (a b : List Int) : sumL (a ++ b) = sumL a + sumL b := by simp [sumL]
theorem sum_set {l : List Int} {i : Nat} {x : Int} (h : l[i]? = some x) (hx : x < 0) (ht : hid (l.take i) = 0) (hd : hid (l.drop (i + 1)) = 0) : (l.set i 0).sum = sumL l := by
  have hi := get_ltA h
  have e1 : l.set i 0 = l.take i ++ 0 :: l.drop (i + 1) := by rw [List.set_eq_take_append_cons_drop, if_pos hi]
  have e2 : l = l.take i ++ x :: l.drop (i + 1) := by
    have hd2 : l.drop i = x :: l.drop (i + 1) := by
      rw [List.drop_eq_getElem_cons hi]
      rw [List.getElem?_eq_getElem hi] at h
      rw [Option.some.inj h]
    rw [← hd2, List.take_append_drop]
  have e3 : sumL l = sumL (l.take i) + sumL (l.drop (i + 1)) := by
    have : sumL l = sumL (l.take i ++ x :: l.drop (i + 1)) := by rw [← e2]
    rw [this, sumL_app]
    have : sumL (x :: l.drop (i + 1)) = (if x < 0 then 0 else x) + sumL (l.drop (i + 1)) := by simp [sumL]
    rw [this, if_pos hx]
    omega
  rw [e1, e3, sumL_pos ht, sumL_pos hd]
  simp
def guess (l : List Int) (t : Int) : List Int :=
  if rng t 0 10000000 = true ∧ rowB (-1) l = true then (if hid l = 1 then l.set (atL l l.length) (t - sumL l) else l) else []
theorem guess_len (l : List Int) (t : Int) : (guess l t).length ≤ 100 := by
  unfold guess
  split
  next h =>
    have := (rowB_iff.1 h.2).1
    split
    · rw [List.length_set]; exact this
    · exact this
  · simp

/- Rules -/
structure Gr where
  r : Int
  s : Int
structure Cr where
  w : Int
  p : Int
  f : Int
  t : Int
structure Rf where
  p : Int
  r : Int
structure Lk where
  w : Int
  r : Int
  p : Int
  s : Int
  t : Int
  g : Bool
def twB (n : Int) : Bool := rng n 0 19
def peB (n : Int) : Bool := rng n 0 999
def tiB (n : Int) : Bool := rng n 0 10000000
def grB (x : Gr) : Bool := twB x.r && twB x.s
def crB (x : Cr) : Bool := peB x.w && (peB x.p && (tiB x.f && (tiB x.t && decide (x.f ≤ x.t))))
def rfB (x : Rf) : Bool := peB x.p && twB x.r
def rulesB (G : List Gr) (C : List Cr) (R : List Rf) : Bool :=
  (decide (G.length ≤ 200) && G.all grB) && ((decide (C.length ≤ 200) && C.all crB) && (decide (R.length ≤ 200) && R.all rfB))
def lkB (x : Lk) : Bool := peB x.w && (twB x.r && (peB x.p && (twB x.s && tiB x.t)))
def isG (x : Lk) (g : Gr) : Bool := decide (g.r = x.r) && decide (g.s = x.s)
def isC (x : Lk) (c : Cr) : Bool := decide (c.w = x.w) && (decide (c.p = x.p) && rng x.t c.f c.t)
def isR (x : Lk) (f : Rf) : Bool := decide (f.p = x.p) && decide (f.r = x.r)
def see (G : List Gr) (C : List Cr) (R : List Rf) (x : Lk) : Int :=
  if lkB x = false then 1 else if G.any (isG x) = false then 2 else if C.any (isC x) = false then 3 else if R.any (isR x) = true then 4 else 0
def maySee (G : List Gr) (C : List Cr) (R : List Rf) (x : Lk) : Int := if rulesB G C R = true then see G C R x else 1
end Go.Proofs.Ytinnmebpipnccaa.Ax
