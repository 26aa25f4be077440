/-
  Plain facts on heaps kept in a list, and on lists in their order; no Go in sight.
-/
namespace Go.Proofs.Ytcfghnffacdekab.Vh

/-- The item at a place. -/
def g (l : List Int) (i : Nat) : Int := l.getD i 0
def par (i : Nat) : Nat := (i - 1) / 2
def swp (l : List Int) (a b : Nat) : List Int := (l.set a (g l b)).set b (g l a)

theorem g_set (l : List Int) (i j : Nat) (v : Int) : g (l.set i v) j = if i = j ∧ i < l.length then v else g l j := by
  unfold g
  rw [List.getD_eq_getElem?_getD, List.getD_eq_getElem?_getD, List.getElem?_set]
  by_cases h : i = j
  · subst h
    by_cases h2 : i < l.length
    · simp [h2]
    · simp [h2]
  · simp [h]
theorem g_eq {l : List Int} {i : Nat} (h : i < l.length) : g l i = l[i] := by
  unfold g
  rw [List.getD_eq_getElem?_getD, List.getElem?_eq_getElem h]; rfl
theorem g_get {l : List Int} {i : Nat} (h : i < l.length) : l[i]? = some (g l i) := by rw [g_eq h, List.getElem?_eq_getElem h]
theorem g_mem {l : List Int} {i : Nat} (h : i < l.length) : g l i ∈ l := by rw [g_eq h]; exact List.getElem_mem h
theorem swp_len (l : List Int) (a b : Nat) : (swp l a b).length = l.length := by simp [swp]
theorem g_swp {l : List Int} {a b : Nat} (ha : a < l.length) (hb : b < l.length) (i : Nat) : g (swp l a b) i = if i = a then g l b else if i = b then g l a else g l i := by
  unfold swp
  rw [g_set, g_set]
  simp only [List.length_set]
  by_cases h1 : b = i
  · subst h1
    by_cases h2 : b = a
    · subst h2; simp [hb]
    · simp [hb, h2]
  · have h1' : ¬ i = b := fun q => h1 q.symm
    by_cases h2 : a = i
    · subst h2; simp [ha, h1]
    · have h2' : ¬ i = a := fun q => h2 q.symm
      simp [h1, h2, h1', h2']
theorem swp_perm {l : List Int} {a b : Nat} (ha : a < l.length) (hb : b < l.length) : (swp l a b).Perm l := by
  unfold swp
  rw [g_eq ha, g_eq hb]
  exact List.set_set_perm ha hb

/-- An order on items: bf a b says that a comes ahead of b. -/
structure Ord (bf : Int → Int → Bool) : Prop where
  asym : ∀ a b, bf a b = true → bf b a = false
  tr : ∀ a b c, bf b a = false → bf c b = false → bf c a = false

variable {bf : Int → Int → Bool}

def Heap (bf : Int → Int → Bool) (l : List Int) : Prop := ∀ i, 0 < i → i < l.length → bf (g l i) (g l (par i)) = false
def Up (bf : Int → Int → Bool) (l : List Int) (at' : Nat) : Prop := (∀ i, 0 < i → i < l.length → i ≠ at' → bf (g l i) (g l (par i)) = false) ∧ (0 < at' → ∀ i, 0 < i → i < l.length → par i = at' → bf (g l i) (g l (par at')) = false)
def Dn (bf : Int → Int → Bool) (l : List Int) (at' : Nat) : Prop := (∀ i, 0 < i → i < l.length → par i ≠ at' → bf (g l i) (g l (par i)) = false) ∧ (0 < at' → ∀ i, 0 < i → i < l.length → par i = at' → bf (g l i) (g l (par at')) = false)

theorem par_lt {i : Nat} (h : 0 < i) : par i < i := by unfold par; omega

theorem up_end {l : List Int} {k : Nat} (h : Up bf l k) (hk : k = 0 ∨ bf (g l k) (g l (par k)) = false) : Heap bf l := by
  intro i h0 hl
  by_cases q : i = k
  · rcases hk with hk | hk
    · omega
    · rw [q]; exact hk
  · exact h.1 i h0 hl q
theorem up_step (ho : Ord bf) {l : List Int} {k : Nat} (h : Up bf l k) (h0 : 0 < k) (hl : k < l.length) (hb : bf (g l k) (g l (par k)) = true) : Up bf (swp l k (par k)) (par k) := by
  have hp := par_lt h0
  have hpl : par k < l.length := by omega
  have G := fun i => g_swp (l := l) hl hpl i
  refine ⟨fun i i0 il ik => ?_, fun p0 i i0 il ik => ?_⟩
  · rw [swp_len] at il
    rw [G, G]
    have hpi := par_lt i0
    by_cases q : i = k
    · subst q
      rw [if_pos rfl, if_neg (by omega), if_pos rfl]
      exact ho.asym _ _ hb
    · rw [if_neg q, if_neg ik]
      by_cases q1 : par i = k
      · rw [if_pos q1]
        exact h.2 h0 i i0 il q1
      · rw [if_neg q1]
        by_cases q2 : par i = par k
        · rw [if_pos q2]
          have := h.1 i i0 il q
          rw [q2] at this
          exact ho.tr _ _ _ (ho.asym _ _ hb) this
        · rw [if_neg q2]
          exact h.1 i i0 il q
  · rw [swp_len] at il
    have hpp := par_lt p0
    rw [G, G, if_neg (show ¬ par (par k) = k by omega), if_neg (show ¬ par (par k) = par k by omega)]
    have a := h.1 (par k) p0 hpl (by omega)
    by_cases q : i = k
    · rw [if_pos q]
      exact a
    · have hpi := par_lt i0
      rw [if_neg q, if_neg (show ¬ i = par k by omega)]
      have b := h.1 i i0 il q
      rw [ik] at b
      exact ho.tr _ _ _ a b
theorem push_up {l : List Int} (h : Heap bf l) (x : Int) : Up bf (l ++ [x]) l.length := by
  have e : ∀ i, i < l.length → g (l ++ [x]) i = g l i := by
    intro i hi
    unfold g
    rw [List.getD_eq_getElem?_getD, List.getD_eq_getElem?_getD, List.getElem?_append_left hi]
  refine ⟨fun i i0 il ik => ?_, fun p0 i i0 il ik => ?_⟩
  · simp at il
    have hpi := par_lt i0
    rw [e i (by omega), e (par i) (by omega)]
    exact h i i0 (by omega)
  · simp at il
    have hpi := par_lt i0
    omega

/-- The place whose item comes first: a place, or one of the two below it. -/
def fo1 (bf : Int → Int → Bool) (l : List Int) (k : Nat) : Nat := if 2 * k + 1 < l.length ∧ bf (g l (2 * k + 1)) (g l k) = true then 2 * k + 1 else k
def fo (bf : Int → Int → Bool) (l : List Int) (k : Nat) : Nat := if 2 * k + 2 < l.length ∧ bf (g l (2 * k + 2)) (g l (fo1 bf l k)) = true then 2 * k + 2 else fo1 bf l k

theorem not_true {b : Bool} (h : ¬ b = true) : b = false := by cases b <;> simp_all
theorem refl_of (ho : Ord bf) (a : Int) : bf a a = false := by
  cases h : bf a a with
  | false => rfl
  | true => have := ho.asym a a h; rw [h] at this; cases this
theorem fo_spec (ho : Ord bf) (l : List Int) (k : Nat) : (fo bf l k = k ∨ (par (fo bf l k) = k ∧ 0 < fo bf l k ∧ fo bf l k < l.length ∧ k < fo bf l k ∧ bf (g l (fo bf l k)) (g l k) = true)) ∧ (∀ i, 0 < i → i < l.length → par i = k → bf (g l i) (g l (fo bf l k)) = false) ∧ bf (g l k) (g l (fo bf l k)) = false := by
  have h1 : (fo1 bf l k = k ∧ (2 * k + 1 < l.length → bf (g l (2 * k + 1)) (g l k) = false)) ∨ (fo1 bf l k = 2 * k + 1 ∧ 2 * k + 1 < l.length ∧ bf (g l (2 * k + 1)) (g l k) = true) := by
    unfold fo1
    split
    · rename_i q; exact Or.inr ⟨rfl, q.1, q.2⟩
    · rename_i q; exact Or.inl ⟨rfl, fun q1 => not_true fun q2 => q ⟨q1, q2⟩⟩
  have h2 : (fo bf l k = fo1 bf l k ∧ (2 * k + 2 < l.length → bf (g l (2 * k + 2)) (g l (fo1 bf l k)) = false)) ∨ (fo bf l k = 2 * k + 2 ∧ 2 * k + 2 < l.length ∧ bf (g l (2 * k + 2)) (g l (fo1 bf l k)) = true) := by
    unfold fo
    split
    · rename_i q; exact Or.inr ⟨rfl, q.1, q.2⟩
    · rename_i q; exact Or.inl ⟨rfl, fun q1 => not_true fun q2 => q ⟨q1, q2⟩⟩
  have ch : ∀ i, 0 < i → par i = k → i = 2 * k + 1 ∨ i = 2 * k + 2 := by intro i i0 h; unfold par at h; omega
  rcases h2 with ⟨e2, h2⟩ | ⟨e2, l2, h2⟩
  · rw [e2]
    rcases h1 with ⟨e1, h1⟩ | ⟨e1, l1, h1⟩
    · rw [e1] at h2 ⊢
      refine ⟨Or.inl rfl, fun i i0 il ip => ?_, refl_of ho _⟩
      rcases ch i i0 ip with rfl | rfl
      · exact h1 il
      · exact h2 il
    · rw [e1] at h2 ⊢
      refine ⟨Or.inr ⟨by unfold par; omega, by omega, l1, by omega, h1⟩, fun i i0 il ip => ?_, ho.asym _ _ h1⟩
      rcases ch i i0 ip with rfl | rfl
      · exact refl_of ho _
      · exact h2 il
  · rw [e2]
    rcases h1 with ⟨e1, h1⟩ | ⟨e1, l1, h1⟩
    · rw [e1] at h2
      refine ⟨Or.inr ⟨by unfold par; omega, by omega, l2, by omega, h2⟩, fun i i0 il ip => ?_, ho.asym _ _ h2⟩
      rcases ch i i0 ip with rfl | rfl
      · exact ho.tr _ _ _ (ho.asym _ _ h2) (h1 il)
      · exact refl_of ho _
    · rw [e1] at h2
      have a := ho.asym _ _ h2
      have b := ho.asym _ _ h1
      have h3 : bf (g l (2 * k + 2)) (g l k) = true := by
        cases q : bf (g l (2 * k + 2)) (g l k) with
        | true => rfl
        | false =>
          have := ho.tr _ _ _ b q
          rw [this] at h2; cases h2
      refine ⟨Or.inr ⟨by unfold par; omega, by omega, l2, by omega, h3⟩, fun i i0 il ip => ?_, ho.asym _ _ h3⟩
      rcases ch i i0 ip with rfl | rfl
      · exact a
      · exact refl_of ho _
theorem dn_end (ho : Ord bf) {l : List Int} {k : Nat} (h : Dn bf l k) (he : fo bf l k = k) : Heap bf l := by
  intro i i0 il
  by_cases q : par i = k
  · have := (fo_spec ho l k).2.1 i i0 il q
    rw [he] at this
    rw [q]; exact this
  · exact h.1 i i0 il q
theorem dn_step (ho : Ord bf) {l : List Int} {k : Nat} (h : Dn bf l k) (hk : k < l.length) (hn : fo bf l k ≠ k) : Dn bf (swp l k (fo bf l k)) (fo bf l k) := by
  obtain ⟨s1, s2, s3⟩ := fo_spec ho l k
  generalize fo bf l k = x at *
  rcases s1 with s1 | ⟨px, x0, xl, kx, hb⟩
  · exact absurd s1 hn
  have G := fun i => g_swp (l := l) hk xl i
  refine ⟨fun i i0 il ip => ?_, fun p0 i i0 il ip => ?_⟩
  · rw [swp_len] at il
    have hpi := par_lt i0
    rw [G, G]
    by_cases q : par i = k
    · rw [if_pos q, if_neg (show ¬ i = k by omega)]
      by_cases q1 : i = x
      · rw [if_pos q1]; exact ho.asym _ _ hb
      · rw [if_neg q1]; exact s2 i i0 il q
    · rw [if_neg q, if_neg ip]
      by_cases q1 : i = k
      · rw [if_pos q1]
        subst q1
        exact h.2 i0 x x0 xl px
      · rw [if_neg q1, if_neg (show ¬ i = x from fun e => q (by rw [e]; exact px))]
        exact h.1 i i0 il q
  · rw [swp_len] at il
    have hpi := par_lt i0
    rw [G, G, px, if_pos rfl, if_neg (show ¬ i = k by omega), if_neg (show ¬ i = x by omega)]
    have := h.1 i i0 il (by omega)
    rw [ip] at this
    exact this
theorem take_g {l : List Int} {n i : Nat} (h : i < n) : g (l.take n) i = g l i := by
  unfold g
  rw [List.getD_eq_getElem?_getD, List.getD_eq_getElem?_getD, List.getElem?_take]
  simp [h]
theorem pop_dn {l : List Int} {n : Nat} (h : Heap bf l) (hn : l.length = n + 1) : Dn bf ((swp l 0 n).take n) 0 := by
  refine ⟨fun i i0 il ip => ?_, fun p0 => absurd p0 (Nat.lt_irrefl 0)⟩
  simp [swp_len] at il
  have hpi := par_lt i0
  rw [take_g (by omega), take_g (by omega), g_swp (by omega) (by omega), g_swp (by omega) (by omega), if_neg (by omega), if_neg (by omega), if_neg ip, if_neg (by omega)]
  exact h i i0 (by omega)
theorem heap_min (ho : Ord bf) {l : List Int} (h : Heap bf l) : ∀ n i, i < n → i < l.length → bf (g l i) (g l 0) = false
  | 0, i, hi, _ => absurd hi (Nat.not_lt_zero _)
  | n + 1, i, hi, il => by
    by_cases q : i = 0
    · rw [q]; exact refl_of ho _
    · have hp := par_lt (show 0 < i by omega)
      exact ho.tr _ _ _ (heap_min ho h n (par i) (by omega) (by omega)) (h i (by omega) il)
theorem pop_perm {l : List Int} {n : Nat} (hn : l.length = n + 1) : (g l 0 :: (swp l 0 n).take n).Perm l := by
  have h1 := swp_perm (l := l) (a := 0) (b := n) (by omega) (by omega)
  have hl : (swp l 0 n).length = n + 1 := by rw [swp_len, hn]
  have e : swp l 0 n = (swp l 0 n).take n ++ [g l 0] := by
    have a := List.take_append_drop n (swp l 0 n)
    have b : (swp l 0 n).drop n = [g l 0] := by
      rw [List.drop_eq_getElem_cons (by omega)]
      have c : (swp l 0 n).drop (n + 1) = [] := List.drop_eq_nil_of_le (by omega)
      rw [c, ← g_eq (by omega), g_swp (by omega) (by omega)]
      by_cases q : n = 0
      · rw [if_pos q, q]
      · rw [if_neg q, if_pos rfl]
    rw [b] at a
    exact a.symm
  rw [e] at h1
  exact (List.perm_append_singleton _ _).symm.trans h1

/-- Lists in their order. -/
def Sorted (bf : Int → Int → Bool) (l : List Int) : Prop := l.Pairwise fun a b => bf b a = false

theorem sorted_eq : ∀ {l m : List Int}, (∀ a b, a ∈ l → b ∈ l → bf a b = false → bf b a = false → a = b) → Sorted bf l → Sorted bf m → l.Perm m → l = m
  | [], m, _, _, _, hp => by have := hp.length_eq; cases m <;> simp_all
  | a :: l, [], _, _, _, hp => by have := hp.length_eq; simp at this
  | a :: l, b :: m, ha, h1, h2, hp => by
    have p1 := List.pairwise_cons.1 h1
    have p2 := List.pairwise_cons.1 h2
    have e : a = b := by
      rcases List.mem_cons.1 (hp.mem_iff.1 List.mem_cons_self) with q | q
      · exact q
      · rcases List.mem_cons.1 (hp.mem_iff.2 (List.mem_cons_self (a := b) (l := m))) with q' | q'
        · exact q'.symm
        · exact ha a b List.mem_cons_self (List.mem_cons_of_mem _ q') (p2.1 a q) (p1.1 b q')
    subst e
    rw [sorted_eq (fun x y hx hy => ha x y (List.mem_cons_of_mem _ hx) (List.mem_cons_of_mem _ hy)) p1.2 p2.2 ((List.perm_cons a).1 hp)]

/-- What is put in at a place. -/
def insAt (l : List Int) (k : Nat) (x : Int) : List Int := l.take k ++ x :: l.drop k
theorem ins_perm (l : List Int) (k : Nat) (x : Int) : (insAt l k x).Perm (x :: l) := by
  unfold insAt
  have := List.perm_middle (a := x) (l₁ := l.take k) (l₂ := l.drop k)
  rw [List.take_append_drop] at this
  exact this
theorem ins_sorted (ho : Ord bf) {l : List Int} {k : Nat} {x : Int} (h : Sorted bf l) (hk : k ≤ l.length) (h1 : 0 < k → bf x (g l (k - 1)) = false) (h2 : ∀ i, k ≤ i → i < l.length → bf (g l i) x = false) : Sorted bf (insAt l k x) := by
  have hs : Sorted bf (l.take k ++ l.drop k) := by rw [List.take_append_drop]; exact h
  unfold Sorted at hs
  rw [List.pairwise_append] at hs
  obtain ⟨a1, a2, a3⟩ := hs
  have b2 : ∀ y ∈ l.drop k, bf y x = false := by
    intro y hy
    obtain ⟨i, hi⟩ := List.getElem?_of_mem hy
    rw [List.getElem?_drop] at hi
    have hl := (List.getElem?_eq_some_iff.1 hi).1
    have := h2 (k + i) (by omega) hl
    rw [g_get hl] at hi
    cases hi
    exact this
  have b1 : ∀ y ∈ l.take k, bf x y = false := by
    intro y hy
    obtain ⟨i, hi⟩ := List.getElem?_of_mem hy
    have hl0 := (List.getElem?_eq_some_iff.1 hi).1
    rw [List.length_take] at hl0
    have hl : i < k ∧ i < l.length := by omega
    rw [List.getElem?_take, if_pos hl.1, g_get hl.2] at hi
    cases hi
    have q := h1 (by omega)
    by_cases e : i = k - 1
    · rw [e]; exact q
    · have := (List.pairwise_iff_getElem.1 h) i (k - 1) hl.2 (by omega) (by omega)
      rw [← g_eq hl.2, ← g_eq (by omega)] at this
      exact ho.tr _ _ _ this q
  unfold Sorted insAt
  rw [List.pairwise_append]
  refine ⟨a1, List.pairwise_cons.2 ⟨b2, a2⟩, fun a ha b hb => ?_⟩
  rcases List.mem_cons.1 hb with rfl | hb
  · exact b1 a ha
  · exact a3 a ha b hb
theorem snoc_sorted {l : List Int} {x : Int} (h : Sorted bf l) (h1 : ∀ y ∈ l, bf x y = false) : Sorted bf (l ++ [x]) := by
  unfold Sorted
  rw [List.pairwise_append]
  refine ⟨h, List.pairwise_singleton _ _, fun a ha b hb => ?_⟩
  rw [List.mem_singleton] at hb
  subst hb
  exact h1 a ha
end Go.Proofs.Ytcfghnffacdekab.Vh
