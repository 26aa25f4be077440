/-
  Merged: Pk1 Pk2.
-/
namespace Go.Proofs.Ytgcpiinmcbdkmaa.Pq
set_option linter.all false
section
variable {α : Type} [Inhabited α]
def at' (d : List α) (i : Nat) : α := d.getD i default
theorem at_some {d : List α} {i : Nat} (h : i < d.length) : d[i]? = some (at' d i) := by
  unfold at'; rw [List.getD_eq_getElem?_getD, List.getElem?_eq_getElem h]; rfl
theorem at_of {d : List α} {i : Nat} {x : α} (h : d[i]? = some x) : at' d i = x := by
  unfold at'; rw [List.getD_eq_getElem?_getD, h]; rfl
theorem at_mem {d : List α} {i : Nat} (h : i < d.length) : at' d i ∈ d := List.mem_of_getElem? (at_some h)
def sw (d : List α) (i j : Nat) : List α := (d.set i (at' d j)).set j (at' d i)
theorem sw_len (d : List α) (i j : Nat) : (sw d i j).length = d.length := by simp [sw]
theorem sw_at {d : List α} {i j : Nat} (hi : i < d.length) (hj : j < d.length) (k : Nat) : at' (sw d i j) k = if k = j then at' d i else if k = i then at' d j else at' d k := by
  unfold sw at'
  simp only [List.getD_eq_getElem?_getD, List.getElem?_set, List.length_set]
  by_cases h1 : k = j
  · subst h1; simp [hj]
  · have h1' : ¬ j = k := fun e => h1 e.symm
    rw [if_neg h1', if_neg h1]
    by_cases h2 : k = i
    · subst h2; simp [hi]
    · have h2' : ¬ i = k := fun e => h2 e.symm
      rw [if_neg h2', if_neg h2]
theorem sw_self (d : List α) (i : Nat) : sw d i i = d := by
  unfold sw
  rcases Nat.lt_or_ge i d.length with h | h
  · rw [List.set_set]
    apply List.ext_getElem?
    intro k
    rw [List.getElem?_set]
    split
    · rename_i e; subst e; exact (at_some h).symm
    · rfl
  · rw [List.set_set, List.set_eq_of_length_le h]
theorem sw_perm {d : List α} {i j : Nat} (hi : i < d.length) (hj : j < d.length) : (sw d i j).Perm d := by
  by_cases e : i = j
  · subst e; rw [sw_self]
  · have key : ∀ (i j : Nat) (d : List α), i < j → j < d.length → (sw d i j).Perm d := by
      intro i j d hij hj
      have hi : i < d.length := by omega
      have e1 : d = d.take i ++ at' d i :: (d.drop (i + 1)) := by
        have := at_some hi
        rw [List.getElem?_eq_getElem hi] at this
        rw [← Option.some.inj this, ← List.drop_eq_getElem_cons hi, List.take_append_drop]
      obtain ⟨U, x, V, hd, hU⟩ : ∃ U x V, d = U ++ x :: V ∧ U.length = i := ⟨d.take i, at' d i, d.drop (i + 1), e1, by simp; omega⟩
      have hjV : j - i - 1 < V.length := by
        have := congrArg List.length hd
        simp at this; omega
      have e2 : V = V.take (j - i - 1) ++ at' V (j - i - 1) :: V.drop (j - i) := by
        have := at_some hjV
        rw [List.getElem?_eq_getElem hjV] at this
        rw [← Option.some.inj this]
        have h3 := List.drop_eq_getElem_cons hjV
        rw [show j - i - 1 + 1 = j - i from by omega] at h3
        rw [← h3, List.take_append_drop]
      obtain ⟨V1, y, V2, hV, hV1⟩ : ∃ V1 y V2, V = V1 ++ y :: V2 ∧ V1.length = j - i - 1 := ⟨_, _, _, e2, by simp; omega⟩
      subst hV
      have hjl : j = (U ++ x :: V1).length := by simp; omega
      have hx : at' d i = x := by
        rw [hd]; unfold at'; rw [List.getD_eq_getElem?_getD, List.getElem?_append_right (by omega)]; simp [hU]
      have hy : at' d j = y := by
        rw [hd, show U ++ x :: (V1 ++ y :: V2) = (U ++ x :: V1) ++ y :: V2 from by simp]; unfold at'
        rw [List.getD_eq_getElem?_getD, List.getElem?_append_right (by omega), hjl]; simp
      unfold sw
      rw [hx, hy, hd, List.set_append_right _ _ (by omega), show i - U.length = 0 from by omega, List.set_cons_zero,
        show U ++ y :: (V1 ++ y :: V2) = (U ++ y :: V1) ++ y :: V2 from by simp, List.set_append_right _ _ (by simp; omega),
        show j - (U ++ y :: V1).length = 0 from by simp; omega, List.set_cons_zero]
      rw [show U ++ y :: V1 ++ x :: V2 = U ++ (y :: (V1 ++ x :: V2)) from by simp]
      refine List.Perm.append_left U ?_
      exact ((List.perm_middle (a := x) (l₁ := V1) (l₂ := V2)).cons y).trans ((List.Perm.swap x y (V1 ++ V2)).trans ((List.perm_middle (a := y) (l₁ := V1) (l₂ := V2)).symm.cons x))
    rcases Nat.lt_or_gt_of_ne e with h | h
    · exact key i j d h hj
    · have e3 : sw d i j = sw d j i := by
        unfold sw
        exact List.set_comm _ _ e
      rw [e3]; exact key j i d h hi
def PO (a b : Nat) (d d' : List α) : Prop := d'.Perm d ∧ ∀ i, (i < a ∨ b ≤ i) → d'[i]? = d[i]?
theorem PO.refl (a b : Nat) (d : List α) : PO a b d d := ⟨List.Perm.refl _, fun _ _ => rfl⟩
theorem PO.trans {a b : Nat} {d e f : List α} (h : PO a b d e) (k : PO a b e f) : PO a b d f := ⟨k.1.trans h.1, fun i hi => (k.2 i hi).trans (h.2 i hi)⟩
theorem PO.mono {a b a' b' : Nat} {d e : List α} (h : PO a b d e) (ha : a' ≤ a) (hb : b ≤ b') : PO a' b' d e := ⟨h.1, fun i hi => h.2 i (by omega)⟩
theorem PO.len {a b : Nat} {d e : List α} (h : PO a b d e) : e.length = d.length := h.1.length_eq
theorem PO.out {a b : Nat} {d e : List α} (h : PO a b d e) {i : Nat} (hi : i < a ∨ b ≤ i) : at' e i = at' d i := by
  unfold at'; rw [List.getD_eq_getElem?_getD, List.getD_eq_getElem?_getD, h.2 i hi]
theorem PO.sw {a b i j : Nat} {d : List α} (hi : a ≤ i) (hi2 : i < b) (hj : a ≤ j) (hj2 : j < b) (hb : b ≤ d.length) : PO a b d (sw d i j) := by
  refine ⟨sw_perm (by omega) (by omega), fun k hk => ?_⟩
  unfold Pq.sw
  rw [List.getElem?_set_ne (by omega), List.getElem?_set_ne (by omega)]
theorem seg_eq (d : List α) {a b : Nat} (hab : a ≤ b) (hb : b ≤ d.length) : d = d.take a ++ (d.drop a).take (b - a) ++ d.drop b := by
  rw [List.append_assoc]
  have h : d.drop b = (d.drop a).drop (b - a) := by rw [List.drop_drop]; congr 1; omega
  rw [h, List.take_append_drop, List.take_append_drop]
theorem PO.seg {a b : Nat} {d e : List α} (h : PO a b d e) (hab : a ≤ b) (hb : b ≤ d.length) : ((e.drop a).take (b - a)).Perm ((d.drop a).take (b - a)) := by
  have hl := h.len
  have e1 : e.take a = d.take a := by
    apply List.ext_getElem?; intro i
    rw [List.getElem?_take, List.getElem?_take]
    split
    · exact h.2 i (Or.inl (by omega))
    · rfl
  have e2 : e.drop b = d.drop b := by
    apply List.ext_getElem?; intro i
    rw [List.getElem?_drop, List.getElem?_drop]
    exact h.2 _ (Or.inr (by omega))
  have hp := h.1
  rw [seg_eq e hab (by omega), seg_eq d hab hb, e1, e2, List.append_assoc, List.append_assoc] at hp
  exact (List.perm_append_right_iff _).1 ((List.perm_append_left_iff _).1 hp)
theorem seg_at {d : List α} {a b i : Nat} (hi : a ≤ i) (hb : i < b) (hl : b ≤ d.length) : at' d i ∈ (d.drop a).take (b - a) := by
  refine List.mem_of_getElem? (i := i - a) ?_
  rw [List.getElem?_take, if_pos (by omega), List.getElem?_drop, show a + (i - a) = i from by omega]
  exact at_some (by omega)
theorem seg_mem {d : List α} {a b : Nat} {x : α} (hl : b ≤ d.length) (h : x ∈ (d.drop a).take (b - a)) : ∃ i, a ≤ i ∧ i < b ∧ at' d i = x := by
  obtain ⟨k, hk⟩ := List.getElem?_of_mem h
  rw [List.getElem?_take] at hk
  split at hk
  · rw [List.getElem?_drop] at hk
    exact ⟨a + k, by omega, by omega, at_of hk⟩
  · cases hk
theorem PO.from {a b : Nat} {d e : List α} (h : PO a b d e) (hb : b ≤ d.length) {i : Nat} (hi : a ≤ i) (hi2 : i < b) : ∃ j, a ≤ j ∧ j < b ∧ at' e i = at' d j := by
  obtain ⟨j, h1, h2, h3⟩ := seg_mem hb ((h.seg (by omega) hb).mem_iff.1 (seg_at hi hi2 (by rw [h.len]; exact hb)))
  exact ⟨j, h1, h2, h3.symm⟩
theorem PO.nodup {a b : Nat} {d e : List α} (h : PO a b d e) (hn : d.Nodup) : e.Nodup := h.1.nodup_iff.2 hn
theorem PO.all {a b : Nat} {d e : List α} (h : PO a b d e) {P : α → Prop} (hP : ∀ x ∈ d, P x) : ∀ x ∈ e, P x := fun x hx => hP x (h.1.mem_iff.1 hx)
theorem at_ne {d : List α} (hn : d.Nodup) {i j : Nat} (hi : i < d.length) (hj : j < d.length) (hij : i ≠ j) : at' d i ≠ at' d j := by
  intro e
  have h1 := at_some hi
  have h2 := at_some hj
  rw [e] at h1
  obtain ⟨p1, q1⟩ := List.getElem?_eq_some_iff.1 h1
  obtain ⟨p2, q2⟩ := List.getElem?_eq_some_iff.1 h2
  have := (List.getElem_inj hn).1 (q1.trans q2.symm)
  exact hij this
structure Ordr (lt : α → α → Prop) (D : α → Prop) : Prop where
  asym : ∀ x y, lt x y → ¬ lt y x
  trans : ∀ x y z, lt x y → lt y z → lt x z
  tot : ∀ x y, D x → D y → x ≠ y → lt x y ∨ lt y x
variable {lt : α → α → Prop} {D : α → Prop}
structure Fine (lt : α → α → Prop) (D : α → Prop) (d : List α) : Prop where
  ord : Ordr lt D
  nd : d.Nodup
  all : ∀ x ∈ d, D x
theorem Fine.po {a b : Nat} {d e : List α} (h : Fine lt D d) (k : PO a b d e) : Fine lt D e := ⟨h.ord, k.nodup h.nd, k.all h.all⟩
theorem Fine.tot {d : List α} (h : Fine lt D d) {i j : Nat} (hi : i < d.length) (hj : j < d.length) (hij : i ≠ j) : lt (at' d i) (at' d j) ∨ lt (at' d j) (at' d i) :=
  h.ord.tot _ _ (h.all _ (at_mem hi)) (h.all _ (at_mem hj)) (at_ne h.nd hi hj hij)
theorem Fine.not {d : List α} (h : Fine lt D d) {i j : Nat} (hi : i < d.length) (hj : j < d.length) (hij : i ≠ j) (hn : ¬ lt (at' d i) (at' d j)) : lt (at' d j) (at' d i) := (h.tot hi hj hij).resolve_left hn
def SO (lt : α → α → Prop) (a b : Nat) (d : List α) : Prop := ∀ i j, a ≤ i → i < j → j < b → lt (at' d i) (at' d j)
theorem SO.one (a : Nat) (d : List α) : SO lt a (a + 1) d := fun i j h1 h2 h3 => by omega
theorem SO.none {a b : Nat} (h : b ≤ a + 1) (d : List α) : SO lt a b d := fun i j h1 h2 h3 => by omega
theorem SO.keep {a b x y : Nat} {d e : List α} (h : SO lt a b d) (k : PO x y d e) (hxy : b ≤ x ∨ y ≤ a) : SO lt a b e := fun i j h1 h2 h3 => by
  rw [k.out (by omega), k.out (by omega)]; exact h i j h1 h2 h3
structure Down (lt : α → α → Prop) (a i j : Nat) (d : List α) : Prop where
  lo : a ≤ j
  hi : j ≤ i
  rest : ∀ p q, a ≤ p → p < q → q ≤ i → p ≠ j → q ≠ j → lt (at' d p) (at' d q)
  up : ∀ q, j < q → q ≤ i → lt (at' d j) (at' d q)
theorem down_start {a i : Nat} {d : List α} (h : SO lt a i d) (hi : a ≤ i) : Down lt a i i d := ⟨hi, Nat.le_refl _, fun p q h1 h2 h3 h4 h5 => h p q h1 h2 (by omega), fun q h1 h2 => by omega⟩
theorem down_step {a i j : Nat} {d : List α} (h : Down lt a i (j + 1) d) (hj : a ≤ j) (hl : i < d.length) (hlt : lt (at' d (j + 1)) (at' d j)) : Down lt a i j (sw d (j + 1) j) := by
  have h1 := h.hi
  have hs := sw_at (d := d) (i := j + 1) (j := j) (by omega) (by omega)
  refine ⟨hj, by omega, fun p q p1 p2 p3 p4 p5 => ?_, fun q q1 q2 => ?_⟩
  · rw [hs p, hs q, if_neg p4, if_neg p5]
    by_cases e : p = j + 1
    · subst e
      rw [if_pos rfl, if_neg (by omega)]
      exact h.rest j q hj (by omega) p3 (by omega) (by omega)
    · rw [if_neg e]
      by_cases e2 : q = j + 1
      · subst e2
        rw [if_pos rfl]
        exact h.rest p j p1 (by omega) (by omega) e (by omega)
      · rw [if_neg e2]; exact h.rest p q p1 p2 p3 e e2
  · rw [hs j, if_pos rfl, hs q, if_neg (by omega)]
    by_cases e : q = j + 1
    · subst e; rw [if_pos rfl]; exact hlt
    · rw [if_neg e]; exact h.up q (by omega) q2
theorem down_end {a i j : Nat} {d : List α} (hF : Fine lt D d) (h : Down lt a i j d) (hl : i < d.length) (he : j = a ∨ ¬ lt (at' d j) (at' d (j - 1))) : SO lt a (i + 1) d := by
  have h1 := h.lo
  have h2 := h.hi
  intro p q p1 p2 p3
  by_cases ep : p = j
  · subst ep; exact h.up q p2 (by omega)
  · by_cases eq : q = j
    · subst eq
      have hne : q ≠ a := by omega
      have hq := hF.not (i := q) (j := q - 1) (by omega) (by omega) (by omega) (he.resolve_left hne)
      by_cases e3 : p = q - 1
      · rw [e3]; exact hq
      · exact hF.ord.trans _ _ _ (h.rest p (q - 1) p1 (by omega) (by omega) ep (by omega)) hq
    · exact h.rest p q p1 p2 (by omega) ep eq
end
end Go.Proofs.Ytgcpiinmcbdkmaa.Pq

namespace Go.Proofs.Ytgcpiinmcbdkmaa.Pq
set_option linter.all false
section
variable {α : Type} [Inhabited α] {lt : α → α → Prop} {D : α → Prop}
def Parted (lt : α → α → Prop) (a m b : Nat) (d : List α) : Prop := (∀ i, a ≤ i → i < m → lt (at' d i) (at' d m)) ∧ ∀ j, m < j → j < b → lt (at' d m) (at' d j)
structure Mid (lt : α → α → Prop) (a b i j : Nat) (d : List α) : Prop where
  ai : a + 1 ≤ i
  ij : i ≤ j + 1
  jb : j < b
  le : ∀ p, a + 1 ≤ p → p < i → lt (at' d p) (at' d a)
  ge : ∀ q, j < q → q < b → lt (at' d a) (at' d q)
theorem mid_start {a b : Nat} (h : a + 1 < b) (d : List α) : Mid lt a b (a + 1) (b - 1) d := ⟨Nat.le_refl _, by omega, by omega, fun p h1 h2 => by omega, fun q h1 h2 => by omega⟩
theorem mid_up {a b i j : Nat} {d : List α} (h : Mid lt a b i j d) (hij : i ≤ j) (hl : lt (at' d i) (at' d a)) : Mid lt a b (i + 1) j d :=
  ⟨by have := h.ai; omega, by omega, h.jb, fun p h1 h2 => by
    by_cases e : p = i
    · rw [e]; exact hl
    · exact h.le p h1 (by omega), h.ge⟩
theorem mid_down {a b i j : Nat} {d : List α} (hF : Fine lt D d) (hb : b ≤ d.length) (h : Mid lt a b i j d) (hij : i ≤ j) (hl : ¬ lt (at' d j) (at' d a)) : Mid lt a b i (j - 1) d :=
  ⟨h.ai, by have := h.ai; omega, by have := h.jb; omega, h.le, fun q h1 h2 => by
    by_cases e : q = j
    · rw [e]; have := h.ai; have := h.jb; exact hF.not (by omega) (by omega) (by omega) hl
    · exact h.ge q (by omega) h2⟩
theorem mid_swap {a b i j : Nat} {d : List α} (hF : Fine lt D d) (hb : b ≤ d.length) (h : Mid lt a b i j d) (hij : i < j) (hi : ¬ lt (at' d i) (at' d a)) (hj : lt (at' d j) (at' d a)) : Mid lt a b (i + 1) (j - 1) (sw d i j) := by
  have h1 := h.ai
  have h2 := h.jb
  have hs := sw_at (d := d) (i := i) (j := j) (by omega) (by omega)
  have ea : at' (sw d i j) a = at' d a := by rw [hs, if_neg (by omega), if_neg (by omega)]
  refine ⟨by omega, by omega, by omega, fun p p1 p2 => ?_, fun q q1 q2 => ?_⟩
  · rw [ea, hs]
    by_cases e : p = i
    · subst e; rw [if_neg (by omega), if_pos rfl]; exact hj
    · rw [if_neg (by omega), if_neg e]; exact h.le p p1 (by omega)
  · rw [ea, hs]
    by_cases e : q = j
    · subst e; rw [if_pos rfl]; exact hF.not (by omega) (by omega) (by omega) hi
    · rw [if_neg e, if_neg (by omega)]; exact h.ge q (by omega) q2
theorem mid_end {a b i j : Nat} {d : List α} (h : Mid lt a b i j d) (hb : b ≤ d.length) (hij : j < i) : j + 1 = i ∧ a ≤ j ∧ Parted lt a j b (sw d j a) := by
  have h1 := h.ai
  have h2 := h.jb
  have h3 := h.ij
  have hs := sw_at (d := d) (i := j) (j := a) (by omega) (by omega)
  refine ⟨by omega, by omega, fun p p1 p2 => ?_, fun q q1 q2 => ?_⟩
  · have ej : at' (sw d j a) j = at' d a := by
      rw [hs]
      by_cases e : j = a
      · omega
      · rw [if_neg e, if_pos rfl]
    rw [ej, hs]
    by_cases e : p = a
    · subst e; rw [if_pos rfl]; exact h.le j (by omega) (by omega)
    · rw [if_neg e, if_neg (by omega)]; exact h.le p (by omega) (by omega)
  · have ej : at' (sw d j a) j = at' d a := by
      rw [hs]
      by_cases e : j = a
      · rw [if_pos e, e]
      · rw [if_neg e, if_pos rfl]
    rw [ej, hs, if_neg (by omega), if_neg (by omega)]; exact h.ge q q1 q2
theorem parted_left {a m b : Nat} {d e : List α} (h : Parted lt a m b d) (k : PO a m d e) (hm : m < b) (hb : b ≤ d.length) (ham : a ≤ m) : Parted lt a m b e := by
  refine ⟨fun i h1 h2 => ?_, fun j h1 h2 => ?_⟩
  · obtain ⟨q, q1, q2, q3⟩ := k.from (by omega) h1 h2
    rw [q3, k.out (i := m) (by omega)]; exact h.1 q q1 q2
  · rw [k.out (i := m) (by omega), k.out (i := j) (by omega)]; exact h.2 j h1 h2
theorem parted_right {a m b : Nat} {d e : List α} (h : Parted lt a m b d) (k : PO (m + 1) b d e) (hm : m < b) (hb : b ≤ d.length) (ham : a ≤ m) : Parted lt a m b e := by
  refine ⟨fun i h1 h2 => ?_, fun j h1 h2 => ?_⟩
  · rw [k.out (i := m) (by omega), k.out (i := i) (by omega)]; exact h.1 i h1 h2
  · obtain ⟨q, q1, q2, q3⟩ := k.from (by omega) (show m + 1 ≤ j by omega) h2
    rw [q3, k.out (i := m) (by omega)]; exact h.2 q (by omega) q2
theorem parted_join {a m b : Nat} {d : List α} (hO : Ordr lt D) (h : Parted lt a m b d) (h1 : SO lt a m d) (h2 : SO lt (m + 1) b d) : SO lt a b d := by
  intro i j q1 q2 q3
  rcases Nat.lt_trichotomy j m with e | e | e
  · exact h1 i j q1 q2 e
  · subst e; exact h.1 i q1 q2
  · rcases Nat.lt_trichotomy i m with f | f | f
    · exact hO.trans _ _ _ (h.1 i q1 f) (h.2 j e q3)
    · subst f; exact h.2 j e q3
    · exact h2 i j (by omega) q2 q3
def Pred (lt : α → α → Prop) (a b : Nat) (d : List α) : Prop := a = 0 ∨ ∀ i, a ≤ i → i < b → lt (at' d (a - 1)) (at' d i)
theorem Pred.po {a b : Nat} {d e : List α} (h : Pred lt a b d) (k : PO a b d e) (hb : b ≤ d.length) : Pred lt a b e := by
  rcases h with h | h
  · exact Or.inl h
  · by_cases q : a = 0
    · exact Or.inl q
    · refine Or.inr fun i h1 h2 => ?_
      obtain ⟨j, j1, j2, j3⟩ := k.from hb h1 h2
      rw [j3, k.out (i := a - 1) (by omega)]; exact h j j1 j2
theorem Pred.less {a b b' : Nat} {d : List α} (h : Pred lt a b d) (hb : b' ≤ b) : Pred lt a b' d := h.elim Or.inl (fun h => Or.inr fun i h1 h2 => h i h1 (by omega))
theorem pred_right {a m b : Nat} {d : List α} (h : Parted lt a m b d) : Pred lt (m + 1) b d := Or.inr fun i h1 h2 => by
  rw [Nat.add_sub_cancel]; exact h.2 i (by omega) h2
def Heap (lt : α → α → Prop) (f l n : Nat) (d : List α) : Prop := ∀ i c, l ≤ i → (c = 2 * i + 1 ∨ c = 2 * i + 2) → c < n → ¬ lt (at' d (f + i)) (at' d (f + c))
structure Sink (lt : α → α → Prop) (f l n r : Nat) (d : List α) : Prop where
  lr : l ≤ r
  rest : ∀ i c, l ≤ i → i ≠ r → (c = 2 * i + 1 ∨ c = 2 * i + 2) → c < n → ¬ lt (at' d (f + i)) (at' d (f + c))
  par : ∀ p c, l ≤ p → (r = 2 * p + 1 ∨ r = 2 * p + 2) → (c = 2 * r + 1 ∨ c = 2 * r + 2) → c < n → ¬ lt (at' d (f + p)) (at' d (f + c))
theorem sink_start {f l n : Nat} {d : List α} (h : Heap lt f (l + 1) n d) : Sink lt f l n l d :=
  ⟨Nat.le_refl _, fun i c h1 h2 h3 h4 => h i c (by omega) h3 h4, fun p c h1 h2 h3 h4 => by omega⟩
theorem sink_end {f l n r : Nat} {d : List α} (h : Sink lt f l n r d) (he : ∀ c, (c = 2 * r + 1 ∨ c = 2 * r + 2) → c < n → ¬ lt (at' d (f + r)) (at' d (f + c))) : Heap lt f l n d := by
  intro i c h1 h2 h3
  by_cases e : i = r
  · subst e; exact he c h2 h3
  · exact h.rest i c h1 e h2 h3
theorem sink_step {f l n r c : Nat} {d : List α} (hF : Fine lt D d) (hn : f + n ≤ d.length) (h : Sink lt f l n r d) (hc : c = 2 * r + 1 ∨ c = 2 * r + 2) (hcn : c < n) (hg : ∀ c', (c' = 2 * r + 1 ∨ c' = 2 * r + 2) → c' < n → ¬ lt (at' d (f + c)) (at' d (f + c'))) (hl : lt (at' d (f + r)) (at' d (f + c))) : Sink lt f l n c (sw d (f + r) (f + c)) := by
  have h1 := h.lr
  have hs := sw_at (d := d) (i := f + r) (j := f + c) (by omega) (by omega)
  have er : at' (sw d (f + r) (f + c)) (f + r) = at' d (f + c) := by rw [hs, if_neg (by omega), if_pos rfl]
  have ec : at' (sw d (f + r) (f + c)) (f + c) = at' d (f + r) := by rw [hs, if_pos rfl]
  have eo : ∀ k, k ≠ r → k ≠ c → at' (sw d (f + r) (f + c)) (f + k) = at' d (f + k) := fun k k1 k2 => by rw [hs, if_neg (by omega), if_neg (by omega)]
  refine ⟨by omega, fun i k i1 i2 i3 i4 => ?_, fun p k p1 p2 p3 p4 => ?_⟩
  · by_cases e : i = r
    · subst e
      rw [er]
      by_cases e2 : k = c
      · subst e2; rw [ec]; exact hF.ord.asym _ _ hl
      · rw [eo k (by omega) e2]; exact hg k i3 i4
    · rw [eo i e i2]
      by_cases e2 : k = r
      · subst e2; rw [er]; exact h.par i c i1 i3 hc hcn
      · by_cases e3 : k = c
        · omega
        · rw [eo k e2 e3]; exact h.rest i k i1 e i3 i4
  · have : p = r := by omega
    subst this
    rw [er, eo k (by omega) (by omega)]
    exact h.rest c k (by omega) (by omega) p3 p4
theorem heap_top {f n : Nat} {d : List α} (hF : Fine lt D d) (hn : f + n ≤ d.length) (h : Heap lt f 0 n d) : ∀ i, 0 < i → i < n → lt (at' d (f + i)) (at' d f) := by
  intro i
  induction i using Nat.strongRecOn with
  | ind i ih =>
    intro hi hin
    obtain ⟨p, hp⟩ : ∃ p, i = 2 * p + 1 ∨ i = 2 * p + 2 := ⟨(i - 1) / 2, by omega⟩
    have h1 := h p i (Nat.zero_le _) hp hin
    have h2 := hF.not (i := f + p) (j := f + i) (by omega) (by omega) (by omega) h1
    by_cases e : p = 0
    · subst e; exact h2
    · exact hF.ord.trans _ _ _ h2 (ih p (by omega) (by omega) (by omega))
structure Pop (lt : α → α → Prop) (f n m : Nat) (d : List α) : Prop where
  heap : Heap lt f 0 n d
  so : SO lt (f + n) (f + m) d
  gr : ∀ i j, i < n → n ≤ j → j < m → lt (at' d (f + i)) (at' d (f + j))
theorem pop_step {f n m : Nat} {d : List α} (hF : Fine lt D d) (hm : f + m ≤ d.length) (hn : n + 1 ≤ m) (h : Pop lt f (n + 1) m d) : Sink lt f 0 n 0 (sw d f (f + n)) ∧ SO lt (f + n) (f + m) (sw d f (f + n)) ∧ ∀ i j, i < n → n ≤ j → j < m → lt (at' (sw d f (f + n)) (f + i)) (at' (sw d f (f + n)) (f + j)) := by
  have hs := sw_at (d := d) (i := f) (j := f + n) (by omega) (by omega)
  have htop := heap_top hF (by omega) h.heap
  have en : at' (sw d f (f + n)) (f + n) = at' d f := by rw [hs, if_pos rfl]
  refine ⟨⟨Nat.le_refl _, fun i c i1 i2 i3 i4 => ?_, fun p c p1 p2 p3 p4 => by omega⟩, fun i j i1 i2 i3 => ?_, fun i j i1 i2 i3 => ?_⟩
  · rw [hs (f + i), if_neg (by omega), if_neg (by omega), hs (f + c), if_neg (by omega), if_neg (by omega)]
    exact h.heap i c (Nat.zero_le _) i3 (by omega)
  · by_cases e : i = f + n
    · subst e
      rw [en, hs j, if_neg (by omega), if_neg (by omega)]
      have := h.gr 0 (j - f) (by omega) (by omega) (by omega)
      rw [show f + (j - f) = j from by omega] at this; exact this
    · rw [hs i, if_neg e, if_neg (by omega), hs j, if_neg (by omega), if_neg (by omega)]
      exact h.so i j (by omega) i2 i3
  · have hx : at' (sw d f (f + n)) (f + i) = at' d (f + (if i = 0 then n else i)) := by
      rw [hs, if_neg (by omega)]
      by_cases e : i = 0
      · subst e; simp
      · rw [if_neg (by omega), if_neg e]
    have hk : (if i = 0 then n else i) ≤ n ∧ 0 < (if i = 0 then n else i) := by split <;> omega
    rw [hx]
    generalize (if i = 0 then n else i) = k at hk
    by_cases e : j = n
    · subst e; rw [en]; exact htop k hk.2 (by omega)
    · rw [hs (f + j), if_neg (by omega), if_neg (by omega)]
      exact h.gr k j (by omega) (by omega) i3
theorem pop_keep {f n m : Nat} {d e : List α} (k : PO f (f + n) d e) (hm : f + m ≤ d.length) (hn : n ≤ m) (h2 : SO lt (f + n) (f + m) d) (h3 : ∀ i j, i < n → n ≤ j → j < m → lt (at' d (f + i)) (at' d (f + j))) (h1 : Heap lt f 0 n e) : Pop lt f n m e := by
  refine ⟨h1, h2.keep k (Or.inr (Nat.le_refl _)), fun i j i1 i2 i3 => ?_⟩
  obtain ⟨q, q1, q2, q3⟩ := k.from (by omega) (show f ≤ f + i by omega) (show f + i < f + n by omega)
  rw [q3, k.out (i := f + j) (by omega)]
  have := h3 (q - f) j (by omega) i2 i3
  rwa [show f + (q - f) = q from by omega] at this
theorem pop_all {f m : Nat} {d : List α} (h : Pop lt f 0 m d) : SO lt f (f + m) d := h.so
end
end Go.Proofs.Ytgcpiinmcbdkmaa.Pq
