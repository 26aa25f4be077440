/-
  Letters folded: what counts, what holds, what tells. No Go in sight.
-/
import Derived.Test.YtbabknhccapaoaaM1
namespace Go.Proofs.Ytbabknhccapaoaa.Mg
open Va
set_option linter.all false

deriving instance DecidableEq for Lt
/-- Is a the greater of two of one sender and number? -/
def moreB (a b : Lt) : Bool := if a.c ≠ b.c then decide (b.c < a.c) else if a.k ≠ b.k then decide (b.k < a.k) else decide (b.v < a.v)
/-- Of one sender and number. -/
def Same (a b : Lt) : Prop := a.f = b.f ∧ a.s = b.s
instance (a b : Lt) : Decidable (Same a b) := inferInstanceAs (Decidable (_ ∧ _))
def at2 (I : List Lt) (x : Lt) (k : Nat) : List Lt := match I[k]? with
  | none => I ++ [x]
  | some y => if moreB x y then I.set k x else I
/-- The place of the letter of x's number, or the end. -/
structure Plc (I : List Lt) (x : Lt) (k : Nat) : Prop where
  le : k ≤ I.length
  not' : ∀ j y, j < k → I[j]? = some y → ¬ Same y x
  here : ∀ y, I[k]? = some y → Same y x
theorem Plc.unique {I : List Lt} {x : Lt} {k k' : Nat} (h : Plc I x k) (h' : Plc I x k') : k = k' := by
  have key : ∀ {a b : Nat}, Plc I x a → Plc I x b → ¬ a < b := fun {a b} ha hb hab => by
    have hl : a < I.length := by have := hb.le; omega
    exact hb.not' a _ hab (List.getElem?_eq_getElem hl) (ha.here _ (List.getElem?_eq_getElem hl))
  have h1 := key h h'
  have h2 := key h' h
  omega
theorem plc_ex (I : List Lt) (x : Lt) : ∃ k, Plc I x k := by
  induction I with
  | nil => exact ⟨0, Nat.le_refl _, fun j y hj => by omega, fun y hy => by simp at hy⟩
  | cons z I ih =>
    by_cases h : Same z x
    · exact ⟨0, Nat.zero_le _, fun j y hj => by omega, fun y hy => by simp at hy; subst hy; exact h⟩
    · obtain ⟨k, h1, h2, h3⟩ := ih
      refine ⟨k + 1, by simp; omega, fun j y hj hy => ?_, fun y hy => h3 y (by simpa using hy)⟩
      cases j with
      | zero => simp at hy; subst hy; exact h
      | succ j => exact h2 j y (by omega) (by simpa using hy)
noncomputable def plc (I : List Lt) (x : Lt) : Nat := Classical.choose (plc_ex I x)
theorem plc_is (I : List Lt) (x : Lt) : Plc I x (plc I x) := Classical.choose_spec (plc_ex I x)
noncomputable def inStep (I : List Lt) (x : Lt) : List Lt := if ltB x then at2 I x (plc I x) else I
theorem in_at {I : List Lt} {x : Lt} {k : Nat} (hx : ltB x = true) (h : Plc I x k) : inStep I x = at2 I x k := by
  unfold inStep; rw [if_pos hx, (plc_is I x).unique h]
theorem in_no {I : List Lt} {x : Lt} (hx : ltB x = false) : inStep I x = I := by unfold inStep; rw [hx]; rfl
noncomputable def inL (l : List Lt) : List Lt := l.foldl inStep []
theorem inL_take {l : List Lt} {i : Nat} {x : Lt} (h : l[i]? = some x) : inL (l.take (i + 1)) = inStep (inL (l.take i)) x := by
  rw [takeM h]; simp [inL]
/-- All are as told, no two of one number. -/
structure InOk (I : List Lt) : Prop where
  ok : ∀ x ∈ I, ltB x = true
  one : I.Pairwise (fun a b => ¬ Same a b)
theorem InOk.nil : InOk [] := ⟨fun x hx => (by cases hx), List.Pairwise.nil⟩
theorem InOk.same {I : List Lt} (h : InOk I) {x y : Lt} (hx : x ∈ I) (hy : y ∈ I) (hs : Same x y) : x = y := by
  obtain ⟨i, hi, rfl⟩ := List.getElem_of_mem hx
  obtain ⟨j, hj, rfl⟩ := List.getElem_of_mem hy
  have hp := List.pairwise_iff_getElem.1 h.one
  rcases Nat.lt_trichotomy i j with q | q | q
  · exact absurd hs (hp i j hi hj q)
  · subst q; rfl
  · exact absurd ⟨hs.1.symm, hs.2.symm⟩ (hp j i hj hi q)
theorem same_refl (x : Lt) : Same x x := ⟨rfl, rfl⟩
theorem Same.symm {x y : Lt} (h : Same x y) : Same y x := ⟨h.1.symm, h.2.symm⟩
theorem Same.trans {x y z : Lt} (h : Same x y) (h2 : Same y z) : Same x z := ⟨h.1.trans h2.1, h.2.trans h2.2⟩
/-- What a step leaves. -/
theorem in_mem {I : List Lt} {x : Lt} (h : InOk I) (hx : ltB x = true) : InOk (inStep I x) ∧ ∀ z, z ∈ inStep I x ↔
    (¬ Same z x ∧ z ∈ I) ∨ (z = x ∧ ∀ y ∈ I, Same y x → moreB x y = true) ∨ (Same z x ∧ z ∈ I ∧ moreB x z = false) := by
  have hP := plc_is I x
  rw [in_at hx hP]
  unfold at2
  cases hc : I[plc I x]? with
  | none =>
    simp only
    have hl : I.length ≤ plc I x := by simpa using hc
    have hno : ∀ y ∈ I, ¬ Same y x := fun y hy => by
      obtain ⟨j, hj⟩ := List.getElem?_of_mem hy
      exact hP.not' j y (by have := (List.getElem?_eq_some_iff.1 hj).1; omega) hj
    refine ⟨⟨fun z hz => ?_, ?_⟩, fun z => ?_⟩
    · rcases List.mem_append.1 hz with q | q
      · exact h.ok z q
      · rw [List.mem_singleton.1 q]; exact hx
    · refine List.pairwise_append.2 ⟨h.one, List.pairwise_singleton _ _, fun a ha b hb => ?_⟩
      rw [List.mem_singleton.1 hb]
      exact hno a ha
    · rw [List.mem_append, List.mem_singleton]
      constructor
      · rintro (q | q)
        · exact Or.inl ⟨hno z q, q⟩
        · exact Or.inr (Or.inl ⟨q, fun y hy hs => absurd hs (hno y hy)⟩)
      · rintro (q | q | q)
        · exact Or.inl q.2
        · exact Or.inr q.1
        · exact absurd q.1 (hno z q.2.1)
  | some y =>
    simp only
    have hs := hP.here y hc
    have hyI : y ∈ I := List.mem_of_getElem? hc
    have huniq : ∀ z ∈ I, Same z x → z = y := fun z hz hzs => h.same hz hyI (hzs.trans hs.symm)
    cases hm : moreB x y with
    | false =>
      simp only [Bool.false_eq_true, if_false]
      refine ⟨h, fun z => ⟨fun hz => ?_, ?_⟩⟩
      · by_cases q : Same z x
        · exact Or.inr (Or.inr ⟨q, hz, by rw [huniq z hz q]; exact hm⟩)
        · exact Or.inl ⟨q, hz⟩
      · rintro (q | q | q)
        · exact q.2
        · have := q.2 y hyI hs; rw [hm] at this; cases this
        · exact q.2.1
    | true =>
      simp only [if_true]
      obtain ⟨hkl, hky⟩ := List.getElem?_eq_some_iff.1 hc
      generalize plc I x = k at *
      have hset : ∀ z, z ∈ I.set k x ↔ z = x ∨ (z ∈ I ∧ ¬ Same z x) := fun z => by
        constructor
        · intro hz
          obtain ⟨j, hj⟩ := List.getElem?_of_mem hz
          rw [List.getElem?_set] at hj
          by_cases q : k = j
          · rw [if_pos q, if_pos hkl] at hj; exact Or.inl (Option.some.inj hj).symm
          · rw [if_neg q] at hj
            right
            refine ⟨List.mem_of_getElem? hj, fun hzs => ?_⟩
            have e := huniq z (List.mem_of_getElem? hj) hzs
            have hp := List.pairwise_iff_getElem.1 h.one
            obtain ⟨hjl, hjz⟩ := List.getElem?_eq_some_iff.1 hj
            rcases Nat.lt_or_gt_of_ne q with q2 | q2
            · exact hp k j hkl hjl q2 (by rw [hky, hjz, e]; exact same_refl _)
            · exact hp j k hjl hkl q2 (by rw [hky, hjz, e]; exact same_refl _)
        · rintro (rfl | ⟨hz, hzs⟩)
          · exact List.mem_of_getElem? (i := k) (by rw [List.getElem?_set, if_pos rfl, if_pos hkl])
          · obtain ⟨j, hj⟩ := List.getElem?_of_mem hz
            have q : k ≠ j := fun e => by
              subst e
              rw [hc] at hj
              cases hj
              exact hzs hs
            exact List.mem_of_getElem? (i := j) (by rw [List.getElem?_set, if_neg q]; exact hj)
      refine ⟨⟨fun z hz => ?_, ?_⟩, fun z => ?_⟩
      · rcases (hset z).1 hz with q | q
        · rw [q]; exact hx
        · exact h.ok z q.1
      · have hp := List.pairwise_iff_getElem.1 h.one
        rw [List.pairwise_iff_getElem]
        intro i j hi hj hij
        rw [List.length_set] at hi hj
        rw [List.getElem_set, List.getElem_set]
        by_cases q1 : k = i
        · rw [if_pos q1, if_neg (by omega)]
          intro z
          have := hp i j hi hj hij
          subst q1
          rw [hky] at this
          exact this (hs.trans z)
        · rw [if_neg q1]
          by_cases q2 : k = j
          · rw [if_pos q2]
            intro z
            have := hp i j hi hj hij
            subst q2
            rw [hky] at this
            exact this (z.trans hs.symm)
          · rw [if_neg q2]; exact hp i j hi hj hij
      · rw [hset]
        constructor
        · rintro (q | q)
          · exact Or.inr (Or.inl ⟨q, fun y' hy' hs' => by rw [huniq y' hy' hs']; exact hm⟩)
          · exact Or.inl ⟨q.2, q.1⟩
        · rintro (q | q | q)
          · exact Or.inr ⟨q.2, q.1⟩
          · exact Or.inl q.1
          · rw [huniq z q.2.1 q.1] at q
            rw [hm] at q
            cases q.2.2
theorem inStep_ok {I : List Lt} (x : Lt) (h : InOk I) : InOk (inStep I x) := by
  cases q : ltB x with
  | false => rw [in_no q]; exact h
  | true => exact (in_mem h q).1
theorem inL_okTo (l : List Lt) : ∀ i, InOk (inL (l.take i))
  | 0 => InOk.nil
  | i + 1 => by
    by_cases h : i < l.length
    · rw [inL_take (List.getElem?_eq_getElem h)]; exact inStep_ok _ (inL_okTo l i)
    · have : l.take (i + 1) = l.take i := by rw [List.take_of_length_le (by omega), List.take_of_length_le (by omega)]
      rw [this]; exact inL_okTo l i
theorem inL_ok (l : List Lt) : InOk (inL l) := by have := inL_okTo l l.length; rw [List.take_length] at this; exact this
theorem at2_len (I : List Lt) (x : Lt) (k : Nat) : (at2 I x k).length ≤ I.length + 1 := by
  unfold at2
  split
  · simp
  · split <;> simp
theorem inStep_len (I : List Lt) (x : Lt) : (inStep I x).length ≤ I.length + 1 := by
  unfold inStep
  split
  · exact at2_len _ _ _
  · omega
theorem inL_len (l : List Lt) : ∀ i, (inL (l.take i)).length ≤ i
  | 0 => by simp [inL]
  | i + 1 => by
    by_cases h : i < l.length
    · rw [inL_take (List.getElem?_eq_getElem h)]
      have := inStep_len (inL (l.take i)) l[i]
      have := inL_len l i
      omega
    · have : l.take (i + 1) = l.take i := by rw [List.take_of_length_le (by omega), List.take_of_length_le (by omega)]
      rw [this]; have := inL_len l i; omega

/- what holds, what tells -/
/-- Is it corrected by none? -/
def Holds (I : List Lt) (x : Lt) : Prop := ∀ y ∈ I, ¬ (y.f = x.f ∧ y.c = x.s)
def holdsTo (I : List Lt) (x : Lt) (k : Nat) : Bool := (I.take k).all (fun y => !(decide (y.f = x.f) && decide (y.c = x.s)))
theorem holdsTo_zero (I : List Lt) (x : Lt) : holdsTo I x 0 = true := by simp [holdsTo]
theorem holdsTo_succ {I : List Lt} {x y : Lt} {k : Nat} (h : I[k]? = some y) : holdsTo I x (k + 1) = (holdsTo I x k && !(decide (y.f = x.f) && decide (y.c = x.s))) := by
  unfold holdsTo; rw [takeM h]; simp
theorem holdsTo_iff {I : List Lt} {x : Lt} : holdsTo I x I.length = true ↔ Holds I x := by
  unfold holdsTo Holds
  rw [List.take_length, List.all_eq_true]
  constructor
  · intro h y hy q
    have := h y hy
    simp [q.1, q.2] at this
  · intro h y hy
    have := h y hy
    by_cases a : y.f = x.f <;> by_cases b : y.c = x.s <;> simp [a, b]
    exact this ⟨a, b⟩
theorem holdsTo_false {I : List Lt} {x : Lt} {k : Nat} (h : holdsTo I x k = false) : ¬ Holds I x := by
  intro q
  unfold holdsTo at h
  rw [List.all_eq_false] at h
  obtain ⟨y, hy, h2⟩ := h
  have := q y (List.mem_of_mem_take hy)
  simp only [Bool.not_eq_true, Bool.not_eq_false', Bool.and_eq_true, decide_eq_true_eq] at h2
  exact this h2
/-- y is not ahead of x. -/
def Le (y x : Lt) : Prop := y.s < x.s ∨ (y.s = x.s ∧ y.f ≤ x.f)
def lessB (y x : Lt) : Bool := decide (y.s < x.s) || (decide (y.s = x.s) && decide (y.f < x.f))
theorem lessB_false {y x : Lt} : lessB y x = false ↔ Le x y := by
  unfold lessB Le
  constructor
  · intro h
    simp only [Bool.or_eq_false_iff, decide_eq_false_iff_not, Bool.and_eq_false_iff] at h
    omega
  · intro h
    simp only [Bool.or_eq_false_iff, decide_eq_false_iff_not, Bool.and_eq_false_iff]
    omega
theorem lessB_true {y x : Lt} (h : lessB y x = true) : Le y x := by
  unfold lessB at h
  unfold Le
  simp only [Bool.or_eq_true, decide_eq_true_eq, Bool.and_eq_true] at h
  omega
theorem Le.refl (x : Lt) : Le x x := Or.inr ⟨rfl, Int.le_refl _⟩
theorem Le.trans {x y z : Lt} (h : Le x y) (h2 : Le y z) : Le x z := by unfold Le at *; omega
theorem Le.anti {x y : Lt} (h : Le x y) (h2 : Le y x) : Same x y := by unfold Le at *; unfold Same; omega
/-- x is the one that tells of k among those that V has let by. -/
def IsBest (I : List Lt) (V : Lt → Prop) (k : Int) (o : Option Lt) : Prop :=
  match o with
  | none => ∀ y ∈ I, V y → y.k = k → ¬ Holds I y
  | some x => (x ∈ I ∧ V x ∧ x.k = k ∧ Holds I x) ∧ ∀ y ∈ I, V y → y.k = k → Holds I y → Le y x
theorem best_unique {I : List Lt} (hI : InOk I) {V : Lt → Prop} {k : Int} {o o' : Option Lt} (h : IsBest I V k o) (h' : IsBest I V k o') : o = o' := by
  cases o with
  | none =>
    cases o' with
    | none => rfl
    | some x => exact absurd h'.1.2.2.2 (h x h'.1.1 h'.1.2.1 h'.1.2.2.1)
  | some x =>
    cases o' with
    | none => exact absurd h.1.2.2.2 (h' x h.1.1 h.1.2.1 h.1.2.2.1)
    | some x' =>
      have a := h.2 x' h'.1.1 h'.1.2.1 h'.1.2.2.1 h'.1.2.2.2
      have b := h'.2 x h.1.1 h.1.2.1 h.1.2.2.1 h.1.2.2.2
      rw [hI.same h.1.1 h'.1.1 (b.anti a)]
/-- The step of whoever asks for the best, one letter more let by. -/
theorem best_step {I : List Lt} {V V' : Lt → Prop} {z : Lt} (hz : z ∈ I) (hV : ∀ y ∈ I, V' y ↔ V y ∨ y = z) {k : Int} {o : Option Lt} (h : IsBest I V k o) :
    (z.k ≠ k → IsBest I V' k o) ∧ (z.k = k → ¬ Holds I z → IsBest I V' k o) ∧ (z.k = k → Holds I z → (o = none ∨ ∃ x, o = some x ∧ Le x z) → IsBest I V' k (some z)) ∧ (∀ x, o = some x → Le z x → IsBest I V' k o) := by
  have old : ∀ x, o = some x → (x ∈ I ∧ V' x ∧ x.k = k ∧ Holds I x) := fun x e => by
    subst e
    exact ⟨h.1.1, (hV x h.1.1).2 (Or.inl h.1.2.1), h.1.2.2⟩
  have tell : (∀ y ∈ I, y = z → y.k = k → Holds I y → ∃ x, o = some x ∧ Le y x) → IsBest I V' k o := fun q => by
    cases o with
    | none =>
      intro y hy hv hyk hyh
      rcases (hV y hy).1 hv with u | u
      · exact h y hy u hyk hyh
      · obtain ⟨x, e, _⟩ := q y hy u hyk hyh
        cases e
    | some x =>
      refine ⟨old x rfl, fun y hy hv hyk hyh => ?_⟩
      rcases (hV y hy).1 hv with u | u
      · exact h.2 y hy u hyk hyh
      · obtain ⟨x', e, hle⟩ := q y hy u hyk hyh
        cases e
        exact hle
  refine ⟨fun hk => tell fun y hy u hyk => ?_, fun hk hh => tell fun y hy u hyk hyh => ?_, fun hk hh ho => ?_, fun x hx hle => tell fun y hy u hyk hyh => ?_⟩
  · subst u; exact absurd hyk hk
  · subst u; exact absurd hyh hh
  · refine ⟨⟨hz, (hV z hz).2 (Or.inr rfl), hk, hh⟩, fun y hy hv hyk hyh => ?_⟩
    rcases (hV y hy).1 hv with q | q
    · rcases ho with rfl | ⟨x, rfl, hle⟩
      · exact absurd hyh (h y hy q hyk)
      · exact (h.2 y hy q hyk hyh).trans hle
    · subst q; exact Le.refl _
  · subst u; exact ⟨x, hx, hle⟩
theorem best_ex (I : List Lt) (k : Int) : ∃ o, IsBest I (fun _ => True) k o := by
  have : ∀ n, n ≤ I.length → ∃ o, IsBest I (fun y => y ∈ I.take n) k o := by
    intro n
    induction n with
    | zero => intro _; exact ⟨none, fun y _ hv => by simp at hv⟩
    | succ n ih =>
      intro hn
      obtain ⟨o, ho⟩ := ih (by omega)
      have hl : n < I.length := by omega
      have hV : ∀ y ∈ I, y ∈ I.take (n + 1) ↔ y ∈ I.take n ∨ y = I[n] := fun y _ => by
        rw [takeM (List.getElem?_eq_getElem hl), List.mem_append, List.mem_singleton]
      obtain ⟨s1, s2, s3, s4⟩ := best_step (List.getElem_mem hl) hV ho
      by_cases q1 : I[n].k = k
      · by_cases q2 : Holds I I[n]
        · cases o with
          | none => exact ⟨_, s3 q1 q2 (Or.inl rfl)⟩
          | some x =>
            cases q3 : lessB I[n] x with
            | false => exact ⟨_, s3 q1 q2 (Or.inr ⟨x, rfl, lessB_false.1 q3⟩)⟩
            | true => exact ⟨_, s4 x rfl (lessB_true q3)⟩
        · exact ⟨o, s2 q1 q2⟩
      · exact ⟨o, s1 q1⟩
  obtain ⟨o, ho⟩ := this I.length (Nat.le_refl _)
  refine ⟨o, ?_⟩
  rw [List.take_length] at ho
  cases o with
  | none => exact fun y hy _ => ho y hy hy
  | some x => exact ⟨⟨ho.1.1, trivial, ho.1.2.2⟩, fun y hy _ => ho.2 y hy hy⟩
noncomputable def best (I : List Lt) (k : Int) : Option Lt := Classical.choose (best_ex I k)
theorem best_is (I : List Lt) (k : Int) : IsBest I (fun _ => True) k (best I k) := Classical.choose_spec (best_ex I k)
theorem best_eq {I : List Lt} (hI : InOk I) {k : Int} {o : Option Lt} (h : IsBest I (fun _ => True) k o) : o = best I k := best_unique hI h (best_is I k)
/-- The facts for the keys below n. -/
noncomputable def factsTo (I : List Lt) : Nat → List Fc
  | 0 => []
  | n + 1 => match best I n with
    | none => factsTo I n
    | some x => factsTo I n ++ [⟨n, x.v⟩]
theorem facts_none {I : List Lt} {n : Nat} (h : best I n = none) : factsTo I (n + 1) = factsTo I n := by simp [factsTo, h]
theorem facts_some {I : List Lt} {n : Nat} {x : Lt} (h : best I n = some x) : factsTo I (n + 1) = factsTo I n ++ [⟨n, x.v⟩] := by simp [factsTo, h]
theorem facts_len (I : List Lt) : ∀ n, (factsTo I n).length ≤ n
  | 0 => Nat.le_refl _
  | n + 1 => by
    have := facts_len I n
    unfold factsTo
    split
    · omega
    · rw [List.length_append, List.length_singleton]; omega
noncomputable def fold (l : List Lt) : List Fc := if l.length ≤ 1000 then factsTo (inL l) 100 else []
theorem fold_len (l : List Lt) : (fold l).length ≤ 100 := by
  unfold fold
  split
  · exact facts_len _ _
  · simp
end Go.Proofs.Ytbabknhccapaoaa.Mg
