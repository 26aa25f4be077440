/-
  What is due, as the program gathers it: no Go in sight.
-/
import Derived.Test.YtkejjlgeiaeicaaUv
import Derived.Test.YtkejjlgeiaeicaaU1
namespace Go.Proofs.Ytkejjlgeiaeicaa.Uo
open Va
set_option linter.all false

/-- The turns of one order that are due, in order. -/
def turnsL (ds : List Ds) (time : Int) (o : Od) : Nat → List Du
  | 0 => []
  | t + 1 => if dueB ds time o t = true then turnsL ds time o t ++ [dueOf o t] else turnsL ds time o t
def allTo (os : List Od) (ds : List Ds) (time : Int) : Nat → List Du
  | 0 => []
  | i + 1 => if (os.getD i default).s = 2 then allTo os ds time i ++ turnsL ds time (os.getD i default) (os.getD i default).c.toNat else allTo os ds time i
theorem turnsL_len (ds : List Ds) (time : Int) (o : Od) : ∀ t, (turnsL ds time o t).length ≤ t
  | 0 => Nat.le_refl _
  | t + 1 => by
    have := turnsL_len ds time o t
    unfold turnsL
    split
    · rw [List.length_append]; simp; omega
    · omega
theorem all_len {os : List Od} (ds : List Ds) (time : Int) (h : ∀ i, i < os.length → (os.getD i default).c ≤ 200) : ∀ n, n ≤ os.length → (allTo os ds time n).length ≤ n * 200
  | 0, _ => Nat.le_refl _
  | n + 1, hn => by
    have i := all_len ds time h n (by omega)
    have := turnsL_len ds time (os.getD n default) (os.getD n default).c.toNat
    have := h n (by omega)
    unfold allTo
    split
    · rw [List.length_append]; omega
    · omega
theorem turnsL_mem {ds : List Ds} {time : Int} {o : Od} {d : Du} : ∀ {n : Nat}, d ∈ turnsL ds time o n → ∃ t, t < n ∧ d = dueOf o t ∧ dueB ds time o t = true
  | 0, h => by cases h
  | n + 1, h => by
    unfold turnsL at h
    split at h
    · rename_i hb
      rcases List.mem_append.1 h with h | h
      · obtain ⟨t, h1, h2, h3⟩ := turnsL_mem h; exact ⟨t, by omega, h2, h3⟩
      · rw [List.mem_singleton] at h; exact ⟨n, by omega, h, hb⟩
    · obtain ⟨t, h1, h2, h3⟩ := turnsL_mem h; exact ⟨t, by omega, h2, h3⟩
theorem turnsL_of {ds : List Ds} {time : Int} {o : Od} {t : Nat} (hb : dueB ds time o t = true) : ∀ {n : Nat}, t < n → dueOf o t ∈ turnsL ds time o n
  | 0, h => by omega
  | n + 1, h => by
    unfold turnsL
    by_cases q : t = n
    · subst q; rw [if_pos hb]; simp
    · have := turnsL_of hb (n := n) (by omega)
      split
      · exact List.mem_append_left _ this
      · exact this
/-- Ahead of one another: by the minute, then by the order. -/
def ltD (a b : Du) : Prop := a.s < b.s ∨ a.s = b.s ∧ a.o < b.o
def SrtD (l : List Du) : Prop := l.Pairwise ltD
theorem ltD_irr (a : Du) : ¬ ltD a a := by unfold ltD; omega
theorem ltD_asymm {a b : Du} (h : ltD a b) : ¬ ltD b a := by unfold ltD at *; omega
theorem ltD_trans {a b c : Du} (h : ltD a b) (h2 : ltD b c) : ltD a c := by unfold ltD at *; omega
theorem cutTo_spec (l : List Du) (d : Du) : ∀ n, n ≤ l.length → (∀ j x, cutTo l d n ≤ j → j < n → l[j]? = some x → d.s < x.s) ∧ (0 < cutTo l d n → ∃ x, l[cutTo l d n - 1]? = some x ∧ x.s ≤ d.s)
  | 0, _ => ⟨fun j x h1 h2 => by omega, fun h => by simp [cutTo] at h⟩
  | n + 1, hn => by
    obtain ⟨x, hx⟩ : ∃ x, l[n]? = some x := ⟨_, List.getElem?_eq_getElem (by omega)⟩
    by_cases h : d.s < x.s
    · rw [cut_more hx h]
      obtain ⟨h1, h2⟩ := cutTo_spec l d n (by omega)
      refine ⟨fun j y hj1 hj2 hy => ?_, h2⟩
      by_cases e : j = n
      · subst e; rw [hx] at hy; cases hy; exact h
      · exact h1 j y hj1 (by omega) hy
    · rw [cut_stop hx h]
      exact ⟨fun j y hj1 hj2 => by omega, fun _ => ⟨x, by simpa using hx, by omega⟩⟩
theorem insD_perm (l : List Du) (d : Du) : (insD l d).Perm (l ++ [d]) := by
  unfold insD
  have h1 : (l.take (cutTo l d l.length) ++ d :: l.drop (cutTo l d l.length)).Perm (d :: (l.take (cutTo l d l.length) ++ l.drop (cutTo l d l.length))) := List.perm_middle
  rw [List.take_append_drop] at h1
  exact h1.trans (List.perm_append_singleton d l).symm
theorem insD_srt {l : List Du} {d : Du} (h : SrtD l) (hs : ∀ x ∈ l, x.s = d.s → x.o < d.o) : SrtD (insD l d) := by
  obtain ⟨h1, h2⟩ := cutTo_spec l d l.length (Nat.le_refl _)
  have hle := cutTo_le l d l.length
  generalize hc : cutTo l d l.length = c at *
  unfold insD
  rw [hc]
  have hl : SrtD (l.take c ++ l.drop c) := by rw [List.take_append_drop]; exact h
  unfold SrtD at *
  obtain ⟨p1, p2, p3⟩ := List.pairwise_append.1 hl
  refine List.pairwise_append.2 ⟨p1, List.pairwise_cons.2 ⟨?_, p2⟩, ?_⟩
  · intro x hx
    obtain ⟨j, hj, rfl⟩ := List.getElem_of_mem hx
    rw [List.length_drop] at hj
    have := h1 (c + j) (l[c + j]'(by omega)) (by omega) (by omega) (List.getElem?_eq_getElem _)
    rw [List.getElem_drop]
    exact Or.inl this
  · intro a ha b hb
    rcases List.mem_cons.1 hb with rfl | hb
    · have hal : a ∈ l := List.mem_of_mem_take ha
      have hc0 : 0 < c := by
        rcases Nat.eq_zero_or_pos c with e | e
        · subst e; cases ha
        · exact e
      obtain ⟨x, hx, hxs⟩ := h2 hc0
      obtain ⟨j, hj, rfl⟩ := List.getElem_of_mem ha
      rw [List.length_take] at hj
      have hle2 : ((l.take c)[j]'(by rw [List.length_take]; omega)).s ≤ x.s := by
        rw [List.getElem_take]
        by_cases e : j = c - 1
        · subst e
          have := (List.getElem?_eq_some_iff.1 hx).2
          rw [this]; exact Int.le_refl _
        · have hp := List.pairwise_iff_getElem.1 h j (c - 1) (by omega) (by omega) (by omega)
          have e2 := (List.getElem?_eq_some_iff.1 hx).2
          rw [e2] at hp
          unfold ltD at hp; omega
      by_cases e : ((l.take c)[j]'(by rw [List.length_take]; omega)).s = b.s
      · exact Or.inr ⟨e, hs _ hal e⟩
      · exact Or.inl (by omega)
    · exact p3 a ha b hb
theorem srt_unique : ∀ {l l' : List Du}, l.Perm l' → SrtD l → SrtD l' → l = l' := by
  intro l l' hp h h'
  exact List.Perm.eq_of_pairwise (le := ltD) (fun a b _ _ h1 h2 => absurd h2 (ltD_asymm h1)) h h' hp

/-- What is under way for one order: sorted, the same as ahead and the order's own turns. -/
theorem turns_ok {ds : List Ds} {time : Int} {o : Od} {l : List Du} (he : 1 ≤ o.e) (h : SrtD l) (hl : ∀ x ∈ l, x.o < o.id) : ∀ n, SrtD (turnsTo ds time o l n) ∧ (turnsTo ds time o l n).Perm (l ++ turnsL ds time o n)
  | 0 => ⟨h, by simp [turnsTo, turnsL]⟩
  | n + 1 => by
    obtain ⟨h1, h2⟩ := turns_ok he h hl n
    by_cases hb : dueB ds time o n = true
    · rw [turns_yes hb, turnsL, if_pos hb]
      refine ⟨insD_srt h1 (fun x hx hs => ?_), ?_⟩
      · rcases List.mem_append.1 (h2.mem_iff.1 hx) with hx | hx
        · exact hl x hx
        · obtain ⟨t, ht, rfl, _⟩ := turnsL_mem hx
          exfalso
          simp only [dueOf] at hs
          have h3 : (t : Int) * o.e < (n : Int) * o.e := Int.mul_lt_mul_of_pos_right (by omega) (by omega)
          omega
      · rw [← List.append_assoc]
        exact (insD_perm _ _).trans (h2.append_right _)
    · have hb' : dueB ds time o n = false := by simpa using hb
      rw [turns_no hb', turnsL, if_neg hb]
      exact ⟨h1, h2⟩
theorem due_ok {os : List Od} {ds : List Ds} {time : Int} (hr : Ris os) (he : ∀ i, i < os.length → 1 ≤ (os.getD i default).e) : ∀ n, n ≤ os.length → SrtD (dueTo os ds time 0 n) ∧ (dueTo os ds time 0 n).Perm (allTo os ds time n) ∧ ∀ x ∈ dueTo os ds time 0 n, ∃ j y, j < n ∧ os[j]? = some y ∧ x.o = y.id
  | 0, _ => ⟨List.Pairwise.nil, List.Perm.refl _, fun x hx => by cases hx⟩
  | n + 1, hn => by
    obtain ⟨h1, h2, h3⟩ := due_ok hr he n (by omega)
    obtain ⟨o, ho⟩ : ∃ o, os[n]? = some o := ⟨_, List.getElem?_eq_getElem (by omega)⟩
    have heo := he n (by omega)
    rw [od_getD ho] at heo
    have hl : ∀ x ∈ dueTo os ds time 0 n, x.o < o.id := fun x hx => by
      obtain ⟨j, y, hj, hy, hxy⟩ := h3 x hx
      rw [hxy]; exact hr j n y o hj hy ho
    by_cases q : o.s = 2
    · have hb : ordB o 0 = true := by simp [ordB, q]
      rw [due_yes ho hb, allTo, od_getD ho, if_pos q]
      obtain ⟨k1, k2⟩ := turns_ok (ds := ds) (time := time) heo h1 hl o.c.toNat
      refine ⟨k1, k2.trans (h2.append_right _), fun x hx => ?_⟩
      rcases List.mem_append.1 (k2.mem_iff.1 hx) with hx | hx
      · obtain ⟨j, y, hj, hy⟩ := h3 x hx; exact ⟨j, y, by omega, hy⟩
      · obtain ⟨t, ht, rfl, _⟩ := turnsL_mem hx
        exact ⟨n, o, by omega, ho, rfl⟩
    · have hb : ordB o 0 = false := by simp [ordB, q]
      rw [due_no ho hb, allTo, od_getD ho, if_neg q]
      exact ⟨h1, h2, fun x hx => by obtain ⟨j, y, hj, hy⟩ := h3 x hx; exact ⟨j, y, by omega, hy⟩⟩
/-- Of one order alone. -/
theorem turns_one {ds : List Ds} {time : Int} {o : Od} (he : 1 ≤ o.e) (n : Nat) : turnsTo ds time o [] n = turnsL ds time o n := by
  obtain ⟨h1, h2⟩ := turns_ok (ds := ds) (time := time) (l := []) he List.Pairwise.nil (fun x hx => by cases hx) n
  refine srt_unique (by simpa using h2) h1 ?_
  clear h1 h2
  induction n with
  | zero => exact List.Pairwise.nil
  | succ n ih =>
    unfold turnsL
    split
    · refine List.pairwise_append.2 ⟨ih, List.pairwise_singleton _ _, fun a ha b hb => ?_⟩
      rw [List.mem_singleton] at hb
      subst hb
      obtain ⟨t, ht, rfl, _⟩ := turnsL_mem ha
      refine Or.inl ?_
      show o.f + (t : Int) * o.e < o.f + (n : Int) * o.e
      have h3 : (t : Int) * o.e < (n : Int) * o.e := Int.mul_lt_mul_of_pos_right (by omega) (by omega)
      omega
    · exact ih
theorem due_one_to {os : List Od} {ds : List Ds} {time id : Int} {k : Nat} {o : Od} (hr : Ris os) (h0 : id ≠ 0) (ho : os[k]? = some o) (hid : o.id = id) (hs : o.s = 2) (he : 1 ≤ o.e) : ∀ n, n ≤ os.length → dueTo os ds time id n = if k < n then turnsL ds time o o.c.toNat else []
  | 0, _ => rfl
  | n + 1, hn => by
    have ih := due_one_to hr h0 ho hid hs he n (by omega) (ds := ds) (time := time)
    obtain ⟨x, hx⟩ : ∃ x, os[n]? = some x := ⟨_, List.getElem?_eq_getElem (by omega)⟩
    by_cases q : n = k
    · subst q
      rw [hx] at ho; cases ho
      rw [due_yes hx (by simp [ordB, hs, hid]), ih, if_neg (by omega), if_pos (by omega), turns_one he]
    · have hne : x.id ≠ id := by
        rcases Nat.lt_or_gt_of_ne q with q' | q'
        · have := hr n k x o q' hx ho; omega
        · have := hr k n o x q' ho hx; omega
      rw [due_no hx (by simp [ordB, h0, hne]), ih]
      by_cases r : k < n
      · rw [if_pos r, if_pos (by omega)]
      · rw [if_neg r, if_neg (by omega)]
theorem due_one {os : List Od} {ds : List Ds} {time id : Int} {k : Nat} {o : Od} (hr : Ris os) (h0 : id ≠ 0) (ho : os[k]? = some o) (hid : o.id = id) (hs : o.s = 2) (he : 1 ≤ o.e) : dueL os ds time id = turnsL ds time o o.c.toNat := by
  unfold dueL
  rw [due_one_to hr h0 ho hid hs he os.length (Nat.le_refl _), if_pos (List.getElem?_eq_some_iff.1 ho).1]
end Go.Proofs.Ytkejjlgeiaeicaa.Uo
