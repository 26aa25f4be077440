/-
  Stable sorting by blocks and merging in place: no Go in sight.
-/
namespace Go.Proofs.Ytgcpiinmcbdkmaa.Sy
set_option linter.all false

/-- Ahead by the key, and of equal keys by the number. -/
def lt (k : Int → Int) (x y : Int) : Prop := k x < k y ∨ (k x = k y ∧ x < y)
theorem lt_irr (k : Int → Int) (x : Int) : ¬ lt k x x := by unfold lt; omega
theorem lt_asymm {k : Int → Int} {x y : Int} (h : lt k x y) : ¬ lt k y x := by unfold lt at *; omega
theorem lt_trans {k : Int → Int} {x y z : Int} (h : lt k x y) (h2 : lt k y z) : lt k x z := by unfold lt at *; omega
theorem lt_total (k : Int → Int) {x y : Int} (h : x ≠ y) : lt k x y ∨ lt k y x := by unfold lt; omega
/-- Where the numbers rise, the key alone tells. -/
theorem lt_key {k : Int → Int} {x y : Int} (h : x < y) : lt k y x ↔ k y < k x := by unfold lt; omega
theorem lt_of_not {k : Int → Int} {x y : Int} (h : x < y) (hn : ¬ k y < k x) : lt k x y := by unfold lt; omega
def Srt (k : Int → Int) (l : List Int) : Prop := l.Pairwise (lt k)
theorem srt_unique {k : Int → Int} {l l' : List Int} (hp : l.Perm l') (h : Srt k l) (h' : Srt k l') : l = l' :=
  List.Perm.eq_of_pairwise (le := lt k) (fun a b _ _ h1 h2 => absurd h2 (lt_asymm h1)) h h' hp
theorem srt_app {k : Int → Int} {a b : List Int} : Srt k (a ++ b) ↔ Srt k a ∧ Srt k b ∧ ∀ x ∈ a, ∀ y ∈ b, lt k x y := List.pairwise_append
/-- All of one list are less than all of another. -/
def Cross (a b : List Int) : Prop := ∀ x ∈ a, ∀ y ∈ b, x < y
/-- Two runs, each cut in two: merged part by part. -/
theorem join_srt {k : Int → Int} {a1 a2 b1 b2 m1 m2 : List Int} (h1 : ∀ x ∈ a1, ∀ y ∈ b2, lt k x y) (h2 : ∀ x ∈ b1, ∀ y ∈ a2, lt k x y) (ha : Srt k (a1 ++ a2)) (hb : Srt k (b1 ++ b2)) (p1 : m1.Perm (a1 ++ b1)) (p2 : m2.Perm (a2 ++ b2)) (s1 : Srt k m1) (s2 : Srt k m2) : Srt k (m1 ++ m2) ∧ (m1 ++ m2).Perm ((a1 ++ a2) ++ (b1 ++ b2)) := by
  obtain ⟨_, _, ha3⟩ := srt_app.1 ha
  obtain ⟨_, _, hb3⟩ := srt_app.1 hb
  refine ⟨srt_app.2 ⟨s1, s2, fun x hx y hy => ?_⟩, ?_⟩
  · rcases List.mem_append.1 (p1.mem_iff.1 hx) with q | q <;> rcases List.mem_append.1 (p2.mem_iff.1 hy) with r | r
    · exact ha3 x q y r
    · exact h1 x q y r
    · exact h2 x q y r
    · exact hb3 x q y r
  · refine (p1.append p2).trans ?_
    rw [List.append_assoc, List.append_assoc]
    refine List.Perm.append_left _ ?_
    rw [← List.append_assoc, ← List.append_assoc]
    exact List.Perm.append_right _ List.perm_append_comm
/-- The last of one run below the first of another: all of it is. -/
theorem all_lt {k : Int → Int} {a b : List Int} {x y : Int} (ha : Srt k (a ++ [x])) (hb : Srt k (y :: b)) (h : lt k x y) : ∀ u ∈ a ++ [x], ∀ v ∈ y :: b, lt k u v := by
  intro u hu v hv
  have h1 : u = x ∨ lt k u x := by
    rcases List.mem_append.1 hu with q | q
    · exact Or.inr ((srt_app.1 ha).2.2 u q x (by simp))
    · exact Or.inl (by simpa using q)
  have h2 : v = y ∨ lt k y v := by
    rcases List.mem_cons.1 hv with q | q
    · exact Or.inl q
    · exact Or.inr ((List.pairwise_cons.1 hb).1 v q)
  rcases h1 with rfl | h1 <;> rcases h2 with rfl | h2
  · exact h
  · exact lt_trans h h2
  · exact lt_trans h1 h
  · exact lt_trans (lt_trans h1 h) h2
/-- One moved past a greater one. -/
theorem ins_step {k : Int → Int} {m1 m2 : List Int} {x z : Int} (h : Srt k ((m1 ++ [z]) ++ m2)) (hx : ∀ v ∈ m2, lt k x v) (hz : lt k x z) : Srt k (m1 ++ (z :: m2)) ∧ ∀ v ∈ z :: m2, lt k x v := by
  refine ⟨by simpa using h, fun v hv => ?_⟩
  rcases List.mem_cons.1 hv with rfl | q
  · exact hz
  · exact hx v q
theorem ins_end {k : Int → Int} {m1 m2 : List Int} {x : Int} (h : Srt k (m1 ++ m2)) (hx : ∀ v ∈ m2, lt k x v) (hz : m1 = [] ∨ ∃ a z, m1 = a ++ [z] ∧ lt k z x) : Srt k (m1 ++ x :: m2) := by
  obtain ⟨h1, h2, h3⟩ := srt_app.1 h
  have hm : ∀ u ∈ m1, lt k u x := by
    rcases hz with rfl | ⟨a, z, rfl, hz⟩
    · intro u hu; cases hu
    · intro u hu
      rcases List.mem_append.1 hu with q | q
      · exact lt_trans ((srt_app.1 h1).2.2 u q z (by simp)) hz
      · have : u = z := by simpa using q
        rw [this]; exact hz
  refine srt_app.2 ⟨h1, List.pairwise_cons.2 ⟨hx, h2⟩, fun u hu v hv => ?_⟩
  rcases List.mem_cons.1 hv with rfl | q
  · exact hm u hu
  · exact h3 u hu v q
/-- One put into a run at its place. -/
theorem put_srt {k : Int → Int} {b1 b2 : List Int} {x : Int} (h : Srt k (b1 ++ b2)) (h1 : ∀ u ∈ b1, lt k u x) (h2 : ∀ v ∈ b2, lt k x v) : Srt k (b1 ++ x :: b2) := by
  obtain ⟨q1, q2, q3⟩ := srt_app.1 h
  refine srt_app.2 ⟨q1, List.pairwise_cons.2 ⟨h2, q2⟩, fun u hu v hv => ?_⟩
  rcases List.mem_cons.1 hv with rfl | q
  · exact h1 u hu
  · exact q3 u hu v q
/-- In a run: what is below at a place is below ahead of it. -/
theorem run_low {k : Int → Int} {b : List Int} (h : Srt k b) {i j : Nat} {y z x : Int} (hi : b[i]? = some y) (hj : b[j]? = some z) (hij : i ≤ j) (hz : lt k z x) : lt k y x := by
  obtain ⟨i1, rfl⟩ := List.getElem?_eq_some_iff.1 hi
  obtain ⟨j1, rfl⟩ := List.getElem?_eq_some_iff.1 hj
  rcases Nat.lt_or_eq_of_le hij with q | q
  · exact lt_trans (List.pairwise_iff_getElem.1 h i j i1 j1 q) hz
  · subst q; exact hz
theorem run_high {k : Int → Int} {b : List Int} (h : Srt k b) {i j : Nat} {y z x : Int} (hi : b[i]? = some y) (hj : b[j]? = some z) (hij : i ≤ j) (hz : lt k x y) : lt k x z := by
  obtain ⟨i1, rfl⟩ := List.getElem?_eq_some_iff.1 hi
  obtain ⟨j1, rfl⟩ := List.getElem?_eq_some_iff.1 hj
  rcases Nat.lt_or_eq_of_le hij with q | q
  · exact lt_trans hz (List.pairwise_iff_getElem.1 h i j i1 j1 q)
  · subst q; exact hz
end Go.Proofs.Ytgcpiinmcbdkmaa.Sy
