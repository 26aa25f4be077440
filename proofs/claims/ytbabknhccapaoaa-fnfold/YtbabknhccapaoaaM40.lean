/-
  What letters leave hangs on which of them came, not on their order or how often: no Go in sight.
-/
import Derived.Test.YtbabknhccapaoaaM20
namespace Go.Proofs.Ytbabknhccapaoaa.Mg
open Va
set_option linter.all false

theorem more_irr (x : Lt) : moreB x x = false := by simp [moreB]
theorem more_iff {a b : Lt} : moreB a b = true ↔ b.c < a.c ∨ (a.c = b.c ∧ (b.k < a.k ∨ (a.k = b.k ∧ b.v < a.v))) := by
  unfold moreB
  by_cases h1 : a.c = b.c
  · by_cases h2 : a.k = b.k
    · simp [h1, h2]
    · simp [h1, h2]
  · simp [h1]
theorem more_trans {a b c : Lt} (h1 : moreB a b = true) (h2 : moreB b c = true) : moreB a c = true := by
  rw [more_iff] at *
  omega
theorem more_not {a b : Lt} (hs : Same a b) (h1 : moreB a b = false) (h2 : moreB b a = false) : a = b := by
  obtain ⟨f, s, c, k, v⟩ := a
  obtain ⟨f', s', c', k', v'⟩ := b
  obtain ⟨e1, e2⟩ := hs
  simp only at e1 e2
  subst e1 e2
  unfold moreB at h1 h2
  simp only at h1 h2
  by_cases q1 : c = c'
  · subst q1
    by_cases q2 : k = k'
    · subst q2
      simp at h1 h2
      have : v = v' := by omega
      subst this
      rfl
    · have q3 : ¬ k' = k := fun e => q2 e.symm
      simp [q2, q3] at h1 h2
      omega
  · have q3 : ¬ c' = c := fun e => q1 e.symm
    simp [q1, q3] at h1 h2
    omega
/-- Is it the greatest of its number among those of l that are as told? -/
def Top (l : List Lt) (z : Lt) : Prop := z ∈ l ∧ ltB z = true ∧ ∀ y ∈ l, ltB y = true → Same y z → y = z ∨ moreB z y = true
theorem top_mem (l : List Lt) : ∀ i z, z ∈ inL (l.take i) ↔ Top (l.take i) z := by
  intro i
  induction i with
  | zero => intro z; simp [inL, Top]
  | succ i ih =>
    intro z
    by_cases hlt : i < l.length
    · have hx := List.getElem?_eq_getElem hlt
      generalize l[i] = x at hx
      rw [inL_take hx, takeM hx]
      have hI := inL_okTo l i
      generalize hT : l.take i = t at *
      generalize inL t = I at *
      cases hq : ltB x with
      | false =>
        rw [in_no hq, ih z]
        unfold Top
        constructor
        · rintro ⟨a, b, c⟩
          refine ⟨List.mem_append_left _ a, b, fun y hy hl hs => ?_⟩
          rcases List.mem_append.1 hy with u | u
          · exact c y u hl hs
          · rw [List.mem_singleton.1 u, hq] at hl; cases hl
        · rintro ⟨a, b, c⟩
          refine ⟨?_, b, fun y hy => c y (List.mem_append_left _ hy)⟩
          rcases List.mem_append.1 a with u | u
          · exact u
          · rw [List.mem_singleton.1 u, hq] at b; cases b
      | true =>
        rw [(in_mem hI hq).2 z]
        constructor
        · rintro (⟨hns, hz⟩ | ⟨rfl, hm⟩ | ⟨hs, hz, hm⟩)
          · obtain ⟨a, b, c⟩ := (ih z).1 hz
            refine ⟨List.mem_append_left _ a, b, fun y hy hl hys => ?_⟩
            rcases List.mem_append.1 hy with u | u
            · exact c y u hl hys
            · rw [List.mem_singleton.1 u] at hys; exact absurd hys.symm hns
          · refine ⟨by simp, hq, fun y hy hl hys => ?_⟩
            rcases List.mem_append.1 hy with u | u
            · right
              -- the greatest of y's number in t
              obtain ⟨m, hmI, hms, hmy⟩ : ∃ m ∈ I, Same m y ∧ (m = y ∨ moreB m y = true) := by
                have key : ∀ (n : Nat) (y : Lt), (t.filter (fun q => moreB q y)).length = n → y ∈ t → ltB y = true → ∃ m ∈ I, Same m y ∧ (m = y ∨ moreB m y = true) := by
                  intro n
                  induction n using Nat.strongRecOn with
                  | ind n ihn =>
                    intro y hn hy hly
                    by_cases hT2 : Top t y
                    · exact ⟨y, (ih y).2 hT2, same_refl _, Or.inl rfl⟩
                    · have : ∃ q ∈ t, ltB q = true ∧ Same q y ∧ q ≠ y ∧ moreB y q = false := by
                        refine Classical.byContradiction fun hno => hT2 ⟨hy, hly, fun q hq2 hl2 hs2 => ?_⟩
                        by_cases e : q = y
                        · exact Or.inl e
                        · right
                          cases hm2 : moreB y q with
                          | true => rfl
                          | false => exact absurd ⟨q, hq2, hl2, hs2, e, hm2⟩ hno
                      obtain ⟨q, hq2, hl2, hs2, hne, hm2⟩ := this
                      have hqy : moreB q y = true := by
                        cases hm3 : moreB q y with
                        | true => rfl
                        | false => exact absurd (more_not hs2 hm3 hm2) hne
                      have hlt2 : (t.filter (fun u => moreB u q)).length < n := by
                        rw [← hn]
                        have hsub : ∀ (s : List Lt), (s.filter (fun u => moreB u q)).length ≤ (s.filter (fun u => moreB u y)).length ∧ (q ∈ s → (s.filter (fun u => moreB u q)).length < (s.filter (fun u => moreB u y)).length) := by
                          intro s
                          induction s with
                          | nil => exact ⟨Nat.le_refl _, fun h => by cases h⟩
                          | cons a s ihs =>
                            by_cases ha : moreB a q = true
                            · have hay := more_trans ha hqy
                              simp only [List.filter_cons, ha, hay, if_true, List.length_cons]
                              refine ⟨by have := ihs.1; omega, fun hm => ?_⟩
                              rcases List.mem_cons.1 hm with rfl | hm
                              · rw [more_irr] at ha; cases ha
                              · have := ihs.2 hm; omega
                            · by_cases hay : moreB a y = true
                              · simp only [List.filter_cons, ha, hay, if_true, List.length_cons, Bool.false_eq_true, if_false]
                                exact ⟨by have := ihs.1; omega, fun _ => by have := ihs.1; omega⟩
                              · simp only [List.filter_cons, ha, hay, Bool.false_eq_true, if_false]
                                refine ⟨ihs.1, fun hm => ?_⟩
                                rcases List.mem_cons.1 hm with rfl | hm
                                · exact absurd hqy hay
                                · exact ihs.2 hm
                        exact (hsub t).2 hq2
                      obtain ⟨m, hm1, hm2', hm3⟩ := ihn _ hlt2 q rfl hq2 hl2
                      refine ⟨m, hm1, hm2'.trans hs2, Or.inr ?_⟩
                      rcases hm3 with rfl | hm3
                      · exact hqy
                      · exact more_trans hm3 hqy
                exact key _ y rfl u hl
              have h1 := hm m hmI (hms.trans hys)
              rcases hmy with rfl | hmy
              · exact h1
              · exact more_trans h1 hmy
            · exact Or.inl (List.mem_singleton.1 u)
          · obtain ⟨a, b, c⟩ := (ih z).1 hz
            refine ⟨List.mem_append_left _ a, b, fun y hy hl hys => ?_⟩
            rcases List.mem_append.1 hy with u | u
            · exact c y u hl hys
            · rw [List.mem_singleton.1 u]
              by_cases e : x = z
              · exact Or.inl e
              · right
                cases hm2 : moreB z x with
                | true => rfl
                | false => exact absurd (more_not hs.symm hm hm2) e
        · rintro ⟨a, b, c⟩
          by_cases hs : Same z x
          · by_cases e : z = x
            · subst e
              by_cases hzI : z ∈ I
              · exact Or.inr (Or.inr ⟨same_refl _, hzI, more_irr _⟩)
              refine Or.inr (Or.inl ⟨rfl, fun y hy hys => ?_⟩)
              have hyT := (ih y).1 hy
              rcases c y (List.mem_append_left _ hyT.1) hyT.2.1 hys with rfl | hm
              · exact absurd hy hzI
              · exact hm
            · have hzt : z ∈ t := by
                rcases List.mem_append.1 a with u | u
                · exact u
                · exact absurd (List.mem_singleton.1 u) e
              have hm : moreB x z = false := by
                cases hm2 : moreB x z with
                | false => rfl
                | true =>
                  rcases c x (by simp) hq hs.symm with u | u
                  · exact absurd u.symm e
                  · have := more_trans hm2 u
                    rw [more_irr] at this; cases this
              exact Or.inr (Or.inr ⟨hs, (ih z).2 ⟨hzt, b, fun y hy => c y (List.mem_append_left _ hy)⟩, hm⟩)
          · left
            refine ⟨hs, (ih z).2 ⟨?_, b, fun y hy => c y (List.mem_append_left _ hy)⟩⟩
            rcases List.mem_append.1 a with u | u
            · exact u
            · exact absurd (by rw [List.mem_singleton.1 u]; exact same_refl _) hs
    · have e1 : l.take (i + 1) = l.take i := by rw [List.take_of_length_le (by omega), List.take_of_length_le (by omega)]
      rw [e1]; exact ih z
theorem inL_mem (l : List Lt) (z : Lt) : z ∈ inL l ↔ Top l z := by
  have := top_mem l l.length z
  rw [List.take_length] at this
  exact this
theorem inL_same {l m : List Lt} (h : ∀ z, z ∈ l ↔ z ∈ m) (z : Lt) : z ∈ inL l ↔ z ∈ inL m := by
  rw [inL_mem, inL_mem]
  unfold Top
  simp only [h]
theorem best_same {I J : List Lt} (hI : InOk I) (hJ : InOk J) (h : ∀ z, z ∈ I ↔ z ∈ J) (k : Int) : best I k = best J k := by
  refine best_eq hJ ?_
  have q := best_is I k
  have hh : ∀ z, Holds I z ↔ Holds J z := fun z => by unfold Holds; simp only [h]
  cases hb : best I k with
  | none =>
    rw [hb] at q
    intro y hy _ hk hn
    exact q y ((h y).2 hy) trivial hk ((hh y).2 hn)
  | some x =>
    rw [hb] at q
    exact ⟨⟨(h x).1 q.1.1, trivial, q.1.2.2.1, (hh x).1 q.1.2.2.2⟩, fun y hy _ hk hn => q.2 y ((h y).2 hy) trivial hk ((hh y).2 hn)⟩
theorem facts_same {I J : List Lt} (hI : InOk I) (hJ : InOk J) (h : ∀ z, z ∈ I ↔ z ∈ J) : ∀ n, factsTo I n = factsTo J n
  | 0 => rfl
  | n + 1 => by unfold factsTo; rw [best_same hI hJ h, facts_same hI hJ h n]
theorem fold_same {l m : List Lt} (h : ∀ z, z ∈ l ↔ z ∈ m) (hl : l.length ≤ 1000) (hm : m.length ≤ 1000) : fold l = fold m := by
  unfold fold
  rw [if_pos hl, if_pos hm]
  exact facts_same (inL_ok l) (inL_ok m) (inL_same h) 100
theorem came_same {l m : List Lt} (h : ∀ z, z ∈ l ↔ z ∈ m) (f z : Int) : z ∈ came l f ↔ z ∈ came m f := by
  unfold came
  simp only [List.mem_map, List.mem_filter, h]
theorem most_same {zs ys : List Int} (h : ∀ z, z ∈ zs ↔ z ∈ ys) (h0 : ∀ z ∈ zs, 0 ≤ z) : most zs = most ys := by
  rcases most_fact zs with ⟨rfl, e⟩ | ⟨a, b⟩ | ⟨a, b⟩
  · have : ys = [] := List.eq_nil_iff_forall_not_mem.2 fun z hz => by have := (h z).2 hz; cases this
    rw [this]
  · have hp := h0 _ a
    rcases most_fact ys with ⟨rfl, e'⟩ | ⟨a', b'⟩ | ⟨a', b'⟩
    · have := (h _).1 a; cases this
    · have := b _ ((h _).2 a')
      have := b' _ ((h _).1 a)
      omega
    · have := b' _ ((h _).1 a); omega
  · by_cases hz : zs = []
    · subst hz
      have : ys = [] := List.eq_nil_iff_forall_not_mem.2 fun z hz => by have := (h z).2 hz; cases this
      rw [this]
    · obtain ⟨z, hz2⟩ := List.exists_mem_of_ne_nil zs hz
      have := b z hz2
      have := h0 z hz2
      omega
theorem missing_same {l m : List Lt} (h : ∀ z, z ∈ l ↔ z ∈ m) (hl : l.length ≤ 1000) (hm : m.length ≤ 1000) (f : Int) : missing l f = missing m f := by
  unfold missing
  rw [if_pos hl, if_pos hm, most_same (came_same h f) (fun z hz => (came_bd hz).1), miss_congr (came_same h f)]
end Go.Proofs.Ytbabknhccapaoaa.Mg
