/-
  No day that has the new dose has more than the greatest: plain facts.
-/
import Derived.Test.YtcnhogghfedcdaaMa
namespace Go.Proofs.Ytcnhogghfedcdaa.Ga
open Va
set_option linter.unusedVariables false

theorem last_of (F : List Gv) (t : Int) : ∃ e, (e = t ∨ ∃ g ∈ F, e = g.t) ∧ t ≤ e ∧ ∀ g ∈ F, g.t ≤ e := by
  induction F with
  | nil => exact ⟨t, .inl rfl, by omega, fun g hg => by cases hg⟩
  | cons h F ih =>
    obtain ⟨e, h1, h2, h3⟩ := ih
    by_cases q : h.t ≤ e
    · refine ⟨e, ?_, h2, fun g hg => ?_⟩
      · rcases h1 with k | ⟨g, hg, k⟩
        · exact .inl k
        · exact .inr ⟨g, List.mem_cons_of_mem _ hg, k⟩
      · rcases List.mem_cons.1 hg with rfl | hg
        · exact q
        · exact h3 g hg
    · refine ⟨h.t, .inr ⟨h, List.mem_cons_self, rfl⟩, by omega, fun g hg => ?_⟩
      rcases List.mem_cons.1 hg with rfl | hg
      · omega
      · have := h3 g hg; omega
theorem sum_sub (l : List Gv) (p q : Gv → Bool) (hn : ∀ g ∈ l, 0 ≤ g.n) (h : ∀ g ∈ l, p g = true → q g = true) : sumN (l.filter p) ≤ sumN (l.filter q) := by
  induction l with
  | nil => simp [sumN]
  | cons g l ih =>
    have i := ih (fun g hg => hn g (List.mem_cons_of_mem _ hg)) (fun g hg => h g (List.mem_cons_of_mem _ hg))
    have h0 := hn g List.mem_cons_self
    have h1 := h g List.mem_cons_self
    unfold sumN at *
    cases hp : p g <;> cases hq : q g
    · simp [hp, hq]; omega
    · simp [hp, hq]; omega
    · rw [h1 hp] at hq; cases hq
    · simp [hp, hq]; omega
theorem gsB_all {l : List Gv} (h : gsB l = true) : ∀ g ∈ l, gvB g = true := by simp only [gsB, Bool.and_eq_true, List.all_eq_true] at h; exact h.2
theorem gsB_len {l : List Gv} (h : gsB l = true) : l.length ≤ 500 := by simp only [gsB, Bool.and_eq_true, decide_eq_true_eq] at h; exact h.1
theorem gvB_n {g : Gv} (h : gvB g = true) : 1 ≤ g.n ∧ g.n ≤ 1000000000 := by simp only [gvB, Bool.and_eq_true, rng_iff] at h; exact h.2.2
theorem day_great {x t a : Int} {l : List Gv} (hl : gsB l = true) {s : Int} (h1 : t - 1439 ≤ s) (h2 : s ≤ t) : day x a l (s + 1439) ≤ great x t a l := by
  obtain ⟨e, e1, e2, e3⟩ := last_of ((mine x l).filter (win s (s + 1439))) t
  have hn : ∀ g ∈ mine x l, 0 ≤ g.n := fun g hg => by
    have := gvB_n (gsB_all hl g (List.mem_filter.1 hg).1); omega
  have es : e ≤ s + 1439 := by
    rcases e1 with rfl | ⟨g, hg, rfl⟩
    · omega
    · have := (List.mem_filter.1 hg).2
      simp only [win, Bool.and_eq_true, decide_eq_true_eq] at this
      exact this.2
  have hle : day x a l (s + 1439) ≤ day x a l e := by
    unfold day
    rw [show s + 1439 - 1439 = s by omega]
    have := sum_sub (mine x l) (win s (s + 1439)) (win (e - 1439) e) hn (fun g hg hp => by
      have k := e3 g (List.mem_filter.2 ⟨hg, hp⟩)
      simp only [win, Bool.and_eq_true, decide_eq_true_eq] at hp ⊢
      omega)
    omega
  have hin : e ∈ ends x t l := by
    unfold ends
    rcases e1 with rfl | ⟨g, hg, rfl⟩
    · exact List.mem_cons_self
    · refine List.mem_cons_of_mem _ (List.mem_map.2 ⟨g, List.mem_filter.2 ⟨(List.mem_filter.1 hg).1, ?_⟩, rfl⟩)
      simp only [win, Bool.and_eq_true, decide_eq_true_eq]
      omega
  have := (big_ge ((ends x t l).map (day x a l))).2 _ (List.mem_map.2 ⟨e, hin, rfl⟩)
  unfold great
  omega
theorem okG_gs {d : Dg} {l : List Gv} {t a : Int} (h : okG d l t a = true) : gsB l = true ∧ (0 ≤ t ∧ t ≤ 10000000) ∧ 1 ≤ a ∧ a ≤ 1000000000 := by
  simp only [okG, Bool.and_eq_true, rng_iff] at h
  exact ⟨h.2.1, h.2.2.1, h.2.2.2⟩
theorem may_ok {d : Dg} {l : List Gv} {t a : Int} (h : (mayG d l t a).1 = true) : okG d l t a = true := by
  unfold mayG at h
  split at h
  · assumption
  · cases h
theorem may_all {d : Dg} {l : List Gv} {t a : Int} (h : (mayG d l t a).1 = true) {s : Int} (h1 : t - 1439 ≤ s) (h2 : s ≤ t) : day d.id a l (s + 1439) ≤ d.day := by
  have ho := may_ok h
  have hg := day_great (x := d.id) (a := a) (okG_gs ho).1 h1 h2
  unfold mayG at h
  rw [if_pos ho] at h
  split at h
  · omega
  · cases h
theorem may_zero {d : Dg} {l : List Gv} {t a : Int} (h : (mayG d l t a).1 = true) : (mayG d l t a).2 = 0 := by
  have ho := may_ok h
  unfold mayG at *
  rw [if_pos ho] at *
  split at h
  · rename_i q; rw [if_pos q]
  · cases h
theorem may_no {d : Dg} {l : List Gv} {t a : Int} (h : (mayG d l t a).1 = false) : (mayG d l t a).2 = 0 ∨ d.day < (mayG d l t a).2 := by
  unfold mayG at *
  split
  · rename_i q
    rw [if_pos q] at h
    split at h
    · cases h
    · rename_i q2; rw [if_neg q2]; right; show d.day < great d.id t a l; omega
  · exact .inl rfl
theorem sum_bd (l : List Gv) (h : ∀ g ∈ l, gvB g = true) : 0 ≤ sumN l ∧ sumN l ≤ (l.length : Int) * 1000000000 := by
  induction l with
  | nil => simp [sumN]
  | cons g l ih =>
    have := ih (fun g hg => h g (List.mem_cons_of_mem _ hg))
    have := gvB_n (h g List.mem_cons_self)
    unfold sumN at *
    simp only [List.map_cons, List.sum_cons, List.length_cons]
    omega
theorem day_bd {x a e : Int} {l : List Gv} (h : gsB l = true) (i : Nat) : a ≤ day x a (l.take i) e ∧ day x a (l.take i) e ≤ a + 500000000000 := by
  have hl := gsB_len h
  have hs : ((mine x (l.take i)).filter (win (e - 1439) e)).length ≤ 500 := by
    refine Nat.le_trans (List.length_filter_le _ _) (Nat.le_trans (List.length_filter_le _ _) ?_)
    rw [List.length_take]; omega
  have := sum_bd ((mine x (l.take i)).filter (win (e - 1439) e)) (fun g hg => gsB_all h g (List.mem_of_mem_take (List.mem_filter.1 (List.mem_filter.1 hg).1).1))
  unfold day
  omega
end Go.Proofs.Ytcnhogghfedcdaa.Ga
