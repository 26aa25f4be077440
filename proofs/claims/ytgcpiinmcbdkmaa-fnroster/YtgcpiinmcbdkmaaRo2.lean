/-
  Who is picked next: lists, no Go in sight.
-/
import Derived.Test.YtgcpiinmcbdkmaaRo1
namespace Go.Proofs.Ytgcpiinmcbdkmaa.Ro
open Sy
set_option linter.all false

def Cand (ws : List Wk) (run : Int) (c : List Int) (p : Nat) : Prop := (p : Int) ∉ c ∧ (ws.getD p (0, 0)).2 < run
/-- The best of the first n. -/
def Best (ws : List Wk) (run : Int) (c : List Int) (n : Nat) (b : Int) : Prop :=
  (b = -1 ∧ ∀ p, p < n → ¬ Cand ws run c p) ∨ ∃ q : Nat, q < n ∧ b = (q : Int) ∧ Cand ws run c q ∧ ∀ p, p < n → Cand ws run c p → ¬ lt (key ws) (p : Int) (q : Int)
theorem best_zero (ws : List Wk) (run : Int) (c : List Int) : Best ws run c 0 (-1) := Or.inl ⟨rfl, fun p h => by omega⟩
theorem key_nat (ws : List Wk) (p : Nat) : key ws (p : Int) = (ws.getD p (0, 0)).1 := rfl
theorem best_skip {ws : List Wk} {run : Int} {c : List Int} {n : Nat} {b : Int} (h : Best ws run c n b)
    (hn : ¬ (Cand ws run c n ∧ (b < 0 ∨ key ws (n : Int) < key ws b))) : Best ws run c (n + 1) b := by
  rcases h with ⟨rfl, h⟩ | ⟨q, h1, rfl, h2, h3⟩
  · refine Or.inl ⟨rfl, fun p hp => ?_⟩
    rcases Nat.lt_succ_iff_lt_or_eq.1 hp with q | rfl
    · exact h p q
    · intro hc; exact hn ⟨hc, Or.inl (by omega)⟩
  · refine Or.inr ⟨q, by omega, rfl, h2, fun p hp hc => ?_⟩
    rcases Nat.lt_succ_iff_lt_or_eq.1 hp with r | rfl
    · exact h3 p r hc
    · intro hl
      exact hn ⟨hc, Or.inr ((lt_key (by omega)).1 hl)⟩
theorem best_take {ws : List Wk} {run : Int} {c : List Int} {n : Nat} {b : Int} (h : Best ws run c n b)
    (hc : Cand ws run c n) (hn : b < 0 ∨ key ws (n : Int) < key ws b) : Best ws run c (n + 1) (n : Int) := by
  refine Or.inr ⟨n, by omega, rfl, hc, fun p hp hcp => ?_⟩
  rcases Nat.lt_succ_iff_lt_or_eq.1 hp with r | rfl
  · rcases h with ⟨rfl, h⟩ | ⟨q, h1, rfl, h2, h3⟩
    · exact absurd hcp (h p r)
    · have hk : key ws (n : Int) < key ws (q : Int) := hn.resolve_left (by omega)
      intro hl
      have h4 := h3 p r hcp
      unfold lt at hl h4
      omega
  · exact lt_irr _ _
theorem cand_iff {ws : List Wk} {run : Int} {j p : Nat} (hp : p < ws.length) : Cand ws run ((srtd ws run).take j) p ↔ (p : Int) ∈ (srtd ws run).drop j := by
  have hm : (p : Int) ∈ srtd ws run ↔ (ws.getD p (0, 0)).2 < run := by
    rw [mem_srtd]
    constructor
    · rintro ⟨q, _, h2, h3⟩; rw [show p = q from by omega]; exact h2
    · intro h; exact ⟨p, hp, h, rfl⟩
  have hd := srtd_nodup ws run
  rw [← List.take_append_drop j (srtd ws run), List.nodup_append] at hd
  have hs : (p : Int) ∈ srtd ws run ↔ (p : Int) ∈ (srtd ws run).take j ∨ (p : Int) ∈ (srtd ws run).drop j := by
    conv => lhs; rw [← List.take_append_drop j (srtd ws run)]
    exact List.mem_append
  unfold Cand
  rw [← hm, hs]
  constructor
  · rintro ⟨h1, h2⟩; exact h2.resolve_left h1
  · intro h; exact ⟨fun q => hd.2.2 _ q _ h rfl, Or.inr h⟩
theorem best_none {ws : List Wk} {run : Int} {j : Nat} {b : Int} (h : Best ws run ((srtd ws run).take j) ws.length b) (hb : b < 0) : (srtd ws run).length ≤ j := by
  rcases h with ⟨_, h⟩ | ⟨q, _, rfl, _⟩
  · rcases Nat.lt_or_ge j (srtd ws run).length with hj | hj
    · exfalso
      have hx : (srtd ws run)[j] ∈ (srtd ws run).drop j := List.mem_drop_iff_getElem.2 ⟨0, by simpa using hj, by simp⟩
      obtain ⟨p, hp, _, e⟩ := mem_srtd.1 (List.getElem_mem hj)
      rw [e] at hx
      exact h p hp ((cand_iff hp).2 hx)
    · exact hj
  · omega
theorem best_some {ws : List Wk} {run : Int} {j : Nat} {b : Int} (h : Best ws run ((srtd ws run).take j) ws.length b) (hb : ¬ b < 0) : ∃ p : Nat, p < ws.length ∧ b = (p : Int) ∧ j < (srtd ws run).length ∧ (srtd ws run).take (j + 1) = (srtd ws run).take j ++ [b] := by
  rcases h with ⟨rfl, _⟩ | ⟨q, h1, rfl, h2, h3⟩
  · omega
  · have hd := (cand_iff h1).1 h2
    have hj : j < (srtd ws run).length := by
      rcases Nat.lt_or_ge j (srtd ws run).length with h | h
      · exact h
      · rw [List.drop_eq_nil_of_le h] at hd; cases hd
    refine ⟨q, h1, rfl, hj, ?_⟩
    rw [List.take_succ_eq_append_getElem hj]
    congr 2
    obtain ⟨p, hp, _, e⟩ := mem_srtd.1 (List.getElem_mem hj)
    rw [List.drop_eq_getElem_cons hj] at hd
    have hcp : Cand ws run ((srtd ws run).take j) p := by
      rw [cand_iff hp, ← e, List.drop_eq_getElem_cons hj]; exact List.mem_cons_self
    rcases List.mem_cons.1 hd with q1 | q1
    · exact q1.symm
    · exfalso
      have hs := srtd_srt ws run
      rw [← List.take_append_drop j (srtd ws run), List.drop_eq_getElem_cons hj] at hs
      have := (List.pairwise_cons.1 (srt_app.1 hs).2.1).1 _ q1
      rw [e] at this
      exact h3 p hp hcp this
/-- Beyond all that are ready, picking picks nobody. -/
theorem take_more {ws : List Wk} {run : Int} {j : Nat} (h : (srtd ws run).length ≤ j) : (srtd ws run).take (j + 1) = (srtd ws run).take j := by
  rw [List.take_of_length_le h, List.take_of_length_le (by omega)]
end Go.Proofs.Ytgcpiinmcbdkmaa.Ro
