/-
  What the roster's law asks of the roster: lists, no Go in sight.
-/
import Derived.Test.YtgcpiinmcbdkmaaRo2
namespace Go.Proofs.Ytgcpiinmcbdkmaa.Ro
open Sy
set_option linter.all false

theorem day_lenL (ws : List Wk) (nd : Nat) (run : Int) : (among (chosen ws nd run) ws.length).length = min nd (srtd ws run).length := by
  have h1 := among_perm (c := chosen ws nd run) (n := ws.length) (chosen_nodup ws nd run) (fun x hx => by obtain ⟨p, h3, _, h4⟩ := chosen_mem hx; exact ⟨p, h3, h4⟩)
  rw [h1.length_eq]
  unfold chosen
  rw [List.length_take]
theorem dayOf_len (ws : List Wk) (nd : Nat) (run : Int) : (dayOf ws nd run).length = nd := by
  unfold dayOf
  rw [List.length_append, day_lenL, List.length_replicate]; omega
theorem ros_lenL (people need : Nat) (run : Int) : ∀ d, (ros people need run d).2.length = d * need
  | 0 => by simp [ros]
  | d + 1 => by rw [ros]; simp only [List.length_append, dayOf_len, ros_lenL people need run d]; rw [Nat.succ_mul]
/-- The k-th of day d. -/
theorem ros_get (people need : Nat) (run : Int) {d k : Nat} (hk : k < need) : ∀ dd, d < dd → (ros people need run dd).2[d * need + k]? = (dayOf (ros people need run d).1 need run)[k]?
  | 0, h => by omega
  | dd + 1, h => by
    rw [ros]
    rcases Nat.lt_succ_iff_lt_or_eq.1 h with q | rfl
    · rw [List.getElem?_append_left (by
        rw [ros_lenL]
        have : d * need + need ≤ dd * need := by rw [← Nat.succ_mul]; exact Nat.mul_le_mul_right need q
        omega)]
      exact ros_get people need run hk dd q
    · rw [List.getElem?_append_right (by rw [ros_lenL]; omega), ros_lenL]
      congr 1; omega
theorem am_get {ws : List Wk} {nd : Nat} {run : Int} {k : Nat} (h : k < (among (chosen ws nd run) ws.length).length) : ∃ q : Nat, (dayOf ws nd run)[k]? = some (q : Int) ∧ (among (chosen ws nd run) ws.length)[k]? = some (q : Int) ∧ q < ws.length ∧ (q : Int) ∉ (among (chosen ws nd run) ws.length).take k := by
  have e := List.getElem?_eq_getElem h
  obtain ⟨q, h1, h2, h3⟩ := mem_among.1 (List.getElem_mem h)
  rw [h3] at e
  refine ⟨q, ?_, e, h1, fun hm => ?_⟩
  · unfold dayOf; rw [List.getElem?_append_left h]; exact e
  · obtain ⟨j, hj, hje⟩ := List.mem_take_iff_getElem.1 hm
    have h4 := List.pairwise_iff_getElem.1 (among_rising (chosen ws nd run) ws.length) j k (by omega) h (by omega)
    rw [hje, h3] at h4; omega
theorem am_less {ws : List Wk} {nd : Nat} {run : Int} {k q q' : Nat} (h : (among (chosen ws nd run) ws.length)[k + 1]? = some (q : Int)) (h' : (among (chosen ws nd run) ws.length)[k]? = some (q' : Int)) : (q' : Int) < (q : Int) := by
  obtain ⟨a1, a2⟩ := List.getElem?_eq_some_iff.1 h
  obtain ⟨b1, b2⟩ := List.getElem?_eq_some_iff.1 h'
  have h4 := List.pairwise_iff_getElem.1 (among_rising (chosen ws nd run) ws.length) k (k + 1) b1 a1 (by omega)
  rw [a2, b2] at h4; exact h4
theorem lack_get {ws : List Wk} {nd : Nat} {run : Int} {k : Nat} (h : ¬ k < (among (chosen ws nd run) ws.length).length) (hk : k < nd) : (dayOf ws nd run)[k]? = some (-1) := by
  unfold dayOf
  rw [List.getElem?_append_right (by omega), List.getElem?_replicate, if_pos (by have := day_lenL ws nd run; omega)]
theorem am_mem {ws : List Wk} {nd : Nat} {run : Int} {p : Nat} (hp : p < ws.length) : (p : Int) ∈ among (chosen ws nd run) ws.length ↔ (p : Int) ∈ chosen ws nd run := by
  rw [mem_among]
  constructor
  · rintro ⟨q, _, h2, h3⟩; rw [h3]; exact h2
  · intro h; exact ⟨p, hp, h, rfl⟩
/-- Where one lacks, who does not work is resting. -/
theorem lack_rest {ws : List Wk} {nd : Nat} {run : Int} {p : Nat} (hl : (among (chosen ws nd run) ws.length).length < nd) (hp : p < ws.length) (hn : (p : Int) ∉ chosen ws nd run) : ¬ (ws.getD p (0, 0)).2 < run := by
  intro h
  apply hn
  have h1 := day_lenL ws nd run
  unfold chosen
  rw [List.take_of_length_le (by omega)]
  exact mem_srtd.2 ⟨p, hp, h, rfl⟩
theorem chosen_less {ws : List Wk} {nd : Nat} {run : Int} {p : Nat} (h : (p : Int) ∈ chosen ws nd run) : (ws.getD p (0, 0)).2 < run := by
  obtain ⟨q, _, h2, h3⟩ := chosen_mem h
  rw [show p = q from by omega]; exact h2
end Go.Proofs.Ytgcpiinmcbdkmaa.Ro
