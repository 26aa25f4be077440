/-
  Plain facts: what the order in which they are seen says of neighbours; no Go in sight.
-/
import Derived.Test.YtcfghnffacdekabSh
namespace Go.Proofs.Ytcfghnffacdekab.Va
open Vh

/-- Nobody stands twice in the places. -/
theorem places_nodup (n : Nat) : (places n).Nodup := by
  unfold places
  exact List.Pairwise.map _ (fun a b (h : a ≠ b) q => h (by omega)) List.nodup_range
theorem told_cases {q : List Wt} {t : Int} {L : List Int} (h : Told q t L) : L = [] ∨ (QOk q ∧ tmv t = true ∧ IsSeen q t L) := by
  unfold Told at h
  split at h
  · rename_i k
    rw [Bool.and_eq_true] at k
    exact Or.inr ⟨of_qB k.1, k.2, h⟩
  · exact Or.inl h
/-- Each place told is one of the queue's, of somebody who may wait. -/
theorem told_at {q : List Wt} {t : Int} {L : List Int} (h : Told q t L) {i : Nat} {x : Int} (hx : L[i]? = some x) : ∃ k : Nat, ∃ y : Wt, x = (k : Int) ∧ k < q.length ∧ q[k]? = some y ∧ wAt q x = y ∧ wOk y = true ∧ tmv t = true := by
  rcases told_cases h with rfl | ⟨h1, h2, h3⟩
  · simp at hx
  · obtain ⟨k, hk, rfl⟩ := mem_places.1 (h3.1.mem_iff.1 (List.mem_of_getElem? hx))
    exact ⟨k, q[k], rfl, hk, List.getElem?_eq_getElem hk, wAt_nat (List.getElem?_eq_getElem hk), (h1.2 k _ hk (List.getElem?_eq_getElem hk)).1, h2⟩
/-- No place is told twice. -/
theorem told_apart {q : List Wt} {t : Int} {L : List Int} (h : Told q t L) {i j : Nat} {x y : Int} (hij : i < j) (hx : L[i]? = some x) (hy : L[j]? = some y) : x ≠ y := by
  rcases told_cases h with rfl | ⟨h1, h2, h3⟩
  · simp at hx
  · have hn : L.Nodup := h3.1.nodup_iff.2 (places_nodup _)
    obtain ⟨li, rfl⟩ := List.getElem?_eq_some_iff.1 hx
    obtain ⟨lj, rfl⟩ := List.getElem?_eq_some_iff.1 hy
    exact List.pairwise_iff_getElem.1 hn i j li lj hij
/-- The one ahead is as urgent or more so; of two who are as urgent the one ahead came no later. -/
theorem told_next {q : List Wt} {t : Int} {L : List Int} (h : Told q t L) {i j : Nat} {x y : Int} (hij : i < j) (hx : L[i]? = some x) (hy : L[j]? = some y) : nowU (wAt q x) t ≤ nowU (wAt q y) t ∧ (nowU (wAt q y) t = nowU (wAt q x) t → (wAt q x).since ≤ (wAt q y).since) := by
  rcases told_cases h with rfl | ⟨h1, h2, h3⟩
  · simp at hx
  · obtain ⟨li, rfl⟩ := List.getElem?_eq_some_iff.1 hx
    obtain ⟨lj, rfl⟩ := List.getElem?_eq_some_iff.1 hy
    have hb := List.pairwise_iff_getElem.1 h3.2 i j li lj hij
    unfold bfW at hb
    rw [ahead_false] at hb
    omega
/-- How urgent somebody is, as the law reckons it. -/
theorem nowU_law {x : Wt} {t : Int} (h : wOk x = true) : nowU x t = (if x.urg = 5 then 2 else if 3 ≤ x.urg then (if x.urg - (if t - x.since < 0 then 0 else t - x.since) / 60 < 2 then 2 else x.urg - (if t - x.since < 0 then 0 else t - x.since) / 60) else x.urg) := by
  unfold wOk at h
  rw [Bool.and_eq_true, Bool.and_eq_true, rng_iff, tmv_iff] at h
  unfold nowU
  by_cases h5 : x.urg = 5
  · rw [if_pos h5, if_pos h5]
  · rw [if_neg h5, if_neg h5]
    by_cases h3 : 3 ≤ x.urg
    · rw [if_pos h3, if_pos (by omega)]
      have e : max (t - x.since) 0 = if t - x.since < 0 then 0 else t - x.since := by
        split <;> omega
      rw [e]
      generalize (if t - x.since < 0 then 0 else t - x.since) / 60 = m
      split <;> omega
    · rw [if_neg h3, if_neg (by omega)]
end Go.Proofs.Ytcfghnffacdekab.Va
