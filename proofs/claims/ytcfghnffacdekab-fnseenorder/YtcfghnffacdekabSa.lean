/-
  Plain facts: who is seen ahead of whom.
-/
import Derived.Test.YtcfghnffacdekabQa
import Derived.Test.YtcfghnffacdekabVh
namespace Go.Proofs.Ytcfghnffacdekab.Va
open Vh

/-- How urgent somebody is at a time. -/
def nowU (x : Wt) (t : Int) : Int := if x.urg = 5 then 2 else if x.urg = 3 ∨ x.urg = 4 then max (x.urg - max (t - x.since) 0 / 60) 2 else x.urg
def ahead (x y : Wt) (t : Int) : Bool := decide (nowU x t < nowU y t) || (decide (nowU x t = nowU y t) && (decide (x.since < y.since) || (decide (x.since = y.since) && decide (x.person < y.person))))
def wAt (q : List Wt) (a : Int) : Wt := q.getD a.toNat default
def bfW (q : List Wt) (t : Int) (a b : Int) : Bool := ahead (wAt q a) (wAt q b) t
theorem ahead_iff {x y : Wt} {t : Int} : ahead x y t = true ↔ nowU x t < nowU y t ∨ (nowU x t = nowU y t ∧ (x.since < y.since ∨ (x.since = y.since ∧ x.person < y.person))) := by simp [ahead]
theorem ahead_false {x y : Wt} {t : Int} : ahead x y t = false ↔ ¬ (nowU x t < nowU y t ∨ (nowU x t = nowU y t ∧ (x.since < y.since ∨ (x.since = y.since ∧ x.person < y.person)))) := by
  rw [← ahead_iff]; simp
theorem ord_W (q : List Wt) (t : Int) : Ord (bfW q t) := by
  constructor
  · intro a b h
    unfold bfW at h ⊢
    rw [ahead_iff] at h
    rw [ahead_false]
    omega
  · intro a b c h1 h2
    unfold bfW at h1 h2 ⊢
    rw [ahead_false] at h1 h2 ⊢
    omega
theorem wAt_nat {q : List Wt} {k : Nat} {x : Wt} (h : q[k]? = some x) : wAt q (k : Int) = x := by
  unfold wAt; rw [Int.toNat_natCast, List.getD_eq_getElem?_getD, h]; rfl
/-- Places in the queue. -/
def places (n : Nat) : List Int := (List.range n).map (fun i : Nat => (i : Int))
theorem places_succ (n : Nat) : places (n + 1) = places n ++ [(n : Int)] := by simp [places, List.range_succ]
theorem mem_places {n : Nat} {x : Int} : x ∈ places n ↔ ∃ k : Nat, k < n ∧ x = (k : Int) := by
  simp only [places, List.mem_map, List.mem_range]
  exact ⟨fun ⟨k, h1, h2⟩ => ⟨k, h1, h2.symm⟩, fun ⟨k, h1, h2⟩ => ⟨k, h1, h2.symm⟩⟩
theorem anti_W {q : List Wt} (hq : QOk q) (t : Int) {a b : Int} (ha : a ∈ places q.length) (hb : b ∈ places q.length) (h1 : bfW q t a b = false) (h2 : bfW q t b a = false) : a = b := by
  obtain ⟨i, hi, rfl⟩ := mem_places.1 ha
  obtain ⟨j, hj, rfl⟩ := mem_places.1 hb
  unfold bfW at h1 h2
  rw [wAt_nat (List.getElem?_eq_getElem hi), wAt_nat (List.getElem?_eq_getElem hj)] at h1 h2
  rw [ahead_false] at h1 h2
  have hp : (q[i]).person = (q[j]).person := by omega
  rcases Nat.lt_trichotomy i j with k | k | k
  · have := (hq.2 j _ hj (List.getElem?_eq_getElem hj)).2 i _ k (List.getElem?_eq_getElem hi)
    simp [sameP, hp] at this
  · rw [k]
  · have := (hq.2 i _ hi (List.getElem?_eq_getElem hi)).2 j _ k (List.getElem?_eq_getElem hj)
    simp [sameP, hp] at this
/-- The order in which they are seen: the one that is in its order. -/
def IsSeen (q : List Wt) (t : Int) (l : List Int) : Prop := l.Perm (places q.length) ∧ Sorted (bfW q t) l
theorem seen_one {q : List Wt} (hq : QOk q) {t : Int} {l m : List Int} (h1 : IsSeen q t l) (h2 : IsSeen q t m) : l = m :=
  sorted_eq (fun _ _ ha hb => anti_W hq t (h1.1.mem_iff.1 ha) (h1.1.mem_iff.1 hb)) h1.2 h2.2 (h1.1.trans h2.1.symm)
theorem nowU_bd {x : Wt} {t : Int} (h : wOk x = true) : 1 ≤ nowU x t ∧ nowU x t ≤ 5 := by
  unfold wOk at h
  rw [Bool.and_eq_true, Bool.and_eq_true, rng_iff, tmv_iff] at h
  unfold nowU
  split
  · omega
  · split <;> omega
end Go.Proofs.Ytcfghnffacdekab.Va
