/-
  Plain facts on queues of who waits; no Go in sight.
-/
import Derived.Test.YtcapmobhgffnhaaVa
namespace Go.Proofs.Ytcapmobhgffnhaa.Va

structure Wt where
  person : Int
  urg : Int
  since : Int
deriving Inhabited

def prs (x : Int) : Bool := decide (0 ≤ x) && decide (x ≤ 999)
theorem prs_iff {x : Int} : prs x = true ↔ 0 ≤ x ∧ x ≤ 999 := by simp [prs]
def wOk (x : Wt) : Bool := prs x.person && (rng x.urg 1 5 && tmv x.since)
def sameP (x y : Wt) : Bool := decide (x.person = y.person)
def qTo (l : List Wt) (n : Nat) : Prop := ∀ i x, i < n → l[i]? = some x → wOk x = true ∧ ∀ k y, k < i → l[k]? = some y → sameP x y = false
def QOk (l : List Wt) : Prop := l.length ≤ 200 ∧ qTo l l.length
noncomputable def qB (l : List Wt) : Bool := by classical exact decide (QOk l)
theorem qB_true {l : List Wt} (h : QOk l) : qB l = true := by simp [qB, h]
theorem qB_false {l : List Wt} (h : ¬ QOk l) : qB l = false := by simp [qB, h]
theorem of_qB {l : List Wt} (h : qB l = true) : QOk l := by
  rcases Classical.em (QOk l) with k | k
  · exact k
  · rw [qB_false k] at h; cases h
theorem of_qBf {l : List Wt} (h : qB l = false) : ¬ QOk l := fun k => by rw [qB_true k] at h; cases h
theorem qTo_zero (l : List Wt) : qTo l 0 := fun _ _ h => absurd h (Nat.not_lt_zero _)
theorem qTo_succ {l : List Wt} {i : Nat} {x : Wt} (h : qTo l i) (hx : l[i]? = some x) (h1 : wOk x = true) (h2 : ∀ k y, k < i → l[k]? = some y → sameP x y = false) : qTo l (i + 1) := by
  intro j z hj hz
  rcases Nat.lt_succ_iff_lt_or_eq.1 hj with q | rfl
  · exact h j z q hz
  · rw [hx] at hz; cases hz; exact ⟨h1, h2⟩
theorem lt_of_get {α : Type} {l : List α} {i : Nat} {x : α} (h : l[i]? = some x) : i < l.length := (List.getElem?_eq_some_iff.1 h).1
theorem q_not {l : List Wt} {i : Nat} {x : Wt} (hx : l[i]? = some x) (h : wOk x = false) : ¬ QOk l := fun q => by
  rw [(q.2 i x (lt_of_get hx) hx).1] at h; cases h
theorem q_not2 {l : List Wt} {i k : Nat} {x y : Wt} (hx : l[i]? = some x) (hy : l[k]? = some y) (hk : k < i) (h : sameP x y = true) : ¬ QOk l := fun q => by
  rw [(q.2 i x (lt_of_get hx) hx).2 k y hk hy] at h; cases h
theorem takes_same {l : List Wt} {i : Nat} {x : Wt} : ((l.take i).any (fun y => sameP x y)) = true ↔ ∃ k y, k < i ∧ l[k]? = some y ∧ sameP x y = true := by
  rw [List.any_eq_true]
  constructor
  · rintro ⟨y, hy, he⟩
    obtain ⟨k, hk⟩ := List.getElem?_of_mem hy
    rw [List.getElem?_take] at hk
    split at hk
    · exact ⟨k, y, ‹_›, hk, he⟩
    · cases hk
  · rintro ⟨k, y, hk, hy, he⟩
    refine ⟨y, List.mem_of_getElem? (i := k) ?_, he⟩
    rw [List.getElem?_take, if_pos hk, hy]
end Go.Proofs.Ytcapmobhgffnhaa.Va
