/-
  Facts and laws, in plain words: which are right, what follows, and why.
-/
import Derived.Test.YtfhecdedanlmfaaVa
namespace Go.Proofs.Ytfhecdedanlmfaa
namespace Rc
set_option linter.all false

structure Lw where
  ifs : List Int
  nots : List Int
  thn : Int
def factB (x : Int) : Bool := decide (0 ≤ x) && decide (x < 64)
def factsB (l : List Int) : Bool := decide (l.length ≤ 64) && l.all factB
def belowB (t : Int) (l : List Int) : Bool := l.all (fun x => decide (0 ≤ x) && decide (x < t))
def lawB (w : Lw) : Bool := factB w.thn && (decide (w.ifs.length ≤ 64) && decide (w.nots.length ≤ 64)) && (belowB w.thn w.ifs && belowB w.thn w.nots)
def lawsB (ls : List Lw) : Bool := decide (ls.length ≤ 200) && ls.all lawB
def okB (fs : List Int) (ls : List Lw) : Bool := factsB fs && lawsB ls
def hasB (l : List Int) (x : Int) : Bool := l.any (fun y => decide (y = x))
/-- What a list of reasons says of a fact. -/
def wy (W : List Int) (x : Int) : Int := W.getD x.toNat (-2)
def fineB (W : List Int) (f : Int) (w : Lw) : Bool := decide (w.thn = f) && (w.ifs.all (fun x => decide (¬ wy W x = -2)) && w.nots.all (fun x => decide (wy W x = -2)))
def firstB (p : Lw → Bool) (ls : List Lw) : Int := match ls.findIdx? p with | some i => (i : Int) | none => -1
def byF (fs : List Int) (ls : List Lw) (W : List Int) (f : Int) : Int :=
  if hasB fs f then -1 else if 0 ≤ firstB (fineB W f) ls then firstB (fineB W f) ls else -2
def whyTo (fs : List Int) (ls : List Lw) : Nat → List Int
  | 0 => []
  | n + 1 => whyTo fs ls n ++ [byF fs ls (whyTo fs ls n) n]
theorem why_len (fs : List Int) (ls : List Lw) : ∀ n, (whyTo fs ls n).length = n
  | 0 => rfl
  | n + 1 => by simp [whyTo, why_len fs ls n]
theorem why_get (fs : List Int) (ls : List Lw) : ∀ n k, k < n → (whyTo fs ls n)[k]? = some (byF fs ls (whyTo fs ls k) k)
  | 0, k, h => by omega
  | n + 1, k, h => by
    show (whyTo fs ls n ++ [byF fs ls (whyTo fs ls n) n])[k]? = _
    by_cases e : k < n
    · rw [List.getElem?_append_left (by rw [why_len]; exact e)]
      exact why_get fs ls n k e
    · obtain rfl : k = n := by omega
      rw [List.getElem?_append_right (by rw [why_len]; omega), why_len]
      simp
theorem wy_nat (fs : List Int) (ls : List Lw) {n k : Nat} (h : k < n) : wy (whyTo fs ls n) (k : Int) = byF fs ls (whyTo fs ls k) k := by
  unfold wy
  rw [List.getD_eq_getElem?_getD, Int.toNat_natCast, why_get fs ls n k h]
  rfl
theorem wy_stay (fs : List Int) (ls : List Lw) {n m : Nat} {x : Int} (h0 : 0 ≤ x) (h : x < n) (hm : n ≤ m) : wy (whyTo fs ls m) x = wy (whyTo fs ls n) x := by
  obtain ⟨k, rfl⟩ := Int.eq_ofNat_of_zero_le h0
  rw [wy_nat fs ls (show k < n by omega), wy_nat fs ls (show k < m by omega)]
theorem firstB_low (p : Lw → Bool) (ls : List Lw) : -1 ≤ firstB p ls := by
  unfold firstB
  split <;> omega
theorem firstB_high (p : Lw → Bool) (ls : List Lw) : firstB p ls < ls.length := by
  unfold firstB
  split
  · rename_i i h
    have := (List.findIdx?_eq_some_iff_getElem.1 h).1
    omega
  · omega
theorem firstB_at {p : Lw → Bool} {ls : List Lw} {i : Nat} {w : Lw} (h : firstB p ls = (i : Int)) (hw : ls[i]? = some w) : p w = true := by
  unfold firstB at h
  split at h
  · rename_i k e
    obtain rfl : k = i := by omega
    obtain ⟨h1, h2, _⟩ := List.findIdx?_eq_some_iff_getElem.1 e
    rw [List.getElem?_eq_getElem h1] at hw
    rw [← Option.some.inj hw]; exact h2
  · omega
theorem firstB_here {p : Lw → Bool} {ls : List Lw} {i : Nat} {w : Lw} (hn : (ls.take i).any p = false) (hw : ls[i]? = some w) (hp : p w = true) : firstB p ls = (i : Int) := by
  have h1 : i < ls.length := (List.getElem?_eq_some_iff.1 hw).1
  have hx : ls[i]'h1 = w := (List.getElem?_eq_some_iff.1 hw).2
  have : ls.findIdx? p = some i := by
    rw [List.findIdx?_eq_some_iff_getElem]
    refine ⟨h1, by rw [hx]; exact hp, fun j hj => ?_⟩
    have hj2 : (ls.take i)[j]? = some (ls[j]'(by omega)) := by
      rw [List.getElem?_take, if_pos hj, List.getElem?_eq_getElem]
    have := List.any_eq_false.1 hn (ls[j]'(by omega)) (List.mem_of_getElem? hj2)
    simpa using this
  unfold firstB
  rw [this]
theorem firstB_none {p : Lw → Bool} {ls : List Lw} (hn : ls.any p = false) : firstB p ls = -1 := by
  have : ls.findIdx? p = none := by
    rw [List.findIdx?_eq_none_iff]
    intro x hx
    have := List.any_eq_false.1 hn x hx
    simpa using this
  unfold firstB
  rw [this]
theorem firstB_congr {p q : Lw → Bool} {ls : List Lw} (h : ∀ w ∈ ls, p w = q w) : firstB p ls = firstB q ls := by
  have : ls.findIdx? p = ls.findIdx? q := by
    induction ls with
    | nil => rfl
    | cons a l ih =>
      rw [List.findIdx?_cons, List.findIdx?_cons, h a (by simp), ih (fun w hw => h w (by simp [hw]))]
  unfold firstB
  rw [this]
theorem fine_stay (fs : List Int) (ls : List Lw) {n m : Nat} {w : Lw} (hw : lawB w = true) (hm : n ≤ m) : fineB (whyTo fs ls m) n w = fineB (whyTo fs ls n) n w := by
  unfold fineB
  by_cases e : w.thn = n
  · simp only [e, decide_true, Bool.true_and]
    unfold lawB belowB at hw
    simp only [Bool.and_eq_true, List.all_eq_true, decide_eq_true_eq] at hw
    have hi := hw.2.1
    have hn := hw.2.2
    rw [e] at hi hn
    congr 1
    · rw [Bool.eq_iff_iff, List.all_eq_true, List.all_eq_true]
      refine ⟨fun h x hx => ?_, fun h x hx => ?_⟩
      · have := h x hx; rw [wy_stay fs ls (hi x hx).1 (hi x hx).2 hm] at this; exact this
      · rw [wy_stay fs ls (hi x hx).1 (hi x hx).2 hm]; exact h x hx
    · rw [Bool.eq_iff_iff, List.all_eq_true, List.all_eq_true]
      refine ⟨fun h x hx => ?_, fun h x hx => ?_⟩
      · have := h x hx; rw [wy_stay fs ls (hn x hx).1 (hn x hx).2 hm] at this; exact this
      · rw [wy_stay fs ls (hn x hx).1 (hn x hx).2 hm]; exact h x hx
  · simp [e]
/-- What holds. -/
def holdsB (fs : List Int) (ls : List Lw) (x : Nat) : Bool := decide (¬ wy (whyTo fs ls 64) (x : Int) = -2)
def told (fs : List Int) (ls : List Lw) (n : Nat) : List Int := ((List.range n).filter (holdsB fs ls)).map (fun x : Nat => (x : Int))
def derive (fs : List Int) (ls : List Lw) : List Int := if okB fs ls then told fs ls 64 else []
def why (fs : List Int) (ls : List Lw) (f : Int) : Int := if okB fs ls && factB f then wy (whyTo fs ls 64) f else -2
theorem told_succ (fs : List Int) (ls : List Lw) (n : Nat) : told fs ls (n + 1) = if holdsB fs ls n then told fs ls n ++ [(n : Int)] else told fs ls n := by
  unfold told
  rw [List.range_succ, List.filter_append]
  cases h : holdsB fs ls n <;> simp [h]
theorem told_len (fs : List Int) (ls : List Lw) : ∀ n, (told fs ls n).length ≤ n
  | 0 => by simp [told]
  | n + 1 => by
    have := told_len fs ls n
    rw [told_succ]
    split
    · simp; omega
    · omega
/-- What the set holds behind n rounds. -/
def heldTo (fs : List Int) (ls : List Lw) (n : Nat) (x : Nat) : Bool := if x < n then decide (¬ wy (whyTo fs ls n) (x : Int) = -2) else hasB fs (x : Int)
def setB (S : Nat → Bool) (f : Int) (w : Lw) : Bool := decide (w.thn = f) && (w.ifs.all (fun x => S x.toNat) && w.nots.all (fun x => !S x.toNat))
theorem set_fine (fs : List Int) (ls : List Lw) {n m : Nat} {w : Lw} (hw : lawB w = true) (hm : n ≤ m) : setB (heldTo fs ls m) n w = fineB (whyTo fs ls n) n w := by
  rw [← fine_stay fs ls hw hm]
  unfold fineB setB
  by_cases e : w.thn = n
  · simp only [e, decide_true, Bool.true_and]
    unfold lawB belowB at hw
    simp only [Bool.and_eq_true, List.all_eq_true, decide_eq_true_eq] at hw
    have hi := hw.2.1
    have hn := hw.2.2
    rw [e] at hi hn
    have key : ∀ x : Int, 0 ≤ x → x < n → heldTo fs ls m x.toNat = decide (¬ wy (whyTo fs ls m) x = -2) := by
      intro x h0 h1
      obtain ⟨k, rfl⟩ := Int.eq_ofNat_of_zero_le h0
      unfold heldTo
      rw [if_pos (by simp; omega)]
      simp
    congr 1
    · rw [Bool.eq_iff_iff, List.all_eq_true, List.all_eq_true]
      refine ⟨fun h x hx => ?_, fun h x hx => ?_⟩
      · have := h x hx; rw [key x (hi x hx).1 (hi x hx).2] at this; exact this
      · rw [key x (hi x hx).1 (hi x hx).2]; exact h x hx
    · rw [Bool.eq_iff_iff, List.all_eq_true, List.all_eq_true]
      refine ⟨fun h x hx => ?_, fun h x hx => ?_⟩
      · have := h x hx; rw [key x (hn x hx).1 (hn x hx).2] at this; simpa using this
      · rw [key x (hn x hx).1 (hn x hx).2]; simpa using h x hx
  · simp [e]
theorem first_set (fs : List Int) (ls : List Lw) {n m : Nat} (hl : ls.all lawB = true) (hm : n ≤ m) : firstB (setB (heldTo fs ls m) n) ls = firstB (fineB (whyTo fs ls n) n) ls :=
  firstB_congr fun w hw => set_fine fs ls (List.all_eq_true.1 hl w hw) hm
/-- One round more. -/
theorem held_succ (fs : List Int) (ls : List Lw) (n x : Nat) (hl : ls.all lawB = true) :
    heldTo fs ls (n + 1) x = if x = n then (heldTo fs ls n n || decide (0 ≤ firstB (setB (heldTo fs ls n) n) ls)) else heldTo fs ls n x := by
  rw [first_set fs ls hl (Nat.le_refl n)]
  by_cases e : x = n
  · subst e
    rw [if_pos rfl]
    unfold heldTo
    rw [if_pos (by omega), if_neg (by omega), wy_nat fs ls (by omega)]
    unfold byF
    cases h1 : hasB fs x
    · by_cases h2 : 0 ≤ firstB (fineB (whyTo fs ls x) x) ls
      · simp [h2]; omega
      · simp [h2]
    · simp
  · rw [if_neg e]
    unfold heldTo
    by_cases h : x < n
    · rw [if_pos (by omega), if_pos h, wy_stay fs ls (n := n) (m := n + 1) (by omega) (by omega) (by omega)]
    · rw [if_neg (by omega), if_neg h]
theorem held_end (fs : List Int) (ls : List Lw) {x : Nat} (hx : x < 64) : heldTo fs ls 64 x = holdsB fs ls x := by
  unfold heldTo holdsB
  rw [if_pos hx]
/-- Why it holds, told by the set. -/
theorem why_held (fs : List Int) (ls : List Lw) {x : Nat} (hx : x < 64) (hl : ls.all lawB = true) : wy (whyTo fs ls 64) (x : Int) =
    if heldTo fs ls 64 x then (if hasB fs x then -1 else firstB (setB (heldTo fs ls 64) x) ls) else -2 := by
  rw [first_set fs ls hl (show x ≤ 64 by omega)]
  unfold heldTo
  rw [if_pos hx, wy_nat fs ls hx]
  unfold byF
  cases h1 : hasB fs x
  · by_cases h2 : 0 ≤ firstB (fineB (whyTo fs ls x) x) ls
    · simp [h2]
    · simp [h2]
  · simp
theorem law_parts {w : Lw} (h : lawB w = true) : (0 ≤ w.thn ∧ w.thn < 64) ∧ (w.ifs.length ≤ 64 ∧ w.nots.length ≤ 64) ∧ (∀ x ∈ w.ifs, 0 ≤ x ∧ x < w.thn) ∧ (∀ x ∈ w.nots, 0 ≤ x ∧ x < w.thn) := by
  unfold lawB belowB factB at h
  simp only [Bool.and_eq_true, List.all_eq_true, decide_eq_true_eq] at h
  exact ⟨h.1.1, h.1.2, h.2.1, h.2.2⟩
end Rc
end Go.Proofs.Ytfhecdedanlmfaa
