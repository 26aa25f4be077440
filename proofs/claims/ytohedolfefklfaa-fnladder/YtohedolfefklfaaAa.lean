/-
  Plain facts on alarms and on those who are called; no Go in sight.
-/
import Derived.Test.YtohedolfefklfaaVa
namespace Go.Proofs.Ytohedolfefklfaa.Va

structure Al where
  hi : Int
  lo : Int
  sl : Int
  dl : Int

/-- As the specification asks. -/
def alOk (a : Al) : Bool := rng a.hi (-100000) 100000 && (rng a.lo (-100000) 100000 && (decide (a.lo < a.hi) && (rng a.sl 0 ((a.hi - a.lo) / 2) && rng a.dl 0 100)))
theorem alOk_iff {a : Al} : alOk a = true ↔ (-100000 ≤ a.hi ∧ a.hi ≤ 100000) ∧ (-100000 ≤ a.lo ∧ a.lo ≤ 100000) ∧ a.lo < a.hi ∧ (0 ≤ a.sl ∧ a.sl ≤ (a.hi - a.lo) / 2) ∧ (0 ≤ a.dl ∧ a.dl ≤ 100) := by simp [alOk, rng]

/-- How many are called: one, and one more for each whose minute has come. -/
def lad : List Int → Int → Int → Int → Int
  | [], _, _, n => n
  | x :: l, t, h, n => lad l (t + x) h (if t + x ≤ h then n + 1 else n)
theorem lad_snoc (l : List Int) : ∀ (x t h n : Int), lad (l ++ [x]) t h n = if t + l.sum + x ≤ h then lad l t h n + 1 else lad l t h n := by
  induction l with
  | nil => intro x t h n; simp [lad]
  | cons y l ih =>
    intro x t h n
    rw [List.cons_append, lad, ih, lad, List.sum_cons, ← Int.add_assoc t y]
def wtB (x : Int) : Bool := rng x 1 1000
theorem wtB_iff {x : Int} : wtB x = true ↔ 1 ≤ x ∧ x ≤ 1000 := rng_iff
def wtsOk (l : List Int) : Bool := decide (l.length ≤ 20) && l.all wtB
theorem wtsOk_iff {l : List Int} : wtsOk l = true ↔ l.length ≤ 20 ∧ ∀ x ∈ l, wtB x = true := by simp [wtsOk]
def ladder (l : List Int) (h : Int) : Int := if wtsOk l && decide (0 ≤ h) then lad l 0 h 1 else 0
/-- The minutes stay small. -/
theorem sum_bd (l : List Int) (h : ∀ x ∈ l, 1 ≤ x ∧ x ≤ 1000) : 0 ≤ l.sum ∧ l.sum ≤ 1000 * (l.length : Int) := by
  induction l with
  | nil => simp
  | cons a l ih =>
    have i := ih fun x hx => h x (List.mem_cons_of_mem _ hx)
    have q := h a List.mem_cons_self
    rw [List.sum_cons, List.length_cons]
    omega
theorem lad_bd (l : List Int) : ∀ (t h n : Int), n ≤ lad l t h n ∧ lad l t h n ≤ n + (l.length : Int) := by
  induction l with
  | nil => intro t h n; simp [lad]
  | cons a l ih =>
    intro t h n
    rw [lad, List.length_cons]
    by_cases c : t + a ≤ h
    · rw [if_pos c]; have i := ih (t + a) h (n + 1); omega
    · rw [if_neg c]; have i := ih (t + a) h n; omega
/-- All are called in the end. -/
theorem lad_all (l : List Int) : ∀ (t h n : Int), (∀ x ∈ l, 1 ≤ x) → t + l.sum ≤ h → lad l t h n = n + (l.length : Int) := by
  induction l with
  | nil => intro t h n _ _; simp [lad]
  | cons a l ih =>
    intro t h n hx hs
    have q := hx a List.mem_cons_self
    have hl : ∀ x ∈ l, 1 ≤ x := fun x h => hx x (List.mem_cons_of_mem _ h)
    have hp : 0 ≤ l.sum := by
      clear ih hs hx
      induction l with
      | nil => simp
      | cons b l ih2 =>
        have a1 := hl b List.mem_cons_self
        have a2 := ih2 fun x h => hl x (List.mem_cons_of_mem _ h)
        rw [List.sum_cons]; omega
    rw [List.sum_cons] at hs
    rw [lad, ih (t + a) h _ hl (by omega), if_pos (by omega), List.length_cons]
    omega
/-- A minute more calls one more at most, and no fewer. -/
theorem lad_none (l : List Int) : ∀ (t h n : Int), (∀ x ∈ l, 1 ≤ x) → h ≤ t → lad l t h n = n := by
  induction l with
  | nil => intro t h n _ _; rfl
  | cons a l ih =>
    intro t h n hx ht
    have q := hx a List.mem_cons_self
    rw [lad, if_neg (by omega), ih _ _ _ (fun x h => hx x (List.mem_cons_of_mem _ h)) (by omega)]
theorem lad_next (l : List Int) : ∀ (t h n : Int), (∀ x ∈ l, 1 ≤ x) → lad l t h n ≤ lad l t (h + 1) n ∧ lad l t (h + 1) n ≤ lad l t h n + 1 := by
  induction l with
  | nil => intro t h n _; simp [lad]; omega
  | cons a l ih =>
    intro t h n hx
    have hl : ∀ x ∈ l, 1 ≤ x := fun x h => hx x (List.mem_cons_of_mem _ h)
    rw [lad, lad]
    by_cases c : t + a ≤ h
    · rw [if_pos c, if_pos (by omega)]; exact ih _ _ _ hl
    · rw [if_neg c]
      by_cases d : t + a ≤ h + 1
      · rw [if_pos d, lad_none l _ _ _ hl (by omega), lad_none l _ _ _ hl (by omega)]; omega
      · rw [if_neg d]; exact ih _ _ _ hl
end Go.Proofs.Ytohedolfefklfaa.Va
