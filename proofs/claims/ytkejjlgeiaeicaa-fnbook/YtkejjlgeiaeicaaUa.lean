/-
  The book of a cupboard: no Go in sight.
-/
import Derived.Test.YtkejjlgeiaeicaaVa
namespace Go.Proofs.Ytkejjlgeiaeicaa.Ua
open Va
set_option linter.all false

structure Ln where
  k : Int
  n : Int
  b : Int
  a : Int
def csLn (x : Ln) (k : Nat) : Int := match k with | 0 => x.k | 1 => x.n | 2 => x.b | _ => x.a
/-- A line is as told. -/
def lineB (l : Ln) : Bool := rng l.k 1 4 && (rng l.n (if l.k = 4 then 0 else 1) 1000000000 && (rng l.b 0 999 && (rng l.a 0 999 && !decide (l.b = l.a))))
/-- What is told of a line, and what should be there behind it. -/
def stepL (n : Int) (l : Ln) : Int × Int :=
  if lineB l = false then (-1, n)
  else if (l.k = 2 ∨ l.k = 3) ∧ n < l.n then (-2, n)
  else if l.k = 1 ∧ 1000000000 < n + l.n then (-3, n)
  else if l.k = 4 ∧ l.n ≠ n then (-4, n)
  else if l.k = 1 then (n + l.n, n + l.n)
  else if l.k = 2 ∨ l.k = 3 then (n - l.n, n - l.n)
  else (n, n)
def left (n : Int) (l : List Ln) : Int := l.foldl (fun n x => (stepL n x).2) n
def told (n : Int) : List Ln → List Int
  | [] => []
  | x :: l => (stepL n x).1 :: told (stepL n x).2 l
theorem left_snoc (n : Int) (l : List Ln) (x : Ln) : left n (l ++ [x]) = (stepL (left n l) x).2 := by simp [left]
theorem told_snoc (n : Int) (l : List Ln) (x : Ln) : told n (l ++ [x]) = told n l ++ [(stepL (left n l) x).1] := by
  induction l generalizing n with
  | nil => rfl
  | cons y l ih => rw [List.cons_append, told, ih, told]; rfl
theorem told_len (n : Int) (l : List Ln) : (told n l).length = l.length := by
  induction l generalizing n with
  | nil => rfl
  | cons y l ih => rw [told, List.length_cons, ih, List.length_cons]
theorem step_bd {n : Int} (l : Ln) (h0 : 0 ≤ n) (h1 : n ≤ 1000000000) : 0 ≤ (stepL n l).2 ∧ (stepL n l).2 ≤ 1000000000 := by
  unfold stepL
  by_cases hb : lineB l = false
  · rw [if_pos hb]; exact ⟨h0, h1⟩
  · have hb' : lineB l = true := by simpa using hb
    rw [if_neg hb]
    have hn : (if l.k = 4 then (0 : Int) else 1) ≤ l.n ∧ l.n ≤ 1000000000 := by
      simp only [lineB, Bool.and_eq_true, rng_iff] at hb'
      exact hb'.2.1
    have hn0 : 0 ≤ l.n := by split at hn <;> omega
    split
    · exact ⟨h0, h1⟩
    · split
      · exact ⟨h0, h1⟩
      · split
        · exact ⟨h0, h1⟩
        · split
          · show 0 ≤ n + l.n ∧ n + l.n ≤ 1000000000; omega
          · split
            · show 0 ≤ n - l.n ∧ n - l.n ≤ 1000000000; omega
            · exact ⟨h0, h1⟩
theorem left_bd {n : Int} (h0 : 0 ≤ n) (h1 : n ≤ 1000000000) : ∀ l : List Ln, 0 ≤ left n l ∧ left n l ≤ 1000000000 := by
  intro l
  induction l generalizing n with
  | nil => exact ⟨h0, h1⟩
  | cons x l ih =>
    have := step_bd x h0 h1
    exact ih this.1 this.2
def book (s : Int) (l : List Ln) : List Int := if rng s 0 1000000000 = true ∧ l.length ≤ 1000 then told s l else []
theorem book_len (s : Int) (l : List Ln) : (book s l).length ≤ 1000 := by
  unfold book
  split
  · rename_i h; rw [told_len]; exact h.2
  · simp
/-- What is told and is no fault is what should be there. -/
theorem step_told {n : Int} (l : Ln) (h0 : 0 ≤ n) (h : 0 ≤ (stepL n l).1) : (stepL n l).1 = (stepL n l).2 ∧ lineB l = true ∧ (l.k = 1 → (stepL n l).2 = n + l.n) ∧ (l.k = 2 ∨ l.k = 3 → (stepL n l).2 = n - l.n) ∧ (l.k = 4 → l.n = n ∧ (stepL n l).2 = n) := by
  unfold stepL at *
  by_cases hb : lineB l = false
  · rw [if_pos hb] at h; simp at h
  · have hb' : lineB l = true := by simpa using hb
    rw [if_neg hb] at *
    by_cases h2 : (l.k = 2 ∨ l.k = 3) ∧ n < l.n
    · rw [if_pos h2] at h; simp at h
    · rw [if_neg h2] at *
      by_cases h3 : l.k = 1 ∧ 1000000000 < n + l.n
      · rw [if_pos h3] at h; simp at h
      · rw [if_neg h3] at *
        by_cases h4 : l.k = 4 ∧ l.n ≠ n
        · rw [if_pos h4] at h; simp at h
        · rw [if_neg h4] at *
          by_cases h5 : l.k = 1
          · rw [if_pos h5]
            exact ⟨rfl, hb', fun _ => rfl, fun q => by omega, fun q => by omega⟩
          · rw [if_neg h5]
            by_cases h6 : l.k = 2 ∨ l.k = 3
            · rw [if_pos h6]
              exact ⟨rfl, hb', fun q => by omega, fun _ => rfl, fun q => by omega⟩
            · rw [if_neg h6]
              exact ⟨rfl, hb', fun q => absurd q h5, fun q => absurd q h6, fun q => ⟨by by_cases e : l.n = n; exact e; exact absurd ⟨q, e⟩ h4, rfl⟩⟩
theorem step_fault {n : Int} (l : Ln) (h0 : 0 ≤ n) (h1 : n ≤ 1000000000) (h : (stepL n l).1 < 0) : (stepL n l).2 = n := by
  have hb := step_bd l h0 h1
  unfold stepL at *
  by_cases e1 : lineB l = false
  · rw [if_pos e1]
  · rw [if_neg e1] at *
    by_cases e2 : (l.k = 2 ∨ l.k = 3) ∧ n < l.n
    · rw [if_pos e2]
    · rw [if_neg e2] at *
      by_cases e3 : l.k = 1 ∧ 1000000000 < n + l.n
      · rw [if_pos e3]
      · rw [if_neg e3] at *
        by_cases e4 : l.k = 4 ∧ l.n ≠ n
        · rw [if_pos e4]
        · rw [if_neg e4] at *
          by_cases e5 : l.k = 1
          · rw [if_pos e5] at *; simp only at h hb; omega
          · rw [if_neg e5] at *
            by_cases e6 : l.k = 2 ∨ l.k = 3
            · rw [if_pos e6] at *; simp only at h hb; omega
            · rw [if_neg e6]
theorem told_get (n : Int) (l : List Ln) (i : Nat) (x : Ln) (hx : l[i]? = some x) : (told n l)[i]? = some (stepL (left n (l.take i)) x).1 := by
  induction l generalizing n i with
  | nil => cases hx
  | cons y l ih =>
    cases i with
    | zero => simp at hx; subst hx; rfl
    | succ i =>
      simp only [List.getElem?_cons_succ] at hx
      rw [told, List.getElem?_cons_succ, ih _ i hx]
      rfl
theorem left_take {n : Int} {l : List Ln} {i : Nat} {x : Ln} (hx : l[i]? = some x) : left n (l.take (i + 1)) = (stepL (left n (l.take i)) x).2 := by
  rw [List.take_add_one, hx]; exact left_snoc n (l.take i) x
theorem told_take {n : Int} {l : List Ln} {i : Nat} {x : Ln} (hx : l[i]? = some x) : told n (l.take (i + 1)) = told n (l.take i) ++ [(stepL (left n (l.take i)) x).1] := by
  rw [List.take_add_one, hx]; exact told_snoc n (l.take i) x
end Go.Proofs.Ytkejjlgeiaeicaa.Ua
