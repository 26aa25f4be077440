/-
  Plain facts on days of doses; no Go in sight.
-/
import Derived.Test.YtcnhogghfedcdaaGp
namespace Go.Proofs.Ytcnhogghfedcdaa.Ga
open Va
set_option linter.unusedVariables false

def gsB (l : List Gv) : Bool := decide (l.length ≤ 500) && l.all gvB
def sumN (l : List Gv) : Int := (l.map (·.n)).sum
/-- Given from lo to hi. -/
def win (lo hi : Int) (g : Gv) : Bool := decide (lo ≤ g.t) && decide (g.t ≤ hi)
def mine (x : Int) (l : List Gv) : List Gv := l.filter fun g => g.d == x
/-- What a day that ends at e has, the new dose with it. -/
def day (x a : Int) (l : List Gv) (e : Int) : Int := a + sumN ((mine x l).filter (win (e - 1439) e))
def ends (x t : Int) (l : List Gv) : List Int := t :: ((mine x l).filter (win t (t + 1439))).map (·.t)
/-- The greatest, and none below 0. -/
def big (l : List Int) : Int := l.foldl max 0
theorem big_snoc (l : List Int) (z : Int) : big (l ++ [z]) = max (big l) z := by simp [big]
theorem big_ge : ∀ (l : List Int), 0 ≤ big l ∧ ∀ z ∈ l, z ≤ big l := by
  have h : ∀ (l : List Int) (m : Int), m ≤ l.foldl max m ∧ ∀ z ∈ l, z ≤ l.foldl max m := by
    intro l
    induction l with
    | nil => intro m; exact ⟨by simp, fun z hz => by cases hz⟩
    | cons y l ih =>
      intro m
      have k := ih (max m y)
      simp only [List.foldl_cons]
      refine ⟨by omega, fun z hz => ?_⟩
      rcases List.mem_cons.1 hz with rfl | hz
      · omega
      · exact k.2 z hz
  exact fun l => h l 0
theorem big_in : ∀ (l : List Int), big l = 0 ∨ big l ∈ l := by
  have h : ∀ (l : List Int) (m : Int), l.foldl max m = m ∨ l.foldl max m ∈ l := by
    intro l
    induction l with
    | nil => intro m; exact Or.inl rfl
    | cons y l ih =>
      intro m
      simp only [List.foldl_cons, List.mem_cons]
      rcases ih (max m y) with k | k
      · rw [k]
        rcases Int.le_total m y with q | q
        · right; left; omega
        · left; omega
      · exact Or.inr (Or.inr k)
  exact fun l => h l 0
theorem big_same {l m : List Int} (h : ∀ z, z ∈ l ↔ z ∈ m) : big l = big m := by
  have a := big_ge l
  have b := big_ge m
  rcases big_in l with p | p <;> rcases big_in m with q | q
  · rw [p, q]
  · have := a.2 _ ((h _).2 q); omega
  · have := b.2 _ ((h _).1 p); omega
  · have h1 := a.2 _ ((h _).2 q)
    have h2 := b.2 _ ((h _).1 p)
    omega
/-- The greatest of the days. -/
def great (x t a : Int) (l : List Gv) : Int := big ((ends x t l).map (day x a l))
def okG (d : Dg) (l : List Gv) (t a : Int) : Bool := drugB d && (gsB l && (rng t 0 10000000 && rng a 1 1000000000))
def mayG (d : Dg) (l : List Gv) (t a : Int) : Bool × Int := if okG d l t a = true then (if great d.id t a l ≤ d.day then (true, 0) else (false, great d.id t a l)) else (false, 0)

/-- How many of the doses are before z, up to the first that is not. -/
def aheadN (l : List Gv) (z : Int) : Nat := (l.takeWhile fun g => decide (g.t < z)).length
theorem aheadN_le (l : List Gv) (z : Int) : aheadN l z ≤ l.length := (List.takeWhile_prefix _).length_le
theorem aheadN_mono (l : List Gv) {y z : Int} (h : y ≤ z) : aheadN l y ≤ aheadN l z := by
  unfold aheadN
  induction l with
  | nil => simp
  | cons g l ih =>
    simp only [List.takeWhile_cons]
    by_cases h1 : g.t < y
    · have h2 : g.t < z := by omega
      simp [h1, h2]
      exact ih
    · simp [h1]
def cut (l : List Gv) (lo hi : Int) : List Gv := (l.drop (aheadN l lo)).take (aheadN l (hi + 1) - aheadN l lo)
def Srt : List Gv → Prop
  | [] => True
  | g :: l => (∀ h ∈ l, g.t ≤ h.t) ∧ Srt l
theorem cut_filter : ∀ (l : List Gv) (lo hi : Int), lo ≤ hi + 1 → Srt l → cut l lo hi = l.filter (win lo hi)
  | [], lo, hi, _, _ => by simp [cut]
  | g :: l, lo, hi, hle, hs => by
    have ih := cut_filter l lo hi hle hs.2
    have none_of : hi + 1 ≤ g.t → (g :: l).filter (win lo hi) = [] := fun hg => by
      rw [List.filter_eq_nil_iff]
      intro h hh
      rcases List.mem_cons.1 hh with rfl | hh
      · simp [win]; omega
      · have := hs.1 h hh; simp [win]; omega
    unfold cut aheadN at ih ⊢
    by_cases h1 : g.t < lo
    · have h2 : g.t < hi + 1 := by omega
      simp only [List.takeWhile_cons, h1, h2, decide_true, if_true, List.length_cons, List.drop_succ_cons, Nat.add_sub_add_right]
      rw [ih, List.filter_cons_of_neg (by simp [win]; omega)]
    · by_cases h2 : g.t < hi + 1
      · have e0 : (l.takeWhile fun h => decide (h.t < lo)) = [] := by
          cases l with
          | nil => rfl
          | cons h l => rw [List.takeWhile_cons, if_neg]; have := hs.1 h (by simp); simp; omega
        rw [e0] at ih
        simp only [List.takeWhile_cons, h1, h2, decide_true, decide_false, if_true, List.length_cons, List.length_nil, List.drop_zero, Nat.sub_zero] at ih ⊢
        simp only [Bool.false_eq_true, if_false, List.length_nil, List.drop_zero, Nat.sub_zero, List.take_succ_cons]
        rw [ih, List.filter_cons_of_pos (by simp [win]; omega)]
      · simp only [List.takeWhile_cons, h1, h2, decide_false, Bool.false_eq_true, if_false, List.length_nil, List.drop_zero, Nat.sub_zero, List.take_zero]
        rw [none_of (by omega)]
theorem sumN_perm {l m : List Gv} (h : l.Perm m) : sumN l = sumN m := by
  unfold sumN
  induction h with
  | nil => rfl
  | cons x _ ih => simp [ih]
  | swap x y l => simp; omega
  | trans _ _ ih1 ih2 => exact ih1.trans ih2
/-- What the program reckons with doses that are in order. -/
def greatP (t a : Int) (s : List Gv) (d : Gv) : Int := big (((cut s t (t + 1439)).map (·.t) ++ [d.t]).map fun e => sumN (cut s (e - 1439) e ++ [d]))
theorem sumN_snoc (l : List Gv) (d : Gv) : sumN (l ++ [d]) = sumN l + d.n := by simp [sumN]
theorem great_same (x t a : Int) (l s : List Gv) (hp : s.Perm (mine x l)) (hs : Srt s) (d : Gv) (hd : d.t = t) (hn : d.n = a) : greatP t a s d = great x t a l := by
  unfold greatP great
  have hday : ∀ e, sumN (cut s (e - 1439) e ++ [d]) = day x a l e := fun e => by
    rw [sumN_snoc, cut_filter s _ _ (by omega) hs, sumN_perm (hp.filter _), hn]
    unfold day
    omega
  apply big_same
  intro z
  simp only [hday, List.mem_map, ends, List.mem_append, List.mem_cons, List.not_mem_nil, or_false]
  rw [cut_filter s _ _ (by omega) hs]
  constructor
  · rintro ⟨e, (⟨g, hg, rfl⟩ | rfl), rfl⟩
    · exact ⟨g.t, Or.inr ⟨g, ((hp.filter _).mem_iff).1 hg, rfl⟩, rfl⟩
    · exact ⟨d.t, Or.inl hd, rfl⟩
  · rintro ⟨e, (rfl | ⟨g, hg, rfl⟩), rfl⟩
    · exact ⟨d.t, Or.inr rfl, by rw [hd]⟩
    · exact ⟨g.t, Or.inl ⟨g, ((hp.filter _).mem_iff).2 hg, rfl⟩, rfl⟩
end Go.Proofs.Ytcnhogghfedcdaa.Ga
