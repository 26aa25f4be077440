/-
  Letters, and the numbers that lack: no Go in sight.
-/
import Derived.Test.YtbabknhccapaoaaVa
namespace Go.Proofs.Ytbabknhccapaoaa.Mg
open Va
set_option linter.all false

structure Lt where
  f : Int
  s : Int
  c : Int
  k : Int
  v : Int
structure Fc where
  k : Int
  v : Int
def ltB (x : Lt) : Bool := rng x.f 0 19 && (rng x.s 0 9999 && (rng x.c (-1) (x.s - 1) && (rng x.k 0 99 && rng x.v (-100000) 100000)))
theorem ltB_iff {x : Lt} : ltB x = true ↔ (0 ≤ x.f ∧ x.f ≤ 19) ∧ (0 ≤ x.s ∧ x.s ≤ 9999) ∧ (-1 ≤ x.c ∧ x.c ≤ x.s - 1) ∧ (0 ≤ x.k ∧ x.k ≤ 99) ∧ (-100000 ≤ x.v ∧ x.v ≤ 100000) := by
  simp only [ltB, Bool.and_eq_true, rng_iff]
theorem takeM {α : Type} {l : List α} {i : Nat} {x : α} (h : l[i]? = some x) : l.take (i + 1) = l.take i ++ [x] := by
  rw [List.take_add_one, h]; rfl

/- Missing -/
def ofB (f : Int) (x : Lt) : Bool := ltB x && decide (x.f = f)
def came (l : List Lt) (f : Int) : List Int := (l.filter (ofB f)).map Lt.s
theorem came_yes {l : List Lt} {f : Int} {i : Nat} {x : Lt} (hx : l[i]? = some x) (h : ofB f x = true) : came (l.take (i + 1)) f = came (l.take i) f ++ [x.s] := by
  rw [takeM hx]; simp [came, List.filter_append, h]
theorem came_no {l : List Lt} {f : Int} {i : Nat} {x : Lt} (hx : l[i]? = some x) (h : ofB f x = false) : came (l.take (i + 1)) f = came (l.take i) f := by
  rw [takeM hx]; simp [came, List.filter_append, h]
theorem came_bd {l : List Lt} {f z : Int} (h : z ∈ came l f) : 0 ≤ z ∧ z ≤ 9999 := by
  obtain ⟨x, hx, rfl⟩ := List.mem_map.1 h
  have := (List.mem_filter.1 hx).2
  simp only [ofB, Bool.and_eq_true] at this
  exact (ltB_iff.1 this.1).2.1
theorem came_from {l : List Lt} {f : Int} (h : ¬ (0 ≤ f ∧ f ≤ 19)) : came l f = [] := by
  unfold came
  rw [List.map_eq_nil_iff, List.filter_eq_nil_iff]
  intro x _ q
  simp only [ofB, Bool.and_eq_true, decide_eq_true_eq] at q
  have := (ltB_iff.1 q.1).1
  rw [q.2] at this
  exact h this
theorem came_len (l : List Lt) (f : Int) (i : Nat) : (came (l.take i) f).length ≤ i := by
  unfold came
  rw [List.length_map]
  refine Nat.le_trans (List.length_filter_le _ _) ?_
  rw [List.length_take]; omega
/-- The greatest of the numbers, -1 of none. -/
def most (zs : List Int) : Int := zs.foldl (fun a b => if b < a then a else b) (-1)
theorem most_snoc (zs : List Int) (x : Int) : most (zs ++ [x]) = if x < most zs then most zs else x := by unfold most; rw [List.foldl_append]; rfl
theorem most_factN : ∀ (n : Nat) (zs : List Int), zs.length = n → ((zs = [] ∧ most zs = -1) ∨ (most zs ∈ zs ∧ ∀ z ∈ zs, z ≤ most zs) ∨ (most zs = -1 ∧ ∀ z ∈ zs, z ≤ -1)) := by
  intro n
  induction n with
  | zero => intro zs h; exact Or.inl ⟨List.eq_nil_of_length_eq_zero h, by rw [List.eq_nil_of_length_eq_zero h]; rfl⟩
  | succ n ihn =>
    intro zs0 h0
    rcases List.eq_nil_or_concat zs0 with rfl | ⟨zs, x, e⟩
    · cases h0
    obtain rfl : zs0 = zs ++ [x] := by simpa using e
    have ih := ihn zs (by simpa using h0)
    clear e h0 ihn
    rw [most_snoc]
    right
    by_cases h : x < most zs
    · rw [if_pos h]
      rcases ih with ⟨rfl, e⟩ | ⟨a, b⟩ | ⟨a, b⟩
      · right; rw [e] at h ⊢; exact ⟨rfl, fun z hz => by simp at hz; omega⟩
      · left
        refine ⟨List.mem_append_left _ a, fun z hz => ?_⟩
        rcases List.mem_append.1 hz with q | q
        · exact b z q
        · simp at q; omega
      · right
        refine ⟨a, fun z hz => ?_⟩
        rcases List.mem_append.1 hz with q | q
        · exact b z q
        · simp at q; omega
    · rw [if_neg h]
      left
      refine ⟨by simp, fun z hz => ?_⟩
      rcases List.mem_append.1 hz with q | q
      · rcases ih with ⟨rfl, e⟩ | ⟨a, b⟩ | ⟨a, b⟩
        · cases q
        · have := b z q; omega
        · have := b z q; omega
      · simp at q; omega
theorem most_fact (zs : List Int) : (zs = [] ∧ most zs = -1) ∨ (most zs ∈ zs ∧ ∀ z ∈ zs, z ≤ most zs) ∨ (most zs = -1 ∧ ∀ z ∈ zs, z ≤ -1) := most_factN _ zs rfl
/-- Those below n that did not come. -/
def missTo (zs : List Int) : Nat → List Int
  | 0 => []
  | n + 1 => if (n : Int) ∈ zs then missTo zs n else missTo zs n ++ [(n : Int)]
theorem miss_yes {zs : List Int} {n : Nat} (h : (n : Int) ∈ zs) : missTo zs (n + 1) = missTo zs n := by simp [missTo, h]
theorem miss_no {zs : List Int} {n : Nat} (h : (n : Int) ∉ zs) : missTo zs (n + 1) = missTo zs n ++ [(n : Int)] := by simp [missTo, h]
theorem miss_len (zs : List Int) : ∀ n, (missTo zs n).length ≤ n
  | 0 => Nat.le_refl _
  | n + 1 => by
    have := miss_len zs n
    unfold missTo
    split
    · omega
    · rw [List.length_append, List.length_singleton]; omega
theorem miss_congr {zs ys : List Int} (h : ∀ z, z ∈ zs ↔ z ∈ ys) : ∀ n, missTo zs n = missTo ys n
  | 0 => rfl
  | n + 1 => by simp only [missTo, h, miss_congr h n]
noncomputable def missing (l : List Lt) (f : Int) : List Int := if l.length ≤ 1000 then missTo (came l f) (most (came l f)).toNat else []
theorem most_bd (l : List Lt) (f : Int) : most (came l f) ≤ 9999 := by
  rcases most_fact (came l f) with ⟨_, e⟩ | ⟨a, _⟩ | ⟨a, _⟩
  · omega
  · exact (came_bd a).2
  · omega
theorem missing_len (l : List Lt) (f : Int) : (missing l f).length ≤ 10000 := by
  unfold missing
  split
  · have := miss_len (came l f) (most (came l f)).toNat
    have := most_bd l f
    omega
  · simp
/-- Where the gaps begin behind the first i of the rising numbers. -/
def nextOf (R : List Int) (i : Nat) : Int := if i = 0 then 0 else (R[i - 1]?).getD 0 + 1
theorem next_zero (R : List Int) : nextOf R 0 = 0 := rfl
theorem next_succ {R : List Int} {i : Nat} {x : Int} (h : R[i]? = some x) : nextOf R (i + 1) = x + 1 := by simp [nextOf, h]
theorem gap {R : List Int} (hp : R.Pairwise (· < ·)) {i : Nat} {x z : Int} (hx : R[i]? = some x) (h1 : nextOf R i ≤ z) (h2 : z < x) (h0 : 0 ≤ z) (hb : ∀ y ∈ R, 0 ≤ y) : z ∉ R := by
  intro hz
  obtain ⟨j, hj⟩ := List.getElem?_of_mem hz
  have hjl := (List.getElem?_eq_some_iff.1 hj).1
  have hil := (List.getElem?_eq_some_iff.1 hx).1
  have key : ∀ a b u v, R[a]? = some u → R[b]? = some v → a < b → u < v := fun a b u v ha hb hab => by
    obtain ⟨ha1, rfl⟩ := List.getElem?_eq_some_iff.1 ha
    obtain ⟨hb1, rfl⟩ := List.getElem?_eq_some_iff.1 hb
    exact List.pairwise_iff_getElem.1 hp a b ha1 hb1 hab
  by_cases q : i ≤ j
  · rcases Nat.lt_or_ge i j with q2 | q2
    · have := key i j x z hx hj q2; omega
    · have : i = j := by omega
      subst this
      rw [hx] at hj; cases hj; omega
  · have hi : i ≠ 0 := by omega
    have hl : i - 1 < R.length := by omega
    obtain ⟨y, hy⟩ : ∃ y, R[i - 1]? = some y := ⟨_, List.getElem?_eq_getElem hl⟩
    simp only [nextOf, hi, if_false, hy, Option.getD_some] at h1
    rcases Nat.lt_or_ge j (i - 1) with q2 | q2
    · have := key j (i - 1) z y hj hy q2; omega
    · have : j = i - 1 := by omega
      subst this
      rw [hy] at hj; cases hj; omega
theorem next_le {R : List Int} (hp : R.Pairwise (· < ·)) {i : Nat} {x : Int} (hx : R[i]? = some x) (hb : ∀ y ∈ R, 0 ≤ y) : 0 ≤ nextOf R i ∧ nextOf R i ≤ x := by
  by_cases h : i = 0
  · subst h; exact ⟨Int.le_refl _, hb x (List.mem_of_getElem? hx)⟩
  · have hil := (List.getElem?_eq_some_iff.1 hx).1
    have hl : i - 1 < R.length := by omega
    have hy : R[i - 1]? = some (R[i - 1]) := List.getElem?_eq_getElem hl
    simp only [nextOf, h, if_false, hy, Option.getD_some]
    have h1 := hb _ (List.getElem_mem hl)
    obtain ⟨_, rfl⟩ := List.getElem?_eq_some_iff.1 hx
    have := List.pairwise_iff_getElem.1 hp (i - 1) i hl hil (by omega)
    omega
theorem miss_end {R zs : List Int} (hp : R.Pairwise (· < ·)) (hm : ∀ z, z ∈ R ↔ z ∈ zs) (hb : ∀ y ∈ R, 0 ≤ y) : missTo zs (nextOf R R.length).toNat = missTo zs (most zs).toNat := by
  by_cases h : R = []
  · subst h
    have : zs = [] := List.eq_nil_iff_forall_not_mem.2 fun z hz => by have := (hm z).2 hz; cases this
    subst this
    rfl
  · have hl : 0 < R.length := List.length_pos_iff.2 h
    have hl1 : R.length - 1 < R.length := by omega
    have hy : R[R.length - 1]? = some (R[R.length - 1]) := List.getElem?_eq_getElem hl1
    generalize hq : R[R.length - 1] = y at hy
    have hyR : y ∈ R := List.mem_of_getElem? hy
    have hmax : ∀ z ∈ R, z ≤ y := fun z hz => by
      obtain ⟨j, hj, rfl⟩ := List.getElem_of_mem hz
      rcases Nat.lt_or_ge j (R.length - 1) with q | q
      · have := List.pairwise_iff_getElem.1 hp j (R.length - 1) hj hl1 q; omega
      · have : j = R.length - 1 := by omega
        subst this; omega
    have h0 := hb y hyR
    have hme : most zs = y := by
      have hyz := (hm y).1 hyR
      rcases most_fact zs with ⟨rfl, _⟩ | ⟨a, b⟩ | ⟨a, b⟩
      · cases hyz
      · have := b y hyz
        have := hmax _ ((hm _).2 a)
        omega
      · have := b y hyz; omega
    have hn : nextOf R R.length = y + 1 := by
      have : R.length ≠ 0 := by omega
      simp only [nextOf, this, if_false, hy, Option.getD_some]
    rw [hn, hme]
    obtain ⟨m, rfl⟩ : ∃ m : Nat, y = m := ⟨y.toNat, by omega⟩
    have e1 : ((m : Int) + 1).toNat = m + 1 := by omega
    rw [e1, miss_yes ((hm _).1 hyR)]
    rfl
end Go.Proofs.Ytbabknhccapaoaa.Mg
