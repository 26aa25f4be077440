/-
  Plain facts on books of joins: pairs (keep, gone); no Go in sight.
-/
namespace Go.Proofs.Ytdnnenklkfkhcaa.Jn

abbrev J := Int × Int
def pers (x : Int) : Bool := decide (0 ≤ x) && decide (x ≤ 999)
def may (k x : Int) : Bool := pers k && pers x && !(decide (k = x))
def isG (l : List J) (x : Int) : Bool := l.any (fun j => decide (j.2 = x))
def good (l : List J) (i : Nat) : Bool :=
  may (l.getD i (0, 0)).1 (l.getD i (0, 0)).2 && !isG (l.take i) (l.getD i (0, 0)).1 && !isG (l.take i) (l.getD i (0, 0)).2
def okTo (l : List J) (n : Nat) : Prop := ∀ i, i < n → good l i = true
/-- A book. -/
def Ok (l : List J) : Prop := l.length ≤ 200 ∧ okTo l l.length
noncomputable def okB (l : List J) : Bool := by classical exact decide (Ok l)
theorem okB_true {l : List J} (h : Ok l) : okB l = true := by simp [okB, h]
theorem okB_false {l : List J} (h : ¬ Ok l) : okB l = false := by simp [okB, h]
theorem not_ok {l : List J} (i : Nat) (hi : i < l.length) (h : good l i = false) : ¬ Ok l := fun k => by
  have := k.2 i hi; rw [h] at this; exact absurd this (by decide)

theorem isG_nil (x : Int) : isG [] x = false := rfl
theorem isG_append (a b : List J) (x : Int) : isG (a ++ b) x = (isG a x || isG b x) := by simp [isG]
theorem isG_iff (l : List J) (x : Int) : isG l x = true ↔ ∃ i, i < l.length ∧ (l.getD i (0, 0)).2 = x := by
  constructor
  · intro h
    simp only [isG, List.any_eq_true, decide_eq_true_eq] at h
    obtain ⟨j, hj, hx⟩ := h
    obtain ⟨i, hi, rfl⟩ := List.getElem_of_mem hj
    exact ⟨i, hi, by rw [List.getD_eq_getElem?_getD, List.getElem?_eq_getElem hi]; exact hx⟩
  · rintro ⟨i, hi, hx⟩
    simp only [isG, List.any_eq_true, decide_eq_true_eq]
    refine ⟨l[i], List.getElem_mem hi, ?_⟩
    rw [List.getD_eq_getElem?_getD, List.getElem?_eq_getElem hi] at hx
    exact hx
theorem isG_take_succ (l : List J) (i : Nat) (h : i < l.length) (x : Int) : isG (l.take (i + 1)) x = (isG (l.take i) x || decide ((l.getD i (0, 0)).2 = x)) := by
  rw [List.take_add_one, isG_append, List.getElem?_eq_getElem h, List.getD_eq_getElem?_getD, List.getElem?_eq_getElem h]
  simp [isG]

/-- Where x is gone; the length where it is not. -/
def place (l : List J) (x : Int) : Nat := l.findIdx (fun j => decide (j.2 = x))
theorem place_le (l : List J) (x : Int) : place l x ≤ l.length := List.findIdx_le_length
theorem isG_place (l : List J) (x : Int) : isG l x = true ↔ place l x < l.length := by
  unfold isG place
  rw [List.any_eq_true, List.findIdx_lt_length]
theorem place_get (l : List J) (x : Int) (h : place l x < l.length) : (l.getD (place l x) (0, 0)).2 = x := by
  have h2 := List.findIdx_getElem (p := fun j : J => decide (j.2 = x)) (xs := l) (w := h)
  rw [List.getD_eq_getElem?_getD, List.getElem?_eq_getElem h]
  exact of_decide_eq_true h2
theorem place_first (l : List J) (x : Int) (i : Nat) (h : i < place l x) : (l.getD i (0, 0)).2 ≠ x := by
  have hi : i < l.length := Nat.lt_of_lt_of_le h (place_le l x)
  have := List.not_of_lt_findIdx (p := fun j : J => decide (j.2 = x)) h
  rw [List.getD_eq_getElem?_getD, List.getElem?_eq_getElem hi]
  simpa using this
theorem place_uniq (l : List J) (hok : okTo l l.length) (i : Nat) (hi : i < l.length) : place l (l.getD i (0, 0)).2 = i := by
  have h1 : place l (l.getD i (0, 0)).2 ≤ i := by
    rcases Nat.lt_or_ge i (place l (l.getD i (0, 0)).2) with h | h
    · exact absurd rfl (place_first l _ i h)
    · exact h
  rcases Nat.lt_or_eq_of_le h1 with h | h
  · exfalso
    have hp : place l (l.getD i (0, 0)).2 < l.length := Nat.lt_of_lt_of_le h (Nat.le_of_lt hi)
    have hg := hok i hi
    unfold good at hg
    simp only [Bool.and_eq_true, Bool.not_eq_true'] at hg
    have : isG (l.take i) (l.getD i (0, 0)).2 = true := by
      rw [isG_iff]
      refine ⟨place l (l.getD i (0, 0)).2, by rw [List.length_take]; omega, ?_⟩
      have e := place_get l _ hp
      rw [List.getD_eq_getElem?_getD, List.getElem?_take_of_lt h, ← List.getD_eq_getElem?_getD]
      exact e
    rw [this] at hg
    exact absurd hg.2 (by decide)
  · exact h

def keepAt (l : List J) (x : Int) : Int := (l.getD (place l x) (0, 0)).1
theorem good_at (l : List J) (hok : okTo l l.length) (x : Int) (h : isG l x = true) : may (keepAt l x) x = true ∧ isG (l.take (place l x)) (keepAt l x) = false := by
  have hp := (isG_place l x).1 h
  have hg := hok _ hp
  unfold good at hg
  simp only [Bool.and_eq_true, Bool.not_eq_true'] at hg
  rw [place_get l x hp] at hg
  exact ⟨hg.1.1, hg.1.2⟩
/-- A hop goes further behind. -/
theorem hop (l : List J) (hok : okTo l l.length) (x : Int) (h : isG l x = true) : place l x < place l (keepAt l x) := by
  have hp := (isG_place l x).1 h
  obtain ⟨h1, h2⟩ := good_at l hok x h
  rcases Nat.lt_or_ge (place l x) (place l (keepAt l x)) with h3 | h3
  · exact h3
  · exfalso
    have hk : place l (keepAt l x) < l.length := Nat.lt_of_le_of_lt h3 hp
    rcases Nat.lt_or_eq_of_le h3 with h4 | h4
    · have : isG (l.take (place l x)) (keepAt l x) = true := by
        rw [isG_iff]
        refine ⟨place l (keepAt l x), by rw [List.length_take]; omega, ?_⟩
        rw [List.getD_eq_getElem?_getD, List.getElem?_take_of_lt h4, ← List.getD_eq_getElem?_getD]
        exact place_get l _ hk
      rw [this] at h2
      exact absurd h2 (by decide)
    · have e1 := place_get l _ hk
      rw [h4, place_get l x hp] at e1
      unfold may at h1
      rw [← e1] at h1
      simp at h1

def stN (l : List J) : Nat → Int → Int
  | 0, x => x
  | f + 1, x => if isG l x then stN l f (keepAt l x) else x
theorem stN_more (l : List J) (hok : okTo l l.length) (f g : Nat) : ∀ x, l.length - place l x ≤ f → l.length - place l x ≤ g → stN l f x = stN l g x := by
  induction f generalizing g with
  | zero =>
    intro x h1 h2
    have hn : isG l x = false := by
      cases hh : isG l x with
      | false => rfl
      | true => have := (isG_place l x).1 hh; omega
    cases g with
    | zero => rfl
    | succ g => simp [stN, hn]
  | succ f ih =>
    intro x h1 h2
    cases hh : isG l x with
    | false => cases g <;> simp [stN, hh]
    | true =>
      have hp := (isG_place l x).1 hh
      have hq := hop l hok x hh
      cases g with
      | zero => omega
      | succ g =>
        simp only [stN, hh, if_true]
        exact ih g _ (by omega) (by omega)
/-- Who stands for x. -/
def stands (l : List J) (x : Int) : Int := stN l l.length x
theorem stands_none (l : List J) (x : Int) (h : isG l x = false) : stands l x = x := by
  unfold stands
  cases l.length <;> simp [stN, h]
theorem stands_hop (l : List J) (hok : okTo l l.length) (x : Int) (h : isG l x = true) : stands l x = stands l (keepAt l x) := by
  unfold stands
  rw [stN_more l hok l.length (l.length + 1) x (by omega) (by omega)]
  simp [stN, h]
theorem pers_keep (l : List J) (hok : okTo l l.length) (x : Int) (h : isG l x = true) : pers (keepAt l x) = true := by
  have := (good_at l hok x h).1
  unfold may at this
  simp only [Bool.and_eq_true] at this
  exact this.1.1
theorem pers_gone (l : List J) (hok : okTo l l.length) (x : Int) (h : isG l x = true) : pers x = true := by
  have := (good_at l hok x h).1
  unfold may at this
  simp only [Bool.and_eq_true] at this
  exact this.1.2
theorem stands_ind (l : List J) (hok : okTo l l.length) (P : Int → Prop) (hP : ∀ x, isG l x = true → P x → P (keepAt l x)) : ∀ n x, l.length - place l x ≤ n → P x → P (stands l x) ∧ isG l (stands l x) = false := by
  intro n
  induction n with
  | zero =>
    intro x h1 h2
    have hn : isG l x = false := by
      cases hh : isG l x with
      | false => rfl
      | true => have := (isG_place l x).1 hh; omega
    rw [stands_none l x hn]; exact ⟨h2, hn⟩
  | succ n ih =>
    intro x h1 h2
    cases hh : isG l x with
    | false => rw [stands_none l x hh]; exact ⟨h2, hh⟩
    | true =>
      rw [stands_hop l hok x hh]
      have := hop l hok x hh
      have := (isG_place l x).1 hh
      exact ih _ (by omega) (hP x hh h2)
theorem stands_pers (l : List J) (hok : okTo l l.length) (x : Int) (h : pers x = true) : pers (stands l x) = true :=
  (stands_ind l hok (fun y => pers y = true) (fun y hy _ => pers_keep l hok y hy) _ x (Nat.le_refl _) h).1
theorem stands_not (l : List J) (hok : okTo l l.length) (x : Int) : isG l (stands l x) = false :=
  (stands_ind l hok (fun _ => True) (fun _ _ _ => trivial) _ x (Nat.le_refl _) trivial).2
end Go.Proofs.Ytdnnenklkfkhcaa.Jn
