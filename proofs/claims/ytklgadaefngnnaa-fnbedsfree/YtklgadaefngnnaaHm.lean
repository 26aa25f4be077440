/-
  Plain facts on houses of beds and stays; no Go in sight.
-/
namespace Go.Proofs.Ytklgadaefngnnaa.Hm

structure Bd where
  room : Int
  kind : Int
deriving Inhabited
structure St where
  person : Int
  sex : Int
  need : Int
  bed : Int
  frm : Int
  til : Int
deriving Inhabited

def pers (x : Int) : Bool := decide (0 ≤ x) && decide (x ≤ 999)
def tm (x : Int) : Bool := decide (0 ≤ x) && decide (x ≤ 10000000)
def kd (x : Int) : Bool := decide (1 ≤ x) && decide (x ≤ 3)
def sx (x : Int) : Bool := decide (1 ≤ x) && decide (x ≤ 2)
def rm (x : Int) : Bool := decide (0 ≤ x) && decide (x ≤ 999)
def does (b n : Int) : Bool := decide (b = n) || (decide (b = 2) && decide (n = 1))
def inB (n : Nat) (x : Int) : Bool := decide (0 ≤ x) && decide (x < (n : Int))
def bedOk (b : Bd) : Bool := rm b.room && kd b.kind
def excl (a b : Bd) : Bool := decide (a.room = b.room) && (decide (a.kind = 3) || decide (b.kind = 3))
def toOk (f t : Int) : Bool := decide (t = -1) || (tm t && decide (f ≤ t))
def stOk (n : Nat) (s : St) : Bool := pers s.person && sx s.sex && kd s.need && inB n s.bed && tm s.frm && toOk s.frm s.til
def roomAt (B : List Bd) (x : Int) : Int := (B.getD x.toNat default).room
def kindAt (B : List Bd) (x : Int) : Int := (B.getD x.toNat default).kind
def clash (B : List Bd) (a b : St) : Bool := decide (a.bed = b.bed) || (decide (a.person = b.person) || (decide (roomAt B a.bed = roomAt B b.bed) && !decide (a.sex = b.sex)))
def here (s : St) : Bool := decide (s.til = -1)

theorem pers_iff {x : Int} : pers x = true ↔ 0 ≤ x ∧ x ≤ 999 := by simp [pers]
theorem tm_iff {x : Int} : tm x = true ↔ 0 ≤ x ∧ x ≤ 10000000 := by simp [tm]
theorem kd_iff {x : Int} : kd x = true ↔ 1 ≤ x ∧ x ≤ 3 := by simp [kd]
theorem sx_iff {x : Int} : sx x = true ↔ 1 ≤ x ∧ x ≤ 2 := by simp [sx]
theorem inB_iff {n : Nat} {x : Int} : inB n x = true ↔ 0 ≤ x ∧ x < (n : Int) := by simp [inB]

/-- The first n beds are right. -/
def bedsTo (l : List Bd) (n : Nat) : Prop := ∀ i x, i < n → l[i]? = some x → bedOk x = true ∧ ∀ k y, k < i → l[k]? = some y → excl y x = false
/-- The first n stays are right by themselves, and in their order. -/
def staysTo (nb : Nat) (l : List St) (n : Nat) : Prop := ∀ i x, i < n → l[i]? = some x → stOk nb x = true ∧ ∀ k y, k + 1 = i → l[k]? = some y → y.frm ≤ x.frm
/-- The first n stays keep the rules. -/
def rulesTo (B : List Bd) (l : List St) (n : Nat) : Prop := ∀ i x, i < n → l[i]? = some x → here x = true → does (kindAt B x.bed) x.need = true ∧ ∀ k y, k < i → l[k]? = some y → here y = true → clash B y x = false
def Ok (B : List Bd) (S : List St) : Prop := B.length ≤ 200 ∧ S.length ≤ 1000 ∧ bedsTo B B.length ∧ staysTo B.length S S.length ∧ rulesTo B S S.length
noncomputable def okB (B : List Bd) (S : List St) : Bool := by classical exact decide (Ok B S)
theorem okB_true {B : List Bd} {S : List St} (h : Ok B S) : okB B S = true := by simp [okB, h]
theorem okB_false {B : List Bd} {S : List St} (h : ¬ Ok B S) : okB B S = false := by simp [okB, h]
theorem ok_of {B : List Bd} {S : List St} (h : okB B S = true) : Ok B S := by
  rcases Classical.em (Ok B S) with k | k
  · exact k
  · rw [okB_false k] at h; cases h

theorem bedsTo_zero (l : List Bd) : bedsTo l 0 := fun _ _ h => absurd h (Nat.not_lt_zero _)
theorem staysTo_zero (nb : Nat) (l : List St) : staysTo nb l 0 := fun _ _ h => absurd h (Nat.not_lt_zero _)
theorem rulesTo_zero (B : List Bd) (l : List St) : rulesTo B l 0 := fun _ _ h => absurd h (Nat.not_lt_zero _)
theorem bedsTo_succ {l : List Bd} {i : Nat} {x : Bd} (h : bedsTo l i) (hx : l[i]? = some x) (h1 : bedOk x = true) (h2 : ∀ k y, k < i → l[k]? = some y → excl y x = false) : bedsTo l (i + 1) := by
  intro j z hj hz
  by_cases e : j = i
  · subst e; rw [hx] at hz; cases hz; exact ⟨h1, h2⟩
  · exact h j z (by omega) hz
theorem staysTo_succ {nb : Nat} {l : List St} {i : Nat} {x : St} (h : staysTo nb l i) (hx : l[i]? = some x) (h1 : stOk nb x = true) (h2 : ∀ k y, k + 1 = i → l[k]? = some y → y.frm ≤ x.frm) : staysTo nb l (i + 1) := by
  intro j z hj hz
  by_cases e : j = i
  · subst e; rw [hx] at hz; cases hz; exact ⟨h1, h2⟩
  · exact h j z (by omega) hz
theorem rulesTo_skip {B : List Bd} {l : List St} {i : Nat} {x : St} (h : rulesTo B l i) (hx : l[i]? = some x) (h1 : here x = false) : rulesTo B l (i + 1) := by
  intro j z hj hz
  by_cases e : j = i
  · subst e; rw [hx] at hz; cases hz; intro q; rw [h1] at q; cases q
  · exact h j z (by omega) hz
theorem rulesTo_succ {B : List Bd} {l : List St} {i : Nat} {x : St} (h : rulesTo B l i) (hx : l[i]? = some x) (h1 : does (kindAt B x.bed) x.need = true) (h2 : ∀ k y, k < i → l[k]? = some y → here y = true → clash B y x = false) : rulesTo B l (i + 1) := by
  intro j z hj hz
  by_cases e : j = i
  · subst e; rw [hx] at hz; cases hz; intro _; exact ⟨h1, h2⟩
  · exact h j z (by omega) hz

theorem get_lt {α : Type} {l : List α} {i : Nat} {x : α} (h : l[i]? = some x) : i < l.length := (List.getElem?_eq_some_iff.1 h).1
theorem some_at {α : Type} (l : List α) (i : Nat) (h : i < l.length) : ∃ x, l[i]? = some x := ⟨_, List.getElem?_eq_getElem h⟩
theorem take_snoc {α : Type} {l : List α} {i : Nat} {x : α} (h : l[i]? = some x) : l.take (i + 1) = l.take i ++ [x] := by
  rw [List.take_add_one, h]; rfl

theorem not_bed {B : List Bd} {S : List St} {i : Nat} {x : Bd} (hx : B[i]? = some x) (h : bedOk x = false) : ¬ Ok B S := fun q => by
  have := (q.2.2.1 i x (get_lt hx) hx).1; rw [h] at this; cases this
theorem not_excl {B : List Bd} {S : List St} {i k : Nat} {x y : Bd} (hx : B[i]? = some x) (hy : B[k]? = some y) (hk : k < i) (h : excl y x = true) : ¬ Ok B S := fun q => by
  have := (q.2.2.1 i x (get_lt hx) hx).2 k y hk hy; rw [h] at this; cases this
theorem not_stay {B : List Bd} {S : List St} {i : Nat} {x : St} (hx : S[i]? = some x) (h : stOk B.length x = false) : ¬ Ok B S := fun q => by
  have := (q.2.2.2.1 i x (get_lt hx) hx).1; rw [h] at this; cases this
theorem not_order {B : List Bd} {S : List St} {i : Nat} {x y : St} (hx : S[i + 1]? = some x) (hy : S[i]? = some y) (h : x.frm < y.frm) : ¬ Ok B S := fun q => by
  have := (q.2.2.2.1 (i + 1) x (get_lt hx) hx).2 i y rfl hy; omega
theorem not_does {B : List Bd} {S : List St} {i : Nat} {x : St} (hx : S[i]? = some x) (hh : here x = true) (h : does (kindAt B x.bed) x.need = false) : ¬ Ok B S := fun q => by
  have := (q.2.2.2.2 i x (get_lt hx) hx hh).1; rw [h] at this; cases this
theorem not_clash {B : List Bd} {S : List St} {i k : Nat} {x y : St} (hx : S[i]? = some x) (hy : S[k]? = some y) (hk : k < i) (hh : here x = true) (hh2 : here y = true) (h : clash B y x = true) : ¬ Ok B S := fun q => by
  have := (q.2.2.2.2 i x (get_lt hx) hx hh).2 k y hk hy hh2; rw [h] at this; cases this

/-- Those that are still there, of the first ones. -/
def heres (l : List St) : List St := l.filter here
theorem heres_snoc (l : List St) (x : St) : heres (l ++ [x]) = if here x then heres l ++ [x] else heres l := by
  unfold heres
  rw [List.filter_append]
  cases h : here x <;> simp [h]
theorem mem_heres {l : List St} {i : Nat} {y : St} : y ∈ heres (l.take i) ↔ ∃ k, k < i ∧ l[k]? = some y ∧ here y = true := by
  unfold heres
  rw [List.mem_filter]
  constructor
  · rintro ⟨h, hh⟩
    obtain ⟨k, hk⟩ := List.getElem?_of_mem h
    rw [List.getElem?_take] at hk
    split at hk
    · exact ⟨k, ‹_›, hk, hh⟩
    · cases hk
  · rintro ⟨k, hk, hy, hh⟩
    refine ⟨List.mem_of_getElem? (i := k) ?_, hh⟩
    rw [List.getElem?_take, if_pos hk, hy]
theorem heres_len (l : List St) (i : Nat) (h : i ≤ l.length) : (heres (l.take i)).length ≤ i := by
  have := List.length_filter_le here (l.take i)
  rw [List.length_take] at this
  unfold heres
  omega
end Go.Proofs.Ytklgadaefngnnaa.Hm
