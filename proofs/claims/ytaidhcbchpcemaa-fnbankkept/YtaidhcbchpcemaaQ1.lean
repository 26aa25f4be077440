/-
  Plain facts on blood: groups, units, needs, banks; no Go in sight.
-/
import Derived.Test.YtaidhcbchpcemaaVa
namespace Go.Proofs.Ytaidhcbchpcemaa.Bl
open Va
set_option linter.unusedVariables false

section
variable {α : Type} (ok : α → Bool) (key : α → Int)
def rAt (l : List α) (i : Nat) : Bool :=
  match l[i]? with
  | none => true
  | some x => ok x && (match (if i = 0 then none else l[i - 1]?) with
    | none => true
    | some z => decide (key z < key x))
/-- Each is right, and greater than the one ahead of it. -/
def risB (l : List α) : Bool := (List.range l.length).all (rAt ok key l)
def RTo (l : List α) (i : Nat) : Prop := ∀ j, j < i → rAt ok key l j = true
end
section
variable {α : Type} {ok : α → Bool} {key : α → Int}
theorem risB_iff {l : List α} : risB ok key l = true ↔ ∀ i, i < l.length → rAt ok key l i = true := by simp [risB, List.all_eq_true]
theorem RTo.zero (l : List α) : RTo ok key l 0 := fun j hj => absurd hj (Nat.not_lt_zero _)
theorem rAt_iff {l : List α} {i : Nat} {x : α} (hx : l[i]? = some x) : rAt ok key l i = true ↔ ok x = true ∧ ∀ z, 0 < i → l[i - 1]? = some z → key z < key x := by
  unfold rAt
  rw [hx]
  by_cases h0 : i = 0
  · simp [h0]
  · rw [if_neg h0]
    cases hz : l[i - 1]? with
    | none => simp
    | some z => simp; intro _; omega
theorem RTo.succ {l : List α} {i : Nat} {x : α} (h : RTo ok key l i) (hx : l[i]? = some x) (hp : ok x = true) (hz : ∀ z, 0 < i → l[i - 1]? = some z → key z < key x) : RTo ok key l (i + 1) := fun j hj => by
  rcases Nat.lt_succ_iff_lt_or_eq.1 hj with q | rfl
  · exact h j q
  · exact (rAt_iff hx).2 ⟨hp, hz⟩
theorem ris_true {l : List α} (h : RTo ok key l l.length) : risB ok key l = true := risB_iff.2 h
theorem ris_no {l : List α} {i : Nat} {x : α} (hx : l[i]? = some x) (hp : ok x = false) : risB ok key l = false := by
  cases q : risB ok key l with
  | false => rfl
  | true =>
    have := ((rAt_iff hx).1 (risB_iff.1 q i (List.getElem?_eq_some_iff.1 hx).1)).1
    rw [hp] at this; cases this
theorem ris_no2 {l : List α} {i : Nat} {x z : α} (hx : l[i]? = some x) (h0 : 0 < i) (hz : l[i - 1]? = some z) (hxz : key x ≤ key z) : risB ok key l = false := by
  cases q : risB ok key l with
  | false => rfl
  | true =>
    have := ((rAt_iff hx).1 (risB_iff.1 q i (List.getElem?_eq_some_iff.1 hx).1)).2 z h0 hz
    omega
theorem ris_ok {l : List α} (h : risB ok key l = true) : ∀ x ∈ l, ok x = true := fun x hx => by
  obtain ⟨i, hi⟩ := List.getElem?_of_mem hx
  exact ((rAt_iff hi).1 (risB_iff.1 h i (List.getElem?_eq_some_iff.1 hi).1)).1
theorem ris_lt {l : List α} (h : risB ok key l = true) : ∀ (d i : Nat) (x y : α), l[i]? = some x → l[i + d + 1]? = some y → key x < key y := by
  intro d
  induction d with
  | zero =>
    intro i x y hx hy
    exact ((rAt_iff hy).1 (risB_iff.1 h _ (List.getElem?_eq_some_iff.1 hy).1)).2 x (by omega) hx
  | succ d ih =>
    intro i x y hx hy
    have hl := (List.getElem?_eq_some_iff.1 hy).1
    obtain ⟨z, hz⟩ : ∃ z, l[i + d + 1]? = some z := ⟨_, List.getElem?_eq_getElem (by omega)⟩
    have h1 := ih i x z hx hz
    have h2 := ((rAt_iff hy).1 (risB_iff.1 h _ hl)).2 z (by omega) hz
    omega
theorem ris_one {l : List α} (h : risB ok key l = true) {i j : Nat} {x y : α} (hx : l[i]? = some x) (hy : l[j]? = some y) (he : key x = key y) : i = j := by
  rcases Nat.lt_trichotomy i j with q | q | q
  · have := ris_lt h (j - i - 1) i x y hx (by rw [show i + (j - i - 1) + 1 = j by omega]; exact hy); omega
  · exact q
  · have := ris_lt h (i - j - 1) j y x hy (by rw [show j + (i - j - 1) + 1 = i by omega]; exact hx); omega
end

structure Ut where
  id : Int
  grp : Int
  ant : List Int
  til : Int
  st : Int
  fr : Int
structure Nd where
  p : Int
  g : Int
  ag : List Int
structure Da where
  k : Int
  id : Int
  t : Int
instance : Inhabited Ut := ⟨⟨0, 0, [], 0, 0, 0⟩⟩

/-- Antigens, rising. -/
def antB (l : List Int) : Bool := risB (fun x => rng x 0 19) (fun x => x) l
def redB (u p : Int) : Bool := rng u 0 7 && (rng p 0 7 && decide (u.toNat &&& (7 - p.toNat) = 0))
def plaB (u p : Int) : Bool := rng u 0 7 && (rng p 0 7 && decide ((p.toNat &&& (7 - u.toNat)) &&& 3 = 0))
def perB (x : Int) : Bool := rng x 0 999
/-- Whom a unit is for, by its state. -/
def forB (st fr : Int) : Bool := rng st 1 4 && (if st = 2 ∨ st = 3 then perB fr else decide (fr = -1))
def unitB (u : Ut) : Bool := rng u.id 1 1000000 && (rng u.grp 0 7 && (antB u.ant && (tmv u.til && forB u.st u.fr)))
def needB (n : Nd) : Bool := perB n.p && (rng n.g 0 7 && antB n.ag)
def bankB (l : List Ut) : Bool := decide (l.length ≤ 300) && risB unitB Ut.id l
def hasB (l : List Int) (n : Int) : Bool := l.any (· == n)
def freeOf (u : Ut) (n : Nd) : Bool := !(u.ant.any (hasB n.ag))
def fitsB (u : Ut) (n : Nd) : Bool := unitB u && (needB n && (redB u.grp n.g && freeOf u n))

def rank (u : Ut) (n : Nd) : Int := if u.grp = n.g then 0 else if u.grp < 4 ∧ 4 ≤ n.g then 2 else 1
/-- Ahead: by rank, then by time, then by number. -/
def befB (n : Nd) (a b : Ut) : Bool := if rank a n = rank b n then (if a.til = b.til then decide (a.id < b.id) else decide (a.til < b.til)) else decide (rank a n < rank b n)
def mayB (n : Nd) (t : Int) (u : Ut) : Bool := decide (u.st = 1) && (decide (t ≤ u.til) && fitsB u n)
/-- Put into a list that is in order, from behind. -/
def insU (n : Nd) (u : Ut) : List Ut → List Ut
  | [] => [u]
  | x :: l => if befB n u x then u :: x :: l else x :: insU n u l
def pickB (l : List Ut) (n : Nd) (t c : Int) : Bool := bankB l && (needB n && (tmv t && rng c 0 100))

def doingB (a : Da) : Bool := rng a.k 1 4 && (rng a.id 1 1000000 && tmv a.t)
/-- What a unit is made into. -/
def fineB (u : Ut) (n : Nd) (k : Int) : Bool := if k = 1 then decide (u.st = 1) else if k = 2 ∨ k = 3 then decide (u.st = 2) && decide (u.fr = n.p) else decide (u.st = 1) || decide (u.st = 2)
def refuse (u : Ut) (n : Nd) (t : Int) : Int := if u.til < t then 5 else if fitsB u n = true then 0 else 6
def codeU (u : Ut) (n : Nd) (a : Da) : Int := if fineB u n a.k = true then (if a.k = 1 ∨ a.k = 3 then refuse u n a.t else 0) else 4
def turnU (u : Ut) (n : Nd) (k : Int) : Ut :=
  if k = 1 then { u with st := 2, fr := n.p } else if k = 2 then { u with st := 1, fr := -1 } else if k = 3 then { u with st := 3, fr := n.p } else { u with st := 4, fr := -1 }
def placeOf (l : List Ut) (i : Int) : Option Nat := l.findIdx? (fun u => decide (u.id = i))
def codeB (l : List Ut) (n : Nd) (a : Da) : Int :=
  if bankB l = true then (if doingB a = true ∧ needB n = true then (match placeOf l a.id with
    | none => 3
    | some k => codeU (l.getD k default) n a) else 2) else 1
def bankDo (l : List Ut) (n : Nd) (a : Da) : List Ut :=
  if bankB l = true then (if codeB l n a = 0 then (match placeOf l a.id with
    | none => l
    | some k => l.set k (turnU (l.getD k default) n a.k)) else l) else []
def traceL (l : List Ut) (p : Int) : List Int := (l.filter (fun u => decide (u.st = 3) && decide (u.fr = p))).map Ut.id
def trace (l : List Ut) (p : Int) : List Int := if bankB l = true then traceL l p else []
end Go.Proofs.Ytaidhcbchpcemaa.Bl
