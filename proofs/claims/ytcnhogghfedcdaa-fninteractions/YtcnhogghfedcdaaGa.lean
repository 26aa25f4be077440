/-
  Plain facts on drugs; no Go in sight.
-/
import Derived.Test.YtcnhogghfedcdaaVa
namespace Go.Proofs.Ytcnhogghfedcdaa.Ga
open Va
set_option linter.unusedVariables false

structure Dg where
  id : Int
  cls : List Int
  pk : Int
  most : Int
  day : Int
  kid : Int
/-- The class at place i is a class, and greater than the one ahead of it. -/
def okAt (l : List Int) (i : Nat) : Bool := rng (l.getD i 0) 0 63 && (decide (i = 0) || decide (l.getD (i - 1) 0 < l.getD i 0))
def clsB (l : List Int) : Bool := (List.range l.length).all (okAt l)
theorem clsB_iff {l : List Int} : clsB l = true ↔ ∀ i, i < l.length → okAt l i = true := by simp [clsB, List.all_eq_true]
theorem clsB_no {l : List Int} {i : Nat} (hi : i < l.length) (h : okAt l i = false) : clsB l = false := by
  cases q : clsB l with
  | false => rfl
  | true => rw [clsB_iff.1 q i hi] at h; cases h
def numB (n : Int) : Bool := rng n 1 1000000000
/-- What is asked of a drug, its classes' numbers aside. -/
def headB (d : Dg) : Bool := rng d.id 1 1000 && (decide (d.cls.length ≤ 10) && (numB d.pk && (numB d.most && (numB d.day && rng d.kid 0 100))))
def drugB (d : Dg) : Bool := headB d && clsB d.cls
/-- The dose, and whether there is one. -/
def dose (d : Dg) (grams kidney : Int) : Int := (min ((d.pk * grams).tdiv 1000) d.most * (d.kid * (100 - kidney) + 100 * kidney)).tdiv 10000
def doseFor (d : Dg) (grams kidney : Int) : Int × Bool := if drugB d = true ∧ rng grams 1 500000 = true ∧ rng kidney 0 100 = true then (dose d grams kidney, decide (0 < dose d grams kidney)) else (0, false)
def hasB (l : List Int) (n : Int) : Bool := l.any (· == n)
def allergic (d : Dg) (l : List Int) : Bool := drugB d && d.cls.any (hasB l)
/-- A taper. -/
def tapB (f l s : Int) : Bool := rng l 1 1000000000 && (rng f l 1000000000 && rng s 2 100)
def tapAt (f l s : Int) (i : Nat) : Int := f - ((f - l) * (i : Int)).tdiv (s - 1)
def tapTo (f l s : Int) : Nat → List Int
  | 0 => []
  | n + 1 => tapTo f l s n ++ [tapAt f l s n]
theorem tapTo_len (f l s : Int) : ∀ n, (tapTo f l s n).length = n
  | 0 => rfl
  | n + 1 => by rw [tapTo, List.length_append, tapTo_len f l s n]; rfl
def taper (f l s : Int) : List Int := if tapB f l s = true then tapTo f l s s.toNat else []
end Go.Proofs.Ytcnhogghfedcdaa.Ga
