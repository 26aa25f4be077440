/-
  Plain facts on rules, warnings and doses given; no Go in sight.
-/
import Derived.Test.YtcnhogghfedcdaaGa
namespace Go.Proofs.Ytcnhogghfedcdaa.Ga
open Va
set_option linter.unusedVariables false

structure Ru where
  a : Int
  b : Int
  g : Int
structure Wg where
  a : Int
  b : Int
  r : Int
structure Gv where
  d : Int
  t : Int
  n : Int
def csRu (x : Ru) (k : Nat) : Int := match k with | 0 => x.a | 1 => x.b | _ => x.g
def csWg (x : Wg) (k : Nat) : Int := match k with | 0 => x.a | 1 => x.b | _ => x.r
def csGv (x : Gv) (k : Nat) : Int := match k with | 0 => x.d | 1 => x.t | _ => x.n
def ruB (r : Ru) : Bool := rng r.a 0 63 && (rng r.b 0 63 && rng r.g 1 3)
def gvB (g : Gv) : Bool := rng g.d 1 1000 && (rng g.t 0 10000000 && rng g.n 1 1000000000)

/-- The first i classes are right. -/
def cTo (l : List Int) (i : Nat) : Prop := ∀ j, j < i → okAt l j = true
theorem cTo_zero (l : List Int) : cTo l 0 := fun j hj => absurd hj (Nat.not_lt_zero _)
theorem getD_of {l : List Int} {i : Nat} {x : Int} (h : l[i]? = some x) : l.getD i 0 = x := by rw [List.getD_eq_getElem?_getD, h]; rfl
theorem cTo_succ {l : List Int} {i : Nat} {x : Int} (h : cTo l i) (hx : l[i]? = some x) (hp : rng x 0 63 = true) (hz : ∀ z, 0 < i → l[i - 1]? = some z → z < x) : cTo l (i + 1) := fun j hj => by
  rcases Nat.lt_succ_iff_lt_or_eq.1 hj with k | rfl
  · exact h j k
  · have hl : j < l.length := (List.getElem?_eq_some_iff.1 hx).1
    rcases Nat.eq_zero_or_pos j with q | q
    · unfold okAt
      rw [getD_of hx, hp, q]
      rfl
    · have hz' := hz _ q (List.getElem?_eq_getElem (show j - 1 < l.length by omega))
      unfold okAt
      rw [getD_of hx, hp, getD_of (List.getElem?_eq_getElem (show j - 1 < l.length by omega))]
      simp [hz']
theorem c_not {l : List Int} {i : Nat} {x : Int} (hx : l[i]? = some x) (hp : rng x 0 63 = false) : clsB l = false :=
  clsB_no (List.getElem?_eq_some_iff.1 hx).1 (by unfold okAt; rw [getD_of hx, hp]; rfl)
theorem c_not2 {l : List Int} {i : Nat} {x z : Int} (hx : l[i]? = some x) (h0 : 0 < i) (hz : l[i - 1]? = some z) (hxz : x ≤ z) : clsB l = false :=
  clsB_no (List.getElem?_eq_some_iff.1 hx).1 (by unfold okAt; rw [getD_of hx, getD_of hz]; simp; intro _; omega)
theorem cls_true {l : List Int} (h : cTo l l.length) : clsB l = true := clsB_iff.2 h
end Go.Proofs.Ytcnhogghfedcdaa.Ga
