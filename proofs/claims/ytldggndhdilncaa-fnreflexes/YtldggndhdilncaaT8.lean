/-
  Results that are right: the specification and the program.
-/
import Derived.Test.YtldggndhdilncaaT8a
namespace Go.Proofs.Ytldggndhdilncaa
open Go.RowKit Va Lb
set_option linter.all false

def tOf (l : List Rs) (i : Nat) : Int := ((l[i]?).map (·.t)).getD 0
theorem tOf_get {l : List Rs} {i : Nat} {x : Rs} (h : l[i]? = some x) : tOf l i = x.t := by simp [tOf, h]
def ResTo (l : List Rs) (i : Nat) : Prop := ∀ j r, j < i → l[j]? = some r → resB r = true ∧ ∀ p, 0 < j → l[j - 1]? = some p → p.t ≤ r.t
theorem resB_not (x : Rs) (b : Bool) : ((((!(vlB x.v)) || ((!x.k) && (x.v != 0))) || (!(tmv x.t))) || b) = ((!(resB x)) || b) := by
  unfold resB
  cases vlB x.v <;> cases x.k <;> cases tmv x.t <;> by_cases h : x.v = 0 <;> simp [h]
theorem res_bad {l : List Rs} {i : Nat} {x : Rs} (hx : l[i]? = some x) (h : ((!(resB x)) || ((decide ((0 : Int) < (i : Int))) && (decide (x.t < tOf l (i - 1))))) = true) : ¬ ResOk l := by
  intro q
  obtain ⟨q1, q2⟩ := q.2 i x hx
  rw [q1] at h
  simp only [Bool.not_true, Bool.false_or, Bool.and_eq_true, decide_eq_true_eq] at h
  have hlt := get_ltL hx
  obtain ⟨y, hy⟩ : ∃ y, l[i - 1]? = some y := ⟨_, List.getElem?_eq_getElem (show i - 1 < l.length by omega)⟩
  have := q2 y (by omega) hy
  rw [tOf_get hy] at h
  omega
theorem res_good {l : List Rs} {i : Nat} {x : Rs} (ht : ResTo l i) (hx : l[i]? = some x) (h : ((!(resB x)) || ((decide ((0 : Int) < (i : Int))) && (decide (x.t < tOf l (i - 1))))) = false) : ResTo l (i + 1) := by
  intro j r hj hr
  by_cases e : j = i
  · subst e
    obtain rfl : x = r := Option.some.inj (hx.symm.trans hr)
    simp only [Bool.or_eq_false_iff, Bool.not_eq_false', Bool.and_eq_false_iff, decide_eq_false_iff_not] at h
    refine ⟨h.1, fun p hp hpp => ?_⟩
    rw [tOf_get hpp] at h
    omega
  · exact ht j r (by omega) hr

set_option maxHeartbeats 400000 in
theorem svalue_any (x : Int) (w : World) : Calls Try.prog 20 #[.int .i64 x] w fun e w' => e = .returned (.bool (vlB x)) ∧ w' = w := by
  have k := lin_any x (-100000) 100000
  go_enter Try.func20, Try.ntmps20
  go_wp2_with (go_at_call 19; refine (k _).mono ?_; rintro e w1 ⟨rfl, rfl⟩)
  go_ret
  exact ⟨rfl, rfl⟩

set_option maxHeartbeats 400000 in
theorem ivalue_any (x : Int) (w : World) : Calls Try.prog 28 #[.int .i64 x] w fun e w' => e = .returned (.bool (vlB x)) ∧ w' = w := by
  unfold vlB rng
  go_enter Try.func28, Try.ntmps28
  go_wp2
  all_goals (go_ret; exact ⟨ret_boolT (by first | (simp; done) | (simp; omega) | (simp_all; done) | (simp_all; omega) | (rw [Bool.eq_iff_iff]; simp; omega) | (rw [Bool.eq_iff_iff]; simp_all; omega)), rfl⟩)
end Go.Proofs.Ytldggndhdilncaa
