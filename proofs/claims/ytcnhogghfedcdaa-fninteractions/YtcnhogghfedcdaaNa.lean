/-
  The warnings of drugs together: no Go in sight.
-/
import Derived.Test.YtcnhogghfedcdaaGp
namespace Go.Proofs.Ytcnhogghfedcdaa.Ga
open Va
set_option linter.unusedVariables false

/-- One drug has the one class of the rule, the other the other. -/
def rfit (r : Ru) (l m : List Int) : Bool := (hasB l r.a && hasB m r.b) || (hasB l r.b && hasB m r.a)
def rsB (l : List Ru) : Bool := decide (l.length ≤ 200) && l.all ruB
def dsB (l : List Dg) : Bool := decide (l.length ≤ 50) && l.all drugB
instance : Inhabited Ru := ⟨⟨0, 0, 0⟩⟩
/-- The place of the worst of the first n rules that two drugs meet, or -1. -/
def bestTo (rs : List Ru) (l m : List Int) : Nat → Int
  | 0 => -1
  | n + 1 => if rfit (rs.getD n default) l m = true ∧ (bestTo rs l m n < 0 ∨ (rs.getD (bestTo rs l m n).toNat default).g < (rs.getD n default).g) then (n : Int) else bestTo rs l m n
theorem bestTo_bd (rs : List Ru) (l m : List Int) : ∀ n, -1 ≤ bestTo rs l m n ∧ bestTo rs l m n < (n : Int)
  | 0 => by simp [bestTo]
  | n + 1 => by
    have := bestTo_bd rs l m n
    unfold bestTo
    split <;> omega
theorem ru_getD {rs : List Ru} {i : Nat} {r : Ru} (h : rs[i]? = some r) : rs.getD i default = r := by rw [List.getD_eq_getElem?_getD, h]; rfl
theorem best_no {rs : List Ru} {l m : List Int} {i : Nat} {r : Ru} (hr : rs[i]? = some r) (h : rfit r l m = false) : bestTo rs l m (i + 1) = bestTo rs l m i := by
  rw [bestTo, ru_getD hr, h]; simp
theorem best_new {rs : List Ru} {l m : List Int} {i : Nat} {r : Ru} (hr : rs[i]? = some r) (h : rfit r l m = true) (h0 : bestTo rs l m i < 0) : bestTo rs l m (i + 1) = (i : Int) := by
  rw [bestTo, ru_getD hr, h]; simp [h0]
theorem best_up {rs : List Ru} {l m : List Int} {i k : Nat} {r q : Ru} (hr : rs[i]? = some r) (h : rfit r l m = true) (hk : bestTo rs l m i = (k : Int)) (hq : rs[k]? = some q) (hg : q.g < r.g) : bestTo rs l m (i + 1) = (i : Int) := by
  rw [bestTo, ru_getD hr, h, hk, show ((k : Int).toNat) = k from rfl, ru_getD hq]; simp [hg]
theorem best_keep {rs : List Ru} {l m : List Int} {i k : Nat} {r q : Ru} (hr : rs[i]? = some r) (hk : bestTo rs l m i = (k : Int)) (hq : rs[k]? = some q) (hg : ¬ q.g < r.g) : bestTo rs l m (i + 1) = (k : Int) := by
  rw [bestTo, ru_getD hr, hk, show ((k : Int).toNat) = k from rfl, ru_getD hq]; simp only [hg, or_false]; rw [if_neg (by omega)]
def best (rs : List Ru) (x y : Dg) : Int := bestTo rs x.cls y.cls rs.length
theorem best_bd (rs : List Ru) (x y : Dg) : -1 ≤ best rs x y ∧ best rs x y < (rs.length : Int) := bestTo_bd rs x.cls y.cls rs.length

/-- The warnings of x, which stands at i, with those of the first n that stand behind it. -/
def wRow (rs : List Ru) (l : List Dg) (i : Nat) (x : Dg) : Nat → List Wg
  | 0 => []
  | k + 1 => wRow rs l i x k ++ (if i < k then (match l[k]? with | some y => if best rs x y < 0 then [] else [⟨i, k, best rs x y⟩] | none => []) else [])
/-- The warnings whose first stands among the first n. -/
def wTo (rs : List Ru) (l : List Dg) : Nat → List Wg
  | 0 => []
  | i + 1 => wTo rs l i ++ (match l[i]? with | some x => wRow rs l i x l.length | none => [])
def warn (rs : List Ru) (l : List Dg) : List Wg := if dsB l = true ∧ rsB rs = true then wTo rs l l.length else []
theorem wRow_nil (rs : List Ru) (l : List Dg) (i : Nat) (x : Dg) : ∀ k, k ≤ i + 1 → wRow rs l i x k = [] := by
  intro k
  induction k with
  | zero => intro _; rfl
  | succ k ih => intro h; rw [wRow, ih (by omega), if_neg (by omega)]; rfl
theorem wRow_no {rs : List Ru} {l : List Dg} {i k : Nat} {x y : Dg} (hi : i < k) (hy : l[k]? = some y) (h : best rs x y < 0) : wRow rs l i x (k + 1) = wRow rs l i x k := by
  rw [wRow, if_pos hi, hy]; simp [h]
theorem wRow_yes {rs : List Ru} {l : List Dg} {i k : Nat} {x y : Dg} (hi : i < k) (hy : l[k]? = some y) (h : ¬ best rs x y < 0) : wRow rs l i x (k + 1) = wRow rs l i x k ++ [⟨i, k, best rs x y⟩] := by
  rw [wRow, if_pos hi, hy]; simp [h]
theorem wTo_succ {rs : List Ru} {l : List Dg} {i : Nat} {x : Dg} (hx : l[i]? = some x) : wTo rs l (i + 1) = wTo rs l i ++ wRow rs l i x l.length := by
  rw [wTo, hx]
theorem warn_yes {rs : List Ru} {l : List Dg} (h : dsB l = true) (h2 : rsB rs = true) : warn rs l = wTo rs l l.length := by simp [warn, h, h2]
theorem warn_no {rs : List Ru} {l : List Dg} (h : dsB l = false) : warn rs l = [] := by simp [warn, h]
theorem warn_no2 {rs : List Ru} {l : List Dg} (h : rsB rs = false) : warn rs l = [] := by simp [warn, h]
theorem dsB_len {l : List Dg} (h : dsB l = true) : l.length ≤ 50 := by simp only [dsB, Bool.and_eq_true, decide_eq_true_eq] at h; exact h.1
theorem rsB_len {l : List Ru} (h : rsB l = true) : l.length ≤ 200 := by simp only [rsB, Bool.and_eq_true, decide_eq_true_eq] at h; exact h.1
theorem dsB_all {l : List Dg} (h : dsB l = true) : ∀ x ∈ l, drugB x = true := by simp only [dsB, Bool.and_eq_true, List.all_eq_true] at h; exact h.2
theorem rsB_all {l : List Ru} (h : rsB l = true) : ∀ x ∈ l, ruB x = true := by simp only [rsB, Bool.and_eq_true, List.all_eq_true] at h; exact h.2
theorem wRow_len (rs : List Ru) (l : List Dg) (i : Nat) (x : Dg) : ∀ k, (wRow rs l i x k).length ≤ k := by
  intro k
  induction k with
  | zero => exact Nat.le_refl _
  | succ k ih =>
    rw [wRow, List.length_append]
    split
    · split
      · split
        · simp; omega
        · simp; omega
      · simp; omega
    · simp; omega
theorem wTo_len (rs : List Ru) (l : List Dg) : ∀ i, (wTo rs l i).length ≤ i * l.length := by
  intro i
  induction i with
  | zero => simp [wTo]
  | succ i ih =>
    rw [wTo, List.length_append, Nat.succ_mul]
    split
    · rename_i x _
      have := wRow_len rs l i x l.length; omega
    · simp; omega
theorem warn_len (rs : List Ru) (l : List Dg) : (warn rs l).length ≤ 2500 := by
  unfold warn
  split
  · rename_i h
    have := wTo_len rs l l.length
    have h2 := dsB_len h.1
    have := Nat.mul_le_mul h2 h2
    omega
  · simp
end Go.Proofs.Ytcnhogghfedcdaa.Ga
