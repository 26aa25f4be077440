/-
  Plain facts on what a growing book says.
-/
import Derived.Test.YtdnnenklkfkhcaaJn
namespace Go.Proofs.Ytdnnenklkfkhcaa.Jn

theorem place_app (a : List J) (j : J) (x : Int) : place (a ++ [j]) x = if place a x < a.length then place a x else if j.2 = x then a.length else a.length + 1 := by
  unfold place
  rw [List.findIdx_append]
  by_cases h : List.findIdx (fun j => decide (j.2 = x)) a < a.length
  · rw [if_pos h, if_pos h]
  · rw [if_neg h, if_neg h, List.findIdx_singleton]
    by_cases e : j.2 = x
    · simp [e]
    · simp [e]; omega
theorem getD_app_left (a : List J) (j : J) (i : Nat) (h : i < a.length) : (a ++ [j]).getD i (0, 0) = a.getD i (0, 0) := by
  rw [List.getD_eq_getElem?_getD, List.getD_eq_getElem?_getD, List.getElem?_append_left h]
theorem getD_app_last (a : List J) (j : J) : (a ++ [j]).getD a.length (0, 0) = j := by
  rw [List.getD_eq_getElem?_getD, List.getElem?_append_right (Nat.le_refl _)]; simp
/-- What a book says of x: its keep and its place. -/
def says (l : List J) (x : Int) : Option (Int × Int) := if isG l x then some (keepAt l x, (place l x : Int)) else none
theorem says_isSome (l : List J) (x : Int) : (says l x).isSome = isG l x := by unfold says; split <;> simp_all
theorem says_app (a : List J) (j : J) (hj : isG a j.2 = false) (x : Int) : says (a ++ [j]) x = if x = j.2 then some (j.1, (a.length : Int)) else says a x := by
  unfold says
  rw [isG_append]
  by_cases e : x = j.2
  · subst e
    have hp : ¬ place a j.2 < a.length := fun q => by have := (isG_place a j.2).2 q; rw [hj] at this; cases this
    have hpl : place (a ++ [j]) j.2 = a.length := by rw [place_app, if_neg hp, if_pos rfl]
    rw [if_pos rfl, hj, if_pos (by simp [isG])]
    unfold keepAt
    rw [hpl, getD_app_last]
  · have h1 : isG [j] x = false := by simp [isG]; exact fun q => e q.symm
    rw [if_neg e, h1, Bool.or_false]
    by_cases h : isG a x = true
    · have hp := (isG_place a x).1 h
      have hpl : place (a ++ [j]) x = place a x := by rw [place_app, if_pos hp]
      rw [if_pos h, if_pos h]
      unfold keepAt
      rw [hpl, getD_app_left a j _ hp]
    · rw [if_neg h, if_neg h]
theorem take_succ (l : List J) (i : Nat) (h : i < l.length) : l.take (i + 1) = l.take i ++ [l.getD i (0, 0)] := by
  rw [List.take_add_one, List.getElem?_eq_getElem h, List.getD_eq_getElem?_getD, List.getElem?_eq_getElem h]; rfl
theorem says_take (l : List J) (i : Nat) (h : i < l.length) (hg : isG (l.take i) (l.getD i (0, 0)).2 = false) (x : Int) :
    says (l.take (i + 1)) x = if x = (l.getD i (0, 0)).2 then some ((l.getD i (0, 0)).1, (i : Int)) else says (l.take i) x := by
  rw [take_succ l i h, says_app _ _ hg, List.length_take, Nat.min_eq_left (by omega)]
theorem ok_succ (l : List J) (i : Nat) (h : okTo l i) (hg : good l i = true) : okTo l (i + 1) := by
  intro j hj
  by_cases e : j = i
  · subst e; exact hg
  · exact h j (by omega)
theorem pers_wf {x : Int} (h : pers x = true) : 0 ≤ x ∧ x ≤ 999 := by
  unfold pers at h
  simpa using h
theorem may_pers {k g : Int} (h : may k g = true) : pers k = true ∧ pers g = true := by
  unfold may at h
  simp only [Bool.and_eq_true] at h
  exact ⟨h.1.1, h.1.2⟩
theorem take_all (l : List J) : l.take l.length = l := List.take_length
end Go.Proofs.Ytdnnenklkfkhcaa.Jn
