/-
  Plain facts on the uses of trays in a history; no Go in sight.
-/
import Derived.Test.YtklgadaefngnnaaWa
namespace Go.Proofs.Ytklgadaefngnnaa.Wa
open Va
set_option linter.unusedVariables false

structure Us where
  at' : Int
  cyc : Int
  per : Int
deriving Inhabited

def rAt (l : List Stp) (i : Nat) : Rm := rmF rm0 (l.take i)
def isUse (R : Rm) (x : Stp) : Prop := x.kind = 5 ∧ R.st x.tray.toNat = 3
instance (R : Rm) (x : Stp) : Decidable (isUse R x) := by unfold isUse; infer_instance
/-- The uses among the first n steps. -/
def usesTo (l : List Stp) : Nat → List Us
  | 0 => []
  | i + 1 => usesTo l i ++ (match l[i]? with | some x => if isUse (rAt l i) x then [⟨i, (rAt l i).cy x.tray.toNat, x.per⟩] else [] | none => [])
theorem usesTo_yes {l : List Stp} {i : Nat} {x : Stp} (hx : l[i]? = some x) (h : isUse (rAt l i) x) : usesTo l (i + 1) = usesTo l i ++ [⟨i, (rAt l i).cy x.tray.toNat, x.per⟩] := by
  rw [usesTo, hx]; simp [h]
theorem usesTo_no {l : List Stp} {i : Nat} {x : Stp} (hx : l[i]? = some x) (h : ¬ isUse (rAt l i) x) : usesTo l (i + 1) = usesTo l i := by
  rw [usesTo, hx]; simp [h]
theorem usesTo_len (l : List Stp) : ∀ i, (usesTo l i).length ≤ i := by
  intro i
  induction i with
  | zero => exact Nat.le_refl _
  | succ i ih =>
    rw [usesTo, List.length_append]
    split
    · split <;> simp <;> omega
    · simp; omega
noncomputable def uses (l : List Stp) : List Us := if ssB l = true then usesTo l l.length else []
theorem uses_len (l : List Stp) : (uses l).length ≤ 1000 := by
  unfold uses
  split
  · rename_i h
    have h1 := usesTo_len l l.length
    have h2 := (of_ssB h).1
    omega
  · simp
theorem usesTo_mem {l : List Stp} : ∀ {i : Nat} {u : Us}, u ∈ usesTo l i → ∃ (j : Nat) (x : Stp), j < i ∧ l[j]? = some x ∧ isUse (rAt l j) x ∧ u = ⟨j, (rAt l j).cy x.tray.toNat, x.per⟩ := by
  intro i
  induction i with
  | zero => intro u h; cases h
  | succ i ih =>
    intro u h
    rw [usesTo] at h
    rcases List.mem_append.1 h with h | h
    · obtain ⟨j, x, h1, h2⟩ := ih h
      exact ⟨j, x, by omega, h2⟩
    · split at h
      · rename_i x hx
        split at h
        · rename_i hu
          exact ⟨i, x, by omega, hx, hu, List.mem_singleton.1 h⟩
        · cases h
      · cases h
theorem usesTo_of {l : List Stp} {j : Nat} {x : Stp} (hx : l[j]? = some x) (hu : isUse (rAt l j) x) : ∀ i, j < i → ⟨j, (rAt l j).cy x.tray.toNat, x.per⟩ ∈ usesTo l i := by
  intro i
  induction i with
  | zero => intro h; omega
  | succ i ih =>
    intro h
    rcases Nat.lt_succ_iff_lt_or_eq.1 h with q | q
    · rw [usesTo]; exact List.mem_append_left _ (ih q)
    · subst q
      rw [usesTo_yes hx hu]; simp
theorem bys_get {l : List Stp} : ∀ (l' : List Stp) (R : Rm) (j : Nat) (x : Stp), l'[j]? = some x → (bysF R l')[j]? = some (byS (rmF R (l'.take j)) x)
  | [], _, _, _, h => by cases h
  | s :: l', R, 0, x, h => by
    obtain rfl : s = x := by simpa using h
    rfl
  | s :: l', R, j + 1, x, h => by
    have := bys_get (l := l) l' (nxt R s) j x (by simpa using h)
    simpa [bysF, rmF] using this
/-- No use among the first k is at a. -/
def noAt (us : List Us) (a : Int) (k : Nat) : Prop := ∀ j u, j < k → us[j]? = some u → u.at' ≠ a
theorem cycle_found {l : List Stp} {a : Int} {k : Nat} {u : Us} (hu : (uses l)[k]? = some u) (ha : u.at' = a) : cycleOf l a = u.cyc := by
  unfold uses at hu
  split at hu
  · rename_i hs
    obtain ⟨j, x, h1, h2, h3, h4⟩ := usesTo_mem (List.mem_of_getElem? hu)
    subst h4
    simp only at ha
    unfold cycleOf
    rw [if_pos ⟨hs, by omega, by omega⟩]
    have e : a.toNat = j := by omega
    rw [e, List.getD_eq_getElem?_getD, bys_get (l := l) l rm0 j x h2]
    simp only [Option.getD_some, byS]
    exact if_pos h3
  · cases hu
theorem cycle_none {l : List Stp} {a : Int} (h : noAt (uses l) a (uses l).length) : cycleOf l a = -1 := by
  unfold cycleOf
  split
  · rename_i hc
    obtain ⟨hs, h0, h1⟩ := hc
    have hj : a.toNat < l.length := by omega
    have hx := List.getElem?_eq_getElem hj
    rw [List.getD_eq_getElem?_getD, bys_get (l := l) l rm0 a.toNat _ hx]
    simp only [Option.getD_some, byS]
    by_cases hu : isUse (rAt l a.toNat) l[a.toNat]
    · exfalso
      have hm := usesTo_of hx hu l.length hj
      have hm2 := hm
      rw [show usesTo l l.length = uses l from by unfold uses; rw [if_pos hs]] at hm2
      obtain ⟨k, hk⟩ := List.getElem?_of_mem hm2
      exact h k _ (lt_of_get hk) hk (by simp only; omega)
    · exact if_neg hu
  · rfl
end Go.Proofs.Ytklgadaefngnnaa.Wa
