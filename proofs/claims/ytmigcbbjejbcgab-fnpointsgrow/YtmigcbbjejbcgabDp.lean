/-
  Plain facts: what is measured in addition; who is not awake.
-/
import Derived.Test.YtmigcbbjejbcgabVa
namespace Go.Proofs.Ytmigcbbjejbcgab.Va

theorem sumL_cons (x : Int) (l : List Int) : sumL (x :: l) = (if x < 0 then 0 else x) + sumL l := by simp [sumL]
theorem noneL_cons (x : Int) (l : List Int) : noneL (x :: l) = (if x < 0 then 1 else 0) + noneL l := by
  unfold noneL
  by_cases h : x < 0
  · rw [if_pos h]; simp [h]; omega
  · rw [if_neg h]; simp [h]
/-- The pulse measured in addition. -/
theorem pulse_more {v : Vt} (h : vOk v = true) (hu : v.u = -1) {m : Int} (h0 : 0 ≤ m) (h1 : m ≤ 400) :
    vOk { v with u := m } = true ∧ (psum v ≤ psum { v with u := m } ∧ psum { v with u := m } ≤ psum v + 3) ∧ pnone { v with u := m } = pnone v - 1 ∧ 1 ≤ urg { v with u := m } := by
  have hw : vOk { v with u := m } = true := by
    rw [vOk_iff] at h ⊢
    simp only
    omega
  have hb := up_bd m
  refine ⟨hw, ?_, ?_, urg_pos hw⟩
  · unfold psum
    rw [if_pos hw, if_pos h]
    simp only [six, sumL_cons, hu]
    have e1 : pt up (-1) = -1 := rfl
    have e2 : pt up m = up m := by unfold pt; rw [if_neg (by omega)]
    rw [e1, e2, if_pos (show (-1 : Int) < 0 by omega), if_neg (show ¬ up m < 0 by omega)]
    generalize sumL [] = q
    omega
  · unfold pnone
    rw [if_pos hw, if_pos h]
    simp only [six, noneL_cons, hu]
    have e1 : pt up (-1) = -1 := rfl
    have e2 : pt up m = up m := by unfold pt; rw [if_neg (by omega)]
    rw [e1, e2, if_pos (show (-1 : Int) < 0 by omega), if_neg (show ¬ up m < 0 by omega)]
    omega
/-- Somebody who is not awake. -/
theorem asleep {v : Vt} (h : vOk v = true) : vOk { v with a := 0 } = true ∧ 1 ≤ urg { v with a := 0 } ∧ urg { v with a := 0 } ≤ 2 := by
  have hw : vOk { v with a := 0 } = true := by
    rw [vOk_iff] at h ⊢
    simp only
    omega
  refine ⟨hw, urg_pos hw, ?_⟩
  have h3 : pthree { v with a := 0 } = true := by
    unfold pthree
    rw [if_pos hw]
    simp [six, threeL, pt, ap]
  unfold urg
  rw [if_pos hw]
  split
  · omega
  · rw [if_pos (Or.inr h3)]; omega
theorem look_asleep {v : Vt} {t : Int} (h : 0 ≤ Va.look v t) : (0 ≤ t ∧ t ≤ 10000000) ∧ t ≤ Va.look v t ∧ Va.look v t ≤ 10000000 ∧ urg { v with a := 0 } ≤ 2 ∧ ((t ≤ Va.look { v with a := 0 } t ∧ Va.look { v with a := 0 } t ≤ t + 30) ∨ (Va.look { v with a := 0 } t = -1 ∧ 10000000 < t + 30)) := by
  unfold Va.look at h ⊢
  by_cases q : (vOk v && tmv t) = true
  · rw [if_pos q] at h
    rw [Bool.and_eq_true] at q
    obtain ⟨q1, q2⟩ := q
    obtain ⟨a1, a2, a3⟩ := asleep q1
    have tb := tmv_iff.1 q2
    have mb := mtl_bd (urg v)
    have w2 : (vOk { v with a := 0 } && tmv t) = true := by rw [a1, q2]; rfl
    rw [if_pos w2, if_pos (show (vOk v && tmv t) = true by rw [q1, q2]; rfl)]
    by_cases r : tmv (t + mtl (urg v)) = true
    · rw [if_pos r] at h ⊢
      have rb := tmv_iff.1 r
      refine ⟨tb, by omega, by omega, a3, ?_⟩
      have m2 : mtl (urg { v with a := 0 }) = 0 ∨ mtl (urg { v with a := 0 }) = 30 := by
        rcases (show urg { v with a := 0 } = 1 ∨ urg { v with a := 0 } = 2 by omega) with e | e <;> rw [e]
        · exact Or.inl rfl
        · exact Or.inr rfl
      by_cases r2 : tmv (t + mtl (urg { v with a := 0 })) = true
      · rw [if_pos r2]
        left
        omega
      · rw [if_neg r2]
        right
        refine ⟨rfl, ?_⟩
        rw [tmv_iff] at r2
        omega
    · rw [if_neg r] at h
      omega
  · rw [if_neg q] at h
    omega
end Go.Proofs.Ytmigcbbjejbcgab.Va
