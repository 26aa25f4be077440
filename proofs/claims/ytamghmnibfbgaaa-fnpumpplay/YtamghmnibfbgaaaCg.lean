/-
  Plain: each act of the program is the document's.
-/
import Derived.Test.YtamghmnibfbgaaaCc
namespace Go.Proofs.Ytamghmnibfbgaaa
open Va Ba
set_option linter.unusedVariables false

section
variable {p : Pm} {n : Int}
theorem act_n {k n : Int} (ha : actOk ⟨k, n⟩ = true) (hk : k = 1 ∨ k = 7 ∨ k = 10) : 0 ≤ n ∧ n ≤ 100000 := by
  simp only [actOk, Bool.and_eq_true] at ha
  have h2 := ha.2
  rcases hk with rfl | rfl | rfl <;> simp [counts] at h2 <;> exact rng_iff.1 h2
theorem act_k {k n : Int} (ha : actOk ⟨k, n⟩ = true) : 1 ≤ k ∧ k ≤ 10 := by
  simp only [actOk, Bool.and_eq_true] at ha
  exact rng_iff.1 ha.1
theorem step1 (R : Right p) (ha : actOk ⟨1, n⟩ = true) : Ba.step p ⟨1, n⟩ = xSet p n := by
  have hs := R.st
  have hl : limOk p.lim = true := limOk_iff.2 R.lim
  rw [Ba.step, if_pos ha]
  by_cases h : p.st = 3 ∨ p.st = 5
  · rw [if_neg (by simp [forK]; omega), xSet, if_pos h]
  · rw [if_pos (by simp [forK]; omega), xSet, if_neg h]
    simp only [doK, if_true]
    by_cases z : n = 0
    · subst z
      rw [if_pos (.inl rfl), if_pos (may_zero _)]
    · rw [may_hard hl z]
      by_cases hh : hard p.lim n = false
      · rw [if_pos (.inr hh), if_pos hh]
      · rw [if_neg (by simp [z, hh]), if_neg hh]
theorem step2 (R : Right p) (ha : actOk ⟨2, n⟩ = true) : Ba.step p ⟨2, n⟩ = xConfirm p n := by
  rw [Ba.step, if_pos ha]
  by_cases h : p.asked = 0
  · rw [if_neg (by simp [forK, h]), xConfirm, if_pos h]
  · rw [if_pos (by simp [forK, h]), xConfirm, if_neg h]
    have h1 : p.st ≠ 1 := fun z => h (R.off z).2
    simp [doK, h1]
theorem step3 (R : Right p) (ha : actOk ⟨3, n⟩ = true) : Ba.step p ⟨3, n⟩ = xStart p n := by
  have hr : 0 ≤ p.rate := by have h1 := R.lim; have h2 := R.rate; omega
  rw [Ba.step, if_pos ha]
  by_cases h : (p.st ≠ 2 ∧ p.st ≠ 4) ∨ p.rate = 0
  · rw [xStart, if_pos h, if_neg]
    simp [forK]
    have h4 := R.hold
    rcases h with ⟨h1, h2⟩ | h
    · exact ⟨fun z => absurd z h1, h2⟩
    · exact ⟨fun _ => by omega, fun z => by have := h4 z; omega⟩
  · rw [xStart, if_neg h, if_pos]
    · simp [doK]
    · simp [forK]
      omega
theorem step4 (R : Right p) (ha : actOk ⟨4, n⟩ = true) : Ba.step p ⟨4, n⟩ = xHold p n := by
  rw [Ba.step, if_pos ha]
  by_cases h : p.st = 3
  · rw [if_pos (by simp [forK, h]), xHold, if_neg (by simp [h])]
    simp [doK]
  · rw [if_neg (by simp [forK, h]), xHold, if_pos h]
theorem step5 (R : Right p) (ha : actOk ⟨5, n⟩ = true) : Ba.step p ⟨5, n⟩ = xOpen p n := by
  rw [Ba.step, if_pos ha, if_pos (by simp [forK])]
  simp [doK, xOpen]
theorem step6 (R : Right p) (ha : actOk ⟨6, n⟩ = true) : Ba.step p ⟨6, n⟩ = xClose p n := by
  rw [Ba.step, if_pos ha, if_pos (by simp [forK])]
  simp [doK, xClose]
theorem step7 (R : Right p) (ha : actOk ⟨7, n⟩ = true) : Ba.step p ⟨7, n⟩ = xTick p n := by
  rw [Ba.step, if_pos ha]
  by_cases h : p.st = 3
  · rw [if_pos (by simp [forK, h]), xTick, if_neg (by simp [h])]
    simp [doK]
  · rw [if_neg (by simp [forK, h]), xTick, if_pos h]
theorem step8 (R : Right p) (ha : actOk ⟨8, n⟩ = true) : Ba.step p ⟨8, n⟩ = xReset p n := by
  rw [Ba.step, if_pos ha]
  by_cases h : p.st = 5
  · rw [if_pos (by simp [forK, h]), xReset, if_neg (by simp [h])]
    simp [doK]
  · rw [if_neg (by simp [forK, h]), xReset, if_pos h]
theorem step9 (R : Right p) (ha : actOk ⟨9, n⟩ = true) : Ba.step p ⟨9, n⟩ = xOff p n := by
  rw [Ba.step, if_pos ha]
  by_cases h : p.st = 3
  · rw [if_neg (by simp [forK, h]), xOff, if_pos h]
  · rw [if_pos (by simp [forK, h]), xOff, if_neg h]
    simp [doK]
theorem step10 (R : Right p) (ha : actOk ⟨10, n⟩ = true) : Ba.step p ⟨10, n⟩ = xFill p n := by
  rw [Ba.step, if_pos ha]
  by_cases h : p.st = 3
  · rw [if_neg (by simp [forK, h]), xFill, if_pos h]
  · rw [if_pos (by simp [forK, h]), xFill, if_neg h]
    simp [doK]
end
end Go.Proofs.Ytamghmnibfbgaaa
