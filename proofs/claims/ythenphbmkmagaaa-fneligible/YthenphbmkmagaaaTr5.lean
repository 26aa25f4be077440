/-
  Right trials: the specification and the program.
-/
import Derived.Test.YthenphbmkmagaaaTr3
namespace Go.Proofs.Ythenphbmkmagaaa
open Go.RowKit Go.WideShapes Va Lb Tr
set_option linter.all false

theorem trial_no {x : Tl} (h : ¬ ((2 ≤ x.arms ∧ x.arms ≤ 5) ∧ (1 ≤ x.block ∧ x.block ≤ 20) ∧ x.block % x.arms = 0 ∧ x.coins.length ≤ 4096 ∧ (0 ≤ x.told ∧ x.told ≤ 1000) ∧ ∀ c ∈ x.coins, 0 ≤ c)) : trialB x = false := by
  cases hq : trialB x with
  | false => rfl
  | true => exact absurd (trialB_iff.1 hq) h
end Go.Proofs.Ythenphbmkmagaaa
