/-
  Operations that a law is handed.
-/
import Derived.Test.YtgedaobgomnflaaOm
namespace Go.Proofs.Ytgedaobgomnflaa
open Go.RowKit Go.WideShapes Va Oa
set_option linter.unusedVariables false

set_option maxRecDepth 100000 in
theorem fsOp : ∃ fs, Try.prog.underlying 25 = some (.struct fs) ∧ OpFields Try.prog fs := by
  refine ⟨_, Try.underlying25, fun k hk => ?_, ⟨_, 2, rfl, rfl, by kernel_rfl, Try.underlying23, Try.underlying2, by kernel_rfl⟩⟩
  match k, hk with
  | 0, _ => exact ⟨_, rfl, rfl, by kernel_rfl, Try.underlying2⟩
  | 1, _ => exact ⟨_, rfl, rfl, by kernel_rfl, Try.underlying2⟩
  | 2, _ => exact ⟨_, rfl, rfl, by kernel_rfl, Try.underlying2⟩
set_option maxRecDepth 100000 in
theorem ops_of_read {H : Type} {enc : TypeId × Value → H} {W : World} {sp : Nat → Bool} {hd : Bool} {ao : Option Addr} {n cap : Nat} {d : DataW H} {p : List MemPlace}
    (h : DataW.Trod enc Try.prog W 0 sp hd 22 (.slice ao n cap) d p) : ∃ l : List Opn, l.length = n ∧ n ≤ maxLen ∧ ORw W (.slice ao n cap) l ∧ ∀ x ∈ l, x.team.length ≤ maxLen := by
  obtain ⟨fs, h1, h2⟩ := fsOp
  exact ops_of_trod Try.underlying22 h1 (by kernel_rfl) h2 h
theorem array4 {α : Type} {cs : Array α} (h : cs.size = 4) : ∃ c0 c1 c2 c3, cs = #[c0, c1, c2, c3] := by
  obtain ⟨l⟩ := cs
  match l, h with
  | [c0, c1, c2, c3], _ => exact ⟨c0, c1, c2, c3, rfl⟩
set_option maxRecDepth 100000 in
theorem op_of_read {H : Type} {enc : TypeId × Value → H} {W : World} {sp : Nat → Bool} {hd : Bool} {r : Reach} {b0 : Nat} {v : Value} {d : DataW H} {p : List MemPlace}
    (hv : Value.okWide Try.prog W r b0 25 v) (h : DataW.Trod enc Try.prog W 0 sp hd 25 v d p) : ∃ (x : Opn) (ta : Option Addr) (tc : Nat), v = aO x (.slice ta x.team.length tc) ∧ x.team.length ≤ maxLen ∧ IRw W (.slice ta x.team.length tc) x.team := by
  obtain ⟨fs, hu, hfs⟩ := fsOp
  obtain ⟨cs, rfl, hsz⟩ := okWide_struct hu hv
  obtain ⟨c0, c1, c2, c3, rfl⟩ := array4 (hsz.trans (by kernel_rfl))
  obtain ⟨fuel, hf⟩ := h
  obtain ⟨o, tv, h1, h2, h3⟩ := op_of_trod hu hfs (by simp [Value.cells]) hf
  obtain ⟨ta, tc, rfl⟩ := h3.form
  simp [Value.cells] at h1
  obtain ⟨rfl, rfl, rfl, rfl⟩ := h1
  exact ⟨o, ta, tc, rfl, h2, h3⟩
end Go.Proofs.Ytgedaobgomnflaa
