/-
  The first rule that adds, and what comes then; no Go in sight.
-/
import Derived.Test.YtldggndhdilncaaT49p
namespace Go.Proofs.Ytldggndhdilncaa
open Va Lb
set_option linter.all false

theorem step_at {rs : List Rx} {vs : List Vl} {L : List Int} {i : Nat} {x : Rx} (h : ∀ r ∈ rs.take i, fires vs L r = false) (hx : rs[i]? = some x) (hf : fires vs L x = true) : stepR rs vs L = some x.th := by
  have hlt := get_ltL hx
  have e : rs[i]'hlt = x := by have := List.getElem?_eq_getElem hlt; rw [hx] at this; exact (Option.some.inj this).symm
  unfold stepR
  have k : rs.find? (fires vs L) = some x := by
    conv => lhs; rw [← List.take_append_drop i rs]
    rw [List.find?_append, List.find?_eq_none.2 (fun r hr => by rw [h r hr]; simp), Option.none_or, List.drop_eq_getElem_cons hlt, e, List.find?_cons, hf]
  rw [k]
  rfl
theorem step_none {rs : List Rx} {vs : List Vl} {L : List Int} (h : ∀ r ∈ rs, fires vs L r = false) : stepR rs vs L = none := by
  unfold stepR
  rw [List.find?_eq_none.2 (fun r hr => by rw [h r hr]; simp)]
  rfl
theorem grow_go {rs : List Rx} {vs : List Vl} {L O : List Int} {m : Nat} {t : Int} (hr : RxOk rs) (hA : Apt L) (hO : O = growR rs vs m L) (hm : 100 ≤ L.length + m) (hs : stepR rs vs L = some t) : O = growR rs vs (m - 1) (L ++ [t]) ∧ Apt (L ++ [t]) ∧ 100 ≤ (L ++ [t]).length + (m - 1) ∧ L.length < 100 := by
  have h1 := apt_add hA (step_tst hr hs).1 (step_tst hr hs).2
  have h2 := apt_len h1
  rw [List.length_append, List.length_singleton] at h2
  obtain ⟨k, rfl⟩ : ∃ k, m = k + 1 := ⟨m - 1, by omega⟩
  refine ⟨?_, h1, by rw [List.length_append, List.length_singleton]; omega, by omega⟩
  rw [hO, growR, hs]
  rfl
theorem fire_next {rs : List Rx} {vs : List Vl} {L : List Int} {i : Nat} {x : Rx} (h : ∀ r ∈ rs.take i, fires vs L r = false) (hx : rs[i]? = some x) (hf : fires vs L x = false) : ∀ r ∈ rs.take (i + 1), fires vs L r = false := by
  intro r hr
  rw [List.take_succ, hx] at hr
  rcases List.mem_append.1 hr with h1 | h1
  · exact h r h1
  · rw [List.mem_singleton.1 h1]; exact hf
theorem fires_eq {vs : List Vl} {L : List Int} {t xlo xhi xth : Int} {A : Bool} {B : Bool} (hc : calls1 vs ⟨t, xlo, xhi, xth⟩ = (A && B)) : (((has L t && !has L xth) && A) && B) = fires vs L ⟨t, xlo, xhi, xth⟩ := by
  have e1 : ∀ z, has L z = decide (z ∈ L) := fun z => by rw [Bool.eq_iff_iff, has_iff, decide_eq_true_iff]
  unfold fires
  rw [hc, e1, e1]
  cases decide (t ∈ L) <;> cases decide (xth ∈ L) <;> cases A <;> cases B <;> rfl
def slen (v : Value) : Nat := match v with | .slice _ n _ => n | _ => 0
end Go.Proofs.Ytldggndhdilncaa
