/-
  Guards of an operation whose value hangs on a condition. No program in sight.
-/
import Derived.Test.YtgcpiinmcbdkmaaRn
namespace Go.Proofs.Ytgcpiinmcbdkmaa.Rg
open Go
set_option linter.all false

theorem wanted_c {ops : Array Oper} {o : Oper} {g d : Nat} {want p e : Bool} {b : Act} (hg : o.guard = some (g, want)) (hd : dstAt ops g = some d) (hq : b.tmps[d]? = some (cond p (.bool e) undef)) (h : (p && (e == want)) = true) : Region.wanted o (yielded ops b.tmps) = true := by
  simp only [Bool.and_eq_true, beq_iff_eq] at h
  obtain ⟨rfl, rfl⟩ := h
  exact wanted_of hg hd hq
theorem unwanted_c {ops : Array Oper} {o : Oper} {g d : Nat} {want p e : Bool} {b : Act} (hg : o.guard = some (g, want)) (hd : dstAt ops g = some d) (hq : b.tmps[d]? = some (cond p (.bool e) undef)) (h : (p && (e == want)) = false) : Region.wanted o (yielded ops b.tmps) = false := by
  unfold Region.wanted yielded
  unfold dstAt at hd
  rw [hg]
  simp only [hd, Option.bind_some, hq]
  cases p <;> cases e <;> cases want <;> first | rfl | cases h
theorem pc_l {p q : Bool} (h : (p && q) = true) : p = true := (Bool.and_eq_true _ _ ▸ h).1
theorem pc_r {e want : Bool} {p : Bool} (h : (p && (e == want)) = true) : e = want := by
  simp only [Bool.and_eq_true, beq_iff_eq] at h
  exact h.2
theorem cond_t {v : Value} {p : Bool} (h : p = true) : cond p v undef = v := by rw [h]; rfl
theorem cond_f {v : Value} {p : Bool} (h : p = false) : undef = cond p v undef := by rw [h]; rfl
theorem beq_dec (a b : Int) : (a == b) = decide (a = b) := by by_cases h : a = b <;> simp [h]
theorem bne_dec (a b : Int) : (a != b) = !decide (a = b) := by by_cases h : a = b <;> simp [h, bne]
end Go.Proofs.Ytgcpiinmcbdkmaa.Rg
