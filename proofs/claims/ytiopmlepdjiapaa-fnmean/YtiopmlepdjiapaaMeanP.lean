/-
  Means by worth: how many, as a float, is what counting by ones gives, up to 4096. Plain; no program.
-/
import Derived.Test.YtiopmlepdjiapaaFlo
namespace Go.Proofs.Ytiopmlepdjiapaa
open Fl

/-- One, as a float's bits. -/
def one : Nat := 4607182418800017408
/-- Those that were measured. -/
def meas (xs : List Nat) : List Nat := xs.filter (fun x => !isN x)
def sumW (ms : List Nat) : Option Nat := ms.foldl (fun a x => fop .add a (some x)) (some 0)
def cntW : Nat → Option Nat
  | 0 => some 0
  | k + 1 => fop .add (cntW k) (some one)
/-- The mean's worth. -/
def meanW (xs : List Nat) : Option Nat := if 4096 < xs.length then none else if (meas xs).length = 0 then none else fop .quo (sumW (meas xs)) (some (floatOfInt .f64 (((meas xs).length : Nat) : Int)))

theorem steps_ok : ((List.range 4096).all fun c => floatBits .add .f64 (floatOfInt .f64 (c : Int)) one == some (floatOfInt .f64 ((c + 1 : Nat) : Int))) = true := by kernel_rfl
theorem zero_not : ((List.range 4096).all fun c => !(FloatKind.f64.format.order (floatOfInt .f64 ((c + 1 : Nat) : Int)) 0 == some .eq)) = true := by kernel_rfl
theorem cnt_is (k : Nat) (h : k ≤ 4096) : cntW k = some (floatOfInt .f64 (k : Int)) := by
  induction k with
  | zero => rfl
  | succ k ih =>
    have e := List.all_eq_true.1 steps_ok k (List.mem_range.2 (by omega))
    simp only [beq_iff_eq] at e
    show fop .add (cntW k) (some one) = _
    rw [ih (by omega)]
    exact e
theorem cnt_pos (k : Nat) (h : k ≤ 4096) (h0 : 0 < k) : (FloatKind.f64.format.order (floatOfInt .f64 (k : Int)) 0 == some .eq) = false := by
  have e := List.all_eq_true.1 zero_not (k - 1) (List.mem_range.2 (by omega))
  have : k - 1 + 1 = k := by omega
  rw [this] at e
  simpa using e
theorem meas_le (xs : List Nat) : (meas xs).length ≤ xs.length := List.length_filter_le ..
theorem meas_snoc (xs : List Nat) (x : Nat) : meas (xs ++ [x]) = if isN x = true then meas xs else meas xs ++ [x] := by
  unfold meas; rw [List.filter_append]; cases h : isN x <;> simp [h]
theorem sumW_snoc (ms : List Nat) (x : Nat) : sumW (ms ++ [x]) = fop .add (sumW ms) (some x) := by simp [sumW, List.foldl_append]
theorem take_snoc {α : Type} (l : List α) (k : Nat) (x : α) (h : l[k]? = some x) : l.take (k + 1) = l.take k ++ [x] := by
  obtain ⟨hk, rfl⟩ := List.getElem?_eq_some_iff.1 h
  rw [List.take_succ_eq_append_getElem hk]
theorem cls_low {x : Nat} (h : isN x = false) : cls x = some x := by simp [cls, h]
theorem cls_of_some {x y : Nat} (h : cls x = some y) : x = y ∧ isN x = false := by
  unfold cls at h
  cases q : isN x <;> simp [q] at h
  exact ⟨h, rfl⟩

theorem quo_zero : floatBits .quo .f64 0 0 = none := by kernel_rfl
theorem ord_zero : FloatKind.f64.format.order 0 0 = some .eq := by kernel_rfl
theorem low_zero : isN 0 = false := by kernel_rfl
theorem low_one : isN one = false := by kernel_rfl
theorem nan_c : isN 9221120237041090561 = true := by kernel_rfl
end Go.Proofs.Ytiopmlepdjiapaa
