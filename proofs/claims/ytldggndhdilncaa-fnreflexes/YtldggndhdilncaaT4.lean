/-
  Share: what is right; the specification and the program.
-/
import Derived.Test.YtldggndhdilncaaT2
namespace Go.Proofs.Ytldggndhdilncaa
open Go.RowKit Va Lb
set_option linter.all false

set_option maxRecDepth 20000 in
set_option maxHeartbeats 1000000 in
theorem shas_any (ao : Option Addr) (n cap : Nat) (l : List Int) (x : Int) (w : World) (h : VRw 1 cvI w (.slice ao n cap) l) (hn : l.length ≤ 1048576) :
    Calls Try.prog 21 #[.slice ao n cap, .int .i64 x] w fun e w' => e = .returned (.bool (has l x)) ∧ w' = w := by
  obtain rfl := h.len
  have HH := hidden h
  clear h
  go_enter Try.func21, Try.ntmps21
  go_wp2_with fail
  go_loopw [5] (fun iv wr => ∃ i : Nat, i ≤ l.length ∧ iv = .int .i64 i ∧ wr = w ∧ Hid (has (l.take i) x = false)) (fun iv _ => l.length - (intOf iv).toNat)
  case atStart => exact ⟨0, Nat.zero_le _, rfl, rfl, rfl⟩
  case round =>
    obtain ⟨i, hi, rfl, rfl, hok⟩ := hrel
    by_cases hlt : i < l.length
    · have hlti : (i : Int) < (l.length : Int) := by omega
      obtain ⟨y, hy⟩ := some_of l i hlt
      obtain ⟨g, off, rfl, hg, c0⟩ := vint_cell HH.out hy
      have HX := hidden hy
      clear hy
      by_cases hq : x = y
      · have HY : Hid (has l x = true) := by rw [hq]; exact has_true HX.out
        subst hq
        go_wp2_with fail
        go_ret
        exact ⟨by rw [HY.out]; rfl, rfl⟩
      · have HN : Hid (has (l.take (i + 1)) x = false) := has_take hok.out HX.out hq
        have hq2 : ¬ y = x := fun e => hq e.symm
        go_wp2_with fail
        go_roundw
        case rel => exact ⟨i + 1, by omega, rfl, by simp, HN⟩
        case measure => simp [intOf]; omega
    · have hlti : ¬ (i : Int) < (l.length : Int) := by omega
      have hil : i = l.length := by omega
      subst hil
      go_wp2_with fail
      go_ret
      exact ⟨by have := hok.out; rw [List.take_length] at this; rw [this]; rfl, rfl⟩


set_option maxHeartbeats 400000 in
theorem itest_any (x : Int) (w : World) : Calls Try.prog 23 #[.int .i64 x] w fun e w' => e = .returned (.bool (rng x 0 99)) ∧ w = w' := by
  unfold rng
  go_enter Try.func23, Try.ntmps23
  go_wp2
  all_goals (go_ret; exact ⟨ret_boolT (by first | (simp; done) | (simp; omega) | (simp_all; done) | (simp_all; omega) | (rw [Bool.eq_iff_iff]; simp; omega) | (rw [Bool.eq_iff_iff]; simp_all; omega)), rfl⟩)
end Go.Proofs.Ytldggndhdilncaa
