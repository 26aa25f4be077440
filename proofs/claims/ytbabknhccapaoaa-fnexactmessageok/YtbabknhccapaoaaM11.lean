/-
  Names of parts, both sides.
-/
import Derived.Test.YtbabknhccapaoaaT0
import Derived.Test.YtbabknhccapaoaaM10
import Derived.Laws.Strings
namespace Go.Proofs.Ytbabknhccapaoaa
open Go.RowKit Va Ms
set_option linter.all false

theorem idx_at (s : ByteArray) (i : Nat) (z : Int) (hz : z = i) (h : i < s.size) (w : World) : (Instr.index 9 (.string s) (.int .i64 z)).run Try.prog w = .ok (.int .u8 (nb s i)) w := by
  subst hz
  rw [run_index_string w 9 s .i64 (i : Int) Try.underlying9, dif_pos ⟨by omega, by omega⟩]
  have : s.get! i = s[i] := by
    show s.data[i]! = s.data[i]
    rw [getElem!_pos]
  simp [nb, this]

set_option maxHeartbeats 400000 in
theorem sgreat_any (n : Nat) (w : World) : Calls Try.prog 48 #[.int .u8 (n : Int)] w fun e w' => e = .returned (.bool (grB n)) ∧ w = w' := by
  unfold grB
  by_cases h1 : 65 ≤ n
  · have h1i : ((65 : Int) ≤ (n : Int)) := by omega
    by_cases h2 : n ≤ 90
    · have h2i : ((n : Int) ≤ (90 : Int)) := by omega
      rw [decide_eq_true h1, decide_eq_true h2]
      clear h1 h2
      go_enter Try.func48, Try.ntmps48
      go_wp2
      all_goals (go_ret; exact ⟨by first | rfl | exact ret_boolT (by first | (simp; done) | (simp; omega) | (simp_all; done) | (simp_all; omega) | (rw [Bool.eq_iff_iff]; simp; omega) | (rw [Bool.eq_iff_iff]; simp_all; omega)), rfl⟩)
    · have h2i : ¬ ((n : Int) ≤ (90 : Int)) := by omega
      rw [decide_eq_true h1, decide_eq_false h2]
      clear h1 h2
      go_enter Try.func48, Try.ntmps48
      go_wp2
      all_goals (go_ret; exact ⟨by first | rfl | exact ret_boolT (by first | (simp; done) | (simp; omega) | (simp_all; done) | (simp_all; omega) | (rw [Bool.eq_iff_iff]; simp; omega) | (rw [Bool.eq_iff_iff]; simp_all; omega)), rfl⟩)
  · have h1i : ¬ ((65 : Int) ≤ (n : Int)) := by omega
    rw [decide_eq_false h1, Bool.false_and]
    clear h1
    go_enter Try.func48, Try.ntmps48
    go_wp2
    all_goals (go_ret; exact ⟨by first | rfl | exact ret_boolT (by first | (simp; done) | (simp; omega) | (simp_all; done) | (simp_all; omega) | (rw [Bool.eq_iff_iff]; simp; omega) | (rw [Bool.eq_iff_iff]; simp_all; omega)), rfl⟩)

set_option maxHeartbeats 400000 in
theorem igreat_any (n : Nat) (w : World) : Calls Try.prog 50 #[.int .u8 (n : Int)] w fun e w' => e = .returned (.bool (grB n)) ∧ w = w' := by
  unfold grB
  by_cases h1 : 65 ≤ n
  · have h1i : ((65 : Int) ≤ (n : Int)) := by omega
    by_cases h2 : n ≤ 90
    · have h2i : ((n : Int) ≤ (90 : Int)) := by omega
      rw [decide_eq_true h1, decide_eq_true h2]
      clear h1 h2
      go_enter Try.func50, Try.ntmps50
      go_wp2
      all_goals (go_ret; exact ⟨by first | rfl | exact ret_boolT (by first | (simp; done) | (simp; omega) | (simp_all; done) | (simp_all; omega) | (rw [Bool.eq_iff_iff]; simp; omega) | (rw [Bool.eq_iff_iff]; simp_all; omega)), rfl⟩)
    · have h2i : ¬ ((n : Int) ≤ (90 : Int)) := by omega
      rw [decide_eq_true h1, decide_eq_false h2]
      clear h1 h2
      go_enter Try.func50, Try.ntmps50
      go_wp2
      all_goals (go_ret; exact ⟨by first | rfl | exact ret_boolT (by first | (simp; done) | (simp; omega) | (simp_all; done) | (simp_all; omega) | (rw [Bool.eq_iff_iff]; simp; omega) | (rw [Bool.eq_iff_iff]; simp_all; omega)), rfl⟩)
  · have h1i : ¬ ((65 : Int) ≤ (n : Int)) := by omega
    rw [decide_eq_false h1, Bool.false_and]
    clear h1
    go_enter Try.func50, Try.ntmps50
    go_wp2
    all_goals (go_ret; exact ⟨by first | rfl | exact ret_boolT (by first | (simp; done) | (simp; omega) | (simp_all; done) | (simp_all; omega) | (rw [Bool.eq_iff_iff]; simp; omega) | (rw [Bool.eq_iff_iff]; simp_all; omega)), rfl⟩)

set_option maxHeartbeats 400000 in
theorem idigit_any (n : Nat) (w : World) : Calls Try.prog 51 #[.int .u8 (n : Int)] w fun e w' => e = .returned (.bool (dgB n)) ∧ w = w' := by
  unfold dgB
  by_cases h1 : 48 ≤ n
  · have h1i : ((48 : Int) ≤ (n : Int)) := by omega
    by_cases h2 : n ≤ 57
    · have h2i : ((n : Int) ≤ (57 : Int)) := by omega
      rw [decide_eq_true h1, decide_eq_true h2]
      clear h1 h2
      go_enter Try.func51, Try.ntmps51
      go_wp2
      all_goals (go_ret; exact ⟨by first | rfl | exact ret_boolT (by first | (simp; done) | (simp; omega) | (simp_all; done) | (simp_all; omega) | (rw [Bool.eq_iff_iff]; simp; omega) | (rw [Bool.eq_iff_iff]; simp_all; omega)), rfl⟩)
    · have h2i : ¬ ((n : Int) ≤ (57 : Int)) := by omega
      rw [decide_eq_true h1, decide_eq_false h2]
      clear h1 h2
      go_enter Try.func51, Try.ntmps51
      go_wp2
      all_goals (go_ret; exact ⟨by first | rfl | exact ret_boolT (by first | (simp; done) | (simp; omega) | (simp_all; done) | (simp_all; omega) | (rw [Bool.eq_iff_iff]; simp; omega) | (rw [Bool.eq_iff_iff]; simp_all; omega)), rfl⟩)
  · have h1i : ¬ ((48 : Int) ≤ (n : Int)) := by omega
    rw [decide_eq_false h1, Bool.false_and]
    clear h1
    go_enter Try.func51, Try.ntmps51
    go_wp2
    all_goals (go_ret; exact ⟨by first | rfl | exact ret_boolT (by first | (simp; done) | (simp; omega) | (simp_all; done) | (simp_all; omega) | (rw [Bool.eq_iff_iff]; simp; omega) | (rw [Bool.eq_iff_iff]; simp_all; omega)), rfl⟩)
end Go.Proofs.Ytbabknhccapaoaa
