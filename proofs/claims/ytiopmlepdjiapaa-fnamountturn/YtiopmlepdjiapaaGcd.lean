/-
  The two reckonings of the greatest common divisor (the program's and the specification's): each returns gc a b, for a and b not below 0.
-/
import Derived.Test.YtiopmlepdjiapaaRows
import Derived.Test.YtiopmlepdjiapaaPlain
import Derived.WalkKit
import Derived.WalkSpells
import Derived.WalkLawsBesides
import Derived.BigQuiet
import Derived.Deep.QuietTactic
namespace Go.Proofs.Ytiopmlepdjiapaa
open Go.RowKit Am

theorem ret_int {k : IntKind} {a b : Int} (h : a = b) : Ending.returned (.int k a) = .returned (.int k b) := by rw [h]
theorem ret_bool {a b : Bool} (h : a = b) : Ending.returned (.bool a) = .returned (.bool b) := by rw [h]

set_option maxHeartbeats 400000 in
theorem abs_any (a : Int) (w : World) (ha : 0 ≤ a) :
    Calls Try.prog 45 #[.int .i64 a] w fun e w' => e = .returned (.int .i64 a) ∧ w' = w := by
  have h : ¬ a < 0 := by omega
  go_enter Try.func45, Try.ntmps45
  go_wp2
  go_ret
  exact ⟨rfl, rfl⟩

set_option maxHeartbeats 400000 in
theorem sgcd_any (a b : Int) (w : World) (ha : 0 ≤ a) (hb : 0 ≤ b) (la : a ≤ 4000000000000000000) (lb : b ≤ 4000000000000000000) :
    Calls Try.prog 33 #[.int .i64 a, .int .i64 b] w fun e w' => e = .returned (.int .i64 (gc a b)) ∧ w' = w := by
  go_enter Try.func33, Try.ntmps33
  go_wp2_with (go_at_call 45; refine (abs_any _ _ (by omega)).mono ?_; rintro e w' ⟨rfl, rfl⟩)
  go_loop [0, 1, 5] (fun s t _ => ∃ x y : Int, 0 ≤ x ∧ 0 ≤ y ∧ x ≤ 4000000000000000000 ∧ y ≤ 4000000000000000000 ∧ s = .int .i64 x ∧ t = .int .i64 y ∧ Hid (gc x y = gc a b)) (fun _ t _ => (intOf t).toNat)
  case atStart => exact ⟨a, b, ha, hb, la, lb, rfl, rfl, rfl⟩
  case round =>
    obtain ⟨x, y, hx, hy, lx, ly, rfl, rfl, H⟩ := hrel
    by_cases hz : y = 0
    · subst hz
      go_wp2
      go_ret
      exact ⟨ret_int (by rw [← H.out, gc_zero x hx]), rfl⟩
    · have h1 : (y == 0) = false := by simpa using hz
      have hpos : 0 < y := by omega
      have m0 : 0 ≤ x % y := Int.emod_nonneg _ hz
      have m1 : x % y < y := Int.emod_lt_of_pos _ hpos
      go_wp2
      go_round
      case rel => exact ⟨y, x % y, hy, m0, ly, by omega, rfl, rfl, (gc_step x y hx hpos).trans H⟩
      case measure => simp [intOf]; omega

set_option maxHeartbeats 400000 in
theorem igcd_any (a b : Int) (w : World) (ha : 0 ≤ a) (hb : 0 ≤ b) (la : a ≤ 4000000000000000000) (lb : b ≤ 4000000000000000000) :
    Calls Try.prog 29 #[.int .i64 a, .int .i64 b] w fun e w' => e = .returned (.int .i64 (gc a b)) ∧ ∃ n, w' = w.drewN n := by
  go_enter Try.func29, Try.ntmps29
  go_wp2
  go_loopw [0, 1] (fun s t wr => (∃ n, wr = w.drewN n) ∧ ∃ x y : Int, 0 ≤ x ∧ 0 ≤ y ∧ x ≤ 4000000000000000000 ∧ y ≤ 4000000000000000000 ∧ s = .int .i64 x ∧ t = .int .i64 y ∧ Hid (gc x y = gc a b)) (fun _ t _ => (intOf t).toNat)
  case atStart => exact ⟨⟨0, rfl⟩, a, b, ha, hb, la, lb, rfl, rfl, rfl⟩
  case round =>
    obtain ⟨⟨n, rfl⟩, x, y, hx, hy, lx, ly, rfl, rfl, H⟩ := hrel
    by_cases hz : y = 0
    · subst hz
      go_wp2
      go_ret
      exact ⟨ret_int (by rw [← H.out, gc_zero x hx]), n, rfl⟩
    · have h1 : (y == 0) = false := by simpa using hz
      have hpos : 0 < y := by omega
      have m0 : 0 ≤ x % y := Int.emod_nonneg _ hz
      have m1 : x % y < y := Int.emod_lt_of_pos _ hpos
      go_wp2
      go_quiet (fail)
      go_wp2
      go_roundw
      case rel => exact ⟨⟨n + nq, by rw [World.drewN_drewN]⟩, y, x % y, hy, m0, ly, by omega, rfl, rfl, (gc_step x y hx hpos).trans H⟩
      case measure => simp [intOf]; omega
end Go.Proofs.Ytiopmlepdjiapaa
