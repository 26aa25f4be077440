/-
  The two reckonings of the check digit (the program's and the specification's): each returns chk n.
-/
import Derived.Test.YtdnnenklkfkhcaaDoorRows
import Derived.Test.YtdnnenklkfkhcaaDoorLu
import Derived.WalkKit
import Derived.WalkSpells
import Derived.WalkLawsBesides
import Derived.BigQuiet
import Derived.Deep.QuietTactic
namespace Go.Proofs.YtdnnenklkfkhcaaDoor
open Go.RowKit Nb

theorem chk_of (n s : Int) (h0 : 0 ≤ n) (h1 : n ≤ 1000000000) (h : s = lu n true) : (10 - s % 10) % 10 = chk n := by
  unfold chk; rw [if_pos ⟨h0, h1⟩, h]
theorem ret_i64 {a b : Int} (h : a = b) : Ending.returned (.int .i64 a) = .returned (.int .i64 b) := by rw [h]

set_option maxHeartbeats 400000 in
theorem icheck_any (n : Int) (w : World) :
    Calls Tryd.prog 10 #[.int .i64 n] w fun e w' => e = .returned (.int .i64 (chk n)) ∧ ∃ k, w' = w.drewN k := by
  by_cases h0 : n < 0
  · have hc : -1 = chk n := by unfold chk; rw [if_neg (by omega)]
    have HC : Hid (-1 = chk n) := hc
    clear hc
    go_enter Tryd.func10, Tryd.ntmps10
    go_wp2
    go_ret
    exact ⟨ret_i64 HC.out, 0, rfl⟩
  by_cases h1 : n > 1000000000
  · have hc : -1 = chk n := by unfold chk; rw [if_neg (by omega)]
    have HC : Hid (-1 = chk n) := hc
    clear hc
    go_enter Tryd.func10, Tryd.ntmps10
    go_wp2
    go_ret
    exact ⟨ret_i64 HC.out, 0, rfl⟩
  have hT := lu_le n true (by omega)
  have hT0 := lu_nonneg n true (by omega)
  obtain ⟨T, hTe⟩ : ∃ T, lu n true = T := ⟨_, rfl⟩
  rw [hTe] at hT hT0
  have HT : Hid (lu n true = T) := hTe
  clear hTe
  go_enter Tryd.func10, Tryd.ntmps10
  go_wp2
  go_loopw [0, 3, 4] (fun a c e wr => (∃ k, wr = w.drewN k) ∧ ∃ (x s : Int) (ev : Bool), 0 ≤ x ∧ x ≤ n ∧ 0 ≤ s ∧ s ≤ T ∧ a = .int .i64 x ∧ c = .int .i64 s ∧ e = .bool ev ∧ Hid (s + lu x ev = T)) (fun a _ _ _ => (intOf a).toNat)
  case atStart => exact ⟨⟨0, rfl⟩, n, 0, true, by omega, by omega, by omega, by omega, rfl, rfl, rfl, by rw [Hid, Int.zero_add]; exact HT.out⟩
  case round =>
    obtain ⟨⟨k, rfl⟩, x, s, ev, hx0, hx1, hs0, hs1, rfl, rfl, rfl, H⟩ := hrel
    by_cases hz : 0 < x
    · have hst := lu_step x ev hz
      have hl0 := lu_nonneg (x / 10) (!ev) (by omega)
      have hd0 := dg_nonneg ev (x % 10) (by omega)
      have HS : Hid (s + dg ev (x % 10) + lu (x / 10) (!ev) = T) := by have := H.out; rw [hst] at this; rw [Hid]; omega
      have hb : s + dg ev (x % 10) ≤ T := by have := HS.out; omega
      clear hst
      have m0 : 0 ≤ x % 10 := by omega
      have m1 : x % 10 ≤ 9 := by omega
      cases ev
      · simp only [dg, Bool.false_eq_true, if_false] at hb hd0 HS
        go_wp2
        go_roundw
        case rel => exact ⟨⟨k, rfl⟩, x / 10, s + x % 10, true, by omega, by omega, by omega, hb, rfl, rfl, rfl, HS⟩
        case measure => simp [intOf]; omega
      · simp only [dg, if_true] at hb hd0 HS
        go_wp2
        go_roundw
        case rel => exact ⟨⟨k, rfl⟩, x / 10, s + (2 * (x % 10) / 10 + 2 * (x % 10) % 10), false, by omega, by omega, by omega, hb, rfl, by trivial, rfl, HS⟩
        case measure => simp [intOf]; omega
    · have hx : x = 0 := by omega
      subst hx
      have hsT : s = T := by have := H.out; rw [lu_zero] at this; omega
      have HC : Hid (-(s % 10) % 10 = chk n) := by
        have := chk_of n s (by omega) (by omega) (by rw [hsT]; exact HT.out.symm)
        rw [Hid]; omega
      clear hsT
      go_wp2
      go_ret
      exact ⟨ret_i64 HC.out, k, rfl⟩

end Go.Proofs.YtdnnenklkfkhcaaDoor
