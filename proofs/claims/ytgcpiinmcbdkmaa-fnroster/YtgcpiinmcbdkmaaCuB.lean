/-
  What is drawn of a cursor: numbers below a bound, from a bound to another, once in so many.
-/
import Derived.Test.YtgcpiinmcbdkmaaCuA
namespace Go.Proofs.Ytgcpiinmcbdkmaa
open Go.RowKit

set_option maxHeartbeats 1000000 in
theorem below_any (g : Nat) (ao : Option Addr) (cap : Nat) (bs : List Int) (n : Int) (w : World) (hc : Cur w g ao cap bs) (hn : 0 < n) :
    Calls Try.prog 39 #[.pointer (some ⟨g, 0, none⟩), .int .i64 n] w fun e w' => ∃ x : Int, e = .returned (.int .i64 x) ∧ 0 ≤ x ∧ x < n ∧ Cur w' g ao cap bs ∧ Keep g w w' := by
  by_cases h256 : n ≤ 256
  · go_enter Try.func39, Try.ntmps39
    go_wp2_with fail
    refine (byte_any g ao cap bs _ hc).mono ?_
    rintro e w1 ⟨x, rfl, hx0, hx1, hc1, hk1⟩
    go_wp2_with fail
    go_ret
    exact ⟨_, rfl, Int.emod_nonneg _ (by omega), Int.emod_lt_of_pos _ hn, hc1, hk1⟩
  · go_enter Try.func39, Try.ntmps39
    go_wp2_with fail
    refine (byte_any g ao cap bs _ hc).mono ?_
    rintro e w1 ⟨x, rfl, hx0, hx1, hc1, hk1⟩
    go_wp2_with fail
    refine (byte_any g ao cap bs _ hc1).mono ?_
    rintro e w2 ⟨y, rfl, hy0, hy1, hc2, hk2⟩
    go_wp2_with fail
    refine (byte_any g ao cap bs _ hc2).mono ?_
    rintro e w3 ⟨z, rfl, hz0, hz1, hc3, hk3⟩
    go_wp2_with fail
    refine (byte_any g ao cap bs _ hc3).mono ?_
    rintro e w4 ⟨v, rfl, hv0, hv1, hc4, hk4⟩
    go_wp2_with fail
    go_ret
    exact ⟨_, rfl, Int.emod_nonneg _ (by omega), Int.emod_lt_of_pos _ hn, hc4, ((hk1.trans hk2).trans hk3).trans hk4⟩

theorem once_any (g : Nat) (ao : Option Addr) (cap : Nat) (bs : List Int) (n : Int) (w : World) (hc : Cur w g ao cap bs) (hn : 0 < n) :
    Calls Try.prog 40 #[.pointer (some ⟨g, 0, none⟩), .int .i64 n] w fun e w' => ∃ t : Bool, e = .returned (.bool t) ∧ Cur w' g ao cap bs ∧ Keep g w w' := by
  go_enter Try.func40, Try.ntmps40
  go_wp2_with fail
  refine (below_any g ao cap bs n _ hc hn).mono ?_
  rintro e w1 ⟨x, rfl, hx0, hx1, hc1, hk1⟩
  go_wp2_with fail
  go_ret
  exact ⟨_, rfl, hc1, hk1⟩

theorem from_any (g : Nat) (ao : Option Addr) (cap : Nat) (bs : List Int) (lo hi : Int) (w : World) (hc : Cur w g ao cap bs) (h1 : -1000000 ≤ lo) (h2 : lo ≤ hi) (h3 : hi ≤ 1000000) :
    Calls Try.prog 117 #[.pointer (some ⟨g, 0, none⟩), .int .i64 lo, .int .i64 hi] w fun e w' => ∃ x : Int, e = .returned (.int .i64 x) ∧ lo ≤ x ∧ x ≤ hi ∧ Cur w' g ao cap bs ∧ Keep g w w' := by
  go_enter Try.func117, Try.ntmps117
  go_wp2_with fail
  refine (below_any g ao cap bs _ _ hc (by omega)).mono ?_
  rintro e w1 ⟨x, rfl, hx0, hx1, hc1, hk1⟩
  go_wp2_with fail
  go_ret
  exact ⟨_, rfl, by omega, by omega, hc1, hk1⟩
end Go.Proofs.Ytgcpiinmcbdkmaa
