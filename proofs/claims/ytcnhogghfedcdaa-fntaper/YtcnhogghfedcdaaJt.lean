/-
  A taper that is drawn.
-/
import Derived.Test.YtcnhogghfedcdaaJa
namespace Go.Proofs.Ytcnhogghfedcdaa
open Go.RowKit Va
set_option linter.unusedVariables false

set_option maxRecDepth 20000 in
set_option maxHeartbeats 4000000 in
theorem dtaper_any (ao : Option Addr) (cap : Nat) (bs : List Int) (w : World) (hb : Bytes w w.heap.size ao bs) (hl : bs.length ≤ 1048576) :
    Calls Try.prog 21 #[.slice ao bs.length cap] w fun e w' => ∃ f l n : Int, e = .returned (.tuple #[.int .i64 f, .int .i64 l, .int .i64 n]) ∧ Below w.heap.size w w' := by
  go_enter Try.func21, Try.ntmps21
  go_wp2_with fail
  refine (new_any ao cap bs w hb hl).mono ?_
  rintro e w0 ⟨rfl, hc0, hb0⟩
  have hgl := hc0.1
  have HW := hidden (fun W (hk : Keep w.heap.size w0 W) => hb0.trans (hk.below (Nat.le_refl _) hb0.size))
  clear hb0 hb
  go_wp2_with fail
  refine (below_any w.heap.size ao cap bs 60 _ hc0 (by omega)).mono ?_
  rintro e w1 ⟨x1, rfl, x10, x11, hc1, hk1⟩
  go_wp2_with fail
  refine (below_any w.heap.size ao cap bs 300 _ hc1 (by omega)).mono ?_
  rintro e w2 ⟨x2, rfl, x20, x21, hc2, hk2⟩
  go_wp2_with fail
  refine (below_any w.heap.size ao cap bs 12 _ hc2 (by omega)).mono ?_
  rintro e w3 ⟨x3, rfl, x30, x31, hc3, hk3⟩
  go_wp2_with fail
  refine (once_any w.heap.size ao cap bs 12 _ hc3 (by omega)).mono ?_
  rintro e w4 ⟨t4, rfl, hc4, hk4⟩
  have HC := hidden hc4
  have HK := hidden ((hk1.trans hk2).trans (hk3.trans hk4))
  clear hc0 hc1 hc2 hc3 hc4 hk1 hk2 hk3 hk4
  rcases t4 with _ | _
  · go_wp2_with fail
    go_ret3
    exact ⟨_, _, _, rfl, HW.out _ HK.out⟩
  · have hT := Tb.new (g := w.heap.size) (w := w4) [0, 1, 1000000000, (1 + x1 + x2 + 1)] HC.out.1
    have HCT := hidden (HC.out.alloc (.cells #[.int .i64 0, .int .i64 1, .int .i64 1000000000, .int .i64 (1 + x1 + x2 + 1)] 2))
    have HKT := hidden (HK.out.alloc (.cells #[.int .i64 0, .int .i64 1, .int .i64 1000000000, .int .i64 (1 + x1 + x2 + 1)] 2))
    have HT := hidden hT
    clear hT HC HK
    go_wp2_with fail
    refine (below_any w.heap.size ao cap bs 4 _ HCT.out (by omega)).mono ?_
    rintro e w5 ⟨a5, rfl, a50, a51, hc5, hk5⟩
    obtain ⟨k5, rfl⟩ := Int.eq_ofNat_of_zero_le a50
    have hkl5 : k5 < 4 := by omega
    have hcell5 := (HT.out.keep hk5).at (k := k5) hkl5
    generalize hz5 : ([0, 1, 1000000000, (1 + x1 + x2 + 1)] : List Int)[k5] = z5 at hcell5
    have HC := hidden hc5
    have HK := hidden (HKT.out.trans hk5)
    clear hz5 HT HKT HCT hc5 hk5
    have hT := Tb.new (g := w.heap.size) (w := w5) [(1 + x1 + x2), 1000000000, 1000000001] HC.out.1
    have HCT := hidden (HC.out.alloc (.cells #[.int .i64 (1 + x1 + x2), .int .i64 1000000000, .int .i64 1000000001] 2))
    have HKT := hidden (HK.out.alloc (.cells #[.int .i64 (1 + x1 + x2), .int .i64 1000000000, .int .i64 1000000001] 2))
    have HT := hidden hT
    clear hT HC HK
    go_wp2_with fail
    refine (below_any w.heap.size ao cap bs 3 _ HCT.out (by omega)).mono ?_
    rintro e w6 ⟨a6, rfl, a60, a61, hc6, hk6⟩
    obtain ⟨k6, rfl⟩ := Int.eq_ofNat_of_zero_le a60
    have hkl6 : k6 < 3 := by omega
    have hcell6 := (HT.out.keep hk6).at (k := k6) hkl6
    generalize hz6 : ([(1 + x1 + x2), 1000000000, 1000000001] : List Int)[k6] = z6 at hcell6
    have HC := hidden hc6
    have HK := hidden (HKT.out.trans hk6)
    clear hz6 HT HKT HCT hc6 hk6
    have hT := Tb.new (g := w.heap.size) (w := w6) [1, 2, 100, 101] HC.out.1
    have HCT := hidden (HC.out.alloc (.cells #[.int .i64 1, .int .i64 2, .int .i64 100, .int .i64 101] 2))
    have HKT := hidden (HK.out.alloc (.cells #[.int .i64 1, .int .i64 2, .int .i64 100, .int .i64 101] 2))
    have HT := hidden hT
    clear hT HC HK
    go_wp2_with fail
    refine (below_any w.heap.size ao cap bs 4 _ HCT.out (by omega)).mono ?_
    rintro e w7 ⟨a7, rfl, a70, a71, hc7, hk7⟩
    obtain ⟨k7, rfl⟩ := Int.eq_ofNat_of_zero_le a70
    have hkl7 : k7 < 4 := by omega
    have hcell7 := (HT.out.keep hk7).at (k := k7) hkl7
    generalize hz7 : ([1, 2, 100, 101] : List Int)[k7] = z7 at hcell7
    have HC := hidden hc7
    have HK := hidden (HKT.out.trans hk7)
    clear hz7 HT HKT HCT hc7 hk7
    go_wp2_with fail
    go_ret3
    exact ⟨_, _, _, rfl, HW.out _ HK.out⟩
end Go.Proofs.Ytcnhogghfedcdaa
