/-
  A queue and a time drawn of bytes.
-/
import Derived.Test.YtcfghnffacdekabSt
namespace Go.Proofs.Ytcfghnffacdekab
open Go.RowKit Va
set_option linter.unusedVariables false

set_option maxRecDepth 20000 in
set_option maxHeartbeats 4000000 in
theorem dso_any (ao : Option Addr) (cap : Nat) (bs : List Int) (w : World) (hb : Bytes w w.heap.size ao bs) (hl : bs.length ≤ 1048576) :
    Calls Try.prog 28 #[.slice ao bs.length cap] w fun e w' => ∃ (ad : Option Addr) (c : Nat) (l : List Wt) (t : Int), e = .returned (.tuple #[.slice ad l.length c, .int .i64 t]) ∧ Rw 3 csW w' (.slice ad l.length c) l ∧ l.length ≤ 201 ∧ Below w.heap.size w w' := by
  go_enter Try.func28, Try.ntmps28
  go_wp2_with fail
  refine (new_any ao cap bs _ hb hl).mono ?_
  rintro e w1 ⟨rfl, hc1, hb1⟩
  go_wp2_with fail
  refine (dqueue_any _ ao cap bs _ hc1).mono ?_
  rintro e w2 ⟨v, l, rfl, hd2, hl2⟩
  obtain ⟨ad, c, rfl⟩ := hd2.form
  have HB : ∀ {W : World} {v : Value} {l : List Wt}, DQ w1 W w.heap.size ao cap bs v l → Below w.heap.size w W := fun h => hb1.trans (h.keep.below (Nat.le_refl _) hb1.size)
  clear hc1 hb1
  go_wp2_with fail
  refine (below_any _ ao cap bs 90 _ hd2.cur (by omega)).mono ?_
  rintro e w3 ⟨t0, rfl, ht0, ht1, hc3, hk3⟩
  have hd3 := hd2.call hc3 hk3
  clear hc3 hk3 hd2
  go_wp2_with fail
  refine (once_any _ ao cap bs 14 _ hd3.cur (by omega)).mono ?_
  rintro e w4 ⟨t4, rfl, hc4, hk4⟩
  have hd4 := hd3.call hc4 hk4
  clear hc4 hk4 hd3
  rcases t4 with _ | _
  · go_wp2_with fail
    refine bodyPost_ret (v := .tuple #[.slice ad l.length c, .int .i64 (5 * t0)]) ?_ rfl ⟨_, _, l, _, rfl, hd4.row, hl2, HB hd4⟩
    simp [results, Try.results28]
  · have hdT := hd4.alloc (.cells #[.int .i64 (-1), .int .i64 10000000, .int .i64 10000001, .int .i64 0] 2)
    have hg4 := hd4.cur.1
    go_wp2_with fail
    refine (below_any _ ao cap bs 4 _ hdT.cur (by omega)).mono ?_
    rintro e wC ⟨yC, rfl, hyA, hyB, hcC, hkC⟩
    obtain ⟨kk, rfl⟩ := Int.eq_ofNat_of_zero_le hyA
    have hkk : kk < 4 := by omega
    obtain ⟨z, hz⟩ := tab_at [-1, 10000000, 10000001, 0] w4 wC _ _ hkC hg4 kk hkk
    have hdC := hdT.call hcC hkC
    clear hcC hkC hdT hd4
    go_wp2_with fail
    refine bodyPost_ret (v := .tuple #[.slice ad l.length c, .int .i64 z]) ?_ rfl ⟨_, _, l, _, rfl, hdC.row, hl2, HB hdC⟩
    simp [results, Try.results28]
end Go.Proofs.Ytcfghnffacdekab
