/-
  A history, and a number beside it, drawn of bytes.
-/
import Derived.Test.YtklgadaefngnnaaZc
namespace Go.Proofs.Ytklgadaefngnnaa
open Go.RowKit Va Wa
set_option linter.all false

set_option maxRecDepth 20000 in
set_option maxHeartbeats 4000000 in
theorem dstepsok_any (ao : Option Addr) (cap : Nat) (bs : List Int) (w : World) (hb : Bytes w w.heap.size ao bs) (hl : bs.length ≤ 1048576) :
    Calls Try.prog 64 #[.slice ao bs.length cap] w fun e w' => ∃ (ad : Option Addr) (c : Nat) (l : List Stp), e = .returned (.slice ad l.length c) ∧ Rw 4 csT w' (.slice ad l.length c) l ∧ l.length ≤ 1001 ∧ Fresh l ∧ Below w.heap.size w w' := by
  go_enter Try.func64, Try.ntmps64
  go_wp2_with fail
  refine (new_any ao cap bs _ hb hl).mono ?_
  rintro e w1 ⟨rfl, hc1, hb1⟩
  go_wp2_with fail
  refine (dsteps_any _ ao cap bs _ hc1).mono ?_
  rintro e w2 ⟨v, l, rfl, hd2, hl2⟩
  obtain ⟨ad, c, rfl⟩ := hd2.form
  have HB : Below w.heap.size w w2 := hb1.trans (hd2.keep.below (Nat.le_refl _) hb1.size)
  clear hc1 hb1
  go_wp2_with fail
  go_ret
  exact ⟨_, _, l, rfl, hd2.row, hl2, hd2.fresh, HB⟩

set_option maxRecDepth 20000 in
set_option maxHeartbeats 4000000 in
theorem dtraydo_any (ao : Option Addr) (cap : Nat) (bs : List Int) (w : World) (hb : Bytes w w.heap.size ao bs) (hl : bs.length ≤ 1048576) :
    Calls Try.prog 23 #[.slice ao bs.length cap] w fun e w' => ∃ (ad : Option Addr) (c : Nat) (l : List Stp), e = .returned (.slice ad l.length c) ∧ Rw 4 csT w' (.slice ad l.length c) l ∧ l.length ≤ 1001 ∧ Fresh l ∧ Below w.heap.size w w' := by
  go_enter Try.func23, Try.ntmps23
  go_wp2_with fail
  refine (dstepsok_any ao cap bs _ hb hl).mono ?_
  rintro e w2 ⟨ad, c, l, rfl, hd2, hl2, hf2, hb2⟩
  go_wp2_with fail
  go_ret
  exact ⟨_, _, l, rfl, hd2, hl2, hf2, hb2⟩

set_option maxRecDepth 20000 in
set_option maxHeartbeats 4000000 in
theorem dnumber_any (g : Nat) (ao : Option Addr) (cap : Nat) (bs : List Int) (w : World) (hc : Cur w g ao cap bs) :
    Calls Try.prog 70 #[.pointer (some ⟨g, 0, none⟩)] w fun e w' => ∃ x : Int, e = .returned (.int .i64 x) ∧ Cur w' g ao cap bs ∧ Keep g w w' := by
  go_enter Try.func70, Try.ntmps70
  go_wp2_with fail
  refine (once_any g ao cap bs 14 _ hc (by omega)).mono ?_
  rintro e w4 ⟨t4, rfl, hc4, hk4⟩
  rcases t4 with _ | _
  · go_wp2_with fail
    refine (below_any _ ao cap bs 4 _ hc4 (by omega)).mono ?_
    rintro e w5 ⟨y, rfl, y0, y1, hc5, hk5⟩
    go_wp2_with fail
    go_ret
    exact ⟨_, rfl, hc5, hk4.trans hk5⟩
  · have hcT := hc4.below ((Below.refl _ _).alloc hc4.1 (.cells #[.int .i64 (-1), .int .i64 999, .int .i64 1000, .int .i64 4611686018427387904] 2))
    have hg4 := hc4.1
    go_wp2_with fail
    refine (below_any _ ao cap bs 4 _ hcT (by omega)).mono ?_
    rintro e wC ⟨yC, rfl, hyA, hyB, hcC, hkC⟩
    obtain ⟨kk, rfl⟩ := Int.eq_ofNat_of_zero_le hyA
    have hkk : kk < 4 := by omega
    obtain ⟨z, -, hz⟩ := tab_in [-1, 999, 1000, 4611686018427387904] w4 wC _ _ hkC hg4 kk hkk
    have hK : Keep g w wC := hk4.trans (((Keep.refl g w4).alloc _).trans hkC)
    clear hcT hkC hk4 hc4
    go_wp2_with fail
    go_ret
    exact ⟨_, rfl, hcC, hK⟩

theorem ownZ_nil {w : World} {b e s n cc : Nat} {ca : Option Addr} {xs : List Value} (h : w.ownsRow b e s (.slice ca n cc) n xs) : ca = none → n = 0 ∧ cc = 0 := by
  obtain ⟨_, ⟨q1, q2⟩ | ⟨g, cap, cur, q1, _⟩⟩ := h
  · intro _
    simp only [Value.slice.injEq] at q1
    exact ⟨q1.2.1, q1.2.2⟩
  · intro e
    simp only [Value.slice.injEq] at q1
    rw [e] at q1; cases q1.1

set_option maxRecDepth 20000 in
set_option maxHeartbeats 4000000 in
theorem dtraystate_any (ao : Option Addr) (cap : Nat) (bs : List Int) (w : World) (hb : Bytes w w.heap.size ao bs) (hl : bs.length ≤ 1048576) :
    Calls Try.prog 29 #[.slice ao bs.length cap] w fun e w' => ∃ (ad : Option Addr) (c : Nat) (l : List Stp) (n : Int), e = .returned (.tuple #[.slice ad l.length c, .int .i64 n]) ∧ Rw 4 csT w' (.slice ad l.length c) l ∧ l.length ≤ 1001 ∧ Fresh l ∧ (ad = none → l.length = 0 ∧ c = 0) ∧ Below w.heap.size w w' := by
  go_enter Try.func29, Try.ntmps29
  go_wp2_with fail
  refine (new_any ao cap bs _ hb hl).mono ?_
  rintro e w1 ⟨rfl, hc1, hb1⟩
  go_wp2_with fail
  refine (dnumber_any _ ao cap bs _ hc1).mono ?_
  rintro e w3 ⟨x, rfl, hc3, hk3⟩
  have b3 : Below w.heap.size w w3 := hb1.trans (hk3.below (Nat.le_refl _) hb1.size)
  clear hc1 hb1 hk3
  go_wp2_with fail
  refine (dsteps_any _ ao cap bs _ hc3).mono ?_
  rintro e w2 ⟨v, l, rfl, hd2, hl2⟩
  obtain ⟨ad, c, rfl⟩ := hd2.form
  have HB : Below w.heap.size w w2 := b3.trans (hd2.keep.below (Nat.le_refl _) b3.size)
  clear hc3 b3
  go_wp2_with fail
  refine bodyPost_ret (v := .tuple #[.slice ad l.length c, .int .i64 x]) ?_ rfl ⟨_, _, l, _, rfl, hd2.row, hl2, hd2.fresh, ownZ_nil hd2.own, HB⟩
  simp [results, Try.results29]
end Go.Proofs.Ytklgadaefngnnaa
