/-
  A name that is drawn: some text of at most 201 bytes.
-/
import Derived.Test.YtdnnenklkfkhcaaCuC
import Derived.Test.YtdnnenklkfkhcaaIk
import Derived.Deep.RegionHeld3
import Derived.Deep.RegionLaw
namespace Go.Proofs.Ytdnnenklkfkhcaa
open Go.RowKit

set_option maxRecDepth 20000 in
set_option maxHeartbeats 4000000 in
theorem dname_any (ao : Option Addr) (cap : Nat) (bs : List Int) (w : World) (hb : Bytes w w.heap.size ao bs) (hl : bs.length ≤ 1048576) :
    Calls Try.prog 20 #[.slice ao bs.length cap] w fun e w' => ∃ s : ByteArray, e = .returned (.string s) ∧ s.size ≤ 201 ∧ Below w.heap.size w w' := by
  go_enter Try.func20, Try.ntmps20
  go_wp2_with fail
  refine (new_any ao cap bs _ hb hl).mono ?_
  rintro e w1 ⟨rfl, hc1, hb1⟩
  go_wp2_with fail
  refine (below_any w.heap.size ao cap bs 10 _ hc1 (by decide)).mono ?_
  rintro e w2 ⟨m, rfl, hm0, hm1, hc2, hk2⟩
  have b2 : Below w.heap.size w w2 := hb1.trans (hk2.below (Nat.le_refl _) hb1.size)
  clear hc1 hb1 hk2
  go_wp2_with fail
  go_loopw [4, 5] (fun sv nv wr => ∃ (t : ByteArray) (k : Nat), k ≤ 9 ∧ t.size + 3 * k ≤ 27 ∧ sv = .string t ∧ nv = .int .i64 k ∧ Cur wr w.heap.size ao cap bs ∧ Below w.heap.size w wr) (fun _ nv _ => (intOf nv).toNat)
  case atStart =>
    obtain ⟨k, rfl⟩ := Int.eq_ofNat_of_zero_le hm0
    exact ⟨⟨#[]⟩, k, by omega, by have : (⟨#[]⟩ : ByteArray).size = 0 := rfl; omega, rfl, rfl, hc2, b2⟩
  case round =>
    clear hc2 b2 hm0 hm1
    obtain ⟨t, k, hk9, hsz, rfl, rfl, hc, hbw⟩ := hrel
    by_cases hk0 : 0 < (k : Int)
    · go_wp2_with fail
      have hsz0 := hc.1
      have hca : Cur (wr.alloc (.cells #[.string ⟨#[77, 97, 99]⟩, .string ⟨#[111, 111]⟩, .string ⟨#[116, 116]⟩, .string ⟨#[83, 104]⟩, .string ⟨#[195, 164]⟩, .string ⟨#[32]⟩, .string ⟨#[45]⟩, .string ⟨#[121]⟩, .string ⟨#[87, 104, 105]⟩, .string ⟨#[39]⟩, .string ⟨#[97, 97]⟩, .string ⟨#[82]⟩, .string ⟨#[110, 110]⟩, .string ⟨#[255]⟩, .string ⟨#[101, 120]⟩] 9)) w.heap.size ao cap bs := hc.below ((Below.refl _ wr).alloc (by omega) _)
      refine (below_any w.heap.size ao cap bs 15 _ hca (by decide)).mono ?_
      rintro e w3 ⟨x, rfl, hx0, hx1, hc3, hk3⟩
      obtain ⟨j, rfl⟩ := Int.eq_ofNat_of_zero_le hx0
      obtain ⟨p, hp, hp3⟩ : ∃ p : ByteArray, w3.cell? ⟨wr.heap.size, j, none⟩ = some (.string p) ∧ p.size ≤ 3 := by
        have e1 := hk3.cell (b := wr.heap.size) (o := j) (by simp) (by omega)
        rw [e1]
        have e2 := heap_alloc_new wr (Obj.cells #[.string ⟨#[77, 97, 99]⟩, .string ⟨#[111, 111]⟩, .string ⟨#[116, 116]⟩, .string ⟨#[83, 104]⟩, .string ⟨#[195, 164]⟩, .string ⟨#[32]⟩, .string ⟨#[45]⟩, .string ⟨#[121]⟩, .string ⟨#[87, 104, 105]⟩, .string ⟨#[39]⟩, .string ⟨#[97, 97]⟩, .string ⟨#[82]⟩, .string ⟨#[110, 110]⟩, .string ⟨#[255]⟩, .string ⟨#[101, 120]⟩] 9)
        have hj : j < 15 := by omega
        have hj' : j = 0 ∨ j = 1 ∨ j = 2 ∨ j = 3 ∨ j = 4 ∨ j = 5 ∨ j = 6 ∨ j = 7 ∨ j = 8 ∨ j = 9 ∨ j = 10 ∨ j = 11 ∨ j = 12 ∨ j = 13 ∨ j = 14 := by omega
        rcases hj' with rfl | rfl | rfl | rfl | rfl | rfl | rfl | rfl | rfl | rfl | rfl | rfl | rfl | rfl | rfl <;> exact ⟨_, by simp only [World.cell?, e2]; rfl, by decide⟩
      have hb3 : Below w.heap.size w w3 := (hbw.alloc hbw.size _).trans (hk3.below (Nat.le_refl _) (by have := hbw.size; simp; omega))
      have q1 : ¬ 9223372036854775807 < t.size + p.size := by omega
      clear hca hk3 hc hbw
      go_wp2_with fail
      go_roundw
      case rel => exact ⟨t ++ p, k - 1, by omega, by rw [ByteArray.size_append]; omega, rfl, by congr 1; omega, hc3, hb3⟩
      case measure => simp [intOf]; omega
    · have hsz1 : t.size ≤ 201 := by omega
      go_wp2_with fail
      refine (once_any w.heap.size ao cap bs 40 _ hc (by decide)).mono ?_
      rintro e w4 ⟨on, rfl, hc4, hk4⟩
      have hb4 : Below w.heap.size w w4 := hbw.trans (hk4.below (Nat.le_refl _) hbw.size)
      clear hc hbw hk4 hsz
      cases on
      · go_wp2_with fail
        go_ret
        exact ⟨t, rfl, hsz1, hb4⟩
      · go_wp2_with fail
        go_loopw [4] (fun sv wr => ∃ t : ByteArray, t.size ≤ 201 ∧ sv = .string t ∧ Cur wr w.heap.size ao cap bs ∧ Below w.heap.size w wr) (fun sv _ => match sv with | .string t => 201 - t.size | _ => 0)
        case atStart => exact ⟨t, hsz1, rfl, hc4, hb4⟩
        case round =>
          clear hc4 hb4 hsz1
          obtain ⟨t2, hsz2, rfl, hc5, hb5⟩ := hrel
          go_wp2_with fail
          refine (below_any w.heap.size ao cap bs 2 _ hc5 (by decide)).mono ?_
          rintro e w6 ⟨x, rfl, hx0, hx1, hc6, hk6⟩
          have hb6 : Below w.heap.size w w6 := hb5.trans (hk6.below (Nat.le_refl _) hb5.size)
          clear hc5 hb5 hk6
          by_cases hlt : (t2.size : Int) < 200 + x
          · have q1 : ¬ 9223372036854775807 < t2.size + 1 := by omega
            go_wp2_with fail
            go_roundw
            case rel => exact ⟨t2 ++ ⟨#[120]⟩, by rw [ByteArray.size_append, show (⟨#[120]⟩ : ByteArray).size = 1 from rfl]; omega, rfl, hc6, hb6⟩
            case measure => simp only [ByteArray.size_append, show (⟨#[120]⟩ : ByteArray).size = 1 from rfl]; omega
          · go_wp2_with fail
            go_ret
            exact ⟨t2, rfl, hsz2, hb6⟩
end Go.Proofs.Ytdnnenklkfkhcaa
