/-
  The numbers of a roster, drawn of bytes.
-/
import Derived.Test.YtgcpiinmcbdkmaaRo11
import Derived.Test.YtgcpiinmcbdkmaaRo12
import Derived.Test.YtgcpiinmcbdkmaaCuC
import Derived.Test.YtgcpiinmcbdkmaaDt
import Derived.Deep.CutRange
namespace Go.Proofs.Ytgcpiinmcbdkmaa
open Go.RowKit Go.WideShapes Va Lb Sy Ro Go.Maps
set_option linter.all false

set_option maxRecDepth 20000 in
set_option maxHeartbeats 8000000 in
theorem droster_any (ao : Option Addr) (cap : Nat) (bs : List Int) (w : World) (hb : Bytes w w.heap.size ao bs) (hl : bs.length ≤ 1048576) :
    Calls Try.prog 16 #[.slice ao bs.length cap] w fun e w' => ∃ (p d n r : Int), e = .returned (.tuple #[.int .i64 p, .int .i64 d, .int .i64 n, .int .i64 r]) ∧ Below w.heap.size w w' := by
  have hN := hidden (new_any ao cap bs w hb hl)
  clear hb
  go_enter Try.func16, Try.ntmps16
  go_wp2_with fail
  refine hN.out.mono ?_
  rintro e w1 ⟨rfl, hc1, hb1⟩
  have HB1 := hidden hb1
  have hs1 := hb1.size
  clear hN hb1
  obtain ⟨g, hg⟩ : ∃ g, w.heap.size = g := ⟨_, rfl⟩
  rw [hg] at hc1 ⊢
  go_wp2_with fail
  refine (below_any g ao cap bs 8 _ hc1 (by omega)).mono ?_
  rintro e w2 ⟨x2, rfl, a2, b2, hc2, hk2⟩
  have HK2 := hidden hk2
  clear hk2 hc1
  go_wp2_with fail
  refine (below_any g ao cap bs 14 _ hc2 (by omega)).mono ?_
  rintro e w3 ⟨x3, rfl, a3, b3, hc3, hk3⟩
  have HK3 := hidden (HK2.out.trans hk3)
  clear hk3 hc2
  go_wp2_with fail
  refine (below_any g ao cap bs _ _ hc3 (by omega)).mono ?_
  rintro e w4 ⟨x4, rfl, a4, b4, hc4, hk4⟩
  have HK4 := hidden (HK3.out.trans hk4)
  clear hk4 hc3
  go_wp2_with fail
  refine (below_any g ao cap bs 5 _ hc4 (by omega)).mono ?_
  rintro e w5 ⟨x5, rfl, a5, b5, hc5, hk5⟩
  have HK5 := hidden (HK4.out.trans hk5)
  clear hk5 hc4
  go_upto_if 26 with (go_at_call 40; refine (once_any g ao cap bs 14 _ hc5 (by omega)).mono ?_; rintro e w6 ⟨t6, rfl, hc6, hk6⟩)
  have HK6 := hidden (HK5.out.trans hk6)
  clear hk6 hc5 HK2 HK3 HK4 HK5
  go_cut [7, 8, 9, 10] from 27 to 50 (fun v7 v8 v9 v10 wx => ∃ z7 z8 z9 z10 : Int, v7 = .int .i64 z7 ∧ v8 = .int .i64 z8 ∧ v9 = .int .i64 z9 ∧ v10 = .int .i64 z10 ∧ Keep g w1 wx)
  case first =>
    rcases t6 with _ | _
    · go_wp2_with fail
      go_meet
      case rel => exact ⟨_, _, _, _, rfl, rfl, rfl, rfl, HK6.out⟩
    · skip
      have hg7 := hc6.1
      have hcT7 : Cur (w6.alloc (.cells #[.int .i64 0, .int .i64 30, .int .i64 31, .int .i64 (1 + x2)] 2)) g ao cap bs := hc6.below ((Below.refl _ _).alloc hc6.1 _)
      go_wp2_with fail
      refine (below_any g ao cap bs 4 _ hcT7 (by omega)).mono ?_
      rintro e w7 ⟨y7, rfl, p7, q7, hc7, hk7⟩
      obtain ⟨k7, rfl⟩ := Int.eq_ofNat_of_zero_le p7
      obtain ⟨z7, hz7⟩ := tab_at [0, 30, 31, 1 + x2] w6 w7 g 2 hk7 hg7 k7 (by simp; omega)
      have HK7 := hidden (HK6.out.trans (((Keep.refl g w6).alloc _).trans hk7))
      clear hk7 hcT7
      have hg8 := hc7.1
      have hcT8 : Cur (w7.alloc (.cells #[.int .i64 (-1), .int .i64 60, .int .i64 61, .int .i64 5] 2)) g ao cap bs := hc7.below ((Below.refl _ _).alloc hc7.1 _)
      go_wp2_with fail
      refine (below_any g ao cap bs 4 _ hcT8 (by omega)).mono ?_
      rintro e w8 ⟨y8, rfl, p8, q8, hc8, hk8⟩
      obtain ⟨k8, rfl⟩ := Int.eq_ofNat_of_zero_le p8
      obtain ⟨z8, hz8⟩ := tab_at [-1, 60, 61, 5] w7 w8 g 2 hk8 hg8 k8 (by simp; omega)
      have HK8 := hidden (HK7.out.trans (((Keep.refl g w7).alloc _).trans hk8))
      clear hk8 hcT8
      have hw9 : IntKind.i64.wrap (z7 + 1) = IntKind.i64.wrap (z7 + 1) := rfl
      obtain ⟨z7b, hz7b⟩ : ∃ z, IntKind.i64.wrap (z7 + 1) = z := ⟨_, rfl⟩
      clear hw9
      have hg9 := hc8.1
      have hcT9 : Cur (w8.alloc (.cells #[.int .i64 (-1), .int .i64 z7, .int .i64 z7b, .int .i64 1] 2)) g ao cap bs := hc8.below ((Below.refl _ _).alloc hc8.1 _)
      go_wp2_with fail
      refine (below_any g ao cap bs 4 _ hcT9 (by omega)).mono ?_
      rintro e w9 ⟨y9, rfl, p9, q9, hc9, hk9⟩
      obtain ⟨k9, rfl⟩ := Int.eq_ofNat_of_zero_le p9
      obtain ⟨z9, hz9⟩ := tab_at [-1, z7, z7b, 1] w8 w9 g 2 hk9 hg9 k9 (by simp; omega)
      have HK9 := hidden (HK8.out.trans (((Keep.refl g w8).alloc _).trans hk9))
      clear hk9 hcT9
      have hg10 := hc9.1
      have hcT10 : Cur (w9.alloc (.cells #[.int .i64 0, .int .i64 10, .int .i64 11, .int .i64 2] 2)) g ao cap bs := hc9.below ((Below.refl _ _).alloc hc9.1 _)
      go_wp2_with fail
      refine (below_any g ao cap bs 4 _ hcT10 (by omega)).mono ?_
      rintro e w10 ⟨y10, rfl, p10, q10, hc10, hk10⟩
      obtain ⟨k10, rfl⟩ := Int.eq_ofNat_of_zero_le p10
      obtain ⟨z10, hz10⟩ := tab_at [0, 10, 11, 2] w9 w10 g 2 hk10 hg10 k10 (by simp; omega)
      have HK10 := hidden (HK9.out.trans (((Keep.refl g w9).alloc _).trans hk10))
      clear hk10 hcT10
      go_wp2_with fail
      go_meet
      case rel => exact ⟨z7, z8, z9, z10, rfl, rfl, rfl, rfl, HK10.out⟩
  case rest =>
    obtain ⟨z7, z8, z9, z10, rfl, rfl, rfl, rfl, hkc⟩ := hcut
    have hB : Below w.heap.size w wc := HB1.out.trans (hkc.below (by omega) hs1)
    clear HK6 hc6 hkc
    go_wp2_with fail
    try simp only [Exit.inBlock, Exit.then]
    exact bodyPost_ret (v := .tuple #[.int .i64 z7, .int .i64 z8, .int .i64 z9, .int .i64 z10]) (by simp [results, Try.results16, go_sem]) rfl ⟨z7, z8, z9, z10, rfl, hB⟩
end Go.Proofs.Ytgcpiinmcbdkmaa
