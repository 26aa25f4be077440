/-
  A drug that is drawn of a cursor.
-/
import Derived.Test.YtcnhogghfedcdaaJd
namespace Go.Proofs.Ytcnhogghfedcdaa
open Go.RowKit Va Ga
set_option linter.unusedVariables false

theorem Ap.swap {v : Value} {V R : Nat} (h : Ap v V R) : Ap v R V := fun k hk => ⟨(h k hk).2, (h k hk).1⟩

set_option maxRecDepth 20000 in
set_option maxHeartbeats 8000000 in
theorem ddrug_any (g : Nat) (ao : Option Addr) (cap : Nat) (bs : List Int) (w : World) (hc : Cur w g ao cap bs) :
    Calls Try.prog 30 #[.pointer (some ⟨g, 0, none⟩)] w fun e w' => ∃ (x : Dg) (ad : Option Addr) (c : Nat), e = .returned (aD x (.slice ad x.cls.length c)) ∧ x.cls.length ≤ 4 ∧ DI w w' g ao cap bs (.slice ad x.cls.length c) x.cls := by
  have hgl := hc.1
  have hcR := hc.alloc (.cells #[.int .i64 0, .slice none 0 0, .int .i64 0, .int .i64 0, .int .i64 0, .int .i64 0] 26)
  have hkR : Keep g w (w.alloc (.cells #[.int .i64 0, .slice none 0 0, .int .i64 0, .int .i64 0, .int .i64 0, .int .i64 0] 26)) := (Keep.refl g w).alloc _
  have hbR := PB.new w #[.int .i64 0, .slice none 0 0, .int .i64 0, .int .i64 0, .int .i64 0, .int .i64 0] 26
  clear hc
  go_enter Try.func30, Try.ntmps30
  go_upto_region 1 with fail
  generalize w.alloc (.cells #[.int .i64 0, .slice none 0 0, .int .i64 0, .int .i64 0, .int .i64 0, .int .i64 0] 26) = wR at *
  go_wp2_with fail
  refine (below_any g ao cap bs 5 _ hcR (by omega)).mono ?_
  rintro e w1 ⟨a1, rfl, a10, a11, hc1, hk1⟩
  have K1 := hkR.trans hk1
  have B1 := hbR.keep hk1 (by omega)
  clear hkR hbR hk1 hcR
  go_wp2_with fail
  refine (dclasses_any g ao cap bs _ hc1).mono ?_
  rintro e w2 ⟨ad, c, l, rfl, hl3, hdi⟩
  have hrk := ownW_lt hdi.own
  have hz2 := B1.lt
  have B2 := B1.keep hdi.keep (by omega)
  have hi2 := hdi.lift K1 hgl
  have hz3 := hdi.keep.size
  clear hdi K1 B1 hc1
  go_wp2_with fail
  refine (below_any g ao cap bs 500 _ hi2.cur (by omega)).mono ?_
  rintro e w3 ⟨a3, rfl, a30, a31, hc3, hk3⟩
  have hi3 := hi2.call hc3 hk3
  have B3 := B2.keep hk3 (by omega)
  have z3 := hk3.size
  clear hi2 B2 hc3 hk3
  go_wp2_with fail
  refine (below_any g ao cap bs 20000 _ hi3.cur (by omega)).mono ?_
  rintro e w4 ⟨a4, rfl, a40, a41, hc4, hk4⟩
  have hi4 := hi3.call hc4 hk4
  have B4 := B3.keep hk4 (by omega)
  have z4 := hk4.size
  clear hi3 B3 hc4 hk4
  go_wp2_with fail
  refine (below_any g ao cap bs 900 _ hi4.cur (by omega)).mono ?_
  rintro e w5 ⟨a5, rfl, a50, a51, hc5, hk5⟩
  have hi5 := hi4.call hc5 hk5
  have B5 := B4.keep hk5 (by omega)
  have z5 := hk5.size
  clear hi4 B4 hc5 hk5
  go_wp2_with fail
  refine (below_any g ao cap bs 11 _ hi5.cur (by omega)).mono ?_
  rintro e w6 ⟨a6, rfl, a60, a61, hc6, hk6⟩
  have hi6 := hi5.call hc6 hk6
  have B6 := B5.keep hk6 (by omega)
  have z6 := hk6.size
  clear hi5 B5 hc6 hk6
  obtain ⟨x, hx⟩ : ∃ x : Dg, x = ⟨1 + a1, l, 1 + a3, 100 + a4, 50 + a5, 10 * a6⟩ := ⟨_, rfl⟩
  have hap : Ap (.slice ad l.length c) w6.heap.size w.heap.size := fun k hk => by have := hrk k hk; omega
  have hV := PB.new w6 #[.int .i64 (1 + a1), .slice ad l.length c, .int .i64 (1 + a3), .int .i64 (100 + a4), .int .i64 (50 + a5), .int .i64 (10 * a6)] 26
  have hd0 : DX w (w6.alloc (.cells #[.int .i64 (1 + a1), .slice ad l.length c, .int .i64 (1 + a3), .int .i64 (100 + a4), .int .i64 (50 + a5), .int .i64 (10 * a6)] 26)) g ao cap bs w.heap.size w6.heap.size #[.int .i64 0, .slice none 0 0, .int .i64 0, .int .i64 0, .int .i64 0, .int .i64 0] #[.int .i64 (1 + a1), .slice ad l.length c, .int .i64 (1 + a3), .int .i64 (100 + a4), .int .i64 (50 + a5), .int .i64 (10 * a6)] 26 :=
    ⟨hi6.cur.alloc _, hi6.keep.alloc _, B6.alloc _, hV, hgl, Nat.le_refl _, hi6.keep.size, Nat.ne_of_gt B6.lt⟩
  have hi7 := hi6.alloc (.cells #[.int .i64 (1 + a1), .slice ad l.length c, .int .i64 (1 + a3), .int .i64 (100 + a4), .int .i64 (50 + a5), .int .i64 (10 * a6)] 26)
  clear hV hi6 B6 hrk z3 z4 z5 z6 hz2 hz3
  go_upto_region 2 with fail
  generalize w6.alloc (.cells #[.int .i64 (1 + a1), .slice ad l.length c, .int .i64 (1 + a3), .int .i64 (100 + a4), .int .i64 (50 + a5), .int .i64 (10 * a6)] 26) = w7 at *
  generalize w6.heap.size = V at *
  have hd1 : DX w w7 g ao cap bs w.heap.size V #[.int .i64 0, .slice none 0 0, .int .i64 0, .int .i64 0, .int .i64 0, .int .i64 0] #[.int .i64 x.id, .slice ad x.cls.length c, .int .i64 x.pk, .int .i64 x.most, .int .i64 x.day, .int .i64 x.kid] 26 := by rw [hx]; exact hd0
  have hi : DI w w7 g ao cap bs (.slice ad x.cls.length c) x.cls := by rw [hx]; exact hi7
  have hap1 : Ap (.slice ad x.cls.length c) V w.heap.size := by rw [hx]; exact hap
  have hlen : x.cls.length ≤ 3 := by rw [hx]; exact hl3
  clear hd0 hi7 hap hx
  have hd := hd1
  have hap := hap1
  clear hd1 hap1
  go_wp2_with fail
  refine (once_any g ao cap bs 24 _ hd.cur (by omega)).mono ?_
  rintro e w8 ⟨t8, rfl, hc8, hk8⟩
  have hd8 := hd.call hc8 hk8
  have hi8 := hi.call hc8 hk8
  clear hc8 hk8 hd hi
  have hd := hd8
  have hi := hi8
  clear hd8 hi8
  go_upto_if 23 with fail
  go_cut [] (fun wx => ∃ (x : Dg) (ad : Option Addr) (c : Nat), DX w wx g ao cap bs w.heap.size V #[.int .i64 0, .slice none 0 0, .int .i64 0, .int .i64 0, .int .i64 0, .int .i64 0] #[.int .i64 x.id, .slice ad x.cls.length c, .int .i64 x.pk, .int .i64 x.most, .int .i64 x.day, .int .i64 x.kid] 26 ∧ DI w wx g ao cap bs (.slice ad x.cls.length c) x.cls ∧ Ap (.slice ad x.cls.length c) V w.heap.size ∧ x.cls.length ≤ 4)
  case first =>
    rcases t8 with _ | _
    · go_wp2_with fail
      go_meet
      case rel => exact ⟨x, ad, c, hd, hi, hap, by omega⟩
    · go_wp2_with fail
      refine (below_any g ao cap bs 6 _ hd.cur (by omega)).mono ?_
      rintro e w9 ⟨y9, rfl, y90, y91, hc9, hk9⟩
      have hd9 := hd.call hc9 hk9
      have hi9 := hi.call hc9 hk9
      clear hc9 hk9 hd hi
      have hd := hd9
      have hi := hi9
      clear hd9 hi9
      have hlen2 : x.cls.length ≤ 4 := by omega
      have hlen3 := hlen
      clear hlen
      have hlen := hlen2
      clear hlen2
      rcases (show y9 = 0 ∨ y9 = 1 ∨ y9 = 2 ∨ y9 = 3 ∨ y9 = 4 ∨ y9 = 5 by omega) with rfl | rfl | rfl | rfl | rfl | rfl
      · have hT := Tb.new (g := g) (w := w9) [0, 1000, 1001] hd.cur.1
        have HD := hidden (hd.alloc (.cells #[.int .i64 0, .int .i64 1000, .int .i64 1001] 2))
        have HI := hidden (hi.alloc (.cells #[.int .i64 0, .int .i64 1000, .int .i64 1001] 2))
        have HT := hidden hT
        clear hT hd hi
        go_wp2_with fail
        refine (below_any g ao cap bs 3 _ HD.out.cur (by omega)).mono ?_
        rintro e wA ⟨aA, rfl, aA0, aA1, hcA, hkA⟩
        obtain ⟨k, rfl⟩ := Int.eq_ofNat_of_zero_le aA0
        have hkl : k < 3 := by omega
        have hcell := (HT.out.keep hkA).at (k := k) hkl
        generalize hz : ([0, 1000, 1001] : List Int)[k] = z at hcell
        have hd8 := hidden ((HD.out.call hcA hkA).put 0 (.int .i64 z) (vs' := #[.int .i64 z, .slice ad x.cls.length c, .int .i64 x.pk, .int .i64 x.most, .int .i64 x.day, .int .i64 x.kid]) (by simp))
        have hi8 := hidden ((HI.out.call hcA hkA).far HD.out.vv hap 0 (.int .i64 z))
        obtain ⟨e0, e1, e2, e3, e4, e5⟩ := (HD.out.call hcA hkA).box.six
        obtain ⟨f0, f1, f2, f3, f4, f5, -⟩ := (HD.out.call hcA hkA).box.cold
        clear hz HT hcA hkA HD HI
        go_wp2_with fail
        go_meet
        case rel => exact ⟨{ x with id := z }, ad, c, hd8.out, hi8.out, hap, hlen⟩
      · clear y90 y91
        go_upto_region 7 with fail
        refine regD7 (x := x) rfl rfl rfl hd hi hap (by omega) ?_
        intro b' wB ad' c' z hf hdB hiB hapB
        have HDB := hidden hdB
        have HIB := hidden hiB
        have HAB := hidden hapB
        rw [layD7 hf]
        clear hdB hiB hapB hd hi
        generalize Rg.out (Rg.opsOf Try.f30 7) b' 0 = y0
        generalize Rg.out (Rg.opsOf Try.f30 7) b' 1 = y1
        generalize Rg.out (Rg.opsOf Try.f30 7) b' 2 = y2
        generalize Rg.out (Rg.opsOf Try.f30 7) b' 3 = y3
        generalize Rg.out (Rg.opsOf Try.f30 7) b' 4 = y4
        generalize Rg.out (Rg.opsOf Try.f30 7) b' 5 = y5
        generalize Rg.out (Rg.opsOf Try.f30 7) b' 6 = y6
        generalize Rg.out (Rg.opsOf Try.f30 7) b' 7 = y7
        generalize Rg.out (Rg.opsOf Try.f30 7) b' 8 = y8
        generalize Rg.out (Rg.opsOf Try.f30 7) b' 9 = y9
        go_frame
        go_wp2_with fail
        go_meet
        case rel => exact ⟨{ x with cls := x.cls ++ [z] }, ad', c', by simpa using HDB.out, by simpa using HIB.out, by simpa using HAB.out, by simp; omega⟩
      · have hT := Tb.new (g := g) (w := w9) [0, 1000000000, 1000000001] hd.cur.1
        have HD := hidden (hd.alloc (.cells #[.int .i64 0, .int .i64 1000000000, .int .i64 1000000001] 2))
        have HI := hidden (hi.alloc (.cells #[.int .i64 0, .int .i64 1000000000, .int .i64 1000000001] 2))
        have HT := hidden hT
        clear hT hd hi
        go_wp2_with fail
        refine (below_any g ao cap bs 3 _ HD.out.cur (by omega)).mono ?_
        rintro e wA ⟨aA, rfl, aA0, aA1, hcA, hkA⟩
        obtain ⟨k, rfl⟩ := Int.eq_ofNat_of_zero_le aA0
        have hkl : k < 3 := by omega
        have hcell := (HT.out.keep hkA).at (k := k) hkl
        generalize hz : ([0, 1000000000, 1000000001] : List Int)[k] = z at hcell
        have hd8 := hidden ((HD.out.call hcA hkA).put 2 (.int .i64 z) (vs' := #[.int .i64 x.id, .slice ad x.cls.length c, .int .i64 z, .int .i64 x.most, .int .i64 x.day, .int .i64 x.kid]) (by simp))
        have hi8 := hidden ((HI.out.call hcA hkA).far HD.out.vv hap 2 (.int .i64 z))
        obtain ⟨e0, e1, e2, e3, e4, e5⟩ := (HD.out.call hcA hkA).box.six
        obtain ⟨f0, f1, f2, f3, f4, f5, -⟩ := (HD.out.call hcA hkA).box.cold
        clear hz HT hcA hkA HD HI
        go_wp2_with fail
        go_meet
        case rel => exact ⟨{ x with pk := z }, ad, c, hd8.out, hi8.out, hap, hlen⟩
      · have hT := Tb.new (g := g) (w := w9) [0, 1000000000, 1000000001] hd.cur.1
        have HD := hidden (hd.alloc (.cells #[.int .i64 0, .int .i64 1000000000, .int .i64 1000000001] 2))
        have HI := hidden (hi.alloc (.cells #[.int .i64 0, .int .i64 1000000000, .int .i64 1000000001] 2))
        have HT := hidden hT
        clear hT hd hi
        go_wp2_with fail
        refine (below_any g ao cap bs 3 _ HD.out.cur (by omega)).mono ?_
        rintro e wA ⟨aA, rfl, aA0, aA1, hcA, hkA⟩
        obtain ⟨k, rfl⟩ := Int.eq_ofNat_of_zero_le aA0
        have hkl : k < 3 := by omega
        have hcell := (HT.out.keep hkA).at (k := k) hkl
        generalize hz : ([0, 1000000000, 1000000001] : List Int)[k] = z at hcell
        have hd8 := hidden ((HD.out.call hcA hkA).put 3 (.int .i64 z) (vs' := #[.int .i64 x.id, .slice ad x.cls.length c, .int .i64 x.pk, .int .i64 z, .int .i64 x.day, .int .i64 x.kid]) (by simp))
        have hi8 := hidden ((HI.out.call hcA hkA).far HD.out.vv hap 3 (.int .i64 z))
        obtain ⟨e0, e1, e2, e3, e4, e5⟩ := (HD.out.call hcA hkA).box.six
        obtain ⟨f0, f1, f2, f3, f4, f5, -⟩ := (HD.out.call hcA hkA).box.cold
        clear hz HT hcA hkA HD HI
        go_wp2_with fail
        go_meet
        case rel => exact ⟨{ x with most := z }, ad, c, hd8.out, hi8.out, hap, hlen⟩
      · have hT := Tb.new (g := g) (w := w9) [0, 1000000000, 1000000001] hd.cur.1
        have HD := hidden (hd.alloc (.cells #[.int .i64 0, .int .i64 1000000000, .int .i64 1000000001] 2))
        have HI := hidden (hi.alloc (.cells #[.int .i64 0, .int .i64 1000000000, .int .i64 1000000001] 2))
        have HT := hidden hT
        clear hT hd hi
        go_wp2_with fail
        refine (below_any g ao cap bs 3 _ HD.out.cur (by omega)).mono ?_
        rintro e wA ⟨aA, rfl, aA0, aA1, hcA, hkA⟩
        obtain ⟨k, rfl⟩ := Int.eq_ofNat_of_zero_le aA0
        have hkl : k < 3 := by omega
        have hcell := (HT.out.keep hkA).at (k := k) hkl
        generalize hz : ([0, 1000000000, 1000000001] : List Int)[k] = z at hcell
        have hd8 := hidden ((HD.out.call hcA hkA).put 4 (.int .i64 z) (vs' := #[.int .i64 x.id, .slice ad x.cls.length c, .int .i64 x.pk, .int .i64 x.most, .int .i64 z, .int .i64 x.kid]) (by simp))
        have hi8 := hidden ((HI.out.call hcA hkA).far HD.out.vv hap 4 (.int .i64 z))
        obtain ⟨e0, e1, e2, e3, e4, e5⟩ := (HD.out.call hcA hkA).box.six
        obtain ⟨f0, f1, f2, f3, f4, f5, -⟩ := (HD.out.call hcA hkA).box.cold
        clear hz HT hcA hkA HD HI
        go_wp2_with fail
        go_meet
        case rel => exact ⟨{ x with day := z }, ad, c, hd8.out, hi8.out, hap, hlen⟩
      · have hT := Tb.new (g := g) (w := w9) [(-1), 100, 101] hd.cur.1
        have HD := hidden (hd.alloc (.cells #[.int .i64 (-1), .int .i64 100, .int .i64 101] 2))
        have HI := hidden (hi.alloc (.cells #[.int .i64 (-1), .int .i64 100, .int .i64 101] 2))
        have HT := hidden hT
        clear hT hd hi
        go_wp2_with fail
        refine (below_any g ao cap bs 3 _ HD.out.cur (by omega)).mono ?_
        rintro e wA ⟨aA, rfl, aA0, aA1, hcA, hkA⟩
        obtain ⟨k, rfl⟩ := Int.eq_ofNat_of_zero_le aA0
        have hkl : k < 3 := by omega
        have hcell := (HT.out.keep hkA).at (k := k) hkl
        generalize hz : ([(-1), 100, 101] : List Int)[k] = z at hcell
        have hd8 := hidden ((HD.out.call hcA hkA).put 5 (.int .i64 z) (vs' := #[.int .i64 x.id, .slice ad x.cls.length c, .int .i64 x.pk, .int .i64 x.most, .int .i64 x.day, .int .i64 z]) (by simp))
        have hi8 := hidden ((HI.out.call hcA hkA).far HD.out.vv hap 5 (.int .i64 z))
        obtain ⟨e0, e1, e2, e3, e4, e5⟩ := (HD.out.call hcA hkA).box.six
        obtain ⟨f0, f1, f2, f3, f4, f5, -⟩ := (HD.out.call hcA hkA).box.cold
        clear hz HT hcA hkA HD HI
        go_wp2_with fail
        go_meet
        case rel => exact ⟨{ x with kid := z }, ad, c, hd8.out, hi8.out, hap, hlen⟩
  case rest =>
  clear hd hi hap hlen
  obtain ⟨x, ad, c, hd, hi, hap, hlen⟩ := hcut
  obtain ⟨e0, e1, e2, e3, e4, e5⟩ := hd.box.six
  obtain ⟨z0, z1, z2, z3, z4, z5⟩ := hd.res.six
  obtain ⟨f0, f1, f2, f3, f4, f5, -⟩ := hd.res.cold
  have HR := hidden (hd.res.fill6 (.int .i64 x.id) (.slice ad x.cls.length c) (.int .i64 x.pk) (.int .i64 x.most) (.int .i64 x.day) (.int .i64 x.kid))
  have HI := hidden ((((((hi.far (Nat.le_refl _) hap.swap 0 (.int .i64 x.id)).far (Nat.le_refl _) hap.swap 1 (.slice ad x.cls.length c)).far (Nat.le_refl _) hap.swap 2 (.int .i64 x.pk)).far (Nat.le_refl _) hap.swap 3 (.int .i64 x.most)).far (Nat.le_refl _) hap.swap 4 (.int .i64 x.day)).far (Nat.le_refl _) hap.swap 5 (.int .i64 x.kid))
  clear hd hi
  go_wp2_with fail
  try simp only [Exit.inBlock, Exit.then]
  exact bodyPost_ret (v := aD x (.slice ad x.cls.length c)) (results_cell_row Try.results30 _ _ w.heap.size 26 _ (0, 0) _ rfl HR.out Try.underlying26 rfl (by kernel_rfl)) rfl ⟨x, ad, c, rfl, hlen, HI.out⟩
end Go.Proofs.Ytcnhogghfedcdaa
