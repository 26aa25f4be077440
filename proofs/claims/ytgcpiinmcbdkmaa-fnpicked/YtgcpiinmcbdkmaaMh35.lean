/-
  Merged: D4.
-/
import Derived.Test.YtgcpiinmcbdkmaaMh34
import Derived.Deep.DeepCutAuto
namespace Go.Proofs.Ytgcpiinmcbdkmaa
open Go.RowKit Va Bl
set_option linter.all false
theorem Ap.swap {v : Value} {V R : Nat} (h : Ap v V R) : Ap v R V := fun k hk => ⟨(h k hk).2, (h k hk).1⟩
set_option maxRecDepth 20000 in
set_option maxHeartbeats 16000000 in
theorem dunit_any (g : Nat) (ao : Option Addr) (cap : Nat) (bs : List Int) (id : Int) (w : World) (hc : Cur w g ao cap bs) :
    Calls Try.prog 76 #[.pointer (some ⟨g, 0, none⟩), .int .i64 id] w fun e w' => ∃ (x : Ut) (ad : Option Addr) (c : Nat), e = .returned (aU x (.slice ad x.ant.length c)) ∧ x.ant.length ≤ 4 ∧ DI w w' g ao cap bs (.slice ad x.ant.length c) x.ant := by
  have hgl := hc.1
  have hcR := hc.alloc (.cells #[.int .i64 0, .int .i64 0, .slice none 0 0, .int .i64 0, .int .i64 0, .int .i64 0] 81)
  have hkR : Keep g w (w.alloc (.cells #[.int .i64 0, .int .i64 0, .slice none 0 0, .int .i64 0, .int .i64 0, .int .i64 0] 81)) := (Keep.refl g w).alloc _
  have hbR := PB.new w #[.int .i64 0, .int .i64 0, .slice none 0 0, .int .i64 0, .int .i64 0, .int .i64 0] 81
  clear hc
  go_enter Try.func76, Try.ntmps76
  go_upto_region 1 with fail
  generalize w.alloc (.cells #[.int .i64 0, .int .i64 0, .slice none 0 0, .int .i64 0, .int .i64 0, .int .i64 0] 81) = wR at *
  go_wp2_with fail
  refine (below_any g ao cap bs 8 _ hcR (by omega)).mono ?_
  rintro e w1 ⟨a1, rfl, a10, a11, hc1, hk1⟩
  have K1 := hkR.trans hk1
  have B1 := hbR.keep hk1 (by omega)
  clear hkR hbR hk1 hcR
  go_wp2_with fail
  refine (below_any g ao cap bs 3 _ hc1 (by omega)).mono ?_
  rintro e w1b ⟨a2, rfl, a20, a21, hc1b, hk1b⟩
  have K1b := K1.trans hk1b
  have B1b := B1.keep hk1b (by omega)
  clear K1 B1 hk1b hc1
  obtain ⟨n2, rfl⟩ := Int.eq_ofNat_of_zero_le a20
  go_wp2_with fail
  refine (dants_any g ao cap bs n2 _ hc1b (by omega)).mono ?_
  rintro e w2 ⟨ad, c, l, rfl, hl3, hdi⟩
  have hrk := ownW_lt hdi.own
  have hz2 := B1b.lt
  have B2 := B1b.keep hdi.keep (by omega)
  have hi2 := hdi.lift K1b hgl
  have hz3 := hdi.keep.size
  clear hdi K1b B1b hc1b
  go_wp2_with fail
  refine (below_any g ao cap bs 30 _ hi2.cur (by omega)).mono ?_
  rintro e w4 ⟨a4, rfl, a40, a41, hc4, hk4⟩
  have hi4 := hi2.call hc4 hk4
  have B4 := B2.keep hk4 (by omega)
  have z4 := hk4.size
  clear hi2 B2 hc4 hk4
  have hT := hidden (Tb.new (g := g) (w := w4) [1, 1, 1, 2, 2, 3, 4] hi4.cur.1)
  have HI := hidden (hi4.alloc (.cells #[.int .i64 1, .int .i64 1, .int .i64 1, .int .i64 2, .int .i64 2, .int .i64 3, .int .i64 4] 2))
  have HB := hidden (B4.alloc (.cells #[.int .i64 1, .int .i64 1, .int .i64 1, .int .i64 2, .int .i64 2, .int .i64 3, .int .i64 4] 2))
  have hz5 : (w4.alloc (.cells #[.int .i64 1, .int .i64 1, .int .i64 1, .int .i64 2, .int .i64 2, .int .i64 3, .int .i64 4] 2)).heap.size = w4.heap.size + 1 := by simp
  have HZ5 := hidden hz5
  clear hi4 B4 hz5
  go_wp2_with fail
  refine (below_any g ao cap bs 7 _ HI.out.cur (by omega)).mono ?_
  rintro e w6 ⟨aA, rfl, aA0, aA1, hc6, hk6⟩
  obtain ⟨k, rfl⟩ := Int.eq_ofNat_of_zero_le aA0
  have hkl : k < 7 := by omega
  have hcell := (hT.out.keep hk6).at (k := k) hkl
  generalize hz : ([1, 1, 1, 2, 2, 3, 4] : List Int)[k] = z at hcell
  have hi6 := HI.out.call hc6 hk6
  have B6 := HB.out.keep hk6 (by omega)
  have z6 := hk6.size
  have z6b := HZ5.out
  clear HI HB hc6 hk6 hz hT HZ5
  obtain ⟨x, hx⟩ : ∃ x : Ut, x = ⟨id, a1, l, 10 * a4, z, -1⟩ := ⟨_, rfl⟩
  have hap : Ap (.slice ad l.length c) w6.heap.size w.heap.size := fun k hk => by have := hrk k hk; omega
  have hV := PB.new w6 #[.int .i64 id, .int .i64 a1, .slice ad l.length c, .int .i64 (10 * a4), .int .i64 z, .int .i64 (-1)] 81
  have hd0 : DX w (w6.alloc (.cells #[.int .i64 id, .int .i64 a1, .slice ad l.length c, .int .i64 (10 * a4), .int .i64 z, .int .i64 (-1)] 81)) g ao cap bs w.heap.size w6.heap.size #[.int .i64 0, .int .i64 0, .slice none 0 0, .int .i64 0, .int .i64 0, .int .i64 0] #[.int .i64 id, .int .i64 a1, .slice ad l.length c, .int .i64 (10 * a4), .int .i64 z, .int .i64 (-1)] 81 :=
    ⟨hi6.cur.alloc _, hi6.keep.alloc _, B6.alloc _, hV, hgl, Nat.le_refl _, hi6.keep.size, Nat.ne_of_gt B6.lt⟩
  have hi7 := hi6.alloc (.cells #[.int .i64 id, .int .i64 a1, .slice ad l.length c, .int .i64 (10 * a4), .int .i64 z, .int .i64 (-1)] 81)
  have HD0 := hidden hd0
  have HI7 := hidden hi7
  have HAP := hidden hap
  have HX := hidden hx
  clear hV hi6 B6 hrk z4 z6 z6b hz2 hz3 hd0 hi7 hap hx
  go_upto_region 2 with fail
  generalize w6.alloc (.cells #[.int .i64 id, .int .i64 a1, .slice ad l.length c, .int .i64 (10 * a4), .int .i64 z, .int .i64 (-1)] 81) = w7 at *
  generalize w6.heap.size = V at *
  have hd : DX w w7 g ao cap bs w.heap.size V #[.int .i64 0, .int .i64 0, .slice none 0 0, .int .i64 0, .int .i64 0, .int .i64 0] #[.int .i64 x.id, .int .i64 x.grp, .slice ad x.ant.length c, .int .i64 x.til, .int .i64 x.st, .int .i64 x.fr] 81 := by rw [HX.out]; exact HD0.out
  have hi : DI w w7 g ao cap bs (.slice ad x.ant.length c) x.ant := by rw [HX.out]; exact HI7.out
  have hap : Ap (.slice ad x.ant.length c) V w.heap.size := by rw [HX.out]; exact HAP.out
  have hlen : x.ant.length ≤ 3 := by rw [HX.out]; exact hl3
  have hxs : x.st = z := by rw [HX.out]
  have HXS := hidden hxs
  clear HD0 HI7 HAP HX hxs
  obtain ⟨e0, e1, e2, e3, e4, e5⟩ := hd.box.six
  rw [HXS.out] at e4
  by_cases h2 : z = 2
  · subst h2
    go_upto_if 29 with fail
    go_cut [] (fun wx => ∃ (x : Ut) (ad : Option Addr) (c : Nat), DX w wx g ao cap bs w.heap.size V #[.int .i64 0, .int .i64 0, .slice none 0 0, .int .i64 0, .int .i64 0, .int .i64 0] #[.int .i64 x.id, .int .i64 x.grp, .slice ad x.ant.length c, .int .i64 x.til, .int .i64 x.st, .int .i64 x.fr] 81 ∧ DI w wx g ao cap bs (.slice ad x.ant.length c) x.ant ∧ Ap (.slice ad x.ant.length c) V w.heap.size ∧ x.ant.length ≤ 3)
    case first =>
      have HD := hidden hd
      have HI := hidden hi
      clear hd hi
      go_wp2_with fail
      refine (below_any g ao cap bs 3 _ HD.out.cur (by omega)).mono ?_
      rintro e wA ⟨z, rfl, aA0, aA1, hcA, hkA⟩
      clear e0 e1 e2 e3 e4 e5
      have hd8 := hidden ((HD.out.call hcA hkA).put 5 (.int .i64 z) (vs' := #[.int .i64 x.id, .int .i64 x.grp, .slice ad x.ant.length c, .int .i64 x.til, .int .i64 x.st, .int .i64 z]) (by simp))
      have hi8 := hidden ((HI.out.call hcA hkA).far HD.out.vv hap 5 (.int .i64 z))
      obtain ⟨e0, e1, e2, e3, e4, e5⟩ := (HD.out.call hcA hkA).box.six
      obtain ⟨f0, f1, f2, f3, f4, f5, -⟩ := (HD.out.call hcA hkA).box.cold
      clear hcA hkA HD HI
      go_wp2_with fail
      go_meet
      case rel => exact ⟨{ x with fr := z }, ad, c, hd8.out, hi8.out, hap, hlen⟩
    case rest =>
    clear hd hi hap hlen e0 e1 e2 e3 e4 e5 HXS
    obtain ⟨x, ad, c, hd, hi, hap, hlen⟩ := hcut
    go_wp2_with fail
    refine (once_any g ao cap bs 60 _ hd.cur (by omega)).mono ?_
    rintro e w8 ⟨t8, rfl, hc8, hk8⟩
    have hd8 := hd.call hc8 hk8
    have hi8 := hi.call hc8 hk8
    clear hc8 hk8 hd hi
    have hd := hd8
    have hi := hi8
    clear hd8 hi8
    go_upto_if 34 with fail
    go_cut [] (fun wx => ∃ (x : Ut) (ad : Option Addr) (c : Nat), DX w wx g ao cap bs w.heap.size V #[.int .i64 0, .int .i64 0, .slice none 0 0, .int .i64 0, .int .i64 0, .int .i64 0] #[.int .i64 x.id, .int .i64 x.grp, .slice ad x.ant.length c, .int .i64 x.til, .int .i64 x.st, .int .i64 x.fr] 81 ∧ DI w wx g ao cap bs (.slice ad x.ant.length c) x.ant ∧ Ap (.slice ad x.ant.length c) V w.heap.size ∧ x.ant.length ≤ 4)
    case first =>
      rcases t8 with _ | _
      · go_wp2_with fail
        go_meet
        case rel => exact ⟨x, ad, c, hd, hi, hap, by omega⟩
      · go_wp2_with fail
        refine (below_any g ao cap bs 6 _ hd.cur (by omega)).mono ?_
        rintro e w9 ⟨y9, rfl, y90, y91, hc9, hk9⟩
        have hd9 := hd.call hc9 hk9
        have hi9 := hi.call hc9 hk9
        clear hc9 hk9 hd hi
        have hd := hd9
        have hi := hi9
        clear hd9 hi9
        have hlen2 : x.ant.length ≤ 4 := by omega
        have hlen3 := hlen
        clear hlen
        have hlen := hlen2
        clear hlen2
        rcases (show y9 = 0 ∨ y9 = 1 ∨ y9 = 2 ∨ y9 = 3 ∨ y9 = 4 ∨ y9 = 5 by omega) with rfl | rfl | rfl | rfl | rfl | rfl
        · have hT := Tb.new (g := g) (w := w9) [0, 1000000, 1000001] hd.cur.1
          have HD := hidden (hd.alloc (.cells #[.int .i64 0, .int .i64 1000000, .int .i64 1000001] 2))
          have HI := hidden (hi.alloc (.cells #[.int .i64 0, .int .i64 1000000, .int .i64 1000001] 2))
          have HT := hidden hT
          clear hT hd hi
          go_wp2_with fail
          refine (below_any g ao cap bs 3 _ HD.out.cur (by omega)).mono ?_
          rintro e wA ⟨aA, rfl, aA0, aA1, hcA, hkA⟩
          obtain ⟨k, rfl⟩ := Int.eq_ofNat_of_zero_le aA0
          have hkl : k < 3 := by omega
          have hcell := (HT.out.keep hkA).at (k := k) hkl
          generalize hz : ([0, 1000000, 1000001] : List Int)[k] = z at hcell
          have hd8 := hidden ((HD.out.call hcA hkA).put 0 (.int .i64 z) (vs' := #[.int .i64 z, .int .i64 x.grp, .slice ad x.ant.length c, .int .i64 x.til, .int .i64 x.st, .int .i64 x.fr]) (by simp))
          have hi8 := hidden ((HI.out.call hcA hkA).far HD.out.vv hap 0 (.int .i64 z))
          obtain ⟨e0, e1, e2, e3, e4, e5⟩ := (HD.out.call hcA hkA).box.six
          obtain ⟨f0, f1, f2, f3, f4, f5, -⟩ := (HD.out.call hcA hkA).box.cold
          clear hz HT hcA hkA HD HI
          go_wp2_with fail
          go_meet
          case rel => exact ⟨{ x with id := z }, ad, c, hd8.out, hi8.out, hap, hlen⟩
        · have hT := Tb.new (g := g) (w := w9) [(-1), 8] hd.cur.1
          have HD := hidden (hd.alloc (.cells #[.int .i64 (-1), .int .i64 8] 2))
          have HI := hidden (hi.alloc (.cells #[.int .i64 (-1), .int .i64 8] 2))
          have HT := hidden hT
          clear hT hd hi
          go_wp2_with fail
          refine (below_any g ao cap bs 2 _ HD.out.cur (by omega)).mono ?_
          rintro e wA ⟨aA, rfl, aA0, aA1, hcA, hkA⟩
          obtain ⟨k, rfl⟩ := Int.eq_ofNat_of_zero_le aA0
          have hkl : k < 2 := by omega
          have hcell := (HT.out.keep hkA).at (k := k) hkl
          generalize hz : ([(-1), 8] : List Int)[k] = z at hcell
          have hd8 := hidden ((HD.out.call hcA hkA).put 1 (.int .i64 z) (vs' := #[.int .i64 x.id, .int .i64 z, .slice ad x.ant.length c, .int .i64 x.til, .int .i64 x.st, .int .i64 x.fr]) (by simp))
          have hi8 := hidden ((HI.out.call hcA hkA).far HD.out.vv hap 1 (.int .i64 z))
          obtain ⟨e0, e1, e2, e3, e4, e5⟩ := (HD.out.call hcA hkA).box.six
          obtain ⟨f0, f1, f2, f3, f4, f5, -⟩ := (HD.out.call hcA hkA).box.cold
          clear hz HT hcA hkA HD HI
          go_wp2_with fail
          go_meet
          case rel => exact ⟨{ x with grp := z }, ad, c, hd8.out, hi8.out, hap, hlen⟩
        · clear y90 y91
          go_upto_region 11 with fail
          refine regDu11 (x := x) rfl rfl rfl hd hi hap (by omega) ?_
          intro b' wB ad' c' z hf hdB hiB hapB
          have HDB := hidden hdB
          have HIB := hidden hiB
          have HAB := hidden hapB
          rw [layDu11 hf]
          clear hdB hiB hapB hd hi
          generalize Rg.out (Rg.opsOf Try.f76 11) b' 0 = y0
          generalize Rg.out (Rg.opsOf Try.f76 11) b' 1 = y1
          generalize Rg.out (Rg.opsOf Try.f76 11) b' 2 = y2
          generalize Rg.out (Rg.opsOf Try.f76 11) b' 3 = y3
          generalize Rg.out (Rg.opsOf Try.f76 11) b' 4 = y4
          generalize Rg.out (Rg.opsOf Try.f76 11) b' 5 = y5
          generalize Rg.out (Rg.opsOf Try.f76 11) b' 6 = y6
          generalize Rg.out (Rg.opsOf Try.f76 11) b' 7 = y7
          generalize Rg.out (Rg.opsOf Try.f76 11) b' 8 = y8
          generalize Rg.out (Rg.opsOf Try.f76 11) b' 9 = y9
          go_frame
          go_wp2_with fail
          go_meet
          case rel => exact ⟨{ x with ant := x.ant ++ [z] }, ad', c', by simpa using HDB.out, by simpa using HIB.out, by simpa using HAB.out, by simp; omega⟩
        · have hT := Tb.new (g := g) (w := w9) [(-1), 10000000, 10000001] hd.cur.1
          have HD := hidden (hd.alloc (.cells #[.int .i64 (-1), .int .i64 10000000, .int .i64 10000001] 2))
          have HI := hidden (hi.alloc (.cells #[.int .i64 (-1), .int .i64 10000000, .int .i64 10000001] 2))
          have HT := hidden hT
          clear hT hd hi
          go_wp2_with fail
          refine (below_any g ao cap bs 3 _ HD.out.cur (by omega)).mono ?_
          rintro e wA ⟨aA, rfl, aA0, aA1, hcA, hkA⟩
          obtain ⟨k, rfl⟩ := Int.eq_ofNat_of_zero_le aA0
          have hkl : k < 3 := by omega
          have hcell := (HT.out.keep hkA).at (k := k) hkl
          generalize hz : ([(-1), 10000000, 10000001] : List Int)[k] = z at hcell
          have hd8 := hidden ((HD.out.call hcA hkA).put 3 (.int .i64 z) (vs' := #[.int .i64 x.id, .int .i64 x.grp, .slice ad x.ant.length c, .int .i64 z, .int .i64 x.st, .int .i64 x.fr]) (by simp))
          have hi8 := hidden ((HI.out.call hcA hkA).far HD.out.vv hap 3 (.int .i64 z))
          obtain ⟨e0, e1, e2, e3, e4, e5⟩ := (HD.out.call hcA hkA).box.six
          obtain ⟨f0, f1, f2, f3, f4, f5, -⟩ := (HD.out.call hcA hkA).box.cold
          clear hz HT hcA hkA HD HI
          go_wp2_with fail
          go_meet
          case rel => exact ⟨{ x with til := z }, ad, c, hd8.out, hi8.out, hap, hlen⟩
        · have HD := hidden hd
          have HI := hidden hi
          clear hd hi
          go_wp2_with fail
          refine (from_any g ao cap bs 0 5 _ HD.out.cur (by omega) (by omega) (by omega)).mono ?_
          rintro e wA ⟨z, rfl, aA0, aA1, hcA, hkA⟩
          have hd8 := hidden ((HD.out.call hcA hkA).put 4 (.int .i64 z) (vs' := #[.int .i64 x.id, .int .i64 x.grp, .slice ad x.ant.length c, .int .i64 x.til, .int .i64 z, .int .i64 x.fr]) (by simp))
          have hi8 := hidden ((HI.out.call hcA hkA).far HD.out.vv hap 4 (.int .i64 z))
          obtain ⟨e0, e1, e2, e3, e4, e5⟩ := (HD.out.call hcA hkA).box.six
          obtain ⟨f0, f1, f2, f3, f4, f5, -⟩ := (HD.out.call hcA hkA).box.cold
          clear hcA hkA HD HI
          go_wp2_with fail
          go_meet
          case rel => exact ⟨{ x with st := z }, ad, c, hd8.out, hi8.out, hap, hlen⟩
        · have hT := Tb.new (g := g) (w := w9) [(-2), (-1), 1000, 1] hd.cur.1
          have HD := hidden (hd.alloc (.cells #[.int .i64 (-2), .int .i64 (-1), .int .i64 1000, .int .i64 1] 2))
          have HI := hidden (hi.alloc (.cells #[.int .i64 (-2), .int .i64 (-1), .int .i64 1000, .int .i64 1] 2))
          have HT := hidden hT
          clear hT hd hi
          go_wp2_with fail
          refine (below_any g ao cap bs 4 _ HD.out.cur (by omega)).mono ?_
          rintro e wA ⟨aA, rfl, aA0, aA1, hcA, hkA⟩
          obtain ⟨k, rfl⟩ := Int.eq_ofNat_of_zero_le aA0
          have hkl : k < 4 := by omega
          have hcell := (HT.out.keep hkA).at (k := k) hkl
          generalize hz : ([(-2), (-1), 1000, 1] : List Int)[k] = z at hcell
          have hd8 := hidden ((HD.out.call hcA hkA).put 5 (.int .i64 z) (vs' := #[.int .i64 x.id, .int .i64 x.grp, .slice ad x.ant.length c, .int .i64 x.til, .int .i64 x.st, .int .i64 z]) (by simp))
          have hi8 := hidden ((HI.out.call hcA hkA).far HD.out.vv hap 5 (.int .i64 z))
          obtain ⟨e0, e1, e2, e3, e4, e5⟩ := (HD.out.call hcA hkA).box.six
          obtain ⟨f0, f1, f2, f3, f4, f5, -⟩ := (HD.out.call hcA hkA).box.cold
          clear hz HT hcA hkA HD HI
          go_wp2_with fail
          go_meet
          case rel => exact ⟨{ x with fr := z }, ad, c, hd8.out, hi8.out, hap, hlen⟩
    case rest =>
    clear hd hi hap hlen
    obtain ⟨x, ad, c, hd, hi, hap, hlen⟩ := hcut
    obtain ⟨e0, e1, e2, e3, e4, e5⟩ := hd.box.six
    obtain ⟨z0, z1, z2, z3, z4, z5⟩ := hd.res.six
    obtain ⟨f0, f1, f2, f3, f4, f5, -⟩ := hd.res.cold
    have HR := hidden (hd.res.fill6 (.int .i64 x.id) (.int .i64 x.grp) (.slice ad x.ant.length c) (.int .i64 x.til) (.int .i64 x.st) (.int .i64 x.fr))
    have HI := hidden ((((((hi.far (Nat.le_refl _) hap.swap 0 (.int .i64 x.id)).far (Nat.le_refl _) hap.swap 1 (.int .i64 x.grp)).far (Nat.le_refl _) hap.swap 2 (.slice ad x.ant.length c)).far (Nat.le_refl _) hap.swap 3 (.int .i64 x.til)).far (Nat.le_refl _) hap.swap 4 (.int .i64 x.st)).far (Nat.le_refl _) hap.swap 5 (.int .i64 x.fr))
    clear hd hi
    go_wp2_with fail
    try simp only [Exit.inBlock, Exit.then]
    exact bodyPost_ret (v := aU x (.slice ad x.ant.length c)) (results_cell_row Try.results76 _ _ w.heap.size 81 _ (0, 0) _ rfl HR.out Try.underlying81 rfl (by kernel_rfl)) rfl ⟨x, ad, c, rfl, hlen, HI.out⟩
  have h2b : (z == 2) = false := by simpa using h2
  go_upto_if 29 with fail
  go_cut [] (fun wx => ∃ (x : Ut) (ad : Option Addr) (c : Nat), DX w wx g ao cap bs w.heap.size V #[.int .i64 0, .int .i64 0, .slice none 0 0, .int .i64 0, .int .i64 0, .int .i64 0] #[.int .i64 x.id, .int .i64 x.grp, .slice ad x.ant.length c, .int .i64 x.til, .int .i64 x.st, .int .i64 x.fr] 81 ∧ DI w wx g ao cap bs (.slice ad x.ant.length c) x.ant ∧ Ap (.slice ad x.ant.length c) V w.heap.size ∧ x.ant.length ≤ 3)
  case first =>
    cases hq : (z == 3) with
    | true =>
      have HD := hidden hd
      have HI := hidden hi
      clear hd hi
      go_wp2_with fail
      refine (below_any g ao cap bs 3 _ HD.out.cur (by omega)).mono ?_
      rintro e wA ⟨z, rfl, aA0, aA1, hcA, hkA⟩
      clear e0 e1 e2 e3 e4 e5
      have hd8 := hidden ((HD.out.call hcA hkA).put 5 (.int .i64 z) (vs' := #[.int .i64 x.id, .int .i64 x.grp, .slice ad x.ant.length c, .int .i64 x.til, .int .i64 x.st, .int .i64 z]) (by simp))
      have hi8 := hidden ((HI.out.call hcA hkA).far HD.out.vv hap 5 (.int .i64 z))
      obtain ⟨e0, e1, e2, e3, e4, e5⟩ := (HD.out.call hcA hkA).box.six
      obtain ⟨f0, f1, f2, f3, f4, f5, -⟩ := (HD.out.call hcA hkA).box.cold
      clear hcA hkA HD HI
      go_wp2_with fail
      go_meet
      case rel => exact ⟨{ x with fr := z }, ad, c, hd8.out, hi8.out, hap, hlen⟩
    | false =>
      go_wp2_with fail
      go_meet
      case rel => exact ⟨x, ad, c, hd, hi, hap, hlen⟩
  case rest =>
  clear hd hi hap hlen e0 e1 e2 e3 e4 e5 HXS
  obtain ⟨x, ad, c, hd, hi, hap, hlen⟩ := hcut
  go_wp2_with fail
  refine (once_any g ao cap bs 60 _ hd.cur (by omega)).mono ?_
  rintro e w8 ⟨t8, rfl, hc8, hk8⟩
  have hd8 := hd.call hc8 hk8
  have hi8 := hi.call hc8 hk8
  clear hc8 hk8 hd hi
  have hd := hd8
  have hi := hi8
  clear hd8 hi8
  go_upto_if 34 with fail
  go_cut [] (fun wx => ∃ (x : Ut) (ad : Option Addr) (c : Nat), DX w wx g ao cap bs w.heap.size V #[.int .i64 0, .int .i64 0, .slice none 0 0, .int .i64 0, .int .i64 0, .int .i64 0] #[.int .i64 x.id, .int .i64 x.grp, .slice ad x.ant.length c, .int .i64 x.til, .int .i64 x.st, .int .i64 x.fr] 81 ∧ DI w wx g ao cap bs (.slice ad x.ant.length c) x.ant ∧ Ap (.slice ad x.ant.length c) V w.heap.size ∧ x.ant.length ≤ 4)
  case first =>
    rcases t8 with _ | _
    · go_wp2_with fail
      go_meet
      case rel => exact ⟨x, ad, c, hd, hi, hap, by omega⟩
    · go_wp2_with fail
      refine (below_any g ao cap bs 6 _ hd.cur (by omega)).mono ?_
      rintro e w9 ⟨y9, rfl, y90, y91, hc9, hk9⟩
      have hd9 := hd.call hc9 hk9
      have hi9 := hi.call hc9 hk9
      clear hc9 hk9 hd hi
      have hd := hd9
      have hi := hi9
      clear hd9 hi9
      have hlen2 : x.ant.length ≤ 4 := by omega
      have hlen3 := hlen
      clear hlen
      have hlen := hlen2
      clear hlen2
      rcases (show y9 = 0 ∨ y9 = 1 ∨ y9 = 2 ∨ y9 = 3 ∨ y9 = 4 ∨ y9 = 5 by omega) with rfl | rfl | rfl | rfl | rfl | rfl
      · have hT := Tb.new (g := g) (w := w9) [0, 1000000, 1000001] hd.cur.1
        have HD := hidden (hd.alloc (.cells #[.int .i64 0, .int .i64 1000000, .int .i64 1000001] 2))
        have HI := hidden (hi.alloc (.cells #[.int .i64 0, .int .i64 1000000, .int .i64 1000001] 2))
        have HT := hidden hT
        clear hT hd hi
        go_wp2_with fail
        refine (below_any g ao cap bs 3 _ HD.out.cur (by omega)).mono ?_
        rintro e wA ⟨aA, rfl, aA0, aA1, hcA, hkA⟩
        obtain ⟨k, rfl⟩ := Int.eq_ofNat_of_zero_le aA0
        have hkl : k < 3 := by omega
        have hcell := (HT.out.keep hkA).at (k := k) hkl
        generalize hz : ([0, 1000000, 1000001] : List Int)[k] = z at hcell
        have hd8 := hidden ((HD.out.call hcA hkA).put 0 (.int .i64 z) (vs' := #[.int .i64 z, .int .i64 x.grp, .slice ad x.ant.length c, .int .i64 x.til, .int .i64 x.st, .int .i64 x.fr]) (by simp))
        have hi8 := hidden ((HI.out.call hcA hkA).far HD.out.vv hap 0 (.int .i64 z))
        obtain ⟨e0, e1, e2, e3, e4, e5⟩ := (HD.out.call hcA hkA).box.six
        obtain ⟨f0, f1, f2, f3, f4, f5, -⟩ := (HD.out.call hcA hkA).box.cold
        clear hz HT hcA hkA HD HI
        go_wp2_with fail
        go_meet
        case rel => exact ⟨{ x with id := z }, ad, c, hd8.out, hi8.out, hap, hlen⟩
      · have hT := Tb.new (g := g) (w := w9) [(-1), 8] hd.cur.1
        have HD := hidden (hd.alloc (.cells #[.int .i64 (-1), .int .i64 8] 2))
        have HI := hidden (hi.alloc (.cells #[.int .i64 (-1), .int .i64 8] 2))
        have HT := hidden hT
        clear hT hd hi
        go_wp2_with fail
        refine (below_any g ao cap bs 2 _ HD.out.cur (by omega)).mono ?_
        rintro e wA ⟨aA, rfl, aA0, aA1, hcA, hkA⟩
        obtain ⟨k, rfl⟩ := Int.eq_ofNat_of_zero_le aA0
        have hkl : k < 2 := by omega
        have hcell := (HT.out.keep hkA).at (k := k) hkl
        generalize hz : ([(-1), 8] : List Int)[k] = z at hcell
        have hd8 := hidden ((HD.out.call hcA hkA).put 1 (.int .i64 z) (vs' := #[.int .i64 x.id, .int .i64 z, .slice ad x.ant.length c, .int .i64 x.til, .int .i64 x.st, .int .i64 x.fr]) (by simp))
        have hi8 := hidden ((HI.out.call hcA hkA).far HD.out.vv hap 1 (.int .i64 z))
        obtain ⟨e0, e1, e2, e3, e4, e5⟩ := (HD.out.call hcA hkA).box.six
        obtain ⟨f0, f1, f2, f3, f4, f5, -⟩ := (HD.out.call hcA hkA).box.cold
        clear hz HT hcA hkA HD HI
        go_wp2_with fail
        go_meet
        case rel => exact ⟨{ x with grp := z }, ad, c, hd8.out, hi8.out, hap, hlen⟩
      · clear y90 y91
        go_upto_region 11 with fail
        refine regDu11 (x := x) rfl rfl rfl hd hi hap (by omega) ?_
        intro b' wB ad' c' z hf hdB hiB hapB
        have HDB := hidden hdB
        have HIB := hidden hiB
        have HAB := hidden hapB
        rw [layDu11 hf]
        clear hdB hiB hapB hd hi
        generalize Rg.out (Rg.opsOf Try.f76 11) b' 0 = y0
        generalize Rg.out (Rg.opsOf Try.f76 11) b' 1 = y1
        generalize Rg.out (Rg.opsOf Try.f76 11) b' 2 = y2
        generalize Rg.out (Rg.opsOf Try.f76 11) b' 3 = y3
        generalize Rg.out (Rg.opsOf Try.f76 11) b' 4 = y4
        generalize Rg.out (Rg.opsOf Try.f76 11) b' 5 = y5
        generalize Rg.out (Rg.opsOf Try.f76 11) b' 6 = y6
        generalize Rg.out (Rg.opsOf Try.f76 11) b' 7 = y7
        generalize Rg.out (Rg.opsOf Try.f76 11) b' 8 = y8
        generalize Rg.out (Rg.opsOf Try.f76 11) b' 9 = y9
        go_frame
        go_wp2_with fail
        go_meet
        case rel => exact ⟨{ x with ant := x.ant ++ [z] }, ad', c', by simpa using HDB.out, by simpa using HIB.out, by simpa using HAB.out, by simp; omega⟩
      · have hT := Tb.new (g := g) (w := w9) [(-1), 10000000, 10000001] hd.cur.1
        have HD := hidden (hd.alloc (.cells #[.int .i64 (-1), .int .i64 10000000, .int .i64 10000001] 2))
        have HI := hidden (hi.alloc (.cells #[.int .i64 (-1), .int .i64 10000000, .int .i64 10000001] 2))
        have HT := hidden hT
        clear hT hd hi
        go_wp2_with fail
        refine (below_any g ao cap bs 3 _ HD.out.cur (by omega)).mono ?_
        rintro e wA ⟨aA, rfl, aA0, aA1, hcA, hkA⟩
        obtain ⟨k, rfl⟩ := Int.eq_ofNat_of_zero_le aA0
        have hkl : k < 3 := by omega
        have hcell := (HT.out.keep hkA).at (k := k) hkl
        generalize hz : ([(-1), 10000000, 10000001] : List Int)[k] = z at hcell
        have hd8 := hidden ((HD.out.call hcA hkA).put 3 (.int .i64 z) (vs' := #[.int .i64 x.id, .int .i64 x.grp, .slice ad x.ant.length c, .int .i64 z, .int .i64 x.st, .int .i64 x.fr]) (by simp))
        have hi8 := hidden ((HI.out.call hcA hkA).far HD.out.vv hap 3 (.int .i64 z))
        obtain ⟨e0, e1, e2, e3, e4, e5⟩ := (HD.out.call hcA hkA).box.six
        obtain ⟨f0, f1, f2, f3, f4, f5, -⟩ := (HD.out.call hcA hkA).box.cold
        clear hz HT hcA hkA HD HI
        go_wp2_with fail
        go_meet
        case rel => exact ⟨{ x with til := z }, ad, c, hd8.out, hi8.out, hap, hlen⟩
      · have HD := hidden hd
        have HI := hidden hi
        clear hd hi
        go_wp2_with fail
        refine (from_any g ao cap bs 0 5 _ HD.out.cur (by omega) (by omega) (by omega)).mono ?_
        rintro e wA ⟨z, rfl, aA0, aA1, hcA, hkA⟩
        have hd8 := hidden ((HD.out.call hcA hkA).put 4 (.int .i64 z) (vs' := #[.int .i64 x.id, .int .i64 x.grp, .slice ad x.ant.length c, .int .i64 x.til, .int .i64 z, .int .i64 x.fr]) (by simp))
        have hi8 := hidden ((HI.out.call hcA hkA).far HD.out.vv hap 4 (.int .i64 z))
        obtain ⟨e0, e1, e2, e3, e4, e5⟩ := (HD.out.call hcA hkA).box.six
        obtain ⟨f0, f1, f2, f3, f4, f5, -⟩ := (HD.out.call hcA hkA).box.cold
        clear hcA hkA HD HI
        go_wp2_with fail
        go_meet
        case rel => exact ⟨{ x with st := z }, ad, c, hd8.out, hi8.out, hap, hlen⟩
      · have hT := Tb.new (g := g) (w := w9) [(-2), (-1), 1000, 1] hd.cur.1
        have HD := hidden (hd.alloc (.cells #[.int .i64 (-2), .int .i64 (-1), .int .i64 1000, .int .i64 1] 2))
        have HI := hidden (hi.alloc (.cells #[.int .i64 (-2), .int .i64 (-1), .int .i64 1000, .int .i64 1] 2))
        have HT := hidden hT
        clear hT hd hi
        go_wp2_with fail
        refine (below_any g ao cap bs 4 _ HD.out.cur (by omega)).mono ?_
        rintro e wA ⟨aA, rfl, aA0, aA1, hcA, hkA⟩
        obtain ⟨k, rfl⟩ := Int.eq_ofNat_of_zero_le aA0
        have hkl : k < 4 := by omega
        have hcell := (HT.out.keep hkA).at (k := k) hkl
        generalize hz : ([(-2), (-1), 1000, 1] : List Int)[k] = z at hcell
        have hd8 := hidden ((HD.out.call hcA hkA).put 5 (.int .i64 z) (vs' := #[.int .i64 x.id, .int .i64 x.grp, .slice ad x.ant.length c, .int .i64 x.til, .int .i64 x.st, .int .i64 z]) (by simp))
        have hi8 := hidden ((HI.out.call hcA hkA).far HD.out.vv hap 5 (.int .i64 z))
        obtain ⟨e0, e1, e2, e3, e4, e5⟩ := (HD.out.call hcA hkA).box.six
        obtain ⟨f0, f1, f2, f3, f4, f5, -⟩ := (HD.out.call hcA hkA).box.cold
        clear hz HT hcA hkA HD HI
        go_wp2_with fail
        go_meet
        case rel => exact ⟨{ x with fr := z }, ad, c, hd8.out, hi8.out, hap, hlen⟩
  case rest =>
  clear hd hi hap hlen
  obtain ⟨x, ad, c, hd, hi, hap, hlen⟩ := hcut
  obtain ⟨e0, e1, e2, e3, e4, e5⟩ := hd.box.six
  obtain ⟨z0, z1, z2, z3, z4, z5⟩ := hd.res.six
  obtain ⟨f0, f1, f2, f3, f4, f5, -⟩ := hd.res.cold
  have HR := hidden (hd.res.fill6 (.int .i64 x.id) (.int .i64 x.grp) (.slice ad x.ant.length c) (.int .i64 x.til) (.int .i64 x.st) (.int .i64 x.fr))
  have HI := hidden ((((((hi.far (Nat.le_refl _) hap.swap 0 (.int .i64 x.id)).far (Nat.le_refl _) hap.swap 1 (.int .i64 x.grp)).far (Nat.le_refl _) hap.swap 2 (.slice ad x.ant.length c)).far (Nat.le_refl _) hap.swap 3 (.int .i64 x.til)).far (Nat.le_refl _) hap.swap 4 (.int .i64 x.st)).far (Nat.le_refl _) hap.swap 5 (.int .i64 x.fr))
  clear hd hi
  go_wp2_with fail
  try simp only [Exit.inBlock, Exit.then]
  exact bodyPost_ret (v := aU x (.slice ad x.ant.length c)) (results_cell_row Try.results76 _ _ w.heap.size 81 _ (0, 0) _ rfl HR.out Try.underlying81 rfl (by kernel_rfl)) rfl ⟨x, ad, c, rfl, hlen, HI.out⟩
end Go.Proofs.Ytgcpiinmcbdkmaa
