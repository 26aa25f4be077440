/-
  Letters that are drawn of a cursor: the walk.
-/
import Derived.Test.YtbabknhccapaoaaM42
namespace Go.Proofs.Ytbabknhccapaoaa
open Go.RowKit Va Mg
set_option linter.all false

set_option maxRecDepth 20000 in
set_option maxHeartbeats 16000000 in
theorem dletters_any (g : Nat) (ao : Option Addr) (cap : Nat) (bs : List Int) (w : World) (hc : Cur w g ao cap bs) :
    Calls Try.prog 18 #[.pointer (some ⟨g, 0, none⟩)] w fun e w' => ∃ (v : Value) (l : List Lt), e = .returned v ∧ (∃ a k, v = .slice (some a) l.length k) ∧ l.length ≤ 1001 ∧ Hid (∀ x ∈ l, WfL x) ∧ VRw 5 cvLt w' v l ∧ Keep g w w' := by
  obtain ⟨j0, hj0, hu0, hu1, hu2⟩ := info_partsW infoLetD
  have hd0 := DL15.start hc
  have hgw := hc.1
  clear hc
  go_enter Try.func18, Try.ntmps18
  go_upto_region 2 with fail
  generalize w.alloc (.cells #[] 29) = wA at *
  generalize Value.slice (some ⟨w.heap.size, 0, none⟩) 0 0 = v0 at *
  go_wp2_with fail
  refine (below_any g ao cap bs 14 _ hd0.cur (by omega)).mono ?_
  rintro e w1 ⟨x1, rfl, x10, x11, hc1, hk1⟩
  have hd1 := hd0.call hc1 hk1
  clear hd0 hc1 hk1
  obtain ⟨n1, rfl⟩ := Int.eq_ofNat_of_zero_le x10
  go_wp2_with fail
  go_loopw [3, 4, 5] (fun sv kv _ wr => ∃ (k : Nat) (l : List Lt), 2 * k + l.length ≤ 28 ∧ kv = .int .i64 k ∧ Hid (∀ x ∈ l, WfL x) ∧ DL15 w wr g ao cap bs sv l) (fun _ kv _ _ => (intOf kv).toNat)
  case atStart => exact ⟨n1, [], by simp; omega, rfl, fun x hx => (by cases hx), hd1⟩
  case round =>
    clear hd1
    obtain ⟨k, l, hkl, rfl, HW, hd⟩ := hrel
    obtain ⟨ad, c, rfl⟩ := hd.form
    by_cases hk0 : ¬ 0 < k
    · have hki : ¬ (0 : Int) < (k : Int) := by omega
      go_wp2_with fail
      refine (once_any g ao cap bs 60 _ hd.cur (by omega)).mono ?_
      rintro e w3 ⟨t3, rfl, hc3, hk3⟩
      have hd3 := hd.call hc3 hk3
      clear hd hc3 hk3
      rcases t3 with _ | _
      · go_wp2_with fail
        go_ret
        obtain ⟨G3, k3, e3⟩ := hd3.nonnil
        exact ⟨_, l, rfl, ⟨_, _, e3⟩, by omega, HW, hd3.row, hd3.keep⟩
      · go_wp2_with fail
        refine (below_any g ao cap bs 2 _ hd3.cur (by omega)).mono ?_
        rintro e w4 ⟨x4, rfl, x40, x41, hc4, hk4⟩
        have HK4 := hidden (hd3.call hc4 hk4).keep
        clear hd3 hc4 hk4
        obtain ⟨j, rfl⟩ := Int.eq_ofNat_of_zero_le x40
        obtain ⟨n, hn⟩ : ∃ n, n = 1000 + j := ⟨_, rfl⟩
        have hn1 : n ≤ 1001 := by omega
        have hnI : (1000 : Int) + (j : Int) = (n : Int) := by omega
        clear hn
        go_wp2_with (refine wpList_make_full _ rfl (.tmp 69) (.tmp 69) 24 rfl w4.heap.size 29 j0 (.agg #[.int .i64 0, .int .i64 0, .int .i64 0, .int .i64 0, .int .i64 0]) 5 Try.underlying24 hj0 hu0 hu1 .i64 .i64 _ _ n rfl rfl (by omega) (by omega) (by rw [hu2]; omega) (by unfold maxLen; omega) (Nat.le_refl _) ?_; intro w5 ho5 hg5)
        have b5 : Below w4.heap.size w4 w5 := (Below.refl _ w4).grown hg5 (Nat.le_refl _) (by simp)
        obtain ⟨L, hL⟩ : ∃ L : List Lt, L = (List.range n).map (fun i : Nat => (⟨0, (i : Int), -1, 0, 0⟩ : Lt)) := ⟨_, rfl⟩
        have HLl : Hid (L.length = n) := by rw [Hid, hL]; simp
        have HLx : Hid (∀ i, i < n → L[i]? = some ⟨0, (i : Int), -1, 0, 0⟩) := fun i hi => by rw [hL]; simp [hi]
        have HWL : Hid (∀ x ∈ L, WfL x) := fun x hx => by
          rw [hL] at hx
          obtain ⟨i, hi, rfl⟩ := List.mem_map.1 hx
          have hi2 := List.mem_range.1 hi
          exact ⟨wz (x := 0) (by decide) (by decide), wz (x := (i : Int)) (by omega) (by omega), wz (x := -1) (by decide) (by decide), wz (x := 0) (by decide) (by decide), wz (x := 0) (by decide) (by decide)⟩
        clear hL
        have ho := VOut.made (cs := cvLt) L ho5
        clear ho5 hg5
        go_wp2_with fail
        go_loopw [6] (fun iv wr => ∃ i : Nat, i ≤ n ∧ iv = .int .i64 i ∧ Below w4.heap.size w4 wr ∧ VOut 5 cvLt wr w4.heap.size n L i) (fun iv _ => n - (intOf iv).toNat)
        case atStart => exact ⟨0, Nat.zero_le _, rfl, b5, ho⟩
        case round =>
          clear b5 ho
          obtain ⟨i, hil, rfl, hb, ho⟩ := hrel
          by_cases hlt : i < n
          · have hlti : (i : Int) < (n : Int) := by omega
            have hset := ho.set hlt (HLx.out i hlt) [.int .i64 0, .int .i64 i, .int .i64 (-1), .int .i64 0, .int .i64 0] rfl (fun k hk => by
              match k, hk with
              | 0, _ => rfl
              | 1, _ => rfl
              | 2, _ => rfl
              | 3, _ => rfl
              | 4, _ => rfl)
            obtain ⟨⟨u0, r0⟩, f0⟩ := ho.old hlt (show 0 < 5 by omega)
            obtain ⟨⟨u1, r1⟩, f1⟩ := ho.old hlt (show 1 < 5 by omega)
            obtain ⟨⟨u2, r2⟩, f2⟩ := ho.old hlt (show 2 < 5 by omega)
            obtain ⟨⟨u3, r3⟩, f3⟩ := ho.old hlt (show 3 < 5 by omega)
            obtain ⟨⟨u4, r4⟩, f4⟩ := ho.old hlt (show 4 < 5 by omega)
            simp only [Nat.add_zero] at r0 f0
            have b3 : Below w4.heap.size w4 (put wr w4.heap.size (i * 5) [.int .i64 0, .int .i64 i, .int .i64 (-1), .int .i64 0, .int .i64 0]) := put_below _ _ _ _ hb (Nat.le_refl _)
            clear ho
            go_wp2_with fail
            go_roundw
            case rel => exact ⟨i + 1, by omega, rfl, b3, hset⟩
            case measure => simp [intOf]; omega
          · have hlti : ¬ (i : Int) < (n : Int) := by omega
            have hil2 : i = n := by omega
            subst hil2
            have hrow : VRw 5 cvLt wr (.slice (some ⟨w4.heap.size, 0, none⟩) i i) L := by
              have h9 : VOut 5 cvLt wr w4.heap.size L.length L L.length := by rw [HLl.out]; exact ho
              have := h9.row i (Nat.le_of_eq HLl.out)
              rw [HLl.out] at this
              exact this
            clear ho
            go_wp2_with fail
            go_ret
            have hkE := HK4.out.trans (Keep.of_below (g := g) hb)
            have hLE : L.length ≤ 1001 := by rw [HLl.out]; omega
            have hvE : ∃ a k, Value.slice (some ⟨w4.heap.size, 0, none⟩) i i = .slice (some a) L.length k := ⟨_, i, by rw [HLl.out]⟩
            first | exact ⟨_, L, rfl, hvE, hLE, HWL, hrow, hkE⟩ | exact ⟨_, rfl, L, hvE, hLE, HWL, hrow, hkE⟩
    have hk0 := Decidable.not_not.1 hk0
    have hki : (0 : Int) < (k : Int) := by omega
    go_wp2_with fail
    refine (below_any g ao cap bs 3 _ hd.cur (by omega)).mono ?_
    rintro e wa ⟨xa, rfl, xa0, xa1, hca, hka⟩
    have hda := hd.call hca hka
    clear hd hca hka
    go_wp2_with fail
    refine (below_any g ao cap bs 8 _ hda.cur (by omega)).mono ?_
    rintro e wb ⟨xb, rfl, xb0, xb1, hcb, hkb⟩
    have hdb := hda.call hcb hkb
    clear hda hcb hkb
    go_wp2_with fail
    refine (below_any g ao cap bs 4 _ hdb.cur (by omega)).mono ?_
    rintro e wq ⟨xc, rfl, xc0, xc1, hcc, hkc⟩
    have hdc := hdb.call hcc hkc
    clear hdb hcc hkc
    go_wp2_with fail
    refine (from_any g ao cap bs (-9) 9 _ hdc.cur (by omega) (by omega) (by omega)).mono ?_
    rintro e wd ⟨xd, rfl, xd0, xd1, hcd, hkd⟩
    have hdd := hdc.call hcd hkd
    clear hdc hcd hkd
    go_upto_region 6 with fail
    obtain ⟨x, hx⟩ : ∃ x : Lt, x = ⟨xa, xb, -1, xc, xd⟩ := ⟨_, rfl⟩
    have hB : DB15 w (wd.alloc (.cells #[.int .i64 xa, .int .i64 xb, .int .i64 (-1), .int .i64 xc, .int .i64 xd] 29)) g ao cap bs (.slice ad l.length c) l wd.heap.size x := by rw [hx]; exact DB15.new hdd ⟨xa, xb, -1, xc, xd⟩
    have hXw : Hid (WfL x) := by rw [hx]; exact ⟨wz (x := xa) (by omega) (by omega), wz (x := xb) (by omega) (by omega), wz (x := -1) (by decide) (by decide), wz (x := xc) (by omega) (by omega), wz (x := xd) (by omega) (by omega)⟩
    have hXs : 0 ≤ x.s ∧ x.s < 8 := by rw [hx]; exact ⟨xb0, xb1⟩
    clear hdd hx
    generalize wd.alloc (.cells #[.int .i64 xa, .int .i64 xb, .int .i64 (-1), .int .i64 xc, .int .i64 xd] 29) = wE at *
    generalize wd.heap.size = V at *
    clear xa0 xa1 xb0 xb1 xc0 xc1 xd0 xd1
    go_cut [29] (fun tv wx => ∃ t : Bool, tv = .bool t ∧ (t = true → 0 < x.s) ∧ DB15 w wx g ao cap bs (.slice ad l.length c) l V x)
    case first =>
      go_wp2_with fail
      refine (once_any g ao cap bs 3 _ hB.d.cur (by omega)).mono ?_
      rintro e w3 ⟨t3, rfl, hc3, hk3⟩
      have hB3 := hB.call hc3 hk3
      clear hB hc3 hk3
      obtain ⟨e0, e1, e2, e3, e4⟩ := hB3.box.fiveL
      rcases t3 with _ | _
      · go_wp2_with fail
        go_meet
        case rel => exact ⟨false, rfl, fun h => (by cases h), hB3⟩
      · by_cases hx0 : 0 < x.s
        · go_wp2_with fail
          go_meet
          case rel => exact ⟨true, rfl, fun _ => hx0, hB3⟩
        · go_wp2_with fail
          go_meet
          case rel => exact ⟨decide (0 < x.s), rfl, fun h => of_decide_eq_true h, hB3⟩
    case rest =>
      clear hB
      obtain ⟨t, rfl, ht, hB⟩ := hcut
      obtain ⟨wP, hwP⟩ : ∃ wP, wP = wc := ⟨_, rfl⟩
      rw [← hwP] at hB ⊢
      clear hwP
      go_upto_if 29 with fail
      go_cut [] (fun wx => ∃ x : Lt, Hid (WfL x) ∧ DB15 w wx g ao cap bs (.slice ad l.length c) l V x)
      case first =>
        rcases t with _ | _
        · go_wp2_with fail
          go_meet
          case rel => exact ⟨x, hXw, hB⟩
        · have hx0 := ht rfl
          obtain ⟨e0, e1, e2, e3, e4⟩ := hB.box.fiveL
          go_wp2_with fail
          refine (below_any g ao cap bs x.s _ hB.d.cur (by omega)).mono ?_
          rintro e w4 ⟨y, rfl, y0, y1, hc4, hk4⟩
          have hB4 := hB.call hc4 hk4
          clear hB hc4 hk4 e0 e1 e2 e3 e4
          obtain ⟨e0, e1, e2, e3, e4⟩ := hB4.box.fiveL
          have f2 := hB4.box.frozen 2
          have hB5 := hB4.set 2 (.int .i64 y) ⟨x.f, x.s, y, x.k, x.v⟩ rfl
          clear hB4
          go_wp2_with fail
          go_meet
          case rel => exact ⟨⟨x.f, x.s, y, x.k, x.v⟩, ⟨hXw.out.1, hXw.out.2.1, wz (x := y) (by omega) (by omega), hXw.out.2.2.2⟩, hB5⟩
      case rest =>
        clear hB hXw hXs ht
        obtain ⟨x, hXw, hB⟩ := hcut
        obtain ⟨wQ, hwQ⟩ : ∃ wQ, wQ = wc := ⟨_, rfl⟩
        rw [← hwQ] at hB ⊢
        clear hwQ
        go_wp2_with fail
        refine (once_any g ao cap bs 24 _ hB.d.cur (by omega)).mono ?_
        rintro e w5 ⟨t5, rfl, hc5, hk5⟩
        have hB5 := hB.call hc5 hk5
        clear hB hc5 hk5
        go_upto_if 36 with fail
        go_cut [] (fun wx => ∃ x : Lt, Hid (WfL x) ∧ DB15 w wx g ao cap bs (.slice ad l.length c) l V x)
        case first =>
          rcases t5 with _ | _
          · go_wp2_with fail
            go_meet
            case rel => exact ⟨x, hXw, hB5⟩
          · have hT := PB.new w5 tab35 29
            have hB6 := hB5.alloc (.cells tab35 29)
            have hTg : w5.heap.size ≠ g := by have := hB5.d.cur.1; omega
            clear hB5
            unfold tab35 at hT hB6
            go_wp2_with fail
            refine (below_any g ao cap bs 7 _ hB6.d.cur (by omega)).mono ?_
            rintro e w7 ⟨y7, rfl, y70, y71, hc7, hk7⟩
            have hB7 := hB6.call hc7 hk7
            have hT7 : PB w7 w5.heap.size tab35 29 := PB.keep hT hk7 hTg
            clear hB6 hc7 hk7 hT
            obtain ⟨n7, rfl⟩ := Int.eq_ofNat_of_zero_le y70
            have hn7 : n7 < 7 := by omega
            obtain ⟨y, hYw, c0, c1, c2, c3, c4⟩ := tab7_at hT7 hn7
            have HY : Hid (WfL y) := hYw
            have f0 := hB7.box.frozen 0
            have f1 := hB7.box.frozen 1
            have f2 := hB7.box.frozen 2
            have f3 := hB7.box.frozen 3
            have f4 := hB7.box.frozen 4
            have hB8 := hB7.all y
            have HB7 := hidden hB7
            obtain ⟨e0, e1, e2, e3, e4⟩ := hB7.box.fiveL
            clear hYw hT7 hB7
            go_wp2_with fail
            go_meet
            case rel => exact ⟨y, HY, hB8⟩
        case rest =>
          clear hB5 hXw
          obtain ⟨x, hXw, hB⟩ := hcut
          obtain ⟨wz1, hwz⟩ : ∃ wz1, wz1 = wc := ⟨_, rfl⟩
          rw [← hwz] at hB ⊢
          clear hwz
          have HX := hidden (hB.alloc (.cells #[.int .i64 x.f, .int .i64 x.s, .int .i64 x.c, .int .i64 x.k, .int .i64 x.v] 29))
          have hszA := hB.d.keep.size
          obtain ⟨e0, e1, e2, e3, e4⟩ := hB.box.fiveL
          clear hB
          go_wp2_with (at_builtin; refine wpList_append_own_at _ rfl (.tmp 49) (.tmp 51) 24 rfl w.heap.size 29 j0 (.agg #[.int .i64 0, .int .i64 0, .int .i64 0, .int .i64 0, .int .i64 0]) 5 40 Try.underlying24 hj0 hu0 hu1 hu2 rfl (by decide) _ l.length (vcellsL 5 cvLt l) rfl HX.out.d.own ⟨wz1.heap.size, 0, none⟩ 1 1 [.int .i64 x.f, .int .i64 x.s, .int .i64 x.c, .int .i64 x.k, .int .i64 x.v] rfl rfl (cell_fiveD _ _ _ _ _ _ _) (by simp [Value.oneCell']) (by unfold maxLen; omega) (by omega) (by simp; omega) ?_; intro vA wA2 hoA hgA hnA hloA)
          have hBA := HX.out.app (y := x) hoA hgA (fun e => absurd (hnA.1 e).2 (by decide)) hloA
          clear HX hoA hgA hnA hloA e0 e1 e2 e3 e4 hszA
          have HW1 : Hid (∀ y ∈ l ++ [x], WfL y) := fun y hy => by
            rcases List.mem_append.1 hy with q | q
            · exact HW.out y q
            · rw [List.mem_singleton.1 q]; exact hXw.out
          have hl1 : 2 * (k - 1) + (l ++ [x]).length ≤ 27 := by simp; omega
          obtain ⟨l1, hl1e⟩ : ∃ l1, l1 = l ++ [x] := ⟨_, rfl⟩
          rw [← hl1e] at hBA HW1 hl1
          clear hl1e HW
          obtain ⟨ad1, c1, rfl⟩ := hBA.d.form
          refine (once_any g ao cap bs 4 _ hBA.d.cur (by omega)).mono ?_
          rintro e w9 ⟨t9, rfl, hc9, hk9⟩
          have hB := hBA.call hc9 hk9
          clear hBA hc9 hk9
          rcases t9 with _ | _
          · go_wp2_with fail
            go_roundw
            case rel => exact ⟨k - 1, l1, by omega, by congr 1; omega, HW1, hB.d⟩
            case measure => simp [intOf]; omega
          · go_upto_region 12 with fail
            have hVg : V ≠ g := by have := hB.ge; have := hB.d.gg; omega
            refine regL12 (V := V) (x := x) rfl rfl rfl hB.d.cur hB.box hVg ?_
            intro b' w10 z hf hc10 hk10 hz
            have hB10 := (hB.call hc10 hk10).set 4 (.int .i64 z) ⟨x.f, x.s, x.c, x.k, z⟩ rfl
            clear hB hc10 hk10
            rw [layL12 hf]
            clear hf
            generalize Rg.out (Rg.opsOf Try.f18 12) b' 0 = o0
            generalize Rg.out (Rg.opsOf Try.f18 12) b' 1 = o1
            generalize Rg.out (Rg.opsOf Try.f18 12) b' 2 = o2
            generalize Rg.out (Rg.opsOf Try.f18 12) b' 3 = o3
            generalize Rg.out (Rg.opsOf Try.f18 12) b' 4 = o4
            generalize Rg.out (Rg.opsOf Try.f18 12) b' 5 = o5
            clear b'
            obtain ⟨x2, hx2⟩ : ∃ x2 : Lt, x2 = ⟨x.f, x.s, x.c, x.k, z⟩ := ⟨_, rfl⟩
            have hXw2 : Hid (WfL x2) := by rw [hx2]; exact ⟨hXw.out.1, hXw.out.2.1, hXw.out.2.2.1, hXw.out.2.2.2.1, hz⟩
            rw [← hx2] at hB10
            clear hx2 hXw hz
            generalize w10.setCell ⟨V, 4, none⟩ (.int .i64 z) = w11 at *
            have HX := hidden (hB10.alloc (.cells #[.int .i64 x2.f, .int .i64 x2.s, .int .i64 x2.c, .int .i64 x2.k, .int .i64 x2.v] 29))
            have hszA := hB10.d.keep.size
            obtain ⟨e0, e1, e2, e3, e4⟩ := hB10.box.fiveL
            clear hB10
            go_wp2_with (at_builtin; refine wpList_append_own_at _ rfl (.tmp 61) (.tmp 63) 24 rfl w.heap.size 29 j0 (.agg #[.int .i64 0, .int .i64 0, .int .i64 0, .int .i64 0, .int .i64 0]) 5 40 Try.underlying24 hj0 hu0 hu1 hu2 rfl (by decide) _ l1.length (vcellsL 5 cvLt l1) rfl HX.out.d.own ⟨w11.heap.size, 0, none⟩ 1 1 [.int .i64 x2.f, .int .i64 x2.s, .int .i64 x2.c, .int .i64 x2.k, .int .i64 x2.v] rfl rfl (cell_fiveD _ _ _ _ _ _ _) (by simp [Value.oneCell']) (by unfold maxLen; omega) (by omega) (by simp; omega) ?_; intro vA wA3 hoA hgA hnA hloA)
            have hBA := HX.out.app (y := x2) hoA hgA (fun e => absurd (hnA.1 e).2 (by decide)) hloA
            clear HX hoA hgA hnA hloA e0 e1 e2 e3 e4 hszA
            go_roundw
            case rel => exact ⟨k - 1, l1 ++ [x2], by simp; omega, by congr 1; omega, fun y hy => (List.mem_append.1 hy).elim (HW1.out y) (fun q => by rw [List.mem_singleton.1 q]; exact hXw2.out), hBA.d⟩
            case measure => simp [intOf]; omega
end Go.Proofs.Ytbabknhccapaoaa
