/-
  Of the drugs in another order the same pairs are warned of: the walk of the law.
-/
import Derived.Test.YtcnhogghfedcdaaNj
import Derived.Test.YtcnhogghfedcdaaNg
import Derived.Test.YtcnhogghfedcdaaNp
namespace Go.Proofs.Ytcnhogghfedcdaa
open Go.RowKit Va Ga
set_option linter.unusedVariables false

/-- The drugs B at v, in a block younger than w3; their classes as in w3. -/
structure LBk (w3 W : World) (v : Value) (B : List (Dg × Value)) : Prop where
  own : W.ownsRow w3.heap.size 26 6 v B.length (cellsD B)
  rows : ∀ p ∈ B, IRw w3 p.2 p.1.cls
theorem LBk.row {w3 W : World} {v : Value} {B : List (Dg × Value)} (h : LBk w3 W v B) (hb : Below w3.heap.size w3 W) : DRw W v (B.map Prod.fst) := own_drw h.own fun p hp => (h.rows p hp).below hb
theorem pb_two {W : World} {B : Nat} {a b : Int} (h : PB W B #[.int .i64 a, .int .i64 b] 2) : IRw W (.slice (some ⟨B, 0, none⟩) 2 2) [a, b] := by
  refine ⟨_, 2, rfl, Nat.le_refl _, Or.inr ⟨B, 0, rfl, h.lt, fun i x hx => ?_⟩⟩
  rw [h.cell]
  match i, hx with
  | 0, hx => simp at hx; subst hx; rfl
  | 1, hx => simp at hx; subst hx; rfl
theorem drop_back {l : List Dg} {k : Nat} {x : Dg} (hx : l[k]? = some x) : (l.drop k).reverse = (l.drop (k + 1)).reverse ++ [x] := by
  obtain ⟨h, rfl⟩ := List.getElem?_eq_some_iff.1 hx
  rw [List.drop_eq_getElem_cons h, List.reverse_cons]

set_option maxRecDepth 20000 in
set_option maxHeartbeats 16000000 in
theorem fxi_walk (ao : Option Addr) (cap : Nat) (bs : List Int) (w : World) (hb : Bytes w w.heap.size ao bs) :
    Calls Try.prog 4 #[.slice ao bs.length cap] w fun e w' => e = .returned (.bool true) ∧ Below w.heap.size w w' := by
  obtain ⟨i0, hi0, hv0, hv1, hv2⟩ := info_parts infoDgJ
  have hB := big_any ao cap bs.length
  have HBY := hidden hb
  clear hb
  by_cases hbig : (4096 : Int) < (bs.length : Int)
  · rw [decide_eq_true hbig] at hB
    go_enter Try.func4, Try.ntmps4
    go_wp2_with fail
    refine (hB _).mono ?_
    rintro e w1 ⟨rfl, rfl⟩
    go_wp2_with fail
    go_ret
    exact ⟨rfl, Below.refl _ _⟩
  rw [decide_eq_false hbig] at hB
  have hl : bs.length ≤ 4096 := by omega
  go_enter Try.func4, Try.ntmps4
  go_wp2_with fail
  refine (hB w).mono ?_
  rintro e w1 ⟨rfl, hw1⟩
  subst hw1
  clear hB
  go_wp2_with fail
  refine (dint_any ao cap bs w1 HBY.out (by omega)).mono ?_
  rintro e w2 ⟨ad, c, D, ar, cr, rs, rfl, hDl, hrl, hsm, hdr, hrr, b2⟩
  have HSM := hidden hsm
  have HDR := hidden hdr
  have HRR := hidden hrr
  clear hsm hdr hrr
  go_wp2_with fail
  refine (iint_any ad D.length c D ar rs.length cr rs _ HDR.out HRR.out (by omega) (fun x hx => by have := HSM.out x hx; omega) (by omega)).mono ?_
  rintro e w3 ⟨v3, rfl, ho3, hb3⟩
  obtain ⟨a3, c3, rfl⟩ := ownW_slice ho3
  have b3 := onto b2 hb3
  have HO3 := hidden ho3
  have HDR3 := hidden (HDR.out.below hb3)
  have HRR3 := hidden (HRR.out.below hb3)
  clear b2 hb3 ho3 HDR HRR
  go_wp2_with fail
  refine (sint_any ad D.length c D ar rs.length cr rs _ HDR3.out HRR3.out (by omega) (fun x hx => by have := HSM.out x hx; omega) (by omega)).mono ?_
  rintro e w4 ⟨v4, rfl, ho4, hb4⟩
  obtain ⟨a4, c4, rfl⟩ := ownW_slice ho4
  have b4 := onto b3 hb4
  have HRW := hidden (own_of (s := 3) (cs := csWg) rfl (ownW_below HO3.out hb4)).row
  have HDR4 := hidden (HDR3.out.below hb4)
  have HRR4 := hidden (HRR3.out.below hb4)
  have hWLn := warn_len rs D
  have HREV := hidden (warn_reverse rs D)
  have HWY : Hid (∀ x ∈ warn rs D, ∃ (i j k : Nat) (X Y : Dg) (r : Ru), x = ⟨i, j, k⟩ ∧ D[i]? = some X ∧ D[j]? = some Y ∧ rs[k]? = some r ∧ allergic X [r.a, r.b] = true ∧ allergic Y [r.a, r.b] = true) := fun x hx => warn_why hx
  have HBK : Hid (∀ x ∈ warn rs D, (⟨(D.length : Int) - 1 - x.b, (D.length : Int) - 1 - x.a, x.r⟩ : Wg) ∈ warn rs D.reverse) := fun x hx => warn_back hx
  clear b3 hb4 ho4 HO3 HDR3 HRR3
  generalize warn rs D = WL at *
  have HS : Hid (LBk w4 (w4.alloc (.cells #[] 26)) (.slice (some ⟨w4.heap.size, 0, none⟩) 0 0) []) := ⟨⟨rfl, .inr ⟨w4.heap.size, 0, #[], rfl, Nat.le_refl _, heap_alloc_new w4 _, Nat.le_refl _, Nat.zero_le _, rfl, rfl⟩⟩, fun p hp => by cases hp⟩
  have HB4 : Hid (Below w4.heap.size w4 (w4.alloc (.cells #[] 26))) := (Below.refl _ _).alloc (Nat.le_refl _) _
  go_upto_region 9 with fail
  generalize w4.alloc (.cells #[] 26) = w5 at *
  generalize Value.slice (some ⟨w4.heap.size, 0, none⟩) 0 0 = v5 at *
  go_wp2_with fail
  go_loopw [7, 8] (fun sv iv wr => ∃ (k : Nat) (B : List (Dg × Value)), k ≤ D.length ∧ iv = .int .i64 ((k : Int) - 1) ∧ Hid (B.map Prod.fst = (D.drop k).reverse) ∧ LBk w4 wr sv B ∧ Below w4.heap.size w4 wr) (fun _ iv _ => (intOf iv + 1).toNat)
  case atStart => exact ⟨D.length, [], Nat.le_refl _, rfl, by rw [Hid, List.drop_length]; rfl, HS.out, HB4.out⟩
  case round =>
    clear HS HB4
    obtain ⟨k, B, hk, rfl, HM, hLB, hb⟩ := hrel
    obtain ⟨a5, c5, rfl⟩ := ownW_slice hLB.own
    have hBl : B.length = D.length - k := by have := congrArg List.length HM.out; simpa using this
    by_cases hk0 : 0 < k
    · obtain ⟨i, rfl⟩ : ∃ i, k = i + 1 := ⟨k - 1, by omega⟩
      rw [show (((i + 1 : Nat) : Int) - 1) = (i : Int) by omega]
      have hlti : (i : Int) < (D.length : Int) := by omega
      have hiz : (0 : Int) ≤ (i : Int) := by omega
      obtain ⟨x, hx⟩ := some_of D i (by omega)
      obtain ⟨g, off, ta, tc, rfl, hg, hrow, -⟩ := HDR4.out.at hx
      obtain ⟨g', off', ta', tc', he, hg', hrow', d0, d1, d2, d3, d4, d5⟩ := (HDR4.out.below hb).at hx
      obtain ⟨rfl, rfl⟩ : g = g' ∧ off = off' := by simpa using he
      have HROW : Hid (IRw w4 (.slice ta' x.cls.length tc') x.cls) := by
        obtain ⟨g3, off3, ta3, tc3, he3, hg3, hrow3, -, y1, -⟩ := HDR4.out.at hx
        obtain ⟨rfl, rfl⟩ : g = g3 ∧ off = off3 := by simpa using he3
        have := (hb.cell (p := ⟨g, off + i * 6 + 1, none⟩) hg).trans y1
        rw [d1] at this
        simp only [Option.some.injEq, Value.slice.injEq, true_and] at this
        obtain ⟨rfl, rfl⟩ := this
        exact hrow3
      have HDB := hidden (drop_back hx)
      clear hrow hrow' he
      have HX : Hid (LBk w4 (wr.alloc (.cells #[.int .i64 x.id, .slice ta' x.cls.length tc', .int .i64 x.pk, .int .i64 x.most, .int .i64 x.day, .int .i64 x.kid] 26)) (.slice a5 B.length c5) B) := ⟨ownW_below hLB.own ((Below.refl _ _).alloc (Nat.le_refl _) _), hLB.rows⟩
      have hszA := hb.size
      have HLt := hidden (ownW_lt hLB.own)
      clear hLB hx
      go_wp2_with (at_builtin; refine wpList_append_own _ rfl (.tmp 41) (.tmp 46) 31 rfl w4.heap.size 26 i0 (.agg #[.int .i64 0, .slice none 0 0, .int .i64 0, .int .i64 0, .int .i64 0, .int .i64 0]) 6 64 Try.underlying31 hi0 hv0 hv1 hv2 rfl (by decide) _ B.length (cellsD B) rfl HX.out.own ⟨wr.heap.size, 0, none⟩ 1 1 [.int .i64 x.id, .slice ta' x.cls.length tc', .int .i64 x.pk, .int .i64 x.most, .int .i64 x.day, .int .i64 x.kid] rfl rfl (cell6J _ _ _ _ _ _ _ _) (six_oneJ _ _ _ _ _ _ _ _) (by unfold maxLen; omega) (by omega) (by simp; omega) ?_; intro vA wA2 hoA hgA hnA)
      have hLA : LBk w4 wA2 vA (B ++ [(x, .slice ta' x.cls.length tc')]) := ⟨by rw [List.length_append, cellsD_app]; exact hoA, fun p hp => by
        rcases List.mem_append.1 hp with q | q
        · exact HX.out.rows p q
        · simp at q; subst q; exact HROW.out⟩
      have hbA : Below w4.heap.size w4 wA2 := (hb.alloc hszA _).grown hgA (by simp; omega) (fun k hk => (HLt.out k hk).1)
      go_roundw
      case rel => exact ⟨i, _, by omega, rfl, by rw [Hid, List.map_append, HM.out, HDB.out]; rfl, hLA, hbA⟩
      case measure => simp [intOf]
    · obtain rfl : k = 0 := by omega
      have HMR : Hid (B.map Prod.fst = D.reverse) := by have := HM.out; rw [List.drop_zero] at this; exact this
      have HDB := hidden (hLB.row hb)
      rw [HMR.out] at HDB
      have hBD : B.length = D.length := by have := congrArg List.length HMR.out; simpa using this
      rw [hBD] at HDB ⊢
      have hIM := iint_any a5 D.length c5 D.reverse ar rs.length cr rs wr HDB.out (HRR4.out.below hb) (by simp; omega) (fun x hx => by have := HSM.out x (List.mem_reverse.1 hx); omega) (by omega)
      rw [show ((0 : Nat) : Int) - 1 = -1 from rfl]
      go_wp2_with fail
      refine hIM.mono ?_
      rintro e w6 ⟨v6, rfl, ho6, hb6⟩
      obtain ⟨a6, c6, rfl⟩ := ownW_slice ho6
      have hML := hidden (own_of (s := 3) (cs := csWg) rfl ho6).row
      have b6 := hb.trans (hb6.mono hb.size)
      clear hIM ho6 hb6 hLB hb HM HMR hBl hk0
      have hlen := HREV.out
      generalize warn rs D.reverse = ML at *
      have HW6 := hidden (HRW.out.below b6)
      have HD6 := hidden (HDR4.out.below b6)
      have HR6 := hidden (HRR4.out.below b6)
      have B6 := hidden (onto b4 b6)
      clear b4 b6 HRW HDR4 HRR4 HREV HDB hBD
      rw [hlen] at hML ⊢
      go_wp2_with fail
      go_loopw [10, 11, 12, 13, 14] (fun iv _ _ _ _ wy => ∃ i : Nat, i ≤ WL.length ∧ iv = .int .i64 i ∧ Below w6.heap.size w6 wy) (fun iv _ _ _ _ _ => WL.length - (intOf iv).toNat)
      case atStart => exact ⟨0, Nat.zero_le _, rfl, Below.refl _ _⟩
      case round =>
        obtain ⟨i, hi, rfl, hb⟩ := hrel
        have hsz := hb.size
        by_cases hlt : i < WL.length
        · have hlti : (i : Int) < (WL.length : Int) := by omega
          obtain ⟨x, hx⟩ := some_of WL i hlt
          have hxm := List.mem_of_getElem? hx
          have HTG := hidden (HBK.out x hxm)
          obtain ⟨i2, j2, m2, X, Y, r, rfl, hX, hY, hr, hAX, hAY⟩ := HWY.out x hxm
          obtain ⟨g, off, rfl, hg, hcs⟩ := (HW6.out.below hb).at hx
          have c0 : wr.cell? ⟨g, off + i * 3, none⟩ = some (.int .i64 (i2 : Nat)) := hcs 0 (by omega)
          have c1 : wr.cell? ⟨g, off + i * 3 + 1, none⟩ = some (.int .i64 (j2 : Nat)) := hcs 1 (by omega)
          have c2 : wr.cell? ⟨g, off + i * 3 + 2, none⟩ = some (.int .i64 (m2 : Nat)) := hcs 2 (by omega)
          have hi2 := get_lt' hX
          have hj2 := get_lt' hY
          have hm2 := get_lt' hr
          have bx : Below wr.heap.size wr (wr.alloc (.cells #[.int .i64 (i2 : Nat), .int .i64 (j2 : Nat), .int .i64 (m2 : Nat)] 38)) := (Below.refl _ _).alloc (Nat.le_refl _) _
          have HPX := hidden (PB.new wr #[.int .i64 (i2 : Nat), .int .i64 (j2 : Nat), .int .i64 (m2 : Nat)] 38)
          have HBX := hidden (hb.trans (bx.mono hsz))
          have HX := hidden hX
          have HY := hidden hY
          have HRr := hidden hr
          have HAX := hidden hAX
          have HAY := hidden hAY
          clear hx hxm hcs bx hb hX hY hr hAX hAY
          go_upto_region 20 with fail
          clear c0 c1 c2
          generalize wr.alloc (.cells #[.int .i64 (i2 : Nat), .int .i64 (j2 : Nat), .int .i64 (m2 : Nat)] 38) = wX at *
          generalize wr.heap.size = WB at *
          go_wp2_with fail
          go_loopw [12, 13] (fun fv kv wz => ∃ (k : Nat) (P : Bool), k ≤ WL.length ∧ kv = .int .i64 k ∧ fv = .bool P ∧ Hid (∀ j y, j < k → ML[j]? = some y → y = (⟨(D.length : Int) - 1 - (j2 : Nat), (D.length : Int) - 1 - (i2 : Nat), (m2 : Nat)⟩ : Wg) → P = true) ∧ Below wX.heap.size wX wz) (fun _ kv _ => WL.length - (intOf kv).toNat)
          case atStart => exact ⟨0, false, Nat.zero_le _, rfl, rfl, fun j y hj => absurd hj (Nat.not_lt_zero _), Below.refl _ _⟩
          case round =>
            obtain ⟨k, P, hk, rfl, rfl, HP, hbz⟩ := hrel
            by_cases hkml : k < WL.length
            · have hkmi : (k : Int) < (WL.length : Int) := by omega
              obtain ⟨y, hy⟩ := some_of ML k (by omega)
              obtain ⟨mg, moff, rfl, hgm, hcs⟩ := (hML.out.below (HBX.out.trans (hbz.mono HBX.out.size))).at hy
              have c0 : wr.cell? ⟨mg, moff + k * 3, none⟩ = some (.int .i64 y.a) := hcs 0 (by omega)
              have c1 : wr.cell? ⟨mg, moff + k * 3 + 1, none⟩ = some (.int .i64 y.b) := hcs 1 (by omega)
              have c2 : wr.cell? ⟨mg, moff + k * 3 + 2, none⟩ = some (.int .i64 y.r) := hcs 2 (by omega)
              have PXr := HPX.out.below hbz
              have HYk := hidden hy
              clear hcs hy
              cases P with
              | true =>
                go_upto_region 24 with fail
                refine regZ24t (x := ⟨i2, j2, m2⟩) (y := y) (N := (D.length : Int)) rfl rfl rfl rfl rfl rfl PXr hkml hgm c0 c1 c2 (by omega) (by simp only; omega) (by simp only; omega) ?_
                intro b' w7 hf hb7 hv
                rw [layZ24t hf, hv]
                clear hv hf
                generalize Rg.out (Rg.opsOf Try.f4 24) b' 0 = y0
                generalize Rg.out (Rg.opsOf Try.f4 24) b' 1 = y1
                generalize Rg.out (Rg.opsOf Try.f4 24) b' 2 = y2
                generalize Rg.out (Rg.opsOf Try.f4 24) b' 3 = y3
                generalize Rg.out (Rg.opsOf Try.f4 24) b' 4 = y4
                generalize Rg.out (Rg.opsOf Try.f4 24) b' 5 = y5
                generalize Rg.out (Rg.opsOf Try.f4 24) b' 6 = y6
                generalize Rg.out (Rg.opsOf Try.f4 24) b' 7 = y7
                generalize Rg.out (Rg.opsOf Try.f4 24) b' 8 = y8
                generalize Rg.out (Rg.opsOf Try.f4 24) b' 9 = y9
                generalize Rg.out (Rg.opsOf Try.f4 24) b' 10 = y10
                generalize Rg.out (Rg.opsOf Try.f4 24) b' 11 = y11
                generalize Rg.out (Rg.opsOf Try.f4 24) b' 12 = y12
                generalize Rg.out (Rg.opsOf Try.f4 24) b' 13 = y13
                generalize Rg.out (Rg.opsOf Try.f4 24) b' 14 = y14
                generalize Rg.out (Rg.opsOf Try.f4 24) b' 15 = y15
                generalize Rg.out (Rg.opsOf Try.f4 24) b' 16 = y16
                generalize Rg.out (Rg.opsOf Try.f4 24) b' 17 = y17
                generalize Rg.out (Rg.opsOf Try.f4 24) b' 18 = y18
                generalize Rg.out (Rg.opsOf Try.f4 24) b' 19 = y19
                generalize Rg.out (Rg.opsOf Try.f4 24) b' 20 = y20
                have HB7 := hidden (hbz.trans (hb7.mono hbz.size))
                clear hb7 PXr c0 c1 c2 hbz
                go_frame
                go_wp2_with fail
                go_roundw
                case rel => exact ⟨k + 1, _, by omega, rfl, rfl, fun _ _ _ _ _ => rfl, HB7.out⟩
                case measure => simp [intOf]; omega
              | false =>
                go_upto_region 24 with fail
                refine regZ24f (x := ⟨i2, j2, m2⟩) (y := y) (N := (D.length : Int)) rfl rfl rfl rfl rfl rfl PXr hkml hgm c0 c1 c2 (by omega) (by simp only; omega) (by simp only; omega) ?_
                intro b' w7 hf hb7 hv
                rw [layZ24t hf, hv]
                clear hv hf
                generalize Rg.out (Rg.opsOf Try.f4 24) b' 0 = y0
                generalize Rg.out (Rg.opsOf Try.f4 24) b' 1 = y1
                generalize Rg.out (Rg.opsOf Try.f4 24) b' 2 = y2
                generalize Rg.out (Rg.opsOf Try.f4 24) b' 3 = y3
                generalize Rg.out (Rg.opsOf Try.f4 24) b' 4 = y4
                generalize Rg.out (Rg.opsOf Try.f4 24) b' 5 = y5
                generalize Rg.out (Rg.opsOf Try.f4 24) b' 6 = y6
                generalize Rg.out (Rg.opsOf Try.f4 24) b' 7 = y7
                generalize Rg.out (Rg.opsOf Try.f4 24) b' 8 = y8
                generalize Rg.out (Rg.opsOf Try.f4 24) b' 9 = y9
                generalize Rg.out (Rg.opsOf Try.f4 24) b' 10 = y10
                generalize Rg.out (Rg.opsOf Try.f4 24) b' 11 = y11
                generalize Rg.out (Rg.opsOf Try.f4 24) b' 12 = y12
                generalize Rg.out (Rg.opsOf Try.f4 24) b' 13 = y13
                generalize Rg.out (Rg.opsOf Try.f4 24) b' 14 = y14
                generalize Rg.out (Rg.opsOf Try.f4 24) b' 15 = y15
                generalize Rg.out (Rg.opsOf Try.f4 24) b' 16 = y16
                generalize Rg.out (Rg.opsOf Try.f4 24) b' 17 = y17
                generalize Rg.out (Rg.opsOf Try.f4 24) b' 18 = y18
                generalize Rg.out (Rg.opsOf Try.f4 24) b' 19 = y19
                generalize Rg.out (Rg.opsOf Try.f4 24) b' 20 = y20
                have HB7 := hidden (hbz.trans (hb7.mono hbz.size))
                clear hb7 PXr c0 c1 c2 hbz
                go_frame
                go_wp2_with fail
                go_roundw
                case rel => exact ⟨k + 1, _, by omega, rfl, rfl, fun j z hj hz hze => by
                    rcases Nat.lt_succ_iff_lt_or_eq.1 hj with q | rfl
                    · have := HP.out j z q hz hze; cases this
                    · rw [HYk.out] at hz; cases hz; subst hze; simp, HB7.out⟩
                case measure => simp [intOf]; omega
            · have hkmi : ¬ (k : Int) < (WL.length : Int) := by omega
              have hPt : P = true := by
                obtain ⟨j, hj⟩ := List.getElem?_of_mem HTG.out
                exact HP.out j _ (by have := get_lt' hj; omega) hj rfl
              subst hPt
              clear HP hk
              obtain ⟨dg, doff, ta, tc, rfl, hdg, hrow1, x0, x1, x2, x3, x4, x5⟩ := (HD6.out.below (HBX.out.trans (hbz.mono HBX.out.size))).at HX.out
              obtain ⟨rg, roff, rfl, hrg, hrs⟩ := (HR6.out.below (HBX.out.trans (hbz.mono HBX.out.size))).at HRr.out
              have ra : wr.cell? ⟨rg, roff + m2 * 3, none⟩ = some (.int .i64 r.a) := hrs 0 (by omega)
              have rb : wr.cell? ⟨rg, roff + m2 * 3 + 1, none⟩ = some (.int .i64 r.b) := hrs 1 (by omega)
              have hKX := fun W B (hW : Below wr.heap.size wr W) (hPB : PB W B #[.int .i64 r.a, .int .i64 r.b] 2) => iallergic_any X ta X.cls.length tc (some ⟨B, 0, none⟩) 2 2 [r.a, r.b] W (hrow1.below hW) (by have := HSM.out X (List.mem_of_getElem? HX.out); omega) (pb_two hPB) (by simp)
              rw [HAX.out] at hKX
              unfold aD at hKX
              have PXr := HPX.out.below hbz
              have HBZ := hidden hbz
              clear hrs hbz
              go_upto_region 25 with fail
              refine regZ25 (x := X) (r := r) (i := i2) (j := j2) (m := m2) rfl rfl rfl rfl PXr hi2 hm2 hdg hrg x0 x1 x2 x3 x4 x5 ra rb hKX ?_
              intro b' w7 hf hb7 hv
              rw [layZ25 hf, hv]
              clear hv hf
              generalize Rg.out (Rg.opsOf Try.f4 25) b' 0 = a0
              generalize Rg.out (Rg.opsOf Try.f4 25) b' 1 = a1
              generalize Rg.out (Rg.opsOf Try.f4 25) b' 2 = a2
              generalize Rg.out (Rg.opsOf Try.f4 25) b' 3 = a3
              generalize Rg.out (Rg.opsOf Try.f4 25) b' 4 = a4
              generalize Rg.out (Rg.opsOf Try.f4 25) b' 5 = a5
              generalize Rg.out (Rg.opsOf Try.f4 25) b' 6 = a6
              generalize Rg.out (Rg.opsOf Try.f4 25) b' 7 = a7
              generalize Rg.out (Rg.opsOf Try.f4 25) b' 8 = a8
              generalize Rg.out (Rg.opsOf Try.f4 25) b' 9 = a9
              generalize Rg.out (Rg.opsOf Try.f4 25) b' 10 = a10
              generalize Rg.out (Rg.opsOf Try.f4 25) b' 11 = a11
              generalize Rg.out (Rg.opsOf Try.f4 25) b' 12 = a12
              generalize Rg.out (Rg.opsOf Try.f4 25) b' 13 = a13
              generalize Rg.out (Rg.opsOf Try.f4 25) b' 14 = a14
              generalize Rg.out (Rg.opsOf Try.f4 25) b' 15 = a15
              generalize Rg.out (Rg.opsOf Try.f4 25) b' 16 = a16
              generalize Rg.out (Rg.opsOf Try.f4 25) b' 17 = a17
              generalize Rg.out (Rg.opsOf Try.f4 25) b' 18 = a18
              have HB7 := hidden (HBZ.out.trans (hb7.mono HBZ.out.size))
              have PX7 := PXr.below hb7
              clear hb7 PXr hKX x0 x1 x2 x3 x4 x5 ra rb hrow1 HBZ hdg hrg
              obtain ⟨dg', doff', ta2, tc2, he2, hdg, hrow2, x0, x1, x2, x3, x4, x5⟩ := (HD6.out.below (HBX.out.trans (HB7.out.mono HBX.out.size))).at HY.out
              obtain ⟨rfl, rfl⟩ : dg = dg' ∧ doff = doff' := by simpa using he2
              obtain ⟨rg', roff', he3, hrg, hrs⟩ := (HR6.out.below (HBX.out.trans (HB7.out.mono HBX.out.size))).at HRr.out
              obtain ⟨rfl, rfl⟩ : rg = rg' ∧ roff = roff' := by simpa using he3
              have ra : w7.cell? ⟨rg, roff + m2 * 3, none⟩ = some (.int .i64 r.a) := hrs 0 (by omega)
              have rb : w7.cell? ⟨rg, roff + m2 * 3 + 1, none⟩ = some (.int .i64 r.b) := hrs 1 (by omega)
              have hKY := fun W B (hW : Below w7.heap.size w7 W) (hPB : PB W B #[.int .i64 r.a, .int .i64 r.b] 2) => iallergic_any Y ta2 Y.cls.length tc2 (some ⟨B, 0, none⟩) 2 2 [r.a, r.b] W (hrow2.below hW) (by have := HSM.out Y (List.mem_of_getElem? HY.out); omega) (pb_two hPB) (by simp)
              rw [HAY.out] at hKY
              unfold aD at hKY
              clear hrs he2 he3
              go_frame
              go_upto_region 26 with fail
              refine regZ26 (x := Y) (r := r) (i := i2) (j := j2) (m := m2) rfl rfl rfl rfl rfl rfl PX7 hj2 hm2 hdg hrg x0 x1 x2 x3 x4 x5 ra rb hKY ?_
              intro b' w8 hf hb8 hv
              rw [layZ26 hf, hv]
              clear hv hf
              generalize Rg.out (Rg.opsOf Try.f4 26) b' 0 = b0
              generalize Rg.out (Rg.opsOf Try.f4 26) b' 1 = b1
              generalize Rg.out (Rg.opsOf Try.f4 26) b' 2 = b2
              generalize Rg.out (Rg.opsOf Try.f4 26) b' 3 = b3
              generalize Rg.out (Rg.opsOf Try.f4 26) b' 4 = b4
              generalize Rg.out (Rg.opsOf Try.f4 26) b' 5 = b5
              generalize Rg.out (Rg.opsOf Try.f4 26) b' 6 = b6
              generalize Rg.out (Rg.opsOf Try.f4 26) b' 7 = b7
              generalize Rg.out (Rg.opsOf Try.f4 26) b' 8 = b8
              generalize Rg.out (Rg.opsOf Try.f4 26) b' 9 = b9
              generalize Rg.out (Rg.opsOf Try.f4 26) b' 10 = b10
              generalize Rg.out (Rg.opsOf Try.f4 26) b' 11 = b11
              generalize Rg.out (Rg.opsOf Try.f4 26) b' 12 = b12
              generalize Rg.out (Rg.opsOf Try.f4 26) b' 13 = b13
              generalize Rg.out (Rg.opsOf Try.f4 26) b' 14 = b14
              generalize Rg.out (Rg.opsOf Try.f4 26) b' 15 = b15
              generalize Rg.out (Rg.opsOf Try.f4 26) b' 16 = b16
              generalize Rg.out (Rg.opsOf Try.f4 26) b' 17 = b17
              generalize Rg.out (Rg.opsOf Try.f4 26) b' 18 = b18
              generalize Rg.out (Rg.opsOf Try.f4 26) b' 19 = b19
              generalize Rg.out (Rg.opsOf Try.f4 26) b' 20 = b20
              generalize Rg.out (Rg.opsOf Try.f4 26) b' 21 = b21
              generalize Rg.out (Rg.opsOf Try.f4 26) b' 22 = b22
              generalize Rg.out (Rg.opsOf Try.f4 26) b' 23 = b23
              generalize Rg.out (Rg.opsOf Try.f4 26) b' 24 = b24
              generalize Rg.out (Rg.opsOf Try.f4 26) b' 25 = b25
              generalize Rg.out (Rg.opsOf Try.f4 26) b' 26 = b26
              have HB8 := hidden (HB7.out.trans (hb8.mono HB7.out.size))
              clear hb8 PX7 hKY x0 x1 x2 x3 x4 x5 ra rb hrow2 HB7
              go_frame
              go_wp2_with fail
              go_roundw
              case rel => exact ⟨i + 1, by omega, rfl, HBX.out.trans (HB8.out.mono HBX.out.size)⟩
              case measure => simp [intOf]; omega
        · have hlti : ¬ (i : Int) < (WL.length : Int) := by omega
          go_wp2_with fail
          go_ret
          exact ⟨rfl, onto B6.out hb⟩
end Go.Proofs.Ytcnhogghfedcdaa
