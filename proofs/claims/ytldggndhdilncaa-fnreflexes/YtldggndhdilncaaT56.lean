/-
  Rules, values and tests, drawn.
-/
import Derived.Test.YtldggndhdilncaaT55
namespace Go.Proofs.Ytldggndhdilncaa
open Go.RowKit Va Lb
set_option linter.all false

theorem tab5 {W : World} {B k : Nat} (h : PB W B #[.int .i64 (-1), .int .i64 0, .int .i64 0, .int .i64 0, .int .i64 0, .int .i64 0, .int .i64 0, .int .i64 100, .int .i64 0, .int .i64 (-100001), .int .i64 0, .int .i64 0, .int .i64 0, .int .i64 0, .int .i64 100001, .int .i64 0, .int .i64 99, .int .i64 0, .int .i64 0, .int .i64 98] 37) (hk : k < 5) : ∃ z0 z1 z2 z3 : Int, W.cell? ⟨B, k * 4, none⟩ = some (.int .i64 z0) ∧ W.cell? ⟨B, k * 4 + 1, none⟩ = some (.int .i64 z1) ∧ W.cell? ⟨B, k * 4 + 2, none⟩ = some (.int .i64 z2) ∧ W.cell? ⟨B, k * 4 + 3, none⟩ = some (.int .i64 z3) := by
  rcases (show k = 0 ∨ k = 1 ∨ k = 2 ∨ k = 3 ∨ k = 4 by omega) with rfl | rfl | rfl | rfl | rfl
  · exact ⟨_, _, _, _, h.cell 0, h.cell 1, h.cell 2, h.cell 3⟩
  · exact ⟨_, _, _, _, h.cell 4, h.cell 5, h.cell 6, h.cell 7⟩
  · exact ⟨_, _, _, _, h.cell 8, h.cell 9, h.cell 10, h.cell 11⟩
  · exact ⟨_, _, _, _, h.cell 12, h.cell 13, h.cell 14, h.cell 15⟩
  · exact ⟨_, _, _, _, h.cell 16, h.cell 17, h.cell 18, h.cell 19⟩

set_option maxRecDepth 20000 in
set_option maxHeartbeats 16000000 in
theorem drf_any (ao : Option Addr) (cap : Nat) (bs : List Int) (w : World) (hb : Bytes w w.heap.size ao bs) (hl : bs.length ≤ 1048576) :
    Calls Try.prog 5 #[.slice ao bs.length cap] w fun e w' => ∃ (rs : List Rx) (vs : List Vl) (qs : List Int) (ar : Option Addr) (cr : Nat) (av : Option Addr) (cv : Nat) (aq : Option Addr) (cq : Nat), e = .returned (.tuple #[.slice ar rs.length cr, .slice av vs.length cv, .slice aq qs.length cq]) ∧ rs.length ≤ 20 ∧ vs.length ≤ 20 ∧ qs.length ≤ 101 ∧ (∀ x ∈ vs, (-1000 ≤ x.te ∧ x.te ≤ 1000) ∧ -1000 ≤ x.v ∧ x.v ≤ 1000) ∧ VRw 4 cvRx w' (.slice ar rs.length cr) rs ∧ VRw 2 cvVl w' (.slice av vs.length cv) vs ∧ VRw 1 cvI w' (.slice aq qs.length cq) qs ∧ Below w.heap.size w w' := by
  obtain ⟨jr, jr1, jr2, jr3, jr4⟩ := info_partsW infoRx
  obtain ⟨jv, jv1, jv2, jv3, jv4⟩ := info_partsW infoVl
  obtain ⟨ji, ji1, ji2, ji3, ji4⟩ := info_partsW infoW64
  go_enter Try.func5, Try.ntmps5
  go_wp2_with fail
  refine (new_any ao cap bs w hb hl).mono ?_
  rintro e wN ⟨rfl, hcN, bN⟩
  have hgN := hcN.1
  obtain ⟨g, hgd⟩ : ∃ g, g = w.heap.size := ⟨_, rfl⟩
  rw [← hgd] at hcN bN hgN ⊢
  have hd := (DT.start hcN).newR
  have HGD := hidden hgd
  clear hcN hb hgd
  go_upto_region 3 with fail
  generalize wN.alloc (.cells #[] 37) = wA at *
  generalize Value.slice (some ⟨wN.heap.size, 0, none⟩) 0 0 = v0 at *
  go_wp2_with fail
  refine (below_any g ao cap bs 10 _ hd.cur (by omega)).mono ?_
  rintro e w1 ⟨x1, rfl, x10, x11, hc1, hk1⟩
  obtain ⟨n0, rfl⟩ := Int.eq_ofNat_of_zero_le x10
  have hd1 := hd.call hc1 hk1
  clear hd hc1 hk1
  go_wp2_with fail
  go_loopw [6, 7, 8] (fun rv kv _ wr => ∃ (k : Nat) (rs : List Rx), k + rs.length ≤ 10 ∧ kv = .int .i64 k ∧ DT wN wr g ao cap bs rv (.slice none 0 0) (.slice none 0 0) rs [] []) (fun _ kv _ _ => (intOf kv).toNat)
  case atStart => exact ⟨n0, [], by simp; omega, rfl, hd1⟩
  case round =>
    clear hd1
    obtain ⟨k, rs, hkl, rfl, hd⟩ := hrel
    obtain ⟨ar, cr, rfl⟩ := ownW_slice hd.r
    by_cases hk0 : 0 < k
    · have hki : (0 : Int) < (k : Int) := by omega
      go_wp2_with fail
      refine (below_any g ao cap bs 7 _ hd.cur (by omega)).mono ?_
      rintro e w2 ⟨y1, rfl, y10, y11, hc2, hk2⟩
      have hd2 := hd.call hc2 hk2
      clear hd hc2 hk2
      go_wp2_with fail
      refine (from_any g ao cap bs (-5) 5 _ hd2.cur (by omega) (by omega) (by omega)).mono ?_
      rintro e w3 ⟨y2, rfl, y20, y21, hc3, hk3⟩
      have hd3 := hd2.call hc3 hk3
      clear hd2 hc3 hk3
      go_wp2_with fail
      refine (below_any g ao cap bs 7 _ hd3.cur (by omega)).mono ?_
      rintro e w4 ⟨y3, rfl, y30, y31, hc4, hk4⟩
      have hd4 := hd3.call hc4 hk4
      clear hd3 hc4 hk4
      have hP := PB.new w4 #[.int .i64 y1, .int .i64 y2, .int .i64 0, .int .i64 y3] 37
      have hd5 := hd4.alloc (.cells #[.int .i64 y1, .int .i64 y2, .int .i64 0, .int .i64 y3] 37)
      have hlt := fun k hk => (ownW_lt hd4.r k hk).2
      have hz4 := hd4.keep.size
      have hgg := hd4.gg
      go_upto_region 7 with fail
      generalize w4.alloc (.cells #[.int .i64 y1, .int .i64 y2, .int .i64 0, .int .i64 y3] 37) = w5 at *
      clear hd4
      generalize w4.heap.size = V at *
      refine regDr7 rfl rfl rfl hd5.cur hP (by omega) ?_
      intro b' w6 z hf hc6 hk6
      have hP6 := hP.keep hk6 (by omega)
      have hd6 := (hd5.call hc6 hk6).far hP6 (by omega) (fun k hk => by have := hlt k hk; omega) 2 (.int .i64 z)
      have hP7 := hP6.put 2 (.int .i64 z) (vs' := #[.int .i64 y1, .int .i64 y2, .int .i64 z, .int .i64 y3]) (by simp)
      rw [layDr7 hf]
      clear hf hc6 hk6 hd5 hP hP6 hlt
      generalize w6.setCell ⟨V, 2, none⟩ (.int .i64 z) = w7 at *
      generalize Rg.out (Rg.opsOf Try.f5 7) b' 0 = o0
      generalize Rg.out (Rg.opsOf Try.f5 7) b' 1 = o1
      generalize Rg.out (Rg.opsOf Try.f5 7) b' 2 = o2
      generalize Rg.out (Rg.opsOf Try.f5 7) b' 3 = o3
      generalize Rg.out (Rg.opsOf Try.f5 7) b' 4 = o4
      generalize Rg.out (Rg.opsOf Try.f5 7) b' 5 = o5
      go_frame
      obtain ⟨e0, e1, e2, e3⟩ := hP7.four
      have HX := hidden (hd6.alloc (.cells #[.int .i64 y1, .int .i64 y2, .int .i64 z, .int .i64 y3] 37))
      have hsz := hd6.keep.size
      clear hd6 hP7
      go_wp2_with (at_builtin; refine wpList_append_own _ rfl (.tmp 35) (.tmp 37) 24 rfl wN.heap.size 37 jr (.agg #[.int .i64 0, .int .i64 0, .int .i64 0, .int .i64 0]) 4 32 Try.underlying24 jr1 jr2 jr3 jr4 rfl (by decide) _ rs.length (vcellsL 4 cvRx rs) rfl HX.out.r ⟨w7.heap.size, 0, none⟩ 1 1 [.int .i64 y1, .int .i64 y2, .int .i64 z, .int .i64 y3] rfl rfl (cellT_4 _ _ _ _ _ _) (by simp [Value.oneCell']) (by unfold maxLen; omega) (by omega) (by simp; omega) ?_; intro v5 w8 ho5 hg5 hn5)
      have hd8 := HX.out.appR (x := ⟨y1, y2, z, y3⟩) ho5 hg5
      clear HX ho5 hg5 hn5
      go_roundw
      case rel => exact ⟨k - 1, rs ++ [⟨y1, y2, z, y3⟩], by simp; omega, by congr 1; omega, hd8⟩
      case measure => simp [intOf]; omega
    · have hki : ¬ (0 : Int) < (k : Int) := by omega
      have hrl : rs.length ≤ 10 := by omega
      have hd1 := hd.newV
      clear hd hkl
      go_upto_region 10 with fail
      generalize wr.alloc (.cells #[] 40) = wB at *
      generalize Value.slice (some ⟨wr.heap.size, 0, none⟩) 0 0 = v1 at *
      go_wp2_with fail
      go_loopw [9, 10] (fun vv tv wq => ∃ (t : Nat) (vs : List Vl), t ≤ 7 ∧ vs.length ≤ t ∧ tv = .int .i64 t ∧ DT wN wq g ao cap bs (.slice ar rs.length cr) vv (.slice none 0 0) rs vs []) (fun _ tv _ => 7 - (intOf tv).toNat)
      case atStart => exact ⟨0, [], by omega, by simp, rfl, hd1⟩
      case round =>
        clear hd1
        obtain ⟨t, vs, ht7, hvt, rfl, hd⟩ := hrel
        obtain ⟨av, cv, rfl⟩ := ownW_slice hd.v
        by_cases ht : t < 7
        · have hti : (t : Int) < 7 := by omega
          go_wp2_with fail
          refine (once_any g ao cap bs 5 _ hd.cur (by omega)).mono ?_
          rintro e w2 ⟨t2, rfl, hc2, hk2⟩
          have hd2 := hd.call hc2 hk2
          clear hd hc2 hk2
          cases t2 with
          | true =>
            go_wp2_with fail
            go_roundw
            case rel => exact ⟨t + 1, vs, by omega, by omega, rfl, hd2⟩
            case measure => simp [intOf]; omega
          | false =>
            go_wp2_with fail
            refine (from_any g ao cap bs (-6) 12 _ hd2.cur (by omega) (by omega) (by omega)).mono ?_
            rintro e w3 ⟨y, rfl, y0, y1, hc3, hk3⟩
            have hd3 := hd2.call hc3 hk3
            have HX := hidden (hd3.alloc (.cells #[.int .i64 (t : Int), .int .i64 y] 40))
            have hsz := hd3.keep.size
            clear hd2 hd3 hc3 hk3
            go_wp2_with (at_builtin; refine wpList_append_own _ rfl (.tmp 47) (.tmp 52) 25 rfl wN.heap.size 40 jv (.agg #[.int .i64 0, .int .i64 0]) 2 16 Try.underlying25 jv1 jv2 jv3 jv4 rfl (by decide) _ vs.length (vcellsL 2 cvVl vs) rfl HX.out.v ⟨w3.heap.size, 0, none⟩ 1 1 [.int .i64 (t : Int), .int .i64 y] rfl rfl (cellT_2 _ _ _ _) (by simp [Value.oneCell']) (by unfold maxLen; omega) (by omega) (by simp; omega) ?_; intro v5 w8 ho5 hg5 hn5)
            have hd8 := HX.out.appV (x := ⟨t, y⟩) ho5 hg5 ⟨⟨by show (-1000 : Int) ≤ (t : Int); omega, by show (t : Int) ≤ 1000; omega⟩, by show (-1000 : Int) ≤ y; omega, by show y ≤ 1000; omega⟩
            clear HX ho5 hg5 hn5
            go_roundw
            case rel => exact ⟨t + 1, vs ++ [⟨t, y⟩], by omega, by simp; omega, rfl, hd8⟩
            case measure => simp [intOf]; omega
        · have hti : ¬ (t : Int) < 7 := by omega
          have hvl : vs.length ≤ 7 := by omega
          have hd1 := hd.newQ
          clear hd hvt ht7
          go_upto_region 16 with fail
          generalize wr.alloc (.cells #[] 2) = wC at *
          generalize Value.slice (some ⟨wr.heap.size, 0, none⟩) 0 0 = v2 at *
          go_wp2_with fail
          refine (below_any g ao cap bs 4 _ hd1.cur (by omega)).mono ?_
          rintro e w1 ⟨x1, rfl, x10, x11, hc1, hk1⟩
          obtain ⟨n1, rfl⟩ := Int.eq_ofNat_of_zero_le x10
          have hd2 := hd1.call hc1 hk1
          clear hd1 hc1 hk1
          go_wp2_with fail
          go_loopw [11, 12] (fun qv kv wz => ∃ (k : Nat) (qs : List Int), k + qs.length ≤ 4 ∧ kv = .int .i64 k ∧ DT wN wz g ao cap bs (.slice ar rs.length cr) (.slice av vs.length cv) qv rs vs qs) (fun _ kv _ => (intOf kv).toNat)
          case atStart => exact ⟨n1, [], by simp; omega, rfl, hd2⟩
          case round =>
            clear hd2
            obtain ⟨k, qs, hkl, rfl, hd⟩ := hrel
            obtain ⟨aq, cq, rfl⟩ := ownW_slice hd.q
            by_cases hk0 : 0 < k
            · have hki : (0 : Int) < (k : Int) := by omega
              go_wp2_with fail
              refine (below_any g ao cap bs 7 _ hd.cur (by omega)).mono ?_
              rintro e w2 ⟨y1, rfl, y10, y11, hc2, hk2⟩
              have hd2 := hd.call hc2 hk2
              have HX := hidden (hd2.alloc (.cells #[.int .i64 y1] 2))
              have hsz := hd2.keep.size
              clear hd hd2 hc2 hk2
              go_wp2_with (at_builtin; refine wpList_append_own _ rfl (.tmp 61) (.tmp 64) 26 rfl wN.heap.size 2 ji (.int .i64 0) 1 8 Try.underlying26 ji1 ji2 ji3 ji4 rfl (by decide) _ qs.length (qs.map fun z => Value.int .i64 z) rfl HX.out.q ⟨w2.heap.size, 0, none⟩ 1 1 [.int .i64 y1] rfl rfl (cell_oneW _ _ _) (by simp [Value.oneCell']) (by unfold maxLen; omega) (by omega) (by simp; omega) ?_; intro v5 w8 ho5 hg5 hn5)
              have hd8 := HX.out.appQ ho5 hg5
              clear HX ho5 hg5 hn5
              go_roundw
              case rel => exact ⟨k - 1, qs ++ [y1], by simp; omega, by congr 1; omega, hd8⟩
              case measure => simp [intOf]; omega
            · have hki : ¬ (0 : Int) < (k : Int) := by omega
              have hql : qs.length ≤ 4 := by omega
              clear hkl
              go_wp2_with fail
              refine (once_any g ao cap bs 24 _ hd.cur (by omega)).mono ?_
              rintro e w2 ⟨t2, rfl, hc2, hk2⟩
              have hd2 := hd.call hc2 hk2
              clear hd hc2 hk2
              rw [HGD.out] at bN
              cases t2 with
              | false =>
                have HD := hidden hd2
                clear hd2
                go_wp2_with fail
                refine bodyPost_ret (v := .tuple #[.slice ar rs.length cr, .slice av vs.length cv, .slice aq qs.length cq]) (by simp [results, Try.results5, go_sem]) rfl ?_
                exact ⟨rs, vs, qs, ar, cr, av, cv, aq, cq, rfl, by omega, by omega, by omega, HD.out.b, HD.out.rows.1, HD.out.rows.2.1, HD.out.rows.2.2, bN.trans (HD.out.keep.below (Nat.le_of_eq HGD.out.symm) bN.size)⟩
              | true =>
                go_wp2_with fail
                refine (below_any g ao cap bs 4 _ hd2.cur (by omega)).mono ?_
                rintro e w3 ⟨y9, rfl, y90, y91, hc3, hk3⟩
                have hd3 := hd2.call hc3 hk3
                clear hd2 hc3 hk3
                rcases (show y9 = 0 ∨ y9 = 1 ∨ y9 = 2 ∨ y9 = 3 by omega) with rfl | rfl | rfl | rfl
                · have hT := hidden (Tb.new (g := g) (w := w3) [(-1), 99, 100] hd3.cur.1)
                  have hd4 := hidden (hd3.alloc (.cells #[.int .i64 (-1), .int .i64 99, .int .i64 100] 2))
                  clear hd3
                  go_wp2_with fail
                  refine (below_any g ao cap bs 3 _ hd4.out.cur (by omega)).mono ?_
                  rintro e w4 ⟨aA, rfl, aA0, aA1, hcA, hkA⟩
                  obtain ⟨k4, rfl⟩ := Int.eq_ofNat_of_zero_le aA0
                  have hkl : k4 < 3 := by omega
                  have hcell := (hT.out.keep hkA).at (k := k4) hkl
                  have HZB := hidden ((by decide : ∀ (k : Nat) (h : k < 3), -1000 ≤ ([(-1), 99, 100] : List Int)[k] ∧ ([(-1), 99, 100] : List Int)[k] ≤ 1000) k4 hkl)
                  generalize hz : ([(-1), 99, 100] : List Int)[k4] = z at hcell HZB
                  have hd5 := hd4.out.call hcA hkA
                  have hsz := hd5.keep.size
                  clear hz hT hcA hkA hd4
                  have HX := hidden (hd5.alloc (.cells #[.int .i64 z] 2))
                  clear hd5
                  go_wp2_with (at_builtin; refine wpList_append_own _ rfl (.tmp 72) (.tmp 78) 26 rfl wN.heap.size 2 ji (.int .i64 0) 1 8 Try.underlying26 ji1 ji2 ji3 ji4 rfl (by decide) _ qs.length (qs.map fun z => Value.int .i64 z) rfl HX.out.q ⟨w4.heap.size, 0, none⟩ 1 1 [.int .i64 z] rfl rfl (cell_oneW _ _ _) (by simp [Value.oneCell']) (by unfold maxLen; omega) (by omega) (by simp; omega) ?_; intro v5 w8 ho5 hg5 hn5; have HD := hidden (HX.out.appQ ho5 hg5); obtain ⟨aq2, cq2, rfl⟩ := ownW_slice ho5; clear ho5 hg5 hn5)
                  refine bodyPost_ret (v := .tuple #[.slice ar rs.length cr, .slice av vs.length cv, .slice aq2 (qs.length + 1) cq2]) (by simp [results, Try.results5, go_sem]) rfl ?_
                  exact ⟨rs, vs, qs ++ [z], ar, cr, av, cv, aq2, cq2, (by first | rfl | (simp only [List.length_append, List.length_replicate]; rfl)), (by first | omega | (simp; omega)), (by first | omega | (simp; omega)), (by first | omega | (simp; omega)), HD.out.b, (by have := HD.out.rows.1; simpa using this), (by have := HD.out.rows.2.1; simpa using this), (by have := HD.out.rows.2.2; simpa using this), bN.trans (HD.out.keep.below (Nat.le_of_eq HGD.out.symm) bN.size)⟩
                · have hT := hidden (Tb.new (g := g) (w := w3) [(-1), 99, 100, 3] hd3.cur.1)
                  have hd4 := hidden (hd3.alloc (.cells #[.int .i64 (-1), .int .i64 99, .int .i64 100, .int .i64 3] 2))
                  clear hd3
                  go_wp2_with fail
                  refine (below_any g ao cap bs 4 _ hd4.out.cur (by omega)).mono ?_
                  rintro e w4 ⟨aA, rfl, aA0, aA1, hcA, hkA⟩
                  obtain ⟨k4, rfl⟩ := Int.eq_ofNat_of_zero_le aA0
                  have hkl : k4 < 4 := by omega
                  have hcell := (hT.out.keep hkA).at (k := k4) hkl
                  have HZB := hidden ((by decide : ∀ (k : Nat) (h : k < 4), -1000 ≤ ([(-1), 99, 100, 3] : List Int)[k] ∧ ([(-1), 99, 100, 3] : List Int)[k] ≤ 1000) k4 hkl)
                  generalize hz : ([(-1), 99, 100, 3] : List Int)[k4] = z at hcell HZB
                  have hd5 := hd4.out.call hcA hkA
                  have hsz := hd5.keep.size
                  clear hz hT hcA hkA hd4
                  have HX := hidden (hd5.alloc (.cells #[.int .i64 z, .int .i64 0] 40))
                  clear hd5
                  go_wp2_with (at_builtin; refine wpList_append_own _ rfl (.tmp 82) (.tmp 89) 25 rfl wN.heap.size 40 jv (.agg #[.int .i64 0, .int .i64 0]) 2 16 Try.underlying25 jv1 jv2 jv3 jv4 rfl (by decide) _ vs.length (vcellsL 2 cvVl vs) rfl HX.out.v ⟨w4.heap.size, 0, none⟩ 1 1 [.int .i64 z, .int .i64 0] rfl rfl (cellT_2 _ _ _ _) (by simp [Value.oneCell']) (by unfold maxLen; omega) (by omega) (by simp; omega) ?_; intro v5 w8 ho5 hg5 hn5; have HD := hidden (HX.out.appV (x := ⟨z, 0⟩) ho5 hg5 ⟨HZB.out, by show (-1000 : Int) ≤ 0; omega, by show (0 : Int) ≤ 1000; omega⟩); obtain ⟨av2, cv2, rfl⟩ := ownW_slice ho5; clear ho5 hg5 hn5)
                  refine bodyPost_ret (v := .tuple #[.slice ar rs.length cr, .slice av2 (vs.length + 1) cv2, .slice aq qs.length cq]) (by simp [results, Try.results5, go_sem]) rfl ?_
                  exact ⟨rs, vs ++ [⟨z, 0⟩], qs, ar, cr, av2, cv2, aq, cq, (by first | rfl | (simp only [List.length_append, List.length_replicate]; rfl)), (by first | omega | (simp; omega)), (by first | omega | (simp; omega)), (by first | omega | (simp; omega)), HD.out.b, (by have := HD.out.rows.1; simpa using this), (by have := HD.out.rows.2.1; simpa using this), (by have := HD.out.rows.2.2; simpa using this), bN.trans (HD.out.keep.below (Nat.le_of_eq HGD.out.symm) bN.size)⟩
                · have hP := hidden (PB.new w3 #[.int .i64 (-1), .int .i64 0, .int .i64 0, .int .i64 0, .int .i64 0, .int .i64 0, .int .i64 0, .int .i64 100, .int .i64 0, .int .i64 (-100001), .int .i64 0, .int .i64 0, .int .i64 0, .int .i64 0, .int .i64 100001, .int .i64 0, .int .i64 99, .int .i64 0, .int .i64 0, .int .i64 98] 37)
                  have hd4 := hidden (hd3.alloc (.cells #[.int .i64 (-1), .int .i64 0, .int .i64 0, .int .i64 0, .int .i64 0, .int .i64 0, .int .i64 0, .int .i64 100, .int .i64 0, .int .i64 (-100001), .int .i64 0, .int .i64 0, .int .i64 0, .int .i64 0, .int .i64 100001, .int .i64 0, .int .i64 99, .int .i64 0, .int .i64 0, .int .i64 98] 37))
                  have hz3 := Nat.ne_of_gt hd3.cur.1
                  clear hd3
                  go_wp2_with fail
                  refine (below_any g ao cap bs 5 _ hd4.out.cur (by omega)).mono ?_
                  rintro e w4 ⟨aA, rfl, aA0, aA1, hcA, hkA⟩
                  obtain ⟨k4, rfl⟩ := Int.eq_ofNat_of_zero_le aA0
                  have hkl : k4 < 5 := by omega
                  obtain ⟨z0, z1, z2, z3, e0, e1, e2, e3⟩ := tab5 (hP.out.keep hkA hz3) hkl
                  have hd5 := hd4.out.call hcA hkA
                  have hsz := hd5.keep.size
                  have HX := hidden (hd5.alloc (.cells #[.int .i64 z0, .int .i64 z1, .int .i64 z2, .int .i64 z3] 37))
                  clear hP hcA hkA hd4 hd5
                  go_wp2_with (at_builtin; refine wpList_append_own _ rfl (.tmp 93) (.tmp 104) 24 rfl wN.heap.size 37 jr (.agg #[.int .i64 0, .int .i64 0, .int .i64 0, .int .i64 0]) 4 32 Try.underlying24 jr1 jr2 jr3 jr4 rfl (by decide) _ rs.length (vcellsL 4 cvRx rs) rfl HX.out.r ⟨w4.heap.size, 0, none⟩ 1 1 [.int .i64 z0, .int .i64 z1, .int .i64 z2, .int .i64 z3] rfl rfl (cellT_4 _ _ _ _ _ _) (by simp [Value.oneCell']) (by unfold maxLen; omega) (by omega) (by simp; omega) ?_; intro v5 w8 ho5 hg5 hn5; have HD := hidden (HX.out.appR (x := ⟨z0, z1, z2, z3⟩) ho5 hg5); obtain ⟨ar2, cr2, rfl⟩ := ownW_slice ho5; clear ho5 hg5 hn5)
                  refine bodyPost_ret (v := .tuple #[.slice ar2 (rs.length + 1) cr2, .slice av vs.length cv, .slice aq qs.length cq]) (by simp [results, Try.results5, go_sem]) rfl ?_
                  exact ⟨rs ++ [⟨z0, z1, z2, z3⟩], vs, qs, ar2, cr2, av, cv, aq, cq, (by first | rfl | (simp only [List.length_append, List.length_replicate]; rfl)), (by first | omega | (simp; omega)), (by first | omega | (simp; omega)), (by first | omega | (simp; omega)), HD.out.b, (by have := HD.out.rows.1; simpa using this), (by have := HD.out.rows.2.1; simpa using this), (by have := HD.out.rows.2.2; simpa using this), bN.trans (HD.out.keep.below (Nat.le_of_eq HGD.out.symm) bN.size)⟩
                · go_wp2_with fail
                  refine (below_any g ao cap bs 2 _ hd3.cur (by omega)).mono ?_
                  rintro e w4 ⟨aA, rfl, aA0, aA1, hcA, hkA⟩
                  obtain ⟨j, rfl⟩ := Int.eq_ofNat_of_zero_le aA0
                  have HD5 := hidden (hd3.call hcA hkA)
                  have hsz := HD5.out.keep.size
                  clear hd3 hcA hkA
                  go_wp2_with (refine wpList_make_full _ rfl (.tmp 110) (.tmp 110) 26 rfl wN.heap.size 2 ji (.int .i64 0) 1 Try.underlying26 ji1 ji2 ji3 .i64 .i64 _ _ (100 + j) rfl rfl (by omega) (by omega) (by rw [ji4]; omega) (by unfold maxLen; omega) (by omega) ?_; intro w8 ho8 hg8; rw [made_ints] at ho8; have HD := hidden (HD5.out.madeQ (l := List.replicate (100 + j) 0) (by rw [List.length_replicate]; exact ho8) hg8); clear ho8 hg8)
                  refine bodyPost_ret (v := .tuple #[.slice ar rs.length cr, .slice av vs.length cv, .slice (some ⟨w4.heap.size, 0, none⟩) (100 + j) (100 + j)]) (by simp [results, Try.results5, go_sem]) rfl ?_
                  exact ⟨rs, vs, List.replicate (100 + j) 0, ar, cr, av, cv, _, _, (by first | rfl | (simp only [List.length_append, List.length_replicate]; rfl)), (by first | omega | (simp; omega)), (by first | omega | (simp; omega)), (by first | omega | (simp; omega)), HD.out.b, (by have := HD.out.rows.1; simpa using this), (by have := HD.out.rows.2.1; simpa using this), (by have := HD.out.rows.2.2; simpa using this), bN.trans (HD.out.keep.below (Nat.le_of_eq HGD.out.symm) bN.size)⟩
end Go.Proofs.Ytldggndhdilncaa
