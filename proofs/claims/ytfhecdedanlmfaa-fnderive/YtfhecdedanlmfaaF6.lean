/-
  Laws that are drawn of a cursor.
-/
import Derived.Test.YtfhecdedanlmfaaF5
namespace Go.Proofs.Ytfhecdedanlmfaa
open Go.RowKit Va Rc
set_option linter.all false

theorem cell3F {w : World} {g : Nat} (hg : g = w.heap.size) (p : Lp) (t : TypeId) : ∀ (j : Nat) (u : Value), (cells3 p)[j]? = some u → (w.alloc (.cells #[p.2.1, p.2.2, .int .i64 p.1.thn] t)).cell? ((⟨g, 0, none⟩ : Addr).add j) = some u := fun j u hu => by
  subst hg
  have e0 := heap_alloc_new w (Obj.cells #[p.2.1, p.2.2, .int .i64 p.1.thn] t)
  have e1 : (w.alloc (.cells #[p.2.1, p.2.2, .int .i64 p.1.thn] t)).cell? ((⟨w.heap.size, 0, none⟩ : Addr).add j) = (cells3 p)[j]? := by
    rw [Addr.add_lit, Nat.zero_add]
    simp only [World.cell?, e0]
    simp [cells3]
  rw [e1, hu]

set_option maxRecDepth 20000 in
set_option maxHeartbeats 16000000 in
theorem dlaws_any (g : Nat) (ao : Option Addr) (cap : Nat) (bs : List Int) (w : World) (hc : Cur w g ao cap bs) :
    Calls Try.prog 18 #[.pointer (some ⟨g, 0, none⟩)] w fun e w' => ∃ (L : List Lp) (ad : Option Addr) (c : Nat), e = .returned (.slice ad L.length c) ∧ L.length ≤ 201 ∧ DL w w' g ao cap bs (.slice ad L.length c) L := by
  obtain ⟨j0, hj0, hy0, hy1, hy2⟩ := info_partsW infoL3
  have hd := DL.start hc
  clear hc
  go_enter Try.func18, Try.ntmps18
  go_upto_region 2 with fail
  generalize w.alloc (.cells #[] 31) = wA at *
  generalize Value.slice (some ⟨w.heap.size, 0, none⟩) 0 0 = v0 at *
  go_wp2_with fail
  refine (below_any g ao cap bs 10 _ hd.cur (by omega)).mono ?_
  rintro e w1 ⟨x1, rfl, x10, x11, hc1, hk1⟩
  obtain ⟨n0, rfl⟩ := Int.eq_ofNat_of_zero_le x10
  have hd1 := hd.call hc1 hk1
  clear hd hc1 hk1
  go_wp2_with fail
  go_loopw [3, 4, 5, 6] (fun sv kv _ _ wr => ∃ (k : Nat) (L : List Lp), k + L.length ≤ 10 ∧ kv = .int .i64 k ∧ DL w wr g ao cap bs sv L) (fun _ kv _ _ _ => (intOf kv).toNat)
  case atStart => exact ⟨n0, [], by simp; omega, rfl, hd1⟩
  case round =>
    clear hd1
    obtain ⟨k, L, hkl, rfl, hd⟩ := hrel
    obtain ⟨ad, c, rfl⟩ := hd.form
    by_cases hk0 : 0 < k
    · have hki : (0 : Int) < (k : Int) := by omega
      go_wp2_with fail
      refine (below_any g ao cap bs 10 _ hd.cur (by omega)).mono ?_
      rintro e w3 ⟨th, rfl, th0, th1, hc3, hk3⟩
      have hd3 := hd.call hc3 hk3
      have hgw3 : g < w3.heap.size := hd3.cur.1
      have hw3s := hd3.keep.size
      have hv4 : DV w3 (w3.alloc (.cells #[.slice none 0 0, .slice none 0 0, .int .i64 th] 31)) g ao cap bs w3.heap.size #[.slice none 0 0, .slice none 0 0, .int .i64 th] := ⟨hd3.cur.alloc _, (Keep.refl _ _).alloc _, PB.new _ _ _, hgw3, Nat.le_refl _⟩
      have hi4 : DI w3 (w3.alloc (.cells #[.slice none 0 0, .slice none 0 0, .int .i64 th] 31)) g ao cap bs (.slice none 0 0) [] := ⟨hd3.cur.alloc _, (Keep.refl _ _).alloc _, ⟨rfl, Or.inl ⟨rfl, rfl⟩⟩, hgw3⟩
      have HD3 := hidden hd3
      have HV4 := hidden hv4
      have HI4 := hidden hi4
      clear hd hc3 hk3 hd3 hv4 hi4
      go_wp2_with fail
      refine (below_any g ao cap bs 3 _ HV4.out.cur (by omega)).mono ?_
      rintro e w5 ⟨x5, rfl, x50, x51, hc5, hk5⟩
      obtain ⟨m0, rfl⟩ := Int.eq_ofNat_of_zero_le x50
      have hv5 := hidden (HV4.out.call hc5 hk5)
      have hi5 := hidden (HI4.out.call hc5 hk5)
      clear HV4 HI4 hc5 hk5
      go_wp2_with fail
      go_loopw [6] (fun mv wr => ∃ (m : Nat) (T : List Int) (ta : Option Addr) (tc : Nat), m + T.length ≤ 3 ∧ mv = .int .i64 m ∧ Hid (DV w3 wr g ao cap bs w3.heap.size #[.slice ta T.length tc, .slice none 0 0, .int .i64 th]) ∧ Hid (DI w3 wr g ao cap bs (.slice ta T.length tc) T)) (fun mv _ => (intOf mv).toNat)
      case atStart => exact ⟨m0, [], none, 0, by simp; omega, rfl, hv5, hi5⟩
      case round =>
        clear hv5 hi5
        obtain ⟨m, T, ta, tc, hmT, rfl, hv, hi⟩ := hrel
        obtain ⟨d0, d1, d2⟩ := hv.out.box.three
        by_cases hm0 : 0 < m
        · have hmi : (0 : Int) < (m : Int) := by omega
          by_cases hth : 0 < th
          · go_upto_region 9 with fail
            refine regL9 rfl rfl rfl hv.out hi.out (by omega) hth ?_
            intro b' wB ta' tc' z hf hvB hiB hfr hsB
            have HVX := hidden hvB
            have HIX := hidden hiB
            rw [layL9 hf]
            clear hvB hiB hfr hsB hv hi d0 d1 d2
            generalize Rg.out (Rg.opsOf Try.f18 9) b' 0 = y0
            generalize Rg.out (Rg.opsOf Try.f18 9) b' 1 = y1
            generalize Rg.out (Rg.opsOf Try.f18 9) b' 2 = y2
            generalize Rg.out (Rg.opsOf Try.f18 9) b' 3 = y3
            generalize Rg.out (Rg.opsOf Try.f18 9) b' 4 = y4
            generalize Rg.out (Rg.opsOf Try.f18 9) b' 5 = y5
            generalize Rg.out (Rg.opsOf Try.f18 9) b' 6 = y6
            generalize Rg.out (Rg.opsOf Try.f18 9) b' 7 = y7
            generalize Rg.out (Rg.opsOf Try.f18 9) b' 8 = y8
            clear hf
            go_frame
            go_wp2_with fail
            go_roundw
            case rel => exact ⟨m - 1, T ++ [z], ta', tc', by simp; omega, by congr 1; omega, by rw [List.length_append]; exact HVX, by rw [List.length_append]; exact HIX⟩
            case measure => simp [intOf]; omega
          · skip
            go_wp2_with fail
            refine (once_any g ao cap bs 3 _ hv.out.cur (by omega)).mono ?_
            rintro e w7 ⟨t7, rfl, hc7, hk7⟩
            have hv7 := hv.out.call hc7 hk7
            have hi7 := hi.out.call hc7 hk7
            clear hv hi hc7 hk7 d0 d1 d2
            cases t7 with
            | false =>
              have hv := hv7
              have hT : NOw w7 w3.heap.size (.slice ta T.length tc) T := ⟨hi7.own, by omega⟩
              have hU : NOw w7 w3.heap.size (.slice none 0 0) [] := NOw.none _ _
              clear hv7 hi7
              have hdL := HD3.out.call hv.cur hv.keep
              have HA : Hid (AOw (w7.alloc (.cells #[.slice ta T.length tc, .slice none 0 0, .int .i64 th] 31)) w.heap.size ((⟨T, [], th⟩, .slice ta T.length tc, .slice none 0 0) : Lp)) := ((show AOw w7 w3.heap.size ((⟨T, [], th⟩, .slice ta T.length tc, .slice none 0 0) : Lp) from ⟨hT, hU⟩).keep ((Keep.refl g w7).alloc _) hgw3).base hw3s
              have HX := hidden (hdL.alloc (.cells #[.slice ta T.length tc, .slice none 0 0, .int .i64 th] 31))
              have hszL := hdL.keep.size
              obtain ⟨d0, d1, d2⟩ := hv.box.three
              clear hv hdL hT hU
              go_wp2_with (at_builtin; refine wpList_append_own _ rfl (.tmp 53) (.tmp 55) 25 rfl w.heap.size 31 j0 (.agg #[.slice none 0 0, .slice none 0 0, .int .i64 0]) 3 56 Try.underlying25 hj0 hy0 hy1 hy2 rfl (by decide) _ L.length (cellsLw L) rfl HX.out.own ⟨w7.heap.size, 0, none⟩ 1 1 (cells3 ((⟨T, [], th⟩, .slice ta T.length tc, .slice none 0 0) : Lp)) rfl rfl (cell3F rfl ((⟨T, [], th⟩, .slice ta T.length tc, .slice none 0 0) : Lp) _) HA.out.one (by unfold maxLen; omega) (by omega) (by simp; omega) ?_; intro v5 w5 ho5 hg5 hn5)
              have hdN := HX.out.app (p := ((⟨T, [], th⟩, .slice ta T.length tc, .slice none 0 0) : Lp)) ho5 hg5 HA.out
              clear HX HA ho5 hg5 hn5
              go_roundw
              case rel => exact ⟨k - 1, L ++ [((⟨T, [], th⟩, .slice ta T.length tc, .slice none 0 0) : Lp)], by simp; omega, by congr 1; omega, hdN⟩
              case measure => simp [intOf]; omega
            | true =>
              have hv := hv7
              have hT : NOw w7 w3.heap.size (.slice ta T.length tc) T := ⟨hi7.own, by omega⟩
              have hU : NOw w7 w3.heap.size (.slice none 0 0) [] := NOw.none _ _
              obtain ⟨d0, d1, d2⟩ := hv.box.three
              clear hv7 hi7
              go_upto_region 12 with fail
              clear d0 d1 d2
              have hdL := HD3.out.call hv.cur hv.keep
              have HA : Hid (AOw (w7.alloc (.cells #[.slice ta T.length tc, .slice none 0 0, .int .i64 th] 31)) w.heap.size ((⟨T, [], th⟩, .slice ta T.length tc, .slice none 0 0) : Lp)) := ((show AOw w7 w3.heap.size ((⟨T, [], th⟩, .slice ta T.length tc, .slice none 0 0) : Lp) from ⟨hT, hU⟩).keep ((Keep.refl g w7).alloc _) hgw3).base hw3s
              have HX := hidden (hdL.alloc (.cells #[.slice ta T.length tc, .slice none 0 0, .int .i64 th] 31))
              have hszL := hdL.keep.size
              obtain ⟨d0, d1, d2⟩ := hv.box.three
              clear hv hdL hT hU
              go_wp2_with (at_builtin; refine wpList_append_own _ rfl (.tmp 53) (.tmp 55) 25 rfl w.heap.size 31 j0 (.agg #[.slice none 0 0, .slice none 0 0, .int .i64 0]) 3 56 Try.underlying25 hj0 hy0 hy1 hy2 rfl (by decide) _ L.length (cellsLw L) rfl HX.out.own ⟨w7.heap.size, 0, none⟩ 1 1 (cells3 ((⟨T, [], th⟩, .slice ta T.length tc, .slice none 0 0) : Lp)) rfl rfl (cell3F rfl ((⟨T, [], th⟩, .slice ta T.length tc, .slice none 0 0) : Lp) _) HA.out.one (by unfold maxLen; omega) (by omega) (by simp; omega) ?_; intro v5 w5 ho5 hg5 hn5)
              have hdN := HX.out.app (p := ((⟨T, [], th⟩, .slice ta T.length tc, .slice none 0 0) : Lp)) ho5 hg5 HA.out
              clear HX HA ho5 hg5 hn5
              go_roundw
              case rel => exact ⟨k - 1, L ++ [((⟨T, [], th⟩, .slice ta T.length tc, .slice none 0 0) : Lp)], by simp; omega, by congr 1; omega, hdN⟩
              case measure => simp [intOf]; omega
        · have hmi : ¬ (0 : Int) < (m : Int) := by omega
          go_wp2_with fail
          refine (once_any g ao cap bs 3 _ hv.out.cur (by omega)).mono ?_
          rintro e w7 ⟨t7, rfl, hc7, hk7⟩
          have hv7 := hv.out.call hc7 hk7
          have hi7 := hi.out.call hc7 hk7
          clear hv hi hc7 hk7 d0 d1 d2
          cases t7 with
          | false =>
            have hv := hv7
            have hT : NOw w7 w3.heap.size (.slice ta T.length tc) T := ⟨hi7.own, by omega⟩
            have hU : NOw w7 w3.heap.size (.slice none 0 0) [] := NOw.none _ _
            clear hv7 hi7
            have hdL := HD3.out.call hv.cur hv.keep
            have HA : Hid (AOw (w7.alloc (.cells #[.slice ta T.length tc, .slice none 0 0, .int .i64 th] 31)) w.heap.size ((⟨T, [], th⟩, .slice ta T.length tc, .slice none 0 0) : Lp)) := ((show AOw w7 w3.heap.size ((⟨T, [], th⟩, .slice ta T.length tc, .slice none 0 0) : Lp) from ⟨hT, hU⟩).keep ((Keep.refl g w7).alloc _) hgw3).base hw3s
            have HX := hidden (hdL.alloc (.cells #[.slice ta T.length tc, .slice none 0 0, .int .i64 th] 31))
            have hszL := hdL.keep.size
            obtain ⟨d0, d1, d2⟩ := hv.box.three
            clear hv hdL hT hU
            go_wp2_with (at_builtin; refine wpList_append_own _ rfl (.tmp 53) (.tmp 55) 25 rfl w.heap.size 31 j0 (.agg #[.slice none 0 0, .slice none 0 0, .int .i64 0]) 3 56 Try.underlying25 hj0 hy0 hy1 hy2 rfl (by decide) _ L.length (cellsLw L) rfl HX.out.own ⟨w7.heap.size, 0, none⟩ 1 1 (cells3 ((⟨T, [], th⟩, .slice ta T.length tc, .slice none 0 0) : Lp)) rfl rfl (cell3F rfl ((⟨T, [], th⟩, .slice ta T.length tc, .slice none 0 0) : Lp) _) HA.out.one (by unfold maxLen; omega) (by omega) (by simp; omega) ?_; intro v5 w5 ho5 hg5 hn5)
            have hdN := HX.out.app (p := ((⟨T, [], th⟩, .slice ta T.length tc, .slice none 0 0) : Lp)) ho5 hg5 HA.out
            clear HX HA ho5 hg5 hn5
            go_roundw
            case rel => exact ⟨k - 1, L ++ [((⟨T, [], th⟩, .slice ta T.length tc, .slice none 0 0) : Lp)], by simp; omega, by congr 1; omega, hdN⟩
            case measure => simp [intOf]; omega
          | true =>
            by_cases hth : 0 < th
            · obtain ⟨d0, d1, d2⟩ := hv7.box.three
              have HV7 := hidden hv7
              have HI7 := hidden hi7
              clear hv7 hi7
              go_upto_region 11 with fail
              refine regL11 (L := []) rfl rfl rfl HV7.out ⟨HV7.out.cur, HV7.out.keep, ⟨rfl, Or.inl ⟨rfl, rfl⟩⟩, HV7.out.gg⟩ (by simp) hth ?_
              intro b' wB ua uc z hf hvB hiB hfr hsB
              have hT : NOw wB w3.heap.size (.slice ta T.length tc) T := ⟨own_fr hfr HI7.out.own hgw3 HV7.out.box (fun k _ h => by cases h), by omega⟩
              have hU : NOw wB w3.heap.size (.slice ua 1 uc) [z] := ⟨hiB.own, by simp⟩
              have hv := hvB
              have HVX := hidden hv
              have HTX := hidden hT
              have HUX := hidden hU
              rw [layL11 hf]
              clear hvB hiB hfr hsB HV7 HI7 d0 d1 d2 hv hT hU
              generalize Rg.out (Rg.opsOf Try.f18 11) b' 0 = y0
              generalize Rg.out (Rg.opsOf Try.f18 11) b' 1 = y1
              generalize Rg.out (Rg.opsOf Try.f18 11) b' 2 = y2
              generalize Rg.out (Rg.opsOf Try.f18 11) b' 3 = y3
              generalize Rg.out (Rg.opsOf Try.f18 11) b' 4 = y4
              generalize Rg.out (Rg.opsOf Try.f18 11) b' 5 = y5
              generalize Rg.out (Rg.opsOf Try.f18 11) b' 6 = y6
              generalize Rg.out (Rg.opsOf Try.f18 11) b' 7 = y7
              generalize Rg.out (Rg.opsOf Try.f18 11) b' 8 = y8
              clear hf
              go_frame
              have hv := HVX.out
              have hT := HTX.out
              have hU := HUX.out
              clear HVX HTX HUX
              have hdL := HD3.out.call hv.cur hv.keep
              have HA : Hid (AOw (wB.alloc (.cells #[.slice ta T.length tc, .slice ua 1 uc, .int .i64 th] 31)) w.heap.size ((⟨T, [z], th⟩, .slice ta T.length tc, .slice ua 1 uc) : Lp)) := ((show AOw wB w3.heap.size ((⟨T, [z], th⟩, .slice ta T.length tc, .slice ua 1 uc) : Lp) from ⟨hT, hU⟩).keep ((Keep.refl g wB).alloc _) hgw3).base hw3s
              have HX := hidden (hdL.alloc (.cells #[.slice ta T.length tc, .slice ua 1 uc, .int .i64 th] 31))
              have hszL := hdL.keep.size
              obtain ⟨d0, d1, d2⟩ := hv.box.three
              clear hv hdL hT hU
              go_wp2_with (at_builtin; refine wpList_append_own _ rfl (.tmp 53) (.tmp 55) 25 rfl w.heap.size 31 j0 (.agg #[.slice none 0 0, .slice none 0 0, .int .i64 0]) 3 56 Try.underlying25 hj0 hy0 hy1 hy2 rfl (by decide) _ L.length (cellsLw L) rfl HX.out.own ⟨wB.heap.size, 0, none⟩ 1 1 (cells3 ((⟨T, [z], th⟩, .slice ta T.length tc, .slice ua 1 uc) : Lp)) rfl rfl (cell3F rfl ((⟨T, [z], th⟩, .slice ta T.length tc, .slice ua 1 uc) : Lp) _) HA.out.one (by unfold maxLen; omega) (by omega) (by simp; omega) ?_; intro v5 w5 ho5 hg5 hn5)
              have hdN := HX.out.app (p := ((⟨T, [z], th⟩, .slice ta T.length tc, .slice ua 1 uc) : Lp)) ho5 hg5 HA.out
              clear HX HA ho5 hg5 hn5
              go_roundw
              case rel => exact ⟨k - 1, L ++ [((⟨T, [z], th⟩, .slice ta T.length tc, .slice ua 1 uc) : Lp)], by simp; omega, by congr 1; omega, hdN⟩
              case measure => simp [intOf]; omega
            · skip
              have hv := hv7
              have hT : NOw w7 w3.heap.size (.slice ta T.length tc) T := ⟨hi7.own, by omega⟩
              have hU : NOw w7 w3.heap.size (.slice none 0 0) [] := NOw.none _ _
              obtain ⟨d0, d1, d2⟩ := hv.box.three
              clear hv7 hi7
              go_upto_region 12 with fail
              clear d0 d1 d2
              have hdL := HD3.out.call hv.cur hv.keep
              have HA : Hid (AOw (w7.alloc (.cells #[.slice ta T.length tc, .slice none 0 0, .int .i64 th] 31)) w.heap.size ((⟨T, [], th⟩, .slice ta T.length tc, .slice none 0 0) : Lp)) := ((show AOw w7 w3.heap.size ((⟨T, [], th⟩, .slice ta T.length tc, .slice none 0 0) : Lp) from ⟨hT, hU⟩).keep ((Keep.refl g w7).alloc _) hgw3).base hw3s
              have HX := hidden (hdL.alloc (.cells #[.slice ta T.length tc, .slice none 0 0, .int .i64 th] 31))
              have hszL := hdL.keep.size
              obtain ⟨d0, d1, d2⟩ := hv.box.three
              clear hv hdL hT hU
              go_wp2_with (at_builtin; refine wpList_append_own _ rfl (.tmp 53) (.tmp 55) 25 rfl w.heap.size 31 j0 (.agg #[.slice none 0 0, .slice none 0 0, .int .i64 0]) 3 56 Try.underlying25 hj0 hy0 hy1 hy2 rfl (by decide) _ L.length (cellsLw L) rfl HX.out.own ⟨w7.heap.size, 0, none⟩ 1 1 (cells3 ((⟨T, [], th⟩, .slice ta T.length tc, .slice none 0 0) : Lp)) rfl rfl (cell3F rfl ((⟨T, [], th⟩, .slice ta T.length tc, .slice none 0 0) : Lp) _) HA.out.one (by unfold maxLen; omega) (by omega) (by simp; omega) ?_; intro v5 w5 ho5 hg5 hn5)
              have hdN := HX.out.app (p := ((⟨T, [], th⟩, .slice ta T.length tc, .slice none 0 0) : Lp)) ho5 hg5 HA.out
              clear HX HA ho5 hg5 hn5
              go_roundw
              case rel => exact ⟨k - 1, L ++ [((⟨T, [], th⟩, .slice ta T.length tc, .slice none 0 0) : Lp)], by simp; omega, by congr 1; omega, hdN⟩
              case measure => simp [intOf]; omega
    · have hki : ¬ (0 : Int) < (k : Int) := by omega
      go_wp2_with fail
      refine (once_any g ao cap bs 30 _ hd.cur (by omega)).mono ?_
      rintro e w4 ⟨t4, rfl, hc4, hk4⟩
      have hd4 := hd.call hc4 hk4
      clear hd hc4 hk4
      cases t4 with
      | false =>
        go_wp2_with fail
        refine (once_any g ao cap bs 60 _ hd4.cur (by omega)).mono ?_
        rintro e w6 ⟨t6, rfl, hc6, hk6⟩
        have hd6 := hd4.call hc6 hk6
        clear hd4 hc6 hk6
        cases t6 with
        | false =>
          go_wp2_with fail
          go_ret
          exact ⟨L, ad, c, rfl, by omega, hd6⟩
        | true =>
          go_wp2_with fail
          refine (below_any g ao cap bs 2 _ hd6.cur (by omega)).mono ?_
          rintro e w8 ⟨x8, rfl, x80, x81, hc8, hk8⟩
          obtain ⟨n8, rfl⟩ := Int.eq_ofNat_of_zero_le x80
          have hd8 := hd6.call hc8 hk8
          have hsz8 := hd8.keep.size
          have HD8 := hidden hd8
          clear hd6 hc8 hk8 hd8
          go_wp2_with (refine wpList_make_full _ rfl (.tmp 81) (.tmp 81) 25 rfl w.heap.size 31 j0 (.agg #[.slice none 0 0, .slice none 0 0, .int .i64 0]) 3 Try.underlying25 hj0 hy0 hy1 .i64 .i64 _ _ (200 + n8) rfl rfl (by omega) (by omega) (by rw [hy2]; omega) (by unfold maxLen; omega) hsz8 ?_; intro w9 ho9 hg9)
          rw [made_laws] at ho9
          have hd9 := HD8.out.made ho9 hg9
          go_ret
          exact ⟨List.replicate (200 + n8) (⟨[], [], 0⟩, .slice none 0 0, .slice none 0 0), _, _, by rw [List.length_replicate]; rfl, by rw [List.length_replicate]; omega, by rw [List.length_replicate]; exact hd9⟩
      | true =>
        have HD4 := hidden hd4
        clear hd4
        go_upto_region 14 with fail
        refine regW rfl rfl rfl HD4.out (by omega) ?_
        intro b' wB ad2 c2 p hf hout hdB
        have HDB := hidden hdB
        rw [layW hf, hout]
        clear hdB HD4
        generalize Rg.out (Rg.opsOf Try.f18 14) b' 0 = y0
        generalize Rg.out (Rg.opsOf Try.f18 14) b' 1 = y1
        generalize Rg.out (Rg.opsOf Try.f18 14) b' 2 = y2
        generalize Rg.out (Rg.opsOf Try.f18 14) b' 3 = y3
        generalize Rg.out (Rg.opsOf Try.f18 14) b' 4 = y4
        generalize Rg.out (Rg.opsOf Try.f18 14) b' 5 = y5
        generalize Rg.out (Rg.opsOf Try.f18 14) b' 6 = y6
        generalize Rg.out (Rg.opsOf Try.f18 14) b' 7 = y7
        generalize Rg.out (Rg.opsOf Try.f18 14) b' 8 = y8
        generalize Rg.out (Rg.opsOf Try.f18 14) b' 9 = y9
        generalize Rg.out (Rg.opsOf Try.f18 14) b' 10 = y10
        generalize Rg.out (Rg.opsOf Try.f18 14) b' 11 = y11
        generalize Rg.out (Rg.opsOf Try.f18 14) b' 12 = y12
        generalize Rg.out (Rg.opsOf Try.f18 14) b' 13 = y13
        generalize Rg.out (Rg.opsOf Try.f18 14) b' 14 = y14
        generalize Rg.out (Rg.opsOf Try.f18 14) b' 15 = y15
        generalize Rg.out (Rg.opsOf Try.f18 14) b' 16 = y16
        generalize Rg.out (Rg.opsOf Try.f18 14) b' 17 = y17
        clear hf hout
        go_frame
        have hd4 := HDB.out
        clear HDB
        go_wp2_with fail
        refine (once_any g ao cap bs 60 _ hd4.cur (by omega)).mono ?_
        rintro e w6 ⟨t6, rfl, hc6, hk6⟩
        have hd6 := hd4.call hc6 hk6
        clear hd4 hc6 hk6
        cases t6 with
        | false =>
          go_wp2_with fail
          go_ret
          exact ⟨L ++ [p], ad2, c2, by rw [List.length_append]; rfl, by simp; omega, by rw [List.length_append]; exact hd6⟩
        | true =>
          go_wp2_with fail
          refine (below_any g ao cap bs 2 _ hd6.cur (by omega)).mono ?_
          rintro e w8 ⟨x8, rfl, x80, x81, hc8, hk8⟩
          obtain ⟨n8, rfl⟩ := Int.eq_ofNat_of_zero_le x80
          have hd8 := hd6.call hc8 hk8
          have hsz8 := hd8.keep.size
          have HD8 := hidden hd8
          clear hd6 hc8 hk8 hd8
          go_wp2_with (refine wpList_make_full _ rfl (.tmp 81) (.tmp 81) 25 rfl w.heap.size 31 j0 (.agg #[.slice none 0 0, .slice none 0 0, .int .i64 0]) 3 Try.underlying25 hj0 hy0 hy1 .i64 .i64 _ _ (200 + n8) rfl rfl (by omega) (by omega) (by rw [hy2]; omega) (by unfold maxLen; omega) hsz8 ?_; intro w9 ho9 hg9)
          rw [made_laws] at ho9
          have hd9 := HD8.out.made ho9 hg9
          go_ret
          exact ⟨List.replicate (200 + n8) (⟨[], [], 0⟩, .slice none 0 0, .slice none 0 0), _, _, by rw [List.length_replicate]; rfl, by rw [List.length_replicate]; omega, by rw [List.length_replicate]; exact hd9⟩
end Go.Proofs.Ytfhecdedanlmfaa
