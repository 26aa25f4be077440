/-
  A list of operations, drawn of a cursor.
-/
import Derived.Test.YtcapmobhgffnhaaPd
namespace Go.Proofs.Ytcapmobhgffnhaa
open Go.RowKit Va Oa
set_option linter.unusedVariables false

set_option maxRecDepth 20000 in
set_option maxHeartbeats 8000000 in
theorem dops_any (g : Nat) (ao : Option Addr) (cap : Nat) (bs : List Int) (r : Int) (w : World) (hc : Cur w g ao cap bs) (hr : 0 ≤ r ∧ r ≤ 100000) :
    Calls Try.prog 33 #[.pointer (some ⟨g, 0, none⟩), .int .i64 r] w fun e w' => ∃ ad c L, e = .returned (.slice ad L.length c) ∧ DL w w' g ao cap bs (.slice ad L.length c) L ∧ L.length ≤ 201 := by
  obtain ⟨i0, hi0, hy0, hy1, hy2⟩ := info_partsO infoOpP
  have h0 := DL.start hc
  have hgl := hc.1
  clear hc
  go_enter Try.func33, Try.ntmps33
  generalize hwA : w.alloc (.cells #[] 31) = wA at *
  go_wp2_with fail
  refine (once_any g ao cap bs 4 _ h0.cur (by omega)).mono ?_
  rintro e w1 ⟨tA, rfl, hc1, hk1⟩
  have h1 := h0.call hc1 hk1
  clear hwA h0 hc1 hk1
  go_wp2_with fail
  refine (below_any g ao cap bs 10 _ h1.cur (by omega)).mono ?_
  rintro e w2 ⟨n2, rfl, n20, n21, hc2, hk2⟩
  have h2 := h1.call hc2 hk2
  clear h1 hc2 hk2
  obtain ⟨n2, rfl⟩ := Int.eq_ofNat_of_zero_le n20
  generalize hv0 : Value.slice (some ⟨w.heap.size, 0, none⟩) 0 0 = v0 at *
  generalize hap : (!tA) = apart
  clear hap hv0
  go_wp2_with fail
  go_loopw [5, 7] (fun v nv wr => ∃ (L : List (Opn × Value)) (k : Nat), nv = .int .i64 k ∧ L.length + k ≤ 10 ∧ DL w wr g ao cap bs v L) (fun _ nv _ => (intOf nv).toNat)
  case atStart => exact ⟨[], n2, rfl, by simp; omega, h2⟩
  case round =>
    clear h2
    obtain ⟨L, k, rfl, hlk, hd⟩ := hrel
    obtain ⟨ad, c, rfl⟩ := hd.form
    by_cases hk0 : 0 < k
    · have hki : (0 : Int) < (k : Int) := by omega
      go_wp2_with fail
      refine (dop_any g ao cap bs _ hd.cur).mono ?_
      rintro e w3 ⟨x, ta, tc, rfl, hc3, hk3, ht3, hs3⟩
      have hd3 := hd.call hc3 hk3
      have hT3 : TOwn w3 w.heap.size (x, .slice ta x.team.length tc) := own_base ht3 hd.keep.size
      have hV3 : w.heap.size ≤ w3.heap.size := hd3.keep.size
      have hne3 := hd3.lt
      clear hc3 hk3 ht3 hd
      have hd4 := hd3.alloc (.cells #[.int .i64 x.room, .int .i64 x.fr, .int .i64 x.to, .slice ta x.team.length tc] 31)
      have hT4 : TOwn (w3.alloc (.cells #[.int .i64 x.room, .int .i64 x.fr, .int .i64 x.to, .slice ta x.team.length tc] 31)) w.heap.size (x, .slice ta x.team.length tc) := ownO_below hT3 ((Below.refl _ _).alloc (Nat.le_refl _) _)
      have hB4 : TBox (w3.alloc (.cells #[.int .i64 x.room, .int .i64 x.fr, .int .i64 x.to, .slice ta x.team.length tc] 31)) w3.heap.size #[.int .i64 x.room, .int .i64 x.fr, .int .i64 x.to, .slice ta x.team.length tc] 31 := heap_alloc_new _ _
      clear hd3 hT3
      unfold aO
      go_upto_region 7 with fail
      generalize hwB : w3.alloc (.cells #[.int .i64 x.room, .int .i64 x.fr, .int .i64 x.to, .slice ta x.team.length tc] 31) = wB at *
      generalize hVV : w3.heap.size = V at *
      clear hwB hVV
      have HSM := hidden hs3
      obtain ⟨s1, s2, s3, s4, s5⟩ := hs3
      have fin : ∀ (W : World) (x' : Opn), DL w W g ao cap bs (.slice ad L.length c) L → TOwn W w.heap.size (x', .slice ta x.team.length tc) → Small x' → True := fun _ _ _ _ _ => trivial
      clear fin
      go_cut [27] (fun tv wx => ∃ t : Bool, tv = .bool t ∧ (t = true → opB x = true) ∧ DL w wx g ao cap bs (.slice ad L.length c) L ∧ TOwn wx w.heap.size (x, .slice ta x.team.length tc) ∧ TBox wx V #[.int .i64 x.room, .int .i64 x.fr, .int .i64 x.to, .slice ta x.team.length tc] 31)
      case first =>
        rcases apart with _ | _
        · go_wp2_with fail
          go_meet
          case rel => exact ⟨false, rfl, (fun q => by cases q), hd4, hT4, hB4⟩
        · obtain ⟨⟨b0, b1, b2, b3⟩, bf⟩ := hB4.four
          have hcall := sright_any x ta x.team.length tc wB (own_irw hT4) (by omega)
          unfold aO at hcall
          generalize hob : opB x = ob at *
          go_wp2_with (go_at_call 44; refine hcall.mono ?_; rintro e w5 ⟨rfl, hb5⟩; have hd5 := hd4.below hb5; have hT5 := ownO_below hT4 hb5; have hB5 := hB4.below hb5; clear hd4 hT4 hB4 hb5)
          all_goals go_meet
          all_goals exact ⟨ob, rfl, id, hd5, hT5, hB5⟩
      case rest =>
        obtain ⟨t, rfl, hop, hd5, hT5, hB5⟩ := hcut
        clear hd4 hT4 hB4
        go_upto_if 27 with fail
        rcases t with _ | _
        · obtain ⟨⟨b0, b1, b2, b3⟩, bf⟩ := hB5.four
          go_wp2_with (at_builtin; refine wpList_append_own _ rfl (.tmp 44) (.tmp 46) 24 rfl w.heap.size 31 i0 (.agg #[.int .i64 0, .int .i64 0, .int .i64 0, .slice none 0 0]) 4 48 Try.underlying24 hi0 hy0 hy1 hy2 rfl (by decide) _ L.length (cellsO L) rfl (hd5.alloc _).own ⟨wc.heap.size, 0, none⟩ 1 1 [.int .i64 x.room, .int .i64 x.fr, .int .i64 x.to, .slice ta x.team.length tc] rfl rfl (cell4O _ _ _ _ _ _) (four_oneO _ _ _ _ _ _) (by unfold maxLen; omega) (by omega) (by have := hd5.keep.size; simp; omega) ?_; intro v6 w6 ho6 hg6 hnn6; have hd6 := DL.app (p := (x, .slice ta x.team.length tc)) (hd5.alloc _) (ownO_below hT5 ((Below.refl _ _).alloc (Nat.le_refl _) _)) HSM.out ho6 hg6 hnn6; obtain ⟨ad6, c6, rfl⟩ := ownO_slice ho6; have HD6 := hidden hd6; clear ho6 hg6 hnn6 hd6)
          go_roundw
          case rel => exact ⟨L ++ [(x, .slice ta x.team.length tc)], k - 1, by congr 1; omega, by simp; omega, HD6.out⟩
          case measure => simp [intOf]; omega
        · replace hop := hop rfl
          obtain ⟨o1, o2, o3, o4, -⟩ := of_opB hop
          have hcall := searlW_any x ta x.team.length tc ad L.length c (L.map Prod.fst) r wc hd5.row (by simp; omega) (own_irw hT5) hop hd5.tms hr
          obtain ⟨⟨b0, b1, b2, b3⟩, bf⟩ := hB5.four
          unfold aO at hcall
          go_upto_region 9 with (go_at_call 45; refine hcall.mono ?_; rintro e w5 ⟨t, rfl, htt, hb5⟩)
          have hd6 := hd5.below hb5
          have hT6 := ownO_below hT5 hb5
          have hB6 := hB5.below hb5
          clear hd5 hT5 hB5 hb5 hcall b0 b1 b2 b3 bf
          rcases htt with rfl | ⟨t1, t2⟩
          · go_wp2_with fail
            go_roundw
            case rel => exact ⟨L, k - 1, by congr 1; omega, by omega, hd6⟩
            case measure => simp [intOf]; omega
          · have htn : ¬ t < 0 := by omega
            obtain ⟨⟨b0, b1, b2, b3⟩, bf⟩ := hB6.four
            have bf1 := bf 1
            have bf2 := bf 2
            have hB7 := (hB6.set 2 (.int .i64 (t + x.to - x.fr))).set 1 (.int .i64 t)
            have hVw : w.heap.size ≤ V := hV3
            have hd7 := (hd6.far hB6 hVw (fun k hk => by have := hne3 k hk; omega) 2 (.int .i64 (t + x.to - x.fr))).far (hB6.set 2 _) hVw (fun k hk => by have := hne3 k hk; omega) 1 (.int .i64 t)
            have hT7 : TOwn ((w5.setCell ⟨V, 2, none⟩ (.int .i64 (t + x.to - x.fr))).setCell ⟨V, 1, none⟩ (.int .i64 t)) w.heap.size (⟨x.room, t, t + x.to - x.fr, x.team⟩, .slice ta x.team.length tc) :=
              own_far (own_far hT6 (fun k hk => TBox.ne hB6 hT6 (by decide) k hk) _) (fun k hk => TBox.ne hB6 hT6 (by decide) k hk) _
            have HSN : Hid (Small ⟨x.room, t, t + x.to - x.fr, x.team⟩) := ⟨s1, by simp; omega, by simp; omega, s4, s5⟩
            clear hd6 hT6 hB6 bf
            go_upto_region 12 with fail
            generalize hwC : (w5.setCell ⟨V, 2, none⟩ (.int .i64 (t + x.to - x.fr))).setCell ⟨V, 1, none⟩ (.int .i64 t) = wC at *
            clear hwC b0 b1 b2 b3 bf1 bf2
            have hB8 : TBox wC V #[.int .i64 x.room, .int .i64 t, .int .i64 (t + x.to - x.fr), .slice ta x.team.length tc] 31 := hB7
            obtain ⟨⟨b0, b1, b2, b3⟩, bf⟩ := hB8.four
            clear hB7 hB8 bf
            go_wp2_with (at_builtin; refine wpList_append_own _ rfl (.tmp 44) (.tmp 46) 24 rfl w.heap.size 31 i0 (.agg #[.int .i64 0, .int .i64 0, .int .i64 0, .slice none 0 0]) 4 48 Try.underlying24 hi0 hy0 hy1 hy2 rfl (by decide) _ L.length (cellsO L) rfl (hd7.alloc _).own ⟨wC.heap.size, 0, none⟩ 1 1 [.int .i64 x.room, .int .i64 t, .int .i64 (t + x.to - x.fr), .slice ta x.team.length tc] rfl rfl (cell4O _ _ _ _ _ _) (four_oneO _ _ _ _ _ _) (by unfold maxLen; omega) (by omega) (by have := hd7.keep.size; simp; omega) ?_; intro v6 w6 ho6 hg6 hnn6; have hd8 := DL.app (p := (⟨x.room, t, t + x.to - x.fr, x.team⟩, .slice ta x.team.length tc)) (hd7.alloc _) (ownO_below hT7 ((Below.refl _ _).alloc (Nat.le_refl _) _)) HSN.out ho6 hg6 hnn6; obtain ⟨ad6, c6, rfl⟩ := ownO_slice ho6; have HD8 := hidden hd8; clear ho6 hg6 hnn6 hd8)
            go_roundw
            case rel => exact ⟨_, k - 1, by congr 1; omega, by simp; omega, HD8.out⟩
            case measure => simp [intOf]; omega
    · have hki : ¬ (0 : Int) < (k : Int) := by omega
      have hl10 : L.length ≤ 10 := by omega
      clear hlk
      go_upto_if 49 with (go_at_call 62; refine (once_any g ao cap bs 60 _ hd.cur (by omega)).mono ?_; rintro e wS ⟨tS, rfl, hcS, hkS⟩)
      have hdS := hd.call hcS hkS
      clear hcS hkS hd
      rcases tS with _ | _
      · go_wp2_with fail
        go_ret
        exact ⟨ad, c, L, rfl, hdS, by omega⟩
      · have hdN := hdS.anew
        clear hdS
        generalize hWN : wS.alloc (.cells #[] 31) = wN at *
        generalize hvN : Value.slice (some ⟨wS.heap.size, 0, none⟩) 0 0 = vN at *
        go_wp2_with fail
        clear hWN hvN hl10
        go_loopw [5, 10] (fun v iv wr => ∃ L : List (Opn × Value), iv = .int .i64 (L.length : Nat) ∧ L.length ≤ 201 ∧ DL w wr g ao cap bs v L) (fun _ iv _ => 201 - (intOf iv).toNat)
        case atStart => exact ⟨[], rfl, by simp, hdN⟩
        case round =>
          clear hdN
          obtain ⟨L, rfl, hl, hdl⟩ := hrel
          go_wp2_with fail
          refine (below_any g ao cap bs 2 _ hdl.cur (by omega)).mono ?_
          rintro e wb ⟨yb, rfl, hb0, hb1, hcb, hkb⟩
          have hdb := hdl.call hcb hkb
          clear hcb hkb hdl
          obtain ⟨ad, c, rfl⟩ := hdb.form
          by_cases hlt : (L.length : Int) < 200 + yb
          · have hzs := hdb.keep.size
            have hdt := hdb.alloc (.cells #[.int .i64 (L.length : Nat)] 2)
            have hTt : TOwn (wb.alloc (.cells #[.int .i64 (L.length : Nat)] 2)) w.heap.size (⟨1, 10 * (L.length : Int), 10 * (L.length : Int) + 10, [(L.length : Int)]⟩, .slice (some ⟨wb.heap.size, 0, none⟩) 1 1) := one_team wb w.heap.size _ hzs
            have hST : Hid (Small ⟨1, 10 * (L.length : Int), 10 * (L.length : Int) + 10, [(L.length : Int)]⟩) := ⟨by simp, by simp; omega, by simp; omega, by simp, by simp⟩
            clear hdb
            go_wp2_with (at_builtin; refine wpList_append_own _ rfl (.tmp 58) (.tmp 67) 24 rfl w.heap.size 31 i0 (.agg #[.int .i64 0, .int .i64 0, .int .i64 0, .slice none 0 0]) 4 48 Try.underlying24 hi0 hy0 hy1 hy2 rfl (by decide) _ L.length (cellsO L) rfl (hdt.alloc _).own ⟨wb.heap.size + 1, 0, none⟩ 1 1 [.int .i64 1, .int .i64 (10 * (L.length : Int)), .int .i64 (10 * (L.length : Int) + 10), .slice (some ⟨wb.heap.size, 0, none⟩) 1 1] rfl rfl (by have := cell4O (wb.alloc (.cells #[.int .i64 (L.length : Nat)] 2)) (.int .i64 1) (.int .i64 (10 * (L.length : Int))) (.int .i64 (10 * (L.length : Int) + 10)) (.slice (some ⟨wb.heap.size, 0, none⟩) 1 1) 31; simp only [World.size_alloc] at this; exact this) (four_oneO _ _ _ _ _ _) (by unfold maxLen; omega) (by omega) (by simp; omega) ?_; intro v6 w6 ho6 hg6 hnn6; have hd8 := DL.app (p := (⟨1, 10 * (L.length : Int), 10 * (L.length : Int) + 10, [(L.length : Int)]⟩, .slice (some ⟨wb.heap.size, 0, none⟩) 1 1)) (hdt.alloc _) (ownO_below hTt ((Below.refl _ _).alloc (Nat.le_refl _) _)) hST.out ho6 hg6 hnn6; obtain ⟨ad6, c6, rfl⟩ := ownO_slice ho6; have HD8 := hidden hd8; clear ho6 hg6 hnn6 hd8)
            go_roundw
            case rel => exact ⟨_, by rw [List.length_append]; rfl, by rw [List.length_append]; simp; omega, HD8.out⟩
            case measure => simp [intOf]; omega
          · go_wp2_with fail
            go_ret
            exact ⟨ad, c, L, rfl, hdb, hl⟩
end Go.Proofs.Ytcapmobhgffnhaa
