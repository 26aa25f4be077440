/-
  A trial, drawn of a cursor.
-/
import Derived.Test.YtoehnlbkgpjhmaaTr26
import Derived.Test.YtoehnlbkgpjhmaaTr4
namespace Go.Proofs.Ytoehnlbkgpjhmaa
open Go.RowKit Go.WideShapes Va Lb Tr Go.Maps
set_option linter.all false

set_option maxRecDepth 20000 in
set_option maxHeartbeats 8000000 in
theorem dtrial_any (g : Nat) (ao : Option Addr) (cap : Nat) (bs : List Int) (w : World) (hc : Cur w g ao cap bs) :
    Calls Try.prog 39 #[.pointer (some ⟨g, 0, none⟩)] w fun e w' => ∃ (x : Tl) (ad : Option Addr) (c : Nat), e = .returned (aT x (.slice ad x.coins.length c)) ∧ x.coins.length ≤ 20 ∧ VOwn 1 cvI w' w.heap.size (.slice ad x.coins.length c) x.coins ∧ Cur w' g ao cap bs ∧ Keep g w w' := by
  have hg0 := hc.1
  have PR := hidden (PB.new w #[.int .i64 0, .int .i64 0, .slice none 0 0, .int .i64 0] 26)
  have hcA : Cur (w.alloc (.cells #[.int .i64 0, .int .i64 0, .slice none 0 0, .int .i64 0] 26)) g ao cap bs := hc.below ((Below.refl _ _).alloc hc.1 _)
  have hkA : Keep g w (w.alloc (.cells #[.int .i64 0, .int .i64 0, .slice none 0 0, .int .i64 0] 26)) := (Keep.refl g w).alloc _
  have hsA : w.heap.size < (w.alloc (.cells #[.int .i64 0, .int .i64 0, .slice none 0 0, .int .i64 0] 26)).heap.size := by simp
  clear hc
  go_enter Try.func39, Try.ntmps39
  go_upto_region 1 with fail
  generalize w.alloc (.cells #[.int .i64 0, .int .i64 0, .slice none 0 0, .int .i64 0] 26) = wA at *
  go_wp2_with fail
  refine (below_any g ao cap bs 4 _ hcA (by omega)).mono ?_
  rintro e w1 ⟨y, rfl, p1, q1, hc1, hk1⟩
  have hgg : g < wA.heap.size := hcA.1
  have hsz1 := hk1.size
  have hD0 : DT wA (w1.alloc (.cells #[.int .i64 (2 + y), .int .i64 0, .slice none 0 0, .int .i64 0] 26)) g ao cap bs w1.heap.size (2 + y) 0 (.slice none 0 0) 0 :=
    ⟨hc1.below ((Below.refl _ _).alloc hc1.1 _), hk1.alloc _, PB.new w1 _ _, hgg, hsz1⟩
  have hO0 : DO wA (w1.alloc (.cells #[.int .i64 (2 + y), .int .i64 0, .slice none 0 0, .int .i64 0] 26)) (.slice none 0 0) [] := ⟨rfl, .inl ⟨rfl, rfl⟩⟩
  clear hc1 hk1 hcA
  go_upto_region 2 with fail
  generalize hwB : w1.alloc (.cells #[.int .i64 (2 + y), .int .i64 0, .slice none 0 0, .int .i64 0] 26) = wB at *
  generalize hB : w1.heap.size = B at *
  clear hwB hB
  generalize ha : 2 + y = ar at *
  have ha2 : 2 ≤ ar := by omega
  have ha5 : ar ≤ 5 := by omega
  clear ha
  obtain ⟨d, hd, hd2, hd0, hd1⟩ : ∃ d : Int, (20 : Int).tdiv ar = d ∧ (20 : Int) / ar = d ∧ 1 ≤ d ∧ d ≤ 20 := by
    rcases (show ar = 2 ∨ ar = 3 ∨ ar = 4 ∨ ar = 5 by omega) with rfl | rfl | rfl | rfl <;> exact ⟨_, rfl, by decide, by decide, by decide⟩
  refine regDt2 (d := d) rfl rfl rfl ⟨hD0.drew, hO0⟩ (by simp) ha2 hd hd2 hd0 hd1 ?_
  rintro b' w2 hf ⟨⟨bk, hD2⟩, hO2⟩
  rw [layDt2 hf]
  clear hf hD0 hO0 hd hd2
  generalize Rg.out (Rg.opsOf Try.f39 2) b' 0 = yy0
  generalize Rg.out (Rg.opsOf Try.f39 2) b' 1 = yy1
  generalize Rg.out (Rg.opsOf Try.f39 2) b' 2 = yy2
  generalize Rg.out (Rg.opsOf Try.f39 2) b' 3 = yy3
  generalize Rg.out (Rg.opsOf Try.f39 2) b' 4 = yy4
  generalize Rg.out (Rg.opsOf Try.f39 2) b' 5 = yy5
  generalize Rg.out (Rg.opsOf Try.f39 2) b' 6 = yy6
  generalize Rg.out (Rg.opsOf Try.f39 2) b' 7 = yy7
  generalize Rg.out (Rg.opsOf Try.f39 2) b' 8 = yy8
  generalize Rg.out (Rg.opsOf Try.f39 2) b' 9 = yy9
  generalize Rg.out (Rg.opsOf Try.f39 2) b' 10 = yy10
  go_frame
  go_wp2_with fail
  refine (below_any g ao cap bs 14 _ hD2.cur (by omega)).mono ?_
  rintro e w3 ⟨y3, rfl, p3, q3, hc3, hk3⟩
  obtain ⟨n3, rfl⟩ := Int.eq_ofNat_of_zero_le p3
  have hD3 := hidden (hD2.call hc3 hk3)
  have hO3 := hidden (hO2.call hD2.gg hk3)
  clear hc3 hk3 hD2 hO2
  go_wp2_with fail
  go_loopw [4] (fun nv wr => ∃ k : Nat, nv = .int .i64 k ∧ ∃ (sv : Value) (l : List Int), l.length + k ≤ 14 ∧ DT wA wr g ao cap bs B ar bk sv 0 ∧ DO wA wr sv l) (fun nv _ => (intOf nv).toNat)
  case atStart => exact ⟨n3, rfl, _, [], by simp; omega, hD3.out, hO3.out⟩
  case round =>
    clear hD3 hO3 p3 q3 p1 q1
    obtain ⟨k, rfl, sv, l, hlk, hD, hO⟩ := hrel
    by_cases hk0 : 0 < k
    · have hk1 : (0 : Int) < (k : Int) := by omega
      have HD := hidden hD
      have HO := hidden hO
      clear hD hO
      go_upto_region 6 with fail
      refine regDt6 (sv := sv) (l := l) (b := bk) rfl rfl rfl ⟨HD.out.drew, HO.out⟩ (by omega) ?_
      rintro b' w4 hf ⟨sv', l', hl', hD4, hO4⟩
      rw [layDt6 hf]
      clear hf HD HO
      generalize Rg.out (Rg.opsOf Try.f39 6) b' 0 = yy0
      generalize Rg.out (Rg.opsOf Try.f39 6) b' 1 = yy1
      generalize Rg.out (Rg.opsOf Try.f39 6) b' 2 = yy2
      generalize Rg.out (Rg.opsOf Try.f39 6) b' 3 = yy3
      generalize Rg.out (Rg.opsOf Try.f39 6) b' 4 = yy4
      generalize Rg.out (Rg.opsOf Try.f39 6) b' 5 = yy5
      generalize Rg.out (Rg.opsOf Try.f39 6) b' 6 = yy6
      generalize Rg.out (Rg.opsOf Try.f39 6) b' 7 = yy7
      go_frame
      have HD := hidden hD4
      have HO := hidden hO4
      clear hD4 hO4
      go_wp2_with fail
      go_roundw
      case rel => exact ⟨k - 1, by rw [show ((k - 1 : Nat) : Int) = (k : Int) - 1 by omega], sv', l', by omega, HD.out, HO.out⟩
      case measure => simp [intOf]; omega
    · have hk1 : ¬ (0 : Int) < (k : Int) := by omega
      have hll : l.length ≤ 14 := by omega
      clear hlk
      go_wp2_with fail
      refine (below_any g ao cap bs 60 _ hD.cur (by omega)).mono ?_
      rintro e w4 ⟨y4, rfl, p4, q4, hc4, hk4⟩
      have hD4 := hD.call hc4 hk4
      have hO4 := hO.call hD.gg hk4
      have e4 : w4.cell? ⟨B, 3, none⟩ = some _ := hD4.box.cell 3
      have f4 := hD4.box.frozen 3
      have hD5 := hD4.put 3 (.int .i64 y4) (a' := ar) (b' := bk) (sv' := sv) (t' := y4) (by simp)
      have hO5 := hO4.put hD4.box 3 (.int .i64 y4)
      clear hc4 hk4 hD4 hO4 hD hO
      go_upto_if 36 with (go_at_call 38; refine (once_any g ao cap bs 20 _ hD5.cur (by omega)).mono ?_; rintro e w5 ⟨t5, rfl, hc5, hk5⟩)
      have hD := hD5.call hc5 hk5
      have hO := hO5.call hD5.gg hk5
      clear hc5 hk5 hD5 hO5 e4 f4
      go_cut [] (fun wx => ∃ (a2 b2 : Int) (sv2 : Value) (t2 : Int) (l2 : List Int), l2.length ≤ 20 ∧ DT wA wx g ao cap bs B a2 b2 sv2 t2 ∧ DO wA wx sv2 l2)
      case first =>
        have hl20 : l.length ≤ 20 := by omega
        rcases t5 with _ | _
        · go_wp2_with fail
          go_meet
          case rel => exact ⟨_, _, _, _, _, hl20, hD, hO⟩
        · go_wp2_with fail
          refine (below_any g ao cap bs 4 _ hD.cur (by omega)).mono ?_
          rintro e wX ⟨y7, rfl, p7, q7, hc7, hk7⟩
          have hD' := hD.call hc7 hk7
          have hO' := hO.call hD.gg hk7
          clear hc7 hk7 hD hO
          have hD := hD'
          have hO := hO'
          clear hD' hO'
          rcases (show y7 = 0 ∨ y7 = 1 ∨ y7 = 2 ∨ y7 = 3 by omega) with rfl | rfl | rfl | rfl
          · clear p7 q7
            have hgr := hD.cur.1
            have hDT := hD.alloc (.cells #[.int .i64 1, .int .i64 6, .int .i64 0, .int .i64 (-1)] 2)
            have hOT := hO.call (W' := wX.alloc (.cells #[.int .i64 1, .int .i64 6, .int .i64 0, .int .i64 (-1)] 2)) hD.gg ((Keep.refl g wX).alloc _)
            go_wp2_with fail
            refine (below_any g ao cap bs 4 _ hDT.cur (by omega)).mono ?_
            rintro e w6 ⟨y6, rfl, p6, q6, hc6, hk6⟩
            obtain ⟨k6, rfl⟩ := Int.eq_ofNat_of_zero_le p6
            obtain ⟨z6, hz6⟩ := tab_at [1, 6, 0, -1] wX w6 g 2 hk6 hgr k6 (by simp; omega)
            have hD6 := hDT.call hc6 hk6
            have hO6 := hOT.call hD.gg hk6
            have e6 : w6.cell? ⟨B, 0, none⟩ = some _ := hD6.box.cell 0
            have f6 := hD6.box.frozen 0
            have hD7 := hidden (hD6.put 0 (.int .i64 z6) (a' := z6) (b' := bk) (sv' := sv) (t' := y4) (by simp))
            have hO7 := hidden (hO6.put hD6.box 0 (.int .i64 z6))
            clear hc6 hk6 hD6 hO6 hDT hOT hD hO
            go_wp2_with fail
            go_meet
            case rel => exact ⟨_, _, _, _, _, by first | assumption | omega, hD7.out, hO7.out⟩
          · clear p7 q7
            have HD := hidden hD
            have HO := hidden hO
            clear hD hO
            go_upto_region 13 with fail
            refine regDt13 (sv := sv) (l := l) (b := bk) rfl rfl rfl ⟨HD.out.drew, HO.out⟩ (by omega) ?_
            rintro b' w7 hf ⟨⟨b7, hD7⟩, hO7⟩
            rw [layDt13 hf]
            clear hf HD HO
            generalize Rg.out (Rg.opsOf Try.f39 13) b' 0 = yy0
            generalize Rg.out (Rg.opsOf Try.f39 13) b' 1 = yy1
            generalize Rg.out (Rg.opsOf Try.f39 13) b' 2 = yy2
            generalize Rg.out (Rg.opsOf Try.f39 13) b' 3 = yy3
            generalize Rg.out (Rg.opsOf Try.f39 13) b' 4 = yy4
            generalize Rg.out (Rg.opsOf Try.f39 13) b' 5 = yy5
            generalize Rg.out (Rg.opsOf Try.f39 13) b' 6 = yy6
            generalize Rg.out (Rg.opsOf Try.f39 13) b' 7 = yy7
            generalize Rg.out (Rg.opsOf Try.f39 13) b' 8 = yy8
            generalize Rg.out (Rg.opsOf Try.f39 13) b' 9 = yy9
            go_frame
            have HD := hidden hD7
            have HO := hidden hO7
            clear hD7 hO7
            first | go_meet | (go_wp2_with fail; go_meet)
            case rel => exact ⟨_, _, _, _, _, hl20, HD.out, HO.out⟩
          · clear p7 q7
            have HD := hidden hD
            have HO := hidden hO
            clear hD hO
            go_upto_region 15 with fail
            refine regDt15 (sv := sv) (l := l) (b := bk) rfl rfl rfl ⟨HD.out.drew, HO.out⟩ (by omega) ?_
            rintro b' w7 hf ⟨sv7, l7, hl7, hD7, hO7⟩
            rw [layDt15 hf]
            clear hf HD HO
            generalize Rg.out (Rg.opsOf Try.f39 15) b' 0 = yy0
            generalize Rg.out (Rg.opsOf Try.f39 15) b' 1 = yy1
            generalize Rg.out (Rg.opsOf Try.f39 15) b' 2 = yy2
            generalize Rg.out (Rg.opsOf Try.f39 15) b' 3 = yy3
            generalize Rg.out (Rg.opsOf Try.f39 15) b' 4 = yy4
            generalize Rg.out (Rg.opsOf Try.f39 15) b' 5 = yy5
            generalize Rg.out (Rg.opsOf Try.f39 15) b' 6 = yy6
            generalize Rg.out (Rg.opsOf Try.f39 15) b' 7 = yy7
            generalize Rg.out (Rg.opsOf Try.f39 15) b' 8 = yy8
            generalize Rg.out (Rg.opsOf Try.f39 15) b' 9 = yy9
            generalize Rg.out (Rg.opsOf Try.f39 15) b' 10 = yy10
            go_frame
            have HD := hidden hD7
            have HO := hidden hO7
            clear hD7 hO7
            first | go_meet | (go_wp2_with fail; go_meet)
            case rel => exact ⟨_, _, _, _, _, (show l7.length ≤ 20 by omega), HD.out, HO.out⟩
          · clear p7 q7
            have hgr := hD.cur.1
            have hDT := hD.alloc (.cells #[.int .i64 (-1), .int .i64 1000, .int .i64 1001, .int .i64 999] 2)
            have hOT := hO.call (W' := wX.alloc (.cells #[.int .i64 (-1), .int .i64 1000, .int .i64 1001, .int .i64 999] 2)) hD.gg ((Keep.refl g wX).alloc _)
            go_wp2_with fail
            refine (below_any g ao cap bs 4 _ hDT.cur (by omega)).mono ?_
            rintro e w6 ⟨y6, rfl, p6, q6, hc6, hk6⟩
            obtain ⟨k6, rfl⟩ := Int.eq_ofNat_of_zero_le p6
            obtain ⟨z6, hz6⟩ := tab_at [-1, 1000, 1001, 999] wX w6 g 2 hk6 hgr k6 (by simp; omega)
            have hD6 := hDT.call hc6 hk6
            have hO6 := hOT.call hD.gg hk6
            have e6 : w6.cell? ⟨B, 3, none⟩ = some _ := hD6.box.cell 3
            have f6 := hD6.box.frozen 3
            have hD7 := hidden (hD6.put 3 (.int .i64 z6) (a' := ar) (b' := bk) (sv' := sv) (t' := z6) (by simp))
            have hO7 := hidden (hO6.put hD6.box 3 (.int .i64 z6))
            clear hc6 hk6 hD6 hO6 hDT hOT hD hO
            go_wp2_with fail
            go_meet
            case rel => exact ⟨_, _, _, _, _, by first | assumption | omega, hD7.out, hO7.out⟩
      case rest =>
        clear hD hO
        obtain ⟨a2, b2, sv2, t2, l2, hl2, hD, hO⟩ := hcut
        obtain ⟨ad, c, rfl⟩ := hO.form
        obtain ⟨c0, c1, c2, c3⟩ := hD.box.four
        have hp : PB wc w.heap.size #[.int .i64 0, .int .i64 0, .slice none 0 0, .int .i64 0] 26 := (hD.keep.block w.heap.size hsA (by omega)).trans PR.out
        obtain ⟨r0, r1, r2, r3⟩ := hp.four
        obtain ⟨f0, f1, f2, f3, -⟩ := hp.cold
        have hfill := hp.fill4 (.int .i64 a2) (.int .i64 b2) (.slice ad l2.length c) (.int .i64 t2)
        obtain ⟨s0, s1, s2, s3⟩ := hfill.four
        have HB : Hid (Below (g + 1) wc ((((wc.setCell ⟨w.heap.size, 0, none⟩ (.int .i64 a2)).setCell ⟨w.heap.size, 1, none⟩ (.int .i64 b2)).setCell ⟨w.heap.size, 2, none⟩ (.slice ad l2.length c)).setCell ⟨w.heap.size, 3, none⟩ (.int .i64 t2))) := ((((Below.refl (g + 1) wc).setCell (p := ⟨w.heap.size, 0, none⟩) (by show g + 1 ≤ w.heap.size; omega) _).setCell (p := ⟨w.heap.size, 1, none⟩) (by show g + 1 ≤ w.heap.size; omega) _).setCell (p := ⟨w.heap.size, 2, none⟩) (by show g + 1 ≤ w.heap.size; omega) _).setCell (p := ⟨w.heap.size, 3, none⟩) (by show g + 1 ≤ w.heap.size; omega) _
        have HB2 : Hid (Below w.heap.size wc ((((wc.setCell ⟨w.heap.size, 0, none⟩ (.int .i64 a2)).setCell ⟨w.heap.size, 1, none⟩ (.int .i64 b2)).setCell ⟨w.heap.size, 2, none⟩ (.slice ad l2.length c)).setCell ⟨w.heap.size, 3, none⟩ (.int .i64 t2))) := ((((Below.refl w.heap.size wc).setCell (p := ⟨w.heap.size, 0, none⟩) (Nat.le_refl _) _).setCell (p := ⟨w.heap.size, 1, none⟩) (Nat.le_refl _) _).setCell (p := ⟨w.heap.size, 2, none⟩) (Nat.le_refl _) _).setCell (p := ⟨w.heap.size, 3, none⟩) (Nat.le_refl _) _
        have HO2 := hidden ((vownI (base := wA.heap.size) (L := l2) ((((hO.put hp 0 (.int .i64 a2)).put (hp.set 0 (.int .i64 a2)) 1 (.int .i64 b2)).put ((hp.set 0 (.int .i64 a2)).set 1 (.int .i64 b2)) 2 (.slice ad l2.length c)).put (((hp.set 0 (.int .i64 a2)).set 1 (.int .i64 b2)).set 2 (.slice ad l2.length c)) 3 (.int .i64 t2))).base_le (Nat.le_of_lt hsA))
        have HC := hidden hD.cur
        have HK := hidden (hkA.trans hD.keep)
        clear hfill hp hD hO
        go_wp2_with fail
        refine bodyPost_ret (v := .agg #[.int .i64 a2, .int .i64 b2, .slice ad l2.length c, .int .i64 t2]) (by simp [results, Try.results39, go_sem, s0, s1, s2, s3]) rfl ⟨⟨a2, b2, l2, t2⟩, ad, c, rfl, hl2, HO2.out, HC.out.below HB.out, ?_⟩
        exact ⟨HB2.out.os.trans HK.out.os, HB2.out.tape.trans HK.out.tape, HB2.out.output.trans HK.out.output, Nat.le_trans HK.out.size HB2.out.size, fun j hj hjg => (HB2.out.block j hj).trans (HK.out.block j hj hjg)⟩
end Go.Proofs.Ytoehnlbkgpjhmaa
