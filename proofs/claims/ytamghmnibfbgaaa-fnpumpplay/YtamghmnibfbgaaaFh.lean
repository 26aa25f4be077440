/-
  A pump that is drawn of a cursor: the draw.
-/
import Derived.Test.YtamghmnibfbgaaaFg
namespace Go.Proofs.Ytamghmnibfbgaaa
open Go.RowKit Va Ba
set_option linter.all false

set_option maxRecDepth 20000 in
set_option maxHeartbeats 8000000 in
theorem ddraw_any (g : Nat) (ao : Option Addr) (cap : Nat) (bs : List Int) (w : World) (hc : Cur w g ao cap bs) :
    Calls Try.prog 26 #[.pointer (some ⟨g, 0, none⟩)] w fun e w' => ∃ p : Pm, e = .returned (aPm p) ∧ Cur w' g ao cap bs ∧ Keep g w w' := by
  have hgl := hc.1
  have hcR := hc.alloc (.cells #[.int .i64 0, .int .i64 0, .int .i64 0, .int .i64 0, .int .i64 0, .int .i64 0, .int .i64 0, .bool false, .int .i64 0, .int .i64 0] 27)
  have hkR : Keep g w (w.alloc (.cells #[.int .i64 0, .int .i64 0, .int .i64 0, .int .i64 0, .int .i64 0, .int .i64 0, .int .i64 0, .bool false, .int .i64 0, .int .i64 0] 27)) := (Keep.refl g w).alloc _
  have hbR := PB.new w #[.int .i64 0, .int .i64 0, .int .i64 0, .int .i64 0, .int .i64 0, .int .i64 0, .int .i64 0, .bool false, .int .i64 0, .int .i64 0] 27
  clear hc
  go_enter Try.func26, Try.ntmps26
  go_upto_region 1 with fail
  generalize w.alloc (.cells #[.int .i64 0, .int .i64 0, .int .i64 0, .int .i64 0, .int .i64 0, .int .i64 0, .int .i64 0, .bool false, .int .i64 0, .int .i64 0] 27) = wR at *
  go_wp2_with fail
  refine (dlimit_any g ao cap bs _ hcR).mono ?_
  rintro e w1 ⟨l, rfl, hc1, hk1⟩
  go_wp2_with fail
  refine (dleft_any g ao cap bs _ hc1).mono ?_
  rintro e w2 ⟨lf, rfl, hc2, hk2⟩
  have hS := snew_any l lf
  have HN : Hid ((Ba.new l lf).2 = true → Right (Ba.new l lf).1) := newT2
  generalize Ba.new l lf = N at *
  obtain ⟨p, b⟩ := N
  dsimp only at hS HN
  unfold aPm at hS
  go_wp2_with fail
  refine (hS _).mono ?_
  rintro e w3 ⟨rfl, hb3⟩
  go_upto_region 2 with fail
  have hk3 : Keep g wR w3 := (hk1.trans hk2).trans (Keep.of_below hb3)
  have hc3 := hc2.below (hb3.mono hc2.1)
  have hR3 := hbR.keep hk3 (by omega)
  have hd : DX w (w3.alloc (.cells #[.int .i64 p.lim.sl, .int .i64 p.lim.sh, .int .i64 p.lim.hl, .int .i64 p.lim.hh, .int .i64 p.rate, .int .i64 p.asked, .int .i64 p.st, .bool p.door, .int .i64 p.left, .int .i64 p.given] 27)) g ao cap bs w.heap.size w3.heap.size #[.int .i64 0, .int .i64 0, .int .i64 0, .int .i64 0, .int .i64 0, .int .i64 0, .int .i64 0, .bool false, .int .i64 0, .int .i64 0] #[.int .i64 p.lim.sl, .int .i64 p.lim.sh, .int .i64 p.lim.hl, .int .i64 p.lim.hh, .int .i64 p.rate, .int .i64 p.asked, .int .i64 p.st, .bool p.door, .int .i64 p.left, .int .i64 p.given] 27 :=
    ⟨hc3.alloc _, (hkR.trans hk3).alloc _, hR3.alloc _, PB.new _ _ _, hgl, Nat.le_refl _, (hkR.trans hk3).size, Nat.ne_of_gt hR3.lt⟩
  generalize w3.alloc (.cells #[.int .i64 p.lim.sl, .int .i64 p.lim.sh, .int .i64 p.lim.hl, .int .i64 p.lim.hh, .int .i64 p.rate, .int .i64 p.asked, .int .i64 p.st, .bool p.door, .int .i64 p.left, .int .i64 p.given] 27) = w4 at *
  generalize w3.heap.size = P at *
  clear hcR hkR hbR hc1 hk1 hc2 hk2 hb3 hk3 hc3 hR3 hS
  go_wp2_with fail
  refine (below_any g ao cap bs 12 _ hd.cur (by omega)).mono ?_
  rintro e w5 ⟨n5, rfl, n50, n51, hc5, hk5⟩
  have hd5 := hd.call hc5 hk5
  clear hc5 hk5 hd
  obtain ⟨n5, rfl⟩ := Int.eq_ofNat_of_zero_le n50
  have hn5 : n5 ≤ 12 := by omega
  clear n50 n51
  go_wp2_with fail
  go_loopw [5] (fun nv wr => ∃ (k : Nat) (p : Pm), nv = .int .i64 k ∧ k ≤ 12 ∧ (b = true → Right p) ∧ DX w wr g ao cap bs w.heap.size P #[.int .i64 0, .int .i64 0, .int .i64 0, .int .i64 0, .int .i64 0, .int .i64 0, .int .i64 0, .bool false, .int .i64 0, .int .i64 0] #[.int .i64 p.lim.sl, .int .i64 p.lim.sh, .int .i64 p.lim.hl, .int .i64 p.lim.hh, .int .i64 p.rate, .int .i64 p.asked, .int .i64 p.st, .bool p.door, .int .i64 p.left, .int .i64 p.given] 27) (fun nv _ => (intOf nv).toNat)
  case atStart => exact ⟨n5, p, rfl, hn5, HN.out, hd5⟩
  case round =>
    clear hd5 HN
    obtain ⟨k, p, rfl, hk12, hRt, hd⟩ := hrel
    have hk12i : (k : Int) ≤ 12 := by omega
    by_cases hkb : 0 < k ∧ b = true
    · obtain ⟨hk0, rfl⟩ := hkb
      have hki : (0 : Int) < (k : Int) := by omega
      have hRp := hRt rfl
      clear hRt
      go_upto_region 5 with fail
      refine regW5 (V := P) (p := p) rfl rfl hd.cur rfl hd.box hd.gV hRp ?_
      intro b' w7 c hf hc7 hk7
      have hd7 := hidden ((hd.call hc7 hk7).fill (Ba.step p c).1)
      have hRq := hidden (right_step hRp c)
      generalize (Ba.step p c).1 = q at *
      rw [layW5 hf]
      clear hc7 hk7 hd hRp
      generalize Rg.out (Rg.opsOf Try.f26 5) b' 0 = y0
      generalize Rg.out (Rg.opsOf Try.f26 5) b' 1 = y1
      generalize Rg.out (Rg.opsOf Try.f26 5) b' 2 = y2
      generalize Rg.out (Rg.opsOf Try.f26 5) b' 3 = y3
      generalize Rg.out (Rg.opsOf Try.f26 5) b' 4 = y4
      generalize Rg.out (Rg.opsOf Try.f26 5) b' 5 = y5
      generalize Rg.out (Rg.opsOf Try.f26 5) b' 6 = y6
      generalize Rg.out (Rg.opsOf Try.f26 5) b' 7 = y7
      generalize Rg.out (Rg.opsOf Try.f26 5) b' 8 = y8
      go_frame
      go_wp2_with fail
      go_roundw
      case rel => exact ⟨k - 1, q, by congr 1; omega, by omega, fun _ => hRq.out, hd7.out⟩
      case measure => simp [intOf]; omega
    · clear hRt
      by_cases hk0 : 0 < k
      · have hki : (0 : Int) < (k : Int) := by omega
        obtain rfl : b = false := by
          cases b with
          | false => rfl
          | true => exact absurd ⟨hk0, rfl⟩ hkb
        clear hkb
        go_wp2_with fail
        refine (once_any g ao cap bs 12 _ hd.cur (by omega)).mono ?_
        rintro e w6 ⟨t6, rfl, hc6, hk6⟩
        replace hd := hd.call hc6 hk6
        clear hc6 hk6
        go_upto_if 33 with fail
        go_cut [] (fun wx => ∃ p : Pm, DX w wx g ao cap bs w.heap.size P #[.int .i64 0, .int .i64 0, .int .i64 0, .int .i64 0, .int .i64 0, .int .i64 0, .int .i64 0, .bool false, .int .i64 0, .int .i64 0] #[.int .i64 p.lim.sl, .int .i64 p.lim.sh, .int .i64 p.lim.hl, .int .i64 p.lim.hh, .int .i64 p.rate, .int .i64 p.asked, .int .i64 p.st, .bool p.door, .int .i64 p.left, .int .i64 p.given] 27)
        case first =>
          rcases t6 with _ | _
          · go_wp2_with fail
            go_meet
            case rel => exact ⟨p, hd⟩
          · go_wp2_with fail
            refine (below_any g ao cap bs 6 _ hd.cur (by omega)).mono ?_
            rintro e w7 ⟨y7, rfl, y70, y71, hc7, hk7⟩
            replace hd := hd.call hc7 hk7
            clear hc7 hk7
            rcases (show y7 = 0 ∨ y7 = 1 ∨ y7 = 2 ∨ y7 = 3 ∨ y7 = 4 ∨ y7 = 5 by omega) with rfl | rfl | rfl | rfl | rfl | rfl
            · clear y70 y71
              go_wp2_with fail
              refine (from_any g ao cap bs (0) 6 _ hd.cur (by omega) (by omega) (by omega)).mono ?_
              rintro e w8 ⟨z, rfl, hz0, hz1, hc8, hk8⟩
              have hd8 := hd.call hc8 hk8
              clear hc8 hk8 hd
              obtain ⟨e0, e1, e2, e3, e4, e5, e6, e7, e8, e9⟩ := hd8.box.ten
              have fj := hd8.box.frozen 6
              have HD := hidden (hd8.put 6 (.int .i64 z) (vs' := #[.int .i64 p.lim.sl, .int .i64 p.lim.sh, .int .i64 p.lim.hl, .int .i64 p.lim.hh, .int .i64 p.rate, .int .i64 p.asked, .int .i64 z, .bool p.door, .int .i64 p.left, .int .i64 p.given]) (by simp))
              clear hd8
              go_wp2_with fail
              go_meet
              case rel => exact ⟨{ p with st := z }, HD.out⟩
            · clear y70 y71
              go_wp2_with fail
              refine (from_any g ao cap bs (-1) 20 _ hd.cur (by omega) (by omega) (by omega)).mono ?_
              rintro e w8 ⟨z, rfl, hz0, hz1, hc8, hk8⟩
              have hd8 := hd.call hc8 hk8
              clear hc8 hk8 hd
              obtain ⟨e0, e1, e2, e3, e4, e5, e6, e7, e8, e9⟩ := hd8.box.ten
              have fj := hd8.box.frozen 4
              have HD := hidden (hd8.put 4 (.int .i64 z) (vs' := #[.int .i64 p.lim.sl, .int .i64 p.lim.sh, .int .i64 p.lim.hl, .int .i64 p.lim.hh, .int .i64 z, .int .i64 p.asked, .int .i64 p.st, .bool p.door, .int .i64 p.left, .int .i64 p.given]) (by simp))
              clear hd8
              go_wp2_with fail
              go_meet
              case rel => exact ⟨{ p with rate := z }, HD.out⟩
            · clear y70 y71
              go_wp2_with fail
              refine (from_any g ao cap bs (-1) 20 _ hd.cur (by omega) (by omega) (by omega)).mono ?_
              rintro e w8 ⟨z, rfl, hz0, hz1, hc8, hk8⟩
              have hd8 := hd.call hc8 hk8
              clear hc8 hk8 hd
              obtain ⟨e0, e1, e2, e3, e4, e5, e6, e7, e8, e9⟩ := hd8.box.ten
              have fj := hd8.box.frozen 5
              have HD := hidden (hd8.put 5 (.int .i64 z) (vs' := #[.int .i64 p.lim.sl, .int .i64 p.lim.sh, .int .i64 p.lim.hl, .int .i64 p.lim.hh, .int .i64 p.rate, .int .i64 z, .int .i64 p.st, .bool p.door, .int .i64 p.left, .int .i64 p.given]) (by simp))
              clear hd8
              go_wp2_with fail
              go_meet
              case rel => exact ⟨{ p with asked := z }, HD.out⟩
            · clear y70 y71
              obtain ⟨e0, e1, e2, e3, e4, e5, e6, e7, e8, e9⟩ := hd.box.ten
              have fj := hd.box.frozen 7
              have HD := hidden (hd.put 7 (.bool (!p.door)) (vs' := #[.int .i64 p.lim.sl, .int .i64 p.lim.sh, .int .i64 p.lim.hl, .int .i64 p.lim.hh, .int .i64 p.rate, .int .i64 p.asked, .int .i64 p.st, .bool (!p.door), .int .i64 p.left, .int .i64 p.given]) (by simp))
              clear hd
              go_wp2_with fail
              go_meet
              case rel => exact ⟨{ p with door := !p.door }, HD.out⟩
            · clear y70 y71
              have hT := hidden (Tb.new (g := g) (w := w7) [-1, 100000000, 99999997, 100000001] hd.cur.1)
              have hdT := hd.alloc (.cells #[.int .i64 (-1), .int .i64 100000000, .int .i64 99999997, .int .i64 100000001] 2)
              clear hd
              go_wp2_with fail
              refine (below_any g ao cap bs 4 _ hdT.cur (by omega)).mono ?_
              rintro e w8 ⟨a8, rfl, a80, a81, hc8, hk8⟩
              obtain ⟨k, rfl⟩ := Int.eq_ofNat_of_zero_le a80
              have hk4 : k < 4 := by omega
              have hcell := (hT.out.keep hk8).at (k := k) hk4
              generalize hz : ([-1, 100000000, 99999997, 100000001] : List Int)[k] = z at hcell
              have hd8 := hdT.call hc8 hk8
              obtain ⟨e0, e1, e2, e3, e4, e5, e6, e7, e8, e9⟩ := hd8.box.ten
              have fj := hd8.box.frozen 9
              have HD := hidden (hd8.put 9 (.int .i64 z) (vs' := #[.int .i64 p.lim.sl, .int .i64 p.lim.sh, .int .i64 p.lim.hl, .int .i64 p.lim.hh, .int .i64 p.rate, .int .i64 p.asked, .int .i64 p.st, .bool p.door, .int .i64 p.left, .int .i64 z]) (by simp))
              clear hz hT hk8 hc8 hdT hd8
              go_wp2_with fail
              go_meet
              case rel => exact ⟨{ p with given := z }, HD.out⟩
            · clear y70 y71
              have hT := hidden (Tb.new (g := g) (w := w7) [-1, 100000000, 100000001, 0] hd.cur.1)
              have hdT := hd.alloc (.cells #[.int .i64 (-1), .int .i64 100000000, .int .i64 100000001, .int .i64 0] 2)
              clear hd
              go_wp2_with fail
              refine (below_any g ao cap bs 4 _ hdT.cur (by omega)).mono ?_
              rintro e w8 ⟨a8, rfl, a80, a81, hc8, hk8⟩
              obtain ⟨k, rfl⟩ := Int.eq_ofNat_of_zero_le a80
              have hk4 : k < 4 := by omega
              have hcell := (hT.out.keep hk8).at (k := k) hk4
              generalize hz : ([-1, 100000000, 100000001, 0] : List Int)[k] = z at hcell
              have hd8 := hdT.call hc8 hk8
              obtain ⟨e0, e1, e2, e3, e4, e5, e6, e7, e8, e9⟩ := hd8.box.ten
              have fj := hd8.box.frozen 8
              have HD := hidden (hd8.put 8 (.int .i64 z) (vs' := #[.int .i64 p.lim.sl, .int .i64 p.lim.sh, .int .i64 p.lim.hl, .int .i64 p.lim.hh, .int .i64 p.rate, .int .i64 p.asked, .int .i64 p.st, .bool p.door, .int .i64 z, .int .i64 p.given]) (by simp))
              clear hz hT hk8 hc8 hdT hd8
              go_wp2_with fail
              go_meet
              case rel => exact ⟨{ p with left := z }, HD.out⟩
        case rest =>
        clear hd
        obtain ⟨q, hd⟩ := hcut
        obtain ⟨e0, e1, e2, e3, e4, e5, e6, e7, e8, e9⟩ := hd.box.ten
        obtain ⟨z0, z1, z2, z3, z4, z5, z6, z7, z8, z9⟩ := hd.res.ten
        obtain ⟨f0, f1, f2, f3, f4, f5, f6, f7, f8, f9⟩ := hd.res.cold
        have HD := hidden hd
        clear hd
        go_wp2_with fail
        try simp only [Exit.inBlock, Exit.then]
        refine bodyPost_ret (v := aPm q) (results_cell_row Try.results26 _ _ w.heap.size 27 _ (0, 0) _ rfl (PB.fill' q HD.out.res) Try.underlying27 rfl (by kernel_rfl)) rfl ⟨q, rfl, ?_, ?_⟩
        · exact ((((((((((((((((((((HD.out.cur).far hgl _)).far hgl _)).far hgl _)).far hgl _)).far hgl _)).far hgl _)).far hgl _)).far hgl _)).far hgl _)).far hgl _)
        · exact (Keep.far (n := 0) (Keep.far (n := 0) (Keep.far (n := 0) (Keep.far (n := 0) (Keep.far (n := 0) (Keep.far (n := 0) (Keep.far (n := 0) (Keep.far (n := 0) (Keep.far (n := 0) (Keep.far (n := 0) HD.out.keep (Nat.le_refl _) _) (Nat.le_refl _) _) (Nat.le_refl _) _) (Nat.le_refl _) _) (Nat.le_refl _) _) (Nat.le_refl _) _) (Nat.le_refl _) _) (Nat.le_refl _) _) (Nat.le_refl _) _) (Nat.le_refl _) _)
      · have hki : ¬ (0 : Int) < (k : Int) := by omega
        clear hkb
        go_wp2_with fail
        refine (once_any g ao cap bs 12 _ hd.cur (by omega)).mono ?_
        rintro e w6 ⟨t6, rfl, hc6, hk6⟩
        replace hd := hd.call hc6 hk6
        clear hc6 hk6
        go_upto_if 33 with fail
        go_cut [] (fun wx => ∃ p : Pm, DX w wx g ao cap bs w.heap.size P #[.int .i64 0, .int .i64 0, .int .i64 0, .int .i64 0, .int .i64 0, .int .i64 0, .int .i64 0, .bool false, .int .i64 0, .int .i64 0] #[.int .i64 p.lim.sl, .int .i64 p.lim.sh, .int .i64 p.lim.hl, .int .i64 p.lim.hh, .int .i64 p.rate, .int .i64 p.asked, .int .i64 p.st, .bool p.door, .int .i64 p.left, .int .i64 p.given] 27)
        case first =>
          rcases t6 with _ | _
          · go_wp2_with fail
            go_meet
            case rel => exact ⟨p, hd⟩
          · go_wp2_with fail
            refine (below_any g ao cap bs 6 _ hd.cur (by omega)).mono ?_
            rintro e w7 ⟨y7, rfl, y70, y71, hc7, hk7⟩
            replace hd := hd.call hc7 hk7
            clear hc7 hk7
            rcases (show y7 = 0 ∨ y7 = 1 ∨ y7 = 2 ∨ y7 = 3 ∨ y7 = 4 ∨ y7 = 5 by omega) with rfl | rfl | rfl | rfl | rfl | rfl
            · clear y70 y71
              go_wp2_with fail
              refine (from_any g ao cap bs (0) 6 _ hd.cur (by omega) (by omega) (by omega)).mono ?_
              rintro e w8 ⟨z, rfl, hz0, hz1, hc8, hk8⟩
              have hd8 := hd.call hc8 hk8
              clear hc8 hk8 hd
              obtain ⟨e0, e1, e2, e3, e4, e5, e6, e7, e8, e9⟩ := hd8.box.ten
              have fj := hd8.box.frozen 6
              have HD := hidden (hd8.put 6 (.int .i64 z) (vs' := #[.int .i64 p.lim.sl, .int .i64 p.lim.sh, .int .i64 p.lim.hl, .int .i64 p.lim.hh, .int .i64 p.rate, .int .i64 p.asked, .int .i64 z, .bool p.door, .int .i64 p.left, .int .i64 p.given]) (by simp))
              clear hd8
              go_wp2_with fail
              go_meet
              case rel => exact ⟨{ p with st := z }, HD.out⟩
            · clear y70 y71
              go_wp2_with fail
              refine (from_any g ao cap bs (-1) 20 _ hd.cur (by omega) (by omega) (by omega)).mono ?_
              rintro e w8 ⟨z, rfl, hz0, hz1, hc8, hk8⟩
              have hd8 := hd.call hc8 hk8
              clear hc8 hk8 hd
              obtain ⟨e0, e1, e2, e3, e4, e5, e6, e7, e8, e9⟩ := hd8.box.ten
              have fj := hd8.box.frozen 4
              have HD := hidden (hd8.put 4 (.int .i64 z) (vs' := #[.int .i64 p.lim.sl, .int .i64 p.lim.sh, .int .i64 p.lim.hl, .int .i64 p.lim.hh, .int .i64 z, .int .i64 p.asked, .int .i64 p.st, .bool p.door, .int .i64 p.left, .int .i64 p.given]) (by simp))
              clear hd8
              go_wp2_with fail
              go_meet
              case rel => exact ⟨{ p with rate := z }, HD.out⟩
            · clear y70 y71
              go_wp2_with fail
              refine (from_any g ao cap bs (-1) 20 _ hd.cur (by omega) (by omega) (by omega)).mono ?_
              rintro e w8 ⟨z, rfl, hz0, hz1, hc8, hk8⟩
              have hd8 := hd.call hc8 hk8
              clear hc8 hk8 hd
              obtain ⟨e0, e1, e2, e3, e4, e5, e6, e7, e8, e9⟩ := hd8.box.ten
              have fj := hd8.box.frozen 5
              have HD := hidden (hd8.put 5 (.int .i64 z) (vs' := #[.int .i64 p.lim.sl, .int .i64 p.lim.sh, .int .i64 p.lim.hl, .int .i64 p.lim.hh, .int .i64 p.rate, .int .i64 z, .int .i64 p.st, .bool p.door, .int .i64 p.left, .int .i64 p.given]) (by simp))
              clear hd8
              go_wp2_with fail
              go_meet
              case rel => exact ⟨{ p with asked := z }, HD.out⟩
            · clear y70 y71
              obtain ⟨e0, e1, e2, e3, e4, e5, e6, e7, e8, e9⟩ := hd.box.ten
              have fj := hd.box.frozen 7
              have HD := hidden (hd.put 7 (.bool (!p.door)) (vs' := #[.int .i64 p.lim.sl, .int .i64 p.lim.sh, .int .i64 p.lim.hl, .int .i64 p.lim.hh, .int .i64 p.rate, .int .i64 p.asked, .int .i64 p.st, .bool (!p.door), .int .i64 p.left, .int .i64 p.given]) (by simp))
              clear hd
              go_wp2_with fail
              go_meet
              case rel => exact ⟨{ p with door := !p.door }, HD.out⟩
            · clear y70 y71
              have hT := hidden (Tb.new (g := g) (w := w7) [-1, 100000000, 99999997, 100000001] hd.cur.1)
              have hdT := hd.alloc (.cells #[.int .i64 (-1), .int .i64 100000000, .int .i64 99999997, .int .i64 100000001] 2)
              clear hd
              go_wp2_with fail
              refine (below_any g ao cap bs 4 _ hdT.cur (by omega)).mono ?_
              rintro e w8 ⟨a8, rfl, a80, a81, hc8, hk8⟩
              obtain ⟨k, rfl⟩ := Int.eq_ofNat_of_zero_le a80
              have hk4 : k < 4 := by omega
              have hcell := (hT.out.keep hk8).at (k := k) hk4
              generalize hz : ([-1, 100000000, 99999997, 100000001] : List Int)[k] = z at hcell
              have hd8 := hdT.call hc8 hk8
              obtain ⟨e0, e1, e2, e3, e4, e5, e6, e7, e8, e9⟩ := hd8.box.ten
              have fj := hd8.box.frozen 9
              have HD := hidden (hd8.put 9 (.int .i64 z) (vs' := #[.int .i64 p.lim.sl, .int .i64 p.lim.sh, .int .i64 p.lim.hl, .int .i64 p.lim.hh, .int .i64 p.rate, .int .i64 p.asked, .int .i64 p.st, .bool p.door, .int .i64 p.left, .int .i64 z]) (by simp))
              clear hz hT hk8 hc8 hdT hd8
              go_wp2_with fail
              go_meet
              case rel => exact ⟨{ p with given := z }, HD.out⟩
            · clear y70 y71
              have hT := hidden (Tb.new (g := g) (w := w7) [-1, 100000000, 100000001, 0] hd.cur.1)
              have hdT := hd.alloc (.cells #[.int .i64 (-1), .int .i64 100000000, .int .i64 100000001, .int .i64 0] 2)
              clear hd
              go_wp2_with fail
              refine (below_any g ao cap bs 4 _ hdT.cur (by omega)).mono ?_
              rintro e w8 ⟨a8, rfl, a80, a81, hc8, hk8⟩
              obtain ⟨k, rfl⟩ := Int.eq_ofNat_of_zero_le a80
              have hk4 : k < 4 := by omega
              have hcell := (hT.out.keep hk8).at (k := k) hk4
              generalize hz : ([-1, 100000000, 100000001, 0] : List Int)[k] = z at hcell
              have hd8 := hdT.call hc8 hk8
              obtain ⟨e0, e1, e2, e3, e4, e5, e6, e7, e8, e9⟩ := hd8.box.ten
              have fj := hd8.box.frozen 8
              have HD := hidden (hd8.put 8 (.int .i64 z) (vs' := #[.int .i64 p.lim.sl, .int .i64 p.lim.sh, .int .i64 p.lim.hl, .int .i64 p.lim.hh, .int .i64 p.rate, .int .i64 p.asked, .int .i64 p.st, .bool p.door, .int .i64 z, .int .i64 p.given]) (by simp))
              clear hz hT hk8 hc8 hdT hd8
              go_wp2_with fail
              go_meet
              case rel => exact ⟨{ p with left := z }, HD.out⟩
        case rest =>
        clear hd
        obtain ⟨q, hd⟩ := hcut
        obtain ⟨e0, e1, e2, e3, e4, e5, e6, e7, e8, e9⟩ := hd.box.ten
        obtain ⟨z0, z1, z2, z3, z4, z5, z6, z7, z8, z9⟩ := hd.res.ten
        obtain ⟨f0, f1, f2, f3, f4, f5, f6, f7, f8, f9⟩ := hd.res.cold
        have HD := hidden hd
        clear hd
        go_wp2_with fail
        try simp only [Exit.inBlock, Exit.then]
        refine bodyPost_ret (v := aPm q) (results_cell_row Try.results26 _ _ w.heap.size 27 _ (0, 0) _ rfl (PB.fill' q HD.out.res) Try.underlying27 rfl (by kernel_rfl)) rfl ⟨q, rfl, ?_, ?_⟩
        · exact ((((((((((((((((((((HD.out.cur).far hgl _)).far hgl _)).far hgl _)).far hgl _)).far hgl _)).far hgl _)).far hgl _)).far hgl _)).far hgl _)).far hgl _)
        · exact (Keep.far (n := 0) (Keep.far (n := 0) (Keep.far (n := 0) (Keep.far (n := 0) (Keep.far (n := 0) (Keep.far (n := 0) (Keep.far (n := 0) (Keep.far (n := 0) (Keep.far (n := 0) (Keep.far (n := 0) HD.out.keep (Nat.le_refl _) _) (Nat.le_refl _) _) (Nat.le_refl _) _) (Nat.le_refl _) _) (Nat.le_refl _) _) (Nat.le_refl _) _) (Nat.le_refl _) _) (Nat.le_refl _) _) (Nat.le_refl _) _) (Nat.le_refl _) _)
end Go.Proofs.Ytamghmnibfbgaaa
