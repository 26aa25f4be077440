/-
  A limit that is drawn of a cursor, and how much is left.
-/
import Derived.Test.YtamghmnibfbgaaaFb
namespace Go.Proofs.Ytamghmnibfbgaaa
open Go.RowKit Va Ba
set_option linter.unusedVariables false

theorem put_four {W : World} {B : Nat} {t : TypeId} {v0 v1 v2 v3 : Value} (h : PB W B #[v0, v1, v2, v3] t) (u0 u1 u2 u3 : Value) : PB ((((W.setCell ⟨B, 0, none⟩ u0).setCell ⟨B, 1, none⟩ u1).setCell ⟨B, 2, none⟩ u2).setCell ⟨B, 3, none⟩ u3) B #[u0, u1, u2, u3] t := by
  have h0 := h.put 0 u0 (vs' := #[u0, v1, v2, v3]) (by simp)
  have h1 := h0.put 1 u1 (vs' := #[u0, u1, v2, v3]) (by simp)
  have h2 := h1.put 2 u2 (vs' := #[u0, u1, u2, v3]) (by simp)
  exact h2.put 3 u3 (vs' := #[u0, u1, u2, u3]) (by simp)

set_option maxRecDepth 20000 in
set_option maxHeartbeats 8000000 in
theorem dlimit_any (g : Nat) (ao : Option Addr) (cap : Nat) (bs : List Int) (w : World) (hc : Cur w g ao cap bs) :
    Calls Try.prog 38 #[.pointer (some ⟨g, 0, none⟩)] w fun e w' => ∃ l : Lm, e = .returned (aL l) ∧ Cur w' g ao cap bs ∧ Keep g w w' := by
  have hgl := hc.1
  have hcR := hc.alloc (.cells #[.int .i64 0, .int .i64 0, .int .i64 0, .int .i64 0] 25)
  have hkR : Keep g w (w.alloc (.cells #[.int .i64 0, .int .i64 0, .int .i64 0, .int .i64 0] 25)) := (Keep.refl g w).alloc _
  have hbR := PB.new w #[.int .i64 0, .int .i64 0, .int .i64 0, .int .i64 0] 25
  clear hc
  go_enter Try.func38, Try.ntmps38
  go_upto_region 1 with fail
  generalize w.alloc (.cells #[.int .i64 0, .int .i64 0, .int .i64 0, .int .i64 0] 25) = wR at *
  go_wp2_with fail
  refine (below_any g ao cap bs 4 _ hcR (by omega)).mono ?_
  rintro e w1 ⟨a1, rfl, a10, a11, hc1, hk1⟩
  go_upto_region 2 with fail
  have hd : DX w (w1.alloc (.cells #[.int .i64 0, .int .i64 0, .int .i64 a1, .int .i64 0] 25)) g ao cap bs w.heap.size w1.heap.size #[.int .i64 0, .int .i64 0, .int .i64 0, .int .i64 0] #[.int .i64 0, .int .i64 0, .int .i64 a1, .int .i64 0] 25 :=
    ⟨hc1.alloc _, (hkR.trans hk1).alloc _, (hbR.keep hk1 (by omega)).alloc _, PB.new _ _ _, hgl, Nat.le_refl _, (hkR.trans hk1).size, Nat.ne_of_gt (hbR.keep hk1 (by omega)).lt⟩
  generalize w1.alloc (.cells #[.int .i64 0, .int .i64 0, .int .i64 a1, .int .i64 0] 25) = w2 at *
  generalize w1.heap.size = V at *
  clear hcR hkR hbR hc1 hk1 a10 a11
  obtain ⟨l, hdl⟩ : ∃ l : Lm, DX w w2 g ao cap bs w.heap.size V #[.int .i64 0, .int .i64 0, .int .i64 0, .int .i64 0] #[.int .i64 l.sl, .int .i64 l.sh, .int .i64 l.hl, .int .i64 l.hh] 25 := ⟨⟨0, 0, a1, 0⟩, hd⟩
  clear hd
  have hd := hdl
  clear hdl
  go_upto_region 2 with fail
  go_cut [] (fun wx => ∃ l : Lm, DX w wx g ao cap bs w.heap.size V #[.int .i64 0, .int .i64 0, .int .i64 0, .int .i64 0] #[.int .i64 l.sl, .int .i64 l.sh, .int .i64 l.hl, .int .i64 l.hh] 25)
  case first =>
    refine regL2 (V := V) (l := l) rfl rfl hd.cur rfl hd.box hd.gV ?_
    intro b' w7 z hf hc7 hk7
    have hd7 := hidden ((hd.call hc7 hk7).put 0 (.int .i64 z) (vs' := #[.int .i64 z, .int .i64 l.sh, .int .i64 l.hl, .int .i64 l.hh]) (by simp))
    rw [layL2 hf]
    clear hc7 hk7 hd
    generalize Rg.out (Rg.opsOf Try.f38 2) b' 0 = y0
    generalize Rg.out (Rg.opsOf Try.f38 2) b' 1 = y1
    generalize Rg.out (Rg.opsOf Try.f38 2) b' 2 = y2
    generalize Rg.out (Rg.opsOf Try.f38 2) b' 3 = y3
    generalize Rg.out (Rg.opsOf Try.f38 2) b' 4 = y4
    generalize Rg.out (Rg.opsOf Try.f38 2) b' 5 = y5
    go_frame
    go_wp2_with fail
    go_meet
    case rel => exact ⟨⟨z, l.sh, l.hl, l.hh⟩, hd7.out⟩
  case rest =>
  clear hd
  obtain ⟨l, hd⟩ := hcut
  go_upto_region 3 with fail
  go_cut [] (fun wx => ∃ l : Lm, DX w wx g ao cap bs w.heap.size V #[.int .i64 0, .int .i64 0, .int .i64 0, .int .i64 0] #[.int .i64 l.sl, .int .i64 l.sh, .int .i64 l.hl, .int .i64 l.hh] 25)
  case first =>
    refine regL3 (V := V) (l := l) rfl rfl hd.cur rfl hd.box hd.gV ?_
    intro b' w7 z hf hc7 hk7
    have hd7 := hidden ((hd.call hc7 hk7).put 1 (.int .i64 z) (vs' := #[.int .i64 l.sl, .int .i64 z, .int .i64 l.hl, .int .i64 l.hh]) (by simp))
    rw [layL3 hf]
    clear hc7 hk7 hd
    generalize Rg.out (Rg.opsOf Try.f38 3) b' 0 = y0
    generalize Rg.out (Rg.opsOf Try.f38 3) b' 1 = y1
    generalize Rg.out (Rg.opsOf Try.f38 3) b' 2 = y2
    generalize Rg.out (Rg.opsOf Try.f38 3) b' 3 = y3
    generalize Rg.out (Rg.opsOf Try.f38 3) b' 4 = y4
    generalize Rg.out (Rg.opsOf Try.f38 3) b' 5 = y5
    go_frame
    go_wp2_with fail
    go_meet
    case rel => exact ⟨⟨l.sl, z, l.hl, l.hh⟩, hd7.out⟩
  case rest =>
  clear hd
  obtain ⟨l, hd⟩ := hcut
  go_upto_region 4 with fail
  go_cut [] (fun wx => ∃ l : Lm, DX w wx g ao cap bs w.heap.size V #[.int .i64 0, .int .i64 0, .int .i64 0, .int .i64 0] #[.int .i64 l.sl, .int .i64 l.sh, .int .i64 l.hl, .int .i64 l.hh] 25)
  case first =>
    refine regL4 (V := V) (l := l) rfl rfl hd.cur rfl hd.box hd.gV ?_
    intro b' w7 z hf hc7 hk7
    have hd7 := hidden ((hd.call hc7 hk7).put 3 (.int .i64 z) (vs' := #[.int .i64 l.sl, .int .i64 l.sh, .int .i64 l.hl, .int .i64 z]) (by simp))
    rw [layL4 hf]
    clear hc7 hk7 hd
    generalize Rg.out (Rg.opsOf Try.f38 4) b' 0 = y0
    generalize Rg.out (Rg.opsOf Try.f38 4) b' 1 = y1
    generalize Rg.out (Rg.opsOf Try.f38 4) b' 2 = y2
    generalize Rg.out (Rg.opsOf Try.f38 4) b' 3 = y3
    generalize Rg.out (Rg.opsOf Try.f38 4) b' 4 = y4
    generalize Rg.out (Rg.opsOf Try.f38 4) b' 5 = y5
    go_frame
    go_wp2_with fail
    go_meet
    case rel => exact ⟨⟨l.sl, l.sh, l.hl, z⟩, hd7.out⟩
  case rest =>
  clear hd
  obtain ⟨l, hd⟩ := hcut
  go_wp2_with fail
  refine (once_any g ao cap bs 30 _ hd.cur (by omega)).mono ?_
  rintro e w6 ⟨t6, rfl, hc6, hk6⟩
  have hd6 := hd.call hc6 hk6
  clear hc6 hk6 hd
  have hd := hd6
  clear hd6
  go_upto_if 26 with fail
  go_cut [] (fun wx => ∃ l : Lm, DX w wx g ao cap bs w.heap.size V #[.int .i64 0, .int .i64 0, .int .i64 0, .int .i64 0] #[.int .i64 l.sl, .int .i64 l.sh, .int .i64 l.hl, .int .i64 l.hh] 25)
  case first =>
    rcases t6 with _ | _
    · go_wp2_with fail
      go_meet
      case rel => exact ⟨l, hd⟩
    · go_wp2_with fail
      refine (below_any g ao cap bs 4 _ hd.cur (by omega)).mono ?_
      rintro e w7 ⟨y7, rfl, y70, y71, hc7, hk7⟩
      have hd6 := hd.call hc7 hk7
      clear hc7 hk7 hd
      have hd := hd6
      clear hd6
      rcases (show y7 = 0 ∨ y7 = 1 ∨ y7 = 2 ∨ y7 = 3 by omega) with rfl | rfl | rfl | rfl
      · clear y70 y71
        go_upto_region 8 with fail
        refine regL8 (V := V) (l := l) rfl rfl hd.cur rfl hd.box hd.gV ?_
        intro b' w7 z hf hc7 hk7
        have hd7 := hidden ((hd.call hc7 hk7).put 2 (.int .i64 z) (vs' := #[.int .i64 l.sl, .int .i64 l.sh, .int .i64 z, .int .i64 l.hh]) (by simp))
        rw [layL8 hf]
        clear hc7 hk7 hd
        generalize Rg.out (Rg.opsOf Try.f38 8) b' 0 = y0
        generalize Rg.out (Rg.opsOf Try.f38 8) b' 1 = y1
        generalize Rg.out (Rg.opsOf Try.f38 8) b' 2 = y2
        generalize Rg.out (Rg.opsOf Try.f38 8) b' 3 = y3
        generalize Rg.out (Rg.opsOf Try.f38 8) b' 4 = y4
        generalize Rg.out (Rg.opsOf Try.f38 8) b' 5 = y5
        generalize Rg.out (Rg.opsOf Try.f38 8) b' 6 = y6
        generalize Rg.out (Rg.opsOf Try.f38 8) b' 7 = y7
        generalize Rg.out (Rg.opsOf Try.f38 8) b' 8 = y8
        go_frame
        go_wp2_with fail
        go_meet
        case rel => exact ⟨⟨l.sl, l.sh, z, l.hh⟩, hd7.out⟩
      · clear y70 y71
        go_upto_region 10 with fail
        refine regL10 (V := V) (l := l) rfl rfl hd.cur rfl hd.box hd.gV ?_
        intro b' w7 z hf hc7 hk7
        have hd7 := hidden ((hd.call hc7 hk7).put 3 (.int .i64 z) (vs' := #[.int .i64 l.sl, .int .i64 l.sh, .int .i64 l.hl, .int .i64 z]) (by simp))
        rw [layL10 hf]
        clear hc7 hk7 hd
        generalize Rg.out (Rg.opsOf Try.f38 10) b' 0 = y0
        generalize Rg.out (Rg.opsOf Try.f38 10) b' 1 = y1
        generalize Rg.out (Rg.opsOf Try.f38 10) b' 2 = y2
        generalize Rg.out (Rg.opsOf Try.f38 10) b' 3 = y3
        generalize Rg.out (Rg.opsOf Try.f38 10) b' 4 = y4
        generalize Rg.out (Rg.opsOf Try.f38 10) b' 5 = y5
        generalize Rg.out (Rg.opsOf Try.f38 10) b' 6 = y6
        generalize Rg.out (Rg.opsOf Try.f38 10) b' 7 = y7
        generalize Rg.out (Rg.opsOf Try.f38 10) b' 8 = y8
        go_frame
        go_wp2_with fail
        go_meet
        case rel => exact ⟨⟨l.sl, l.sh, l.hl, z⟩, hd7.out⟩
      · obtain ⟨e0, e1, e2, e3⟩ := hd.box.four
        have f0 := hd.box.frozen 0
        have HD := hidden (fun z => hd.put 0 (.int .i64 z) (vs' := #[.int .i64 z, .int .i64 l.sh, .int .i64 l.hl, .int .i64 l.hh]) (by simp))
        clear hd
        go_wp2_with fail
        go_meet
        case rel => exact ⟨⟨_, l.sh, l.hl, l.hh⟩, HD.out _⟩
      · obtain ⟨e0, e1, e2, e3⟩ := hd.box.four
        have f0 := hd.box.frozen 0
        have f1 := hd.box.frozen 1
        have f2 := hd.box.frozen 2
        have f3 := hd.box.frozen 3
        have HD := hidden ((((hd.put 0 (.int .i64 5) (vs' := #[.int .i64 5, .int .i64 l.sh, .int .i64 l.hl, .int .i64 l.hh]) (by simp)).put 1 (.int .i64 5) (vs' := #[.int .i64 5, .int .i64 5, .int .i64 l.hl, .int .i64 l.hh]) (by simp)).put 2 (.int .i64 5) (vs' := #[.int .i64 5, .int .i64 5, .int .i64 5, .int .i64 l.hh]) (by simp)).put 3 (.int .i64 5) (vs' := #[.int .i64 5, .int .i64 5, .int .i64 5, .int .i64 5]) (by simp))
        clear hd
        go_wp2_with fail
        go_meet
        case rel => exact ⟨⟨5, 5, 5, 5⟩, HD.out⟩
  case rest =>
  clear hd
  obtain ⟨l, hd⟩ := hcut
  obtain ⟨e0, e1, e2, e3⟩ := hd.box.four
  obtain ⟨z0, z1, z2, z3⟩ := hd.res.four
  have f0 := hd.res.frozen 0
  have f1 := hd.res.frozen 1
  have f2 := hd.res.frozen 2
  have f3 := hd.res.frozen 3
  have HD := hidden hd
  clear hd
  go_wp2_with fail
  try simp only [Exit.inBlock, Exit.then]
  have hgR : g < w.heap.size := hgl
  refine bodyPost_ret (v := aL l) (results_cell_row Try.results38 _ _ w.heap.size 25 _ (0, 0) _ rfl (put_four HD.out.res _ _ _ _) Try.underlying25 rfl (by kernel_rfl)) rfl ⟨l, rfl, ?_, ?_⟩
  · exact (((HD.out.cur.far hgR _).far hgR _).far hgR _).far hgR _
  · exact Keep.far (n := 0) (Keep.far (n := 0) (Keep.far (n := 0) (Keep.far (n := 0) HD.out.keep (Nat.le_refl _) _) (Nat.le_refl _) _) (Nat.le_refl _) _) (Nat.le_refl _) _

set_option maxRecDepth 20000 in
set_option maxHeartbeats 4000000 in
theorem dleft_any (g : Nat) (ao : Option Addr) (cap : Nat) (bs : List Int) (w : World) (hc : Cur w g ao cap bs) :
    Calls Try.prog 39 #[.pointer (some ⟨g, 0, none⟩)] w fun e w' => ∃ z : Int, e = .returned (.int .i64 z) ∧ Cur w' g ao cap bs ∧ Keep g w w' := by
  go_enter Try.func39, Try.ntmps39
  go_wp2_with fail
  refine (once_any g ao cap bs 14 _ hc (by omega)).mono ?_
  rintro e w1 ⟨t1, rfl, hc1, hk1⟩
  rcases t1 with _ | _
  · go_wp2_with fail
    refine (below_any g ao cap bs 90 _ hc1 (by omega)).mono ?_
    rintro e w2 ⟨a2, rfl, a20, a21, hc2, hk2⟩
    go_wp2_with fail
    go_ret
    exact ⟨_, rfl, hc2, hk1.trans hk2⟩
  · have hT := Tb.new (g := g) (w := w1) [-1, 0, 100000000, 100000001] hc1.1
    have hcT := hc1.alloc (.cells #[.int .i64 (-1), .int .i64 0, .int .i64 100000000, .int .i64 100000001] 2)
    have hkT : Keep g w (w1.alloc (.cells #[.int .i64 (-1), .int .i64 0, .int .i64 100000000, .int .i64 100000001] 2)) := hk1.alloc _
    have HT := hidden hT
    have HK := hidden hkT
    clear hT hkT
    go_wp2_with fail
    refine (below_any g ao cap bs 4 _ hcT (by omega)).mono ?_
    rintro e w2 ⟨a2, rfl, a20, a21, hc2, hk2⟩
    obtain ⟨k, rfl⟩ := Int.eq_ofNat_of_zero_le a20
    have hk4 : k < 4 := by omega
    have hcell := (HT.out.keep hk2).at (k := k) hk4
    generalize hz : ([-1, 0, 100000000, 100000001] : List Int)[k] = z at hcell
    have hK2 := hidden (HK.out.trans hk2)
    clear hz HT HK hk2 hcT
    go_wp2_with fail
    go_ret
    exact ⟨_, rfl, hc2, hK2.out⟩
end Go.Proofs.Ytamghmnibfbgaaa
