/-
  An act that is drawn of a cursor.
-/
import Derived.Test.YtamghmnibfbgaaaFc
namespace Go.Proofs.Ytamghmnibfbgaaa
open Go.RowKit Va Ba
set_option linter.unusedVariables false

/-- A limit in a box, an act in a box, a box for the answer, beside a cursor at g. -/
structure DY (w0 W : World) (g : Nat) (ao : Option Addr) (cap : Nat) (bs : List Int) (Lb R V : Nat) (l : Lm) (c : Ac) : Prop where
  cur : Cur W g ao cap bs
  keep : Keep g w0 W
  lim : PB W Lb #[.int .i64 l.sl, .int .i64 l.sh, .int .i64 l.hl, .int .i64 l.hh] 25
  res : PB W R #[.int .i64 0, .int .i64 0] 29
  box : PB W V #[.int .i64 c.kind, .int .i64 c.n] 29
  gg : g < w0.heap.size
  ll : w0.heap.size ≤ Lb
  rr : w0.heap.size ≤ R
  vv : w0.heap.size ≤ V
  rv : V ≠ R
  lv : V ≠ Lb
section
variable {w0 W W' : World} {g cap Lb R V : Nat} {ao : Option Addr} {bs : List Int} {l : Lm} {c : Ac}
theorem DY.call (h : DY w0 W g ao cap bs Lb R V l c) (hc : Cur W' g ao cap bs) (hk : Keep g W W') : DY w0 W' g ao cap bs Lb R V l c := by
  have := h.gg
  have := h.rr
  have := h.vv
  have := h.ll
  exact ⟨hc, h.keep.trans hk, h.lim.keep hk (by omega), h.res.keep hk (by omega), h.box.keep hk (by omega), h.gg, h.ll, h.rr, h.vv, h.rv, h.lv⟩
theorem DY.alloc (h : DY w0 W g ao cap bs Lb R V l c) (o : Obj) : DY w0 (W.alloc o) g ao cap bs Lb R V l c := h.call (h.cur.alloc o) ((Keep.refl g W).alloc o)
theorem DY.kind (h : DY w0 W g ao cap bs Lb R V l c) (z : Int) : DY w0 (W.setCell ⟨V, 0, none⟩ (.int .i64 z)) g ao cap bs Lb R V l ⟨z, c.n⟩ := by
  have := h.gg
  have := h.vv
  exact ⟨h.cur.far (by omega) _, Keep.far (n := 0) h.keep h.vv _, h.lim.far h.lv _ _, h.res.far h.rv _ _, h.box.put 0 _ (by simp), h.gg, h.ll, h.rr, h.vv, h.rv, h.lv⟩
theorem DY.n (h : DY w0 W g ao cap bs Lb R V l c) (z : Int) : DY w0 (W.setCell ⟨V, 1, none⟩ (.int .i64 z)) g ao cap bs Lb R V l ⟨c.kind, z⟩ := by
  have := h.gg
  have := h.vv
  exact ⟨h.cur.far (by omega) _, Keep.far (n := 0) h.keep h.vv _, h.lim.far h.lv _ _, h.res.far h.rv _ _, h.box.put 1 _ (by simp), h.gg, h.ll, h.rr, h.vv, h.rv, h.lv⟩
theorem DY.gV (h : DY w0 W g ao cap bs Lb R V l c) : V ≠ g := by have := h.gg; have := h.vv; omega
theorem DY.gL (h : DY w0 W g ao cap bs Lb R V l c) : Lb ≠ g := by have := h.gg; have := h.ll; omega
end

set_option maxRecDepth 20000 in
set_option maxHeartbeats 8000000 in
theorem dact_any (g : Nat) (ao : Option Addr) (cap : Nat) (bs : List Int) (l : Lm) (w : World) (hc : Cur w g ao cap bs) :
    Calls Try.prog 27 #[.pointer (some ⟨g, 0, none⟩), aL l] w fun e w' => ∃ c : Ac, e = .returned (aAc c) ∧ Cur w' g ao cap bs ∧ Keep g w w' := by
  have hgl := hc.1
  have hcA : Cur ((w.alloc (.cells #[.int .i64 l.sl, .int .i64 l.sh, .int .i64 l.hl, .int .i64 l.hh] 25)).alloc (.cells #[.int .i64 0, .int .i64 0] 29)) g ao cap bs := (hc.alloc _).alloc _
  have hkA : Keep g w ((w.alloc (.cells #[.int .i64 l.sl, .int .i64 l.sh, .int .i64 l.hl, .int .i64 l.hh] 25)).alloc (.cells #[.int .i64 0, .int .i64 0] 29)) := ((Keep.refl g w).alloc _).alloc _
  have hL := (PB.new w #[.int .i64 l.sl, .int .i64 l.sh, .int .i64 l.hl, .int .i64 l.hh] 25).alloc (.cells #[.int .i64 0, .int .i64 0] 29)
  have hR := PB.new (w.alloc (.cells #[.int .i64 l.sl, .int .i64 l.sh, .int .i64 l.hl, .int .i64 l.hh] 25)) #[.int .i64 0, .int .i64 0] 29
  simp only [World.size_alloc] at hL hR
  clear hc
  unfold aL
  go_enter Try.func27, Try.ntmps27
  go_upto_region 1 with fail
  generalize (w.alloc (.cells #[.int .i64 l.sl, .int .i64 l.sh, .int .i64 l.hl, .int .i64 l.hh] 25)).alloc (.cells #[.int .i64 0, .int .i64 0] 29) = wA at *
  generalize Value.agg #[.int .i64 l.sl, .int .i64 l.sh, .int .i64 l.hl, .int .i64 l.hh] = av
  have hl1 : w.heap.size ≤ w.heap.size + 1 := by omega
  have hne : w.heap.size + 1 ≠ w.heap.size := by omega
  generalize w.heap.size + 1 = B1 at *
  go_cut [5] (fun pv wx => ∃ (V : Nat) (c : Ac), pv = .pointer (some ⟨V, 0, none⟩) ∧ DY w wx g ao cap bs w.heap.size B1 V l c)
  case first =>
    refine regA1 (V := w.heap.size) (l := l) rfl rfl hcA rfl hL (by omega) ?_
    intro b' w7 B c hf hc7 hk7 hout hBg hBl hBh
    have hd : Hid (DY w ((w7.setCell ⟨B, 0, none⟩ (.int .i64 c.kind)).setCell ⟨B, 1, none⟩ (.int .i64 c.n)) g ao cap bs w.heap.size B1 B l c) := by
      have h1 := hL.lt
      have h2 := hR.lt
      have h3 := hkA.size
      have h0 : DY w w7 g ao cap bs w.heap.size B1 B l ⟨0, 0⟩ := ⟨hc7, hkA.trans hk7, hL.keep hk7 (by omega), hR.keep hk7 (by omega), hBh, hgl, Nat.le_refl _, hl1, by omega, by omega, by omega⟩
      exact (h0.kind c.kind).n c.n
    rw [layA1 hf, hout]
    clear hc7 hk7 hBh hcA hkA hL hR
    generalize Rg.out (Rg.opsOf Try.f27 1) b' 0 = y0
    generalize Rg.out (Rg.opsOf Try.f27 1) b' 1 = y1
    generalize Rg.out (Rg.opsOf Try.f27 1) b' 2 = y2
    generalize Rg.out (Rg.opsOf Try.f27 1) b' 3 = y3
    generalize Rg.out (Rg.opsOf Try.f27 1) b' 4 = y4
    generalize Rg.out (Rg.opsOf Try.f27 1) b' 5 = y5
    generalize Rg.out (Rg.opsOf Try.f27 1) b' 6 = y6
    generalize Rg.out (Rg.opsOf Try.f27 1) b' 7 = y7
    generalize Rg.out (Rg.opsOf Try.f27 1) b' 8 = y8
    generalize Rg.out (Rg.opsOf Try.f27 1) b' 9 = y9
    generalize Rg.out (Rg.opsOf Try.f27 1) b' 10 = y10
    go_frame
    go_wp2_with fail
    go_meet
    case rel => exact ⟨B, c, rfl, hd.out⟩
  case rest =>
  obtain ⟨V, c, rfl, hd⟩ := hcut
  clear hcA hkA hL hR
  go_wp2_with fail
  refine (once_any g ao cap bs 2 _ hd.cur (by omega)).mono ?_
  rintro e w2 ⟨t2, rfl, hc2, hk2⟩
  replace hd := hd.call hc2 hk2
  clear hc2 hk2
  go_upto_if 18 with fail
  go_cut [] (fun wx => ∃ c : Ac, DY w wx g ao cap bs w.heap.size B1 V l c)
  case first =>
    rcases t2 with _ | _
    · go_wp2_with fail
      go_meet
      case rel => exact ⟨c, hd⟩
    · go_upto_region 3 with fail
      refine regA3 (V := w.heap.size) (S := V) (l := l) (c := c) rfl rfl hd.cur rfl rfl hd.lim hd.gL hd.box hd.gV ?_
      intro b' w7 z hf hc7 hk7
      have hd7 := hidden ((hd.call hc7 hk7).n z)
      rw [layA3 hf]
      clear hc7 hk7 hd
      generalize Rg.out (Rg.opsOf Try.f27 3) b' 0 = y0
      generalize Rg.out (Rg.opsOf Try.f27 3) b' 1 = y1
      generalize Rg.out (Rg.opsOf Try.f27 3) b' 2 = y2
      generalize Rg.out (Rg.opsOf Try.f27 3) b' 3 = y3
      generalize Rg.out (Rg.opsOf Try.f27 3) b' 4 = y4
      generalize Rg.out (Rg.opsOf Try.f27 3) b' 5 = y5
      go_frame
      go_wp2_with fail
      go_meet
      case rel => exact ⟨_, hd7.out⟩
  case rest =>
  clear hd
  obtain ⟨c, hd⟩ := hcut
  go_wp2_with fail
  refine (once_any g ao cap bs 20 _ hd.cur (by omega)).mono ?_
  rintro e w3 ⟨t3, rfl, hc2, hk2⟩
  replace hd := hd.call hc2 hk2
  clear hc2 hk2
  go_upto_if 26 with fail
  go_cut [] (fun wx => ∃ c : Ac, DY w wx g ao cap bs w.heap.size B1 V l c)
  case first =>
    rcases t3 with _ | _
    · go_wp2_with fail
      go_meet
      case rel => exact ⟨c, hd⟩
    · have hT := hidden (Tb.new (g := g) (w := w3) [-1, 0, 100000, 100001, 4611686018427387904] hd.cur.1)
      have hdT := hd.alloc (.cells #[.int .i64 (-1), .int .i64 0, .int .i64 100000, .int .i64 100001, .int .i64 4611686018427387904] 2)
      clear hd
      go_wp2_with fail
      refine (below_any g ao cap bs 5 _ hdT.cur (by omega)).mono ?_
      rintro e w4 ⟨a4, rfl, a40, a41, hc4, hk4⟩
      obtain ⟨k, rfl⟩ := Int.eq_ofNat_of_zero_le a40
      have hk5 : k < 5 := by omega
      have hcell := (hT.out.keep hk4).at (k := k) hk5
      generalize hz : ([-1, 0, 100000, 100001, 4611686018427387904] : List Int)[k] = z at hcell
      have hd4 := hdT.call hc4 hk4
      obtain ⟨e0, e1⟩ := hd4.box.two
      have f1 := hd4.box.frozen 1
      have HD := hidden (hd4.n z)
      clear hz hT hk4 hc4 hdT hd4
      go_wp2_with fail
      go_meet
      case rel => exact ⟨_, HD.out⟩
  case rest =>
  clear hd
  obtain ⟨c, hd⟩ := hcut
  go_wp2_with fail
  refine (once_any g ao cap bs 24 _ hd.cur (by omega)).mono ?_
  rintro e w5 ⟨t5, rfl, hc2, hk2⟩
  replace hd := hd.call hc2 hk2
  clear hc2 hk2
  go_upto_if 34 with fail
  go_cut [] (fun wx => ∃ c : Ac, DY w wx g ao cap bs w.heap.size B1 V l c)
  case first =>
    rcases t5 with _ | _
    · go_wp2_with fail
      go_meet
      case rel => exact ⟨c, hd⟩
    · go_wp2_with fail
      refine (from_any g ao cap bs (-1) 12 _ hd.cur (by omega) (by omega) (by omega)).mono ?_
      rintro e w6 ⟨p, rfl, hp0, hp1, hc3, hk3⟩
      have hd3 := hd.call hc3 hk3
      obtain ⟨e0, e1⟩ := hd3.box.two
      have f0 := hd3.box.frozen 0
      have HD := hidden (hd3.kind p)
      clear hc3 hk3 hd hd3
      go_wp2_with fail
      go_meet
      case rel => exact ⟨_, HD.out⟩
  case rest =>
  clear hd
  obtain ⟨c, hd⟩ := hcut
  obtain ⟨e0, e1⟩ := hd.box.two
  obtain ⟨z0, z1⟩ := hd.res.two
  have f0 := hd.res.frozen 0
  have f1 := hd.res.frozen 1
  have HD := hidden hd
  clear hd
  go_wp2_with fail
  try simp only [Exit.inBlock, Exit.then]
  have hgR : g < B1 := by omega
  refine bodyPost_ret (v := aAc c) (results_cell_row Try.results27 _ _ B1 29 _ (0, 0) _ rfl ((HD.out.res.put 0 (.int .i64 c.kind) (vs' := #[.int .i64 c.kind, .int .i64 0]) (by simp)).put 1 (.int .i64 c.n) (vs' := #[.int .i64 c.kind, .int .i64 c.n]) (by simp)) Try.underlying29 rfl (by kernel_rfl)) rfl ⟨c, rfl, ?_, ?_⟩
  · exact (HD.out.cur.far hgR _).far hgR _
  · exact Keep.far (n := 0) (Keep.far (n := 0) HD.out.keep hl1 _) hl1 _
end Go.Proofs.Ytamghmnibfbgaaa
