/-
 Merged: U66 U67.
-/
import Derived.Test.YtjlpfpigggdemaaGreatDoorMi37
namespace Go.Proofs.YtjlpfpigggdemaaGreatDoor
set_option maxRecDepth 8000
set_option maxHeartbeats 4000000
open Go.RowKit Va Uo
set_option linter.all false
structure DC (w0 W : World) (g R C : Nat) (ao : Option Addr) (cap : Nat) (bs : List Int) (a1 : Option Addr) (c1 : Nat) (a2 : Option Addr) (c2 : Nat) (os : List Od) (ds : List Ds) : Prop where
 cur : Cur W g ao cap bs
 keep : Keep g w0 W
 r : PB W R #[.slice none 0 0, .slice none 0 0] 27
 c : PB W C #[.slice a1 os.length c1, .slice a2 ds.length c2] 27
 new : Cp.zo W w0.heap.size (.slice a1 os.length c1) (.slice a2 ds.length c2) os ds
 rc : C ≠ R
 old : w0.heap.size <= R /\ w0.heap.size <= C
 gg : g < w0.heap.size
 od : AllO os
theorem DC.call {w0 W : World} {g R C : Nat} {ao : Option Addr} {cap : Nat} {bs : List Int} {a1 a2 : Option Addr} {c1 c2 : Nat} {os : List Od} {ds : List Ds} {W' : World} (h : DC w0 W g R C ao cap bs a1 c1 a2 c2 os ds) (hc : Cur W' g ao cap bs) (hk : Keep g W W') : DC w0 W' g R C ao cap bs a1 c1 a2 c2 os ds := by
 have := h.old
 have := h.gg
 exact ⟨hc, h.keep.trans hk, h.r.keep hk (by omega), h.c.keep hk (by omega), zco h.new hk h.gg, h.rc, h.old, h.gg, h.od⟩
theorem DC.alloc {w0 W : World} {g R C : Nat} {ao : Option Addr} {cap : Nat} {bs : List Int} {a1 a2 : Option Addr} {c1 c2 : Nat} {os : List Od} {ds : List Ds} (h : DC w0 W g R C ao cap bs a1 c1 a2 c2 os ds) (o : Obj) : DC w0 (W.alloc o) g R C ao cap bs a1 c1 a2 c2 os ds := h.call (h.cur.alloc o) ((Keep.refl g W).alloc o)
theorem DC.set {w0 W : World} {g R C : Nat} {ao : Option Addr} {cap : Nat} {bs : List Int} {a1 a2 : Option Addr} {c1 c2 : Nat} {os : List Od} {ds : List Ds} (h : DC w0 W g R C ao cap bs a1 c1 a2 c2 os ds) {d1 d2 : Option Addr} {d3 d4 : Nat} {L1 : List Od} {L2 : List Ds} (hN : Cp.zo W w0.heap.size (.slice d1 L1.length d3) (.slice d2 L2.length d4) L1 L2) (ho : AllO L1) : DC w0 ((W.setCell ⟨C, 0, none⟩ (.slice d1 L1.length d3)).setCell ⟨C, 1, none⟩ (.slice d2 L2.length d4)) g R C ao cap bs d1 d3 d2 d4 L1 L2 := by
 have := h.old
 have := h.gg
 have h1 : PB (W.setCell ⟨C, 0, none⟩ (.slice d1 L1.length d3)) C #[.slice d1 L1.length d3, .slice a2 ds.length c2] 27 := h.c.put 0 _ (by simp)
 exact ⟨(h.cur.far (by omega) _).far (by omega) _, Keep.far (n := 0) (Keep.far (n := 0) h.keep h.old.2 _) h.old.2 _, (h.r.far h.rc 0 _).far h.rc 1 _, h1.put 1 _ (by simp), zaf (zaf hN h.c (by decide) (by decide) 0 _) h1 (by decide) (by decide) 1 _, h.rc, h.old, h.gg, ho⟩
theorem DC.told {w0 W : World} {g R C : Nat} {ao : Option Addr} {cap : Nat} {bs : List Int} {a1 a2 : Option Addr} {c1 c2 : Nat} {os : List Od} {ds : List Ds} (h : DC w0 W g R C ao cap bs a1 c1 a2 c2 os ds) : PB ((W.setCell ⟨R, 0, none⟩ (.slice a1 os.length c1)).setCell ⟨R, 1, none⟩ (.slice a2 ds.length c2)) R #[.slice a1 os.length c1, .slice a2 ds.length c2] 27 /\ Cp.zo ((W.setCell ⟨R, 0, none⟩ (.slice a1 os.length c1)).setCell ⟨R, 1, none⟩ (.slice a2 ds.length c2)) w0.heap.size (.slice a1 os.length c1) (.slice a2 ds.length c2) os ds /\ Cur ((W.setCell ⟨R, 0, none⟩ (.slice a1 os.length c1)).setCell ⟨R, 1, none⟩ (.slice a2 ds.length c2)) g ao cap bs /\ Keep g w0 ((W.setCell ⟨R, 0, none⟩ (.slice a1 os.length c1)).setCell ⟨R, 1, none⟩ (.slice a2 ds.length c2)) := by
 have := h.old
 have := h.gg
 have h1 : PB (W.setCell ⟨R, 0, none⟩ (.slice a1 os.length c1)) R #[.slice a1 os.length c1, .slice none 0 0] 27 := h.r.put 0 _ (by simp)
 exact ⟨h1.put 1 _ (by simp), zaf (zaf h.new h.r (by decide) (by decide) 0 _) h1 (by decide) (by decide) 1 _, (h.cur.far (by omega) _).far (by omega) _, Keep.far (n := 0) (Keep.far (n := 0) h.keep h.old.1 _) h.old.1 _⟩
theorem zhe {w w' : World} {g cap : Nat} {ao : Option Addr} {bs : List Int} (h : Cur w g ao cap bs) (hb : Below w.heap.size w w') : Cur w' g ao cap bs := h.below (hb.mono h.1)
set_option maxRecDepth 20000 in
set_option maxHeartbeats 16000000 in
theorem zjx (g : Nat) (ao : Option Addr) (cap : Nat) (bs : List Int) (w : World) (hc : Cur w g ao cap bs) :
  Calls Tryz.prog 29 #[.pointer (some ⟨g, 0, none⟩)] w fun e w' => ∃ (v1 v2 : Value) (os : List Od) (ds : List Ds) (t : Int), e = .returned (.tuple #[.agg #[v1, v2], .int .i64 t]) /\ (0 <= t /\ t <= 520) /\ os.length <= 42 /\ ds.length <= 21 /\ AllO os /\ Cp.zo w' w.heap.size v1 v2 os ds /\ Cur w' g ao cap bs /\ Keep g w w' := by
 have hgl := hc.1
 have hd : DC w ((w.alloc (.cells #[.slice none 0 0, .slice none 0 0] 27)).alloc (.cells #[.slice none 0 0, .slice none 0 0] 27)) g w.heap.size (w.heap.size + 1) ao cap bs none 0 none 0 [] [] := by
  have hC := PB.new (w.alloc (.cells #[.slice none 0 0, .slice none 0 0] 27)) #[.slice none 0 0, .slice none 0 0] 27
  simp only [World.size_alloc] at hC
  exact ⟨(hc.alloc _).alloc _, ((Keep.refl g w).alloc _).alloc _, (PB.new w #[.slice none 0 0, .slice none 0 0] 27).alloc _, hC, zgk _ _, by omega, ⟨Nat.le_refl _, by omega⟩, hgl, fun i y h => by simp at h⟩
 go_enter Tryz.func29, Tryz.ntmps29
 go_upto_region 2 with fail
 generalize (w.alloc (.cells #[.slice none 0 0, .slice none 0 0] 27)).alloc (.cells #[.slice none 0 0, .slice none 0 0] 27) = wA at *
 generalize hR : w.heap.size = R at hd ⊢
 generalize hC : R + 1 = C at *
 go_wp2_with fail
 refine (qh g ao cap bs 4 _ hd.cur (by omega)).mono ?_
 rintro e w1 ⟨n0, rfl, hn0, hn1, hc1, hk1⟩
 have hd1 := hd.call hc1 hk1
 clear hd hc1 hk1
 go_wp2_with fail
 go_loopw [5] (fun nv wr => ∃ n : Int, (0 <= n /\ n <= 4) /\ nv = .int .i64 n /\ ∃ (a1 : Option Addr) (c1 : Nat) (a2 : Option Addr) (c2 : Nat) (os : List Od) (ds : List Ds), (os.length + 4 * n.toNat <= 16 /\ ds.length + 2 * n.toNat <= 8) /\ DC w wr g R C ao cap bs a1 c1 a2 c2 os ds) (fun nv _ => (intOf nv).toNat)
 case atStart => exact ⟨1 + n0, by omega, rfl, _, _, _, _, _, _, ⟨by simp; omega, by simp; omega⟩, hd1⟩
 case round =>
  clear hd1
  obtain ⟨n, hn, rfl, a1, c1, a2, c2, os, ds, hlen, hd⟩ := hrel
  by_cases hpos : 0 < n
  ·go_wp2_with fail
   refine (zgx g ao cap bs _ hd.cur).mono ?_
   rintro e w2 ⟨⟨y, rfl⟩, hc2, hk2⟩
   have hd2 := hd.call hc2 hk2
   clear hc2 hk2 hd
   unfold aOd
   go_upto_region 6 with fail
   have hd3 := hd2.alloc (.cells #[.int .i64 y.id, .int .i64 y.p, .int .i64 y.d, .int .i64 y.n, .int .i64 y.f, .int .i64 y.e, .int .i64 y.c, .int .i64 y.s, .bool y.two] 38)
   have hO3 := PB.new w2 #[.int .i64 y.id, .int .i64 y.p, .int .i64 y.d, .int .i64 y.n, .int .i64 y.f, .int .i64 y.e, .int .i64 y.c, .int .i64 y.s, .bool y.two] 38
   have lB : w2.heap.size ≠ C := by have := hd2.c.lt; omega
   have lG : w2.heap.size ≠ g := by have := hd2.cur.1; omega
   clear hd2
   generalize w2.alloc (.cells #[.int .i64 y.id, .int .i64 y.p, .int .i64 y.d, .int .i64 y.n, .int .i64 y.f, .int .i64 y.e, .int .i64 y.c, .int .i64 y.s, .bool y.two] 38) = w3 at *
   generalize w2.heap.size = B at *
   obtain ⟨p0, p1⟩ := hd3.c.two
   go_wp2_with (first | (refine wpList_load_row rfl 38 (.tmp 6) rfl B rfl 38 #[.int .i64 y.id, .int .i64 y.p, .int .i64 y.d, .int .i64 y.n, .int .i64 y.f, .int .i64 y.e, .int .i64 y.c, .int .i64 y.s, .bool y.two] (0, 0) _ hO3 Tryz.underlying38 rfl (by kernel_rfl) ?_) | fail)
   refine (zge a1 c1 a2 c2 os ds ⟨1, y, 0, 0, 0, 0, 0, 0, 0⟩ _ (zev hd3.new) (by omega) (by omega) hd3.od).mono ?_
   rintro e w4 ⟨v1, v2, rfl, hN4, hb4⟩
   have hN : Cp.zo w4 w.heap.size v1 v2 (Uo.dO os ds ⟨1, y, 0, 0, 0, 0, 0, 0, 0⟩) (Uo.dD os ds ⟨1, y, 0, 0, 0, 0, 0, 0, 0⟩) := zav hN4 hd3.keep.size
   have l1 := zf9 os ds ⟨1, y, 0, 0, 0, 0, 0, 0, 0⟩
   have l2 := zgv os ds ⟨1, y, 0, 0, 0, 0, 0, 0, 0⟩
   have l3 := dO_od (ds := ds) (x := ⟨1, y, 0, 0, 0, 0, 0, 0, 0⟩) hd3.od
   clear hN4 p0 p1
   generalize Uo.dO os ds ⟨1, y, 0, 0, 0, 0, 0, 0, 0⟩ = L1 at *
   generalize Uo.dD os ds ⟨1, y, 0, 0, 0, 0, 0, 0, 0⟩ = L2 at *
   generalize doC os ds ⟨1, y, 0, 0, 0, 0, 0, 0, 0⟩ = cc
   obtain ⟨d1, d3, d2, d4, rfl, rfl⟩ := hN.form
   have hd4 := (hd3.call (zhe hd3.cur hb4) (Keep.of_below hb4)).alloc (.cells #[.slice d1 L1.length d3, .slice d2 L2.length d4] 27)
   have hO4 := (hO3.below hb4).alloc (.cells #[.slice d1 L1.length d3, .slice d2 L2.length d4] 27)
   have hN5 := zco hN ((Keep.refl g w4).alloc (.cells #[.slice d1 L1.length d3, .slice d2 L2.length d4] 27)) hd3.gg
   have hX4 := PB.new w4 #[.slice d1 L1.length d3, .slice d2 L2.length d4] 27
   have lX : w4.heap.size ≠ C := by have := (hd3.c.below hb4).lt; omega
   clear hd3 hO3 hN hb4
   go_upto_region 7 with fail
   generalize w4.alloc (.cells #[.slice d1 L1.length d3, .slice d2 L2.length d4] 27) = w5 at *
   generalize w4.heap.size = X at *
   by_cases hc0 : cc = 0
   ·subst hc0
    obtain ⟨x0, x1⟩ := hX4.two
    obtain ⟨p0, p1⟩ := hd4.c.two
    have f0 := hd4.c.frozen 0
    have f1 := hd4.c.frozen 1
    have hCX : ¬ C = X := by omega
    have hd6 := hd4.set hN5 l3
    have hO6 := (hO4.far (b := C) lB.symm 0 (.slice d1 L1.length d3)).far (b := C) lB.symm 1 (.slice d2 L2.length d4)
    clear hd4 hO4 hN5 hX4
    go_wp2_with fail
    refine (zcf g ao cap bs 4 _ hd6.cur (by omega)).mono ?_
    rintro e w7 ⟨t, rfl, hc7, hk7⟩
    have hd7 := hd6.call hc7 hk7
    have hO7 := hO6.keep hk7 lG
    clear hd6 hO6 hc7 hk7 x0 x1 p0 p1 f0 f1
    rcases t with _ | _
    ·obtain ⟨p0, p1⟩ := hd7.c.two
     have o0 : w7.cell? ⟨B, 0, none⟩ = some (.int .i64 y.id) := hO7.cell 0
     go_wp2_with fail
     refine (zge d1 d3 d2 d4 L1 L2 ⟨2, ⟨0, 0, 0, 0, 0, 0, 0, 0, false⟩, y.id, 0, 0, 0, 0, 0, 0⟩ _ (zev hd7.new) (by omega) (by omega) hd7.od).mono ?_
     rintro e w8 ⟨v1, v2, rfl, hN8, hb8⟩
     have hN : Cp.zo w8 w.heap.size v1 v2 (Uo.dO L1 L2 ⟨2, ⟨0, 0, 0, 0, 0, 0, 0, 0, false⟩, y.id, 0, 0, 0, 0, 0, 0⟩) (Uo.dD L1 L2 ⟨2, ⟨0, 0, 0, 0, 0, 0, 0, 0, false⟩, y.id, 0, 0, 0, 0, 0, 0⟩) := zav hN8 hd7.keep.size
     have m1 := zf9 L1 L2 ⟨2, ⟨0, 0, 0, 0, 0, 0, 0, 0, false⟩, y.id, 0, 0, 0, 0, 0, 0⟩
     have m2 := zgv L1 L2 ⟨2, ⟨0, 0, 0, 0, 0, 0, 0, 0, false⟩, y.id, 0, 0, 0, 0, 0, 0⟩
     have m3 := dO_od (ds := L2) (x := ⟨2, ⟨0, 0, 0, 0, 0, 0, 0, 0, false⟩, y.id, 0, 0, 0, 0, 0, 0⟩) hd7.od
     clear hN8 p0 p1 o0
     generalize Uo.dO L1 L2 ⟨2, ⟨0, 0, 0, 0, 0, 0, 0, 0, false⟩, y.id, 0, 0, 0, 0, 0, 0⟩ = M1 at *
     generalize Uo.dD L1 L2 ⟨2, ⟨0, 0, 0, 0, 0, 0, 0, 0, false⟩, y.id, 0, 0, 0, 0, 0, 0⟩ = M2 at *
     generalize doC L1 L2 ⟨2, ⟨0, 0, 0, 0, 0, 0, 0, 0, false⟩, y.id, 0, 0, 0, 0, 0, 0⟩ = cc
     obtain ⟨b1, b3, b2, b4, rfl, rfl⟩ := hN.form
     have hd8 := hd7.call (zhe hd7.cur hb8) (Keep.of_below hb8)
     obtain ⟨p0, p1⟩ := hd8.c.two
     have f0 := hd8.c.frozen 0
     have f1 := hd8.c.frozen 1
     have hd9 := hd8.set hN m3
     clear hd8 hd7 hO7 hN
     go_wp2_with fail
     go_roundw
     case rel => exact ⟨n - 1, by omega, rfl, _, _, _, _, _, _, ⟨by omega, by omega⟩, hd9⟩
     case measure => simp [intOf]; omega
    ·go_wp2_with fail
     go_roundw
     case rel => exact ⟨n - 1, by omega, rfl, _, _, _, _, _, _, ⟨by omega, by omega⟩, hd7⟩
     case measure => simp [intOf]; omega
   ·have hcb : (cc == 0) = false := by simp [hc0]
    clear hX4 hN5 hO4
    go_wp2_with fail
    go_roundw
    case rel => exact ⟨n - 1, by omega, rfl, _, _, _, _, _, _, ⟨by omega, by omega⟩, hd4⟩
    case measure => simp [intOf]; omega
  ·have hnn : ¬ 0 < n := hpos
   go_wp2_with fail
   refine (qh g ao cap bs 14 _ hd.cur (by omega)).mono ?_
   rintro e w2 ⟨n2, rfl, hm0, hm1, hc2, hk2⟩
   have hd2 := hd.call hc2 hk2
   clear hd hc2 hk2
   go_wp2_with fail
   go_loopw [9, 10] (fun tv nv wr => ∃ (n t : Int), (0 <= n /\ n <= 13) /\ (0 <= t /\ t + 40 * n <= 520) /\ tv = .int .i64 t /\ nv = .int .i64 n /\ ∃ (a1 : Option Addr) (c1 : Nat) (a2 : Option Addr) (c2 : Nat) (os : List Od) (ds : List Ds), (os.length + 2 * n.toNat <= 42 /\ ds.length + n.toNat <= 21) /\ DC w wr g R C ao cap bs a1 c1 a2 c2 os ds) (fun _ nv _ => (intOf nv).toNat)
   case atStart => exact ⟨n2, 0, by omega, by omega, rfl, rfl, _, _, _, _, _, _, ⟨by omega, by omega⟩, hd2⟩
   case round =>
    clear hd2 hlen
    obtain ⟨n, t, hn, ht, rfl, rfl, a1, c1, a2, c2, os, ds, hlen, hd⟩ := hrel
    by_cases hpos : 0 < n
    ·go_wp2_with fail
     refine (qh g ao cap bs 40 _ hd.cur (by omega)).mono ?_
     rintro e w3 ⟨y, rfl, hy0, hy1, hc3, hk3⟩
     have hd3 := hd.call hc3 hk3
     clear hc3 hk3 hd
     have lC : C ≠ g := by have := hd3.old; have := hd3.gg; omega
     go_upto_region 16 with fail
     refine regQ16 rfl rfl rfl rfl hd3.cur hd3.c lC hd3.new hd3.gg hd3.od (by omega) (by omega) ?_
     intro b' wx x d1 d2 d3 d4 hf hcx hkx hNx hPx
     (rw [layQ16 hf]; simp only [Rg.fl0, Rg.fl1, Rg.fl2, Nat.reduceAdd])
     clear hf hPx
     generalize Rg.out (Rg.opsOf Tryz.f29 16) b' = yF
     have hd4 := (hd3.call hcx hkx).set (zav hNx hd3.keep.size) (dO_od (ds := ds) (x := x) hd3.od)
     have l1 := zf9 os ds x
     have l2 := zgv os ds x
     clear hcx hkx hNx hd3
     generalize Uo.dO os ds x = L1 at *
     generalize Uo.dD os ds x = L2 at *
     generalize (wx.setCell ⟨C, 0, none⟩ (.slice d1 L1.length d3)).setCell ⟨C, 1, none⟩ (.slice d2 L2.length d4) = w5 at *
     go_frame
     go_wp2_with fail
     go_roundw
     case rel => exact ⟨n - 1, t + y, by omega, by omega, rfl, rfl, _, _, _, _, _, _, ⟨by omega, by omega⟩, hd4⟩
     case measure => simp [intOf]; omega
    ·have hnn : ¬ 0 < n := hpos
     obtain ⟨p0, p1⟩ := hd.c.two
     obtain ⟨r0, r1⟩ := hd.r.two
     have f0 := hd.r.frozen 0
     have f1 := hd.r.frozen 1
     obtain ⟨hT1, hT2, hT3, hT4⟩ := hd.told
     have ho := hd.od
     clear hd
     go_wp2_with fail
     exact bodyPost_ret (zh0 Tryz.results29 _ _ R 27 _ _ rfl hT1 Tryz.underlying27 rfl (by kernel_rfl)) rfl ⟨_, _, os, ds, t, rfl, by omega, by omega, by omega, ho, hR ▸ hT2, hT3, hT4⟩
end Go.Proofs.YtjlpfpigggdemaaGreatDoor
namespace Go.Proofs.YtjlpfpigggdemaaGreatDoor
open Go.RowKit Va Uo
set_option linter.all false
def FY4 (n1 g : Nat) (C G c1 : Nat) (ds : List Ds) (i9 : Nat) (v : Value) (w : World) : Prop :=
 match i9 with
 | 0 => v = .pointer (some ⟨C, 1, none⟩)
 | 1 => v = .slice (some ⟨G, 0, none⟩) ds.length c1
 | 2 => v = .pointer (some ⟨g, 0, none⟩)
 | 3 => v = .pointer (some ⟨C, 1, none⟩)
 | 4 => v = .slice (some ⟨G, 0, none⟩) ds.length c1
 | 5 => v = .int .i64 (ds.length : Nat)
 | 6 => ∃ n : Nat, v = .int .i64 n /\ n < ds.length
 | 7 => ∃ n : Nat, v = .pointer (some ⟨G, n * 5, none⟩) /\ n < ds.length
 | 8 => ∃ n : Nat, v = .pointer (some ⟨G, n * 5, none⟩) /\ n < ds.length
 | _ => True
theorem zdq : (Rg.opsOf Tryz.f10 4).size = 9 := by kernel_rfl
set_option maxRecDepth 20000 in
set_option maxHeartbeats 16000000 in
theorem regY4 {Q : Exit -> Act -> World -> Prop} {a : Act} {w1 : World} {g : Nat} {ao : Option Addr} {cap : Nat} {bs : List Int} {C G c1 : Nat} {ds : List Ds} {vo : Value} (ha : a.tmps.size = 170)
  (k0 : a.tmps[0]? = some (.pointer (some ⟨g, 0, none⟩))) (k4 : a.tmps[4]? = some (.pointer (some ⟨C, 0, none⟩))) (hc : Cur w1 g ao cap bs) (hC : PB w1 C #[vo, .slice (some ⟨G, 0, none⟩) ds.length c1] 27) (hCg : C ≠ g) (hp : 0 < ds.length) (hn : ds.length <= 1048576)
  (hend : ∀ b' w' (n : Nat), Rg.Fr (Rg.opsOf Tryz.f10 4) a b' -> Cur w' g ao cap bs -> Keep g w1 w' -> Rg.out (Rg.opsOf Tryz.f10 4) b' 8 = .pointer (some ⟨G, n * 5, none⟩) -> n < ds.length -> Q .normal b' w') :
  (Code.region 4 (Rg.opsOf Tryz.f10 4) true).wp Tryz.prog Q a w1 := by
 have hg1 : g < w1.heap.size := hc.1
 refine Rg.zfb 9 (by kernel_rfl) (fun w' => Cur w' g ao cap bs /\ Keep g w1 w') (FY4 w1.heap.size g C G c1 ds) (by rw [ha]; kernel_rfl) ⟨hc.drewN 1, (Keep.refl g w1).drewN 1⟩ ?_ ?_ ?_
 case refine_2 => exact fun h => absurd h (by rw [zdq]; decide)
 case refine_3 =>
  intro _ b' w' hf hI hA
  rw [zdq] at hA
  obtain ⟨n, h1, h2⟩ := hA 8 (by decide)
  exact hend b' w' n hf hI.1 hI.2 h1 h2
 case refine_1 =>
  clear hend
  have HS : ∀ {w w' : World}, Keep g w w' -> ∀ k9 y9, FY4 w1.heap.size g C G c1 ds k9 y9 w -> FY4 w1.heap.size g C G c1 ds k9 y9 w' := fun hb k9 y9 h => by
   unfold FY4 at *
   split at h <;> exact h
  intro i' hi' hne
  rw [zdq] at hi'
  rcases (show i' = 0 ∨ i' = 1 ∨ i' = 2 ∨ i' = 3 ∨ i' = 4 ∨ i' = 5 ∨ i' = 6 ∨ i' = 7 ∨ i' = 8 by omega) with rfl | rfl | rfl | rfl | rfl | rfl | rfl | rfl | rfl
  ·intro bb w' hf hI hA
   clear hi' hne
   have q4 := hf.kept (s := 4) (by rw [zdq]; kernel_rfl) k4
   exact Rg.zf (o := ⟨some 25, Op.fieldAddr 27 (Operand.tmp 4) 1, _, _, _, _⟩) (x := .pointer (some ⟨C, 1, none⟩)) rfl rfl (by clear hA HS hC; simp only [execOp]; go_simp) ⟨_, rfl, (fun h => by cases h), rfl, hI, fun _ _ h => h⟩
  ·intro bb w' hf hI hA
   clear hi' hne
   have q25 : bb.tmps[25]? = some _ := hf.tmp (k := 0) rfl (by rw [ha]; decide) (hA 0 (by kernel_rfl))
   obtain ⟨e0, e1⟩ := (hC.keep hI.2 hCg).two
   exact Rg.zf (o := ⟨some 26, Op.load 25 (Operand.tmp 25), _, _, _, _⟩) (x := .slice (some ⟨G, 0, none⟩) ds.length c1) rfl rfl (by clear hA HS hC; simp only [execOp]; go_simp) ⟨_, rfl, (fun h => by cases h), rfl, hI, fun _ _ h => h⟩
  ·intro bb w' hf hI hA
   clear hi' hne
   have q0 := hf.kept (s := 0) (by rw [zdq]; kernel_rfl) k0
   exact Rg.zf (o := ⟨some 27, Op.move (Operand.tmp 0), _, _, _, _⟩) (x := .pointer (some ⟨g, 0, none⟩)) rfl rfl (by clear hA HS hC; simp only [execOp]; go_simp) ⟨_, rfl, (fun h => by cases h), rfl, hI, fun _ _ h => h⟩
  ·intro bb w' hf hI hA
   clear hi' hne
   have q4 := hf.kept (s := 4) (by rw [zdq]; kernel_rfl) k4
   exact Rg.zf (o := ⟨some 28, Op.fieldAddr 27 (Operand.tmp 4) 1, _, _, _, _⟩) (x := .pointer (some ⟨C, 1, none⟩)) rfl rfl (by clear hA HS hC; simp only [execOp]; go_simp) ⟨_, rfl, (fun h => by cases h), rfl, hI, fun _ _ h => h⟩
  ·intro bb w' hf hI hA
   clear hi' hne
   have q28 : bb.tmps[28]? = some _ := hf.tmp (k := 3) rfl (by rw [ha]; decide) (hA 3 (by kernel_rfl))
   obtain ⟨e0, e1⟩ := (hC.keep hI.2 hCg).two
   exact Rg.zf (o := ⟨some 29, Op.load 25 (Operand.tmp 28), _, _, _, _⟩) (x := .slice (some ⟨G, 0, none⟩) ds.length c1) rfl rfl (by clear hA HS hC; simp only [execOp]; go_simp) ⟨_, rfl, (fun h => by cases h), rfl, hI, fun _ _ h => h⟩
  ·intro bb w' hf hI hA
   clear hi' hne
   have q29 : bb.tmps[29]? = some _ := hf.tmp (k := 4) rfl (by rw [ha]; decide) (hA 4 (by kernel_rfl))
   exact Rg.zf (o := ⟨some 30, Op.call { callee := Callee.builtin Builtin.len, args := #[Operand.tmp 29], argTypes := _ }, _, _, _, _⟩) (x := .int .i64 (ds.length : Nat)) rfl rfl (by clear hA HS hC; simp only [execOp]; go_simp) ⟨_, rfl, (fun h => by cases h), rfl, hI, fun _ _ h => h⟩
  ·intro bb w' hf hI hA
   clear hi' hne
   have q27 : bb.tmps[27]? = some _ := hf.tmp (k := 2) rfl (by rw [ha]; decide) (hA 2 (by kernel_rfl))
   have q30 : bb.tmps[30]? = some _ := hf.tmp (k := 5) rfl (by rw [ha]; decide) (hA 5 (by kernel_rfl))
   refine Rg.jr (o := ⟨some 31, Op.call { callee := Callee.value (Operand.func 13), args := #[Operand.tmp 27, Operand.tmp 30], argTypes := _ }, _, _, _, _⟩) rfl rfl (by clear hA HS hC; simp only [execOp, resolve]; go_simp) (qh g ao cap bs (ds.length : Nat) w' hI.1 (by omega)) ?_
   rintro e w2 ⟨y, rfl, hx0, hx1, hc2, hk2⟩
   obtain ⟨n, rfl⟩ := Int.eq_ofNat_of_zero_le hx0
   exact ⟨_, rfl, _, rfl, (fun h => by cases h), ⟨n, rfl, by omega⟩, ⟨hc2, hI.2.trans hk2⟩, HS hk2⟩
  ·intro bb w' hf hI hA
   clear hi' hne
   have q26 : bb.tmps[26]? = some _ := hf.tmp (k := 1) rfl (by rw [ha]; decide) (hA 1 (by kernel_rfl))
   obtain ⟨n, hv, hnl⟩ := hA 6 (by kernel_rfl)
   have q31 : bb.tmps[31]? = some _ := hf.tmp (k := 6) rfl (by rw [ha]; decide) hv
   exact Rg.zf (o := ⟨some 32, Op.indexAddr 25 (Operand.tmp 26) (Operand.tmp 31), _, _, _, _⟩) (x := .pointer (some ⟨G, n * 5, none⟩)) rfl rfl (by clear hA HS hC hv; simp only [execOp]; go_simp) ⟨_, rfl, (fun h => by cases h), ⟨n, rfl, hnl⟩, hI, fun _ _ h => h⟩
  ·intro bb w' hf hI hA
   clear hi' hne
   obtain ⟨n, hv, hnl⟩ := hA 7 (by kernel_rfl)
   have q32 : bb.tmps[32]? = some _ := hf.tmp (k := 7) rfl (by rw [ha]; decide) hv
   exact Rg.zf (o := ⟨some 6, Op.assign (Operand.tmp 32), _, _, _, _⟩) (x := .pointer (some ⟨G, n * 5, none⟩)) rfl rfl (by clear hA HS hC hv; simp only [execOp]; go_simp) ⟨_, rfl, (fun h => by cases h), ⟨n, rfl, hnl⟩, hI, fun _ _ h => h⟩
theorem layY4 {a b : Act} (hf : Rg.Fr (Rg.opsOf Tryz.f10 4) a b) : b = Rg.fl (Rg.opsOf Tryz.f10 4) b 0 [some 25, some 26, some 27, some 28, some 29, some 30, some 31, some 32, some 6] a := Rg.ql _ (by kernel_rfl) hf
end Go.Proofs.YtjlpfpigggdemaaGreatDoor
