/-
 Merged: U63 U64 U65.
-/
import Derived.Test.YtjlpfpigggdemaaGreatDoorMi36
import Derived.Test.YtjlpfpigggdemaaGreatDoorMi3
import Derived.Test.YtjlpfpigggdemaaGreatDoorMi33
namespace Go.Proofs.YtjlpfpigggdemaaGreatDoor
set_option maxRecDepth 8000
set_option maxHeartbeats 4000000
open Go.RowKit Va Uo
set_option linter.all false
structure DD (w0 W : World) (g R V C : Nat) (ao : Option Addr) (cap : Nat) (bs : List Int) (vc : Array Value) (x : Dd) : Prop where
 cur : Cur W g ao cap bs
 keep : Keep g w0 W
 r : PB W R #[.int .i64 0, .int .i64 0, .int .i64 0, .int .i64 0, .int .i64 0, .int .i64 0, .int .i64 0, .int .i64 0, .int .i64 0, .bool false, .int .i64 0, .int .i64 0, .int .i64 0, .int .i64 0, .int .i64 0, .int .i64 0, .int .i64 0] 40
 v : PB W V (zat x) 40
 c : PB W C vc 27
 rv : V ≠ R
 cv : C ≠ V
 cr : C ≠ R
 old : w0.heap.size <= R /\ w0.heap.size <= V /\ w0.heap.size <= C
 gg : g < w0.heap.size
theorem DD.call {w0 W : World} {g R V C : Nat} {ao : Option Addr} {cap : Nat} {bs : List Int} {vc : Array Value} {x : Dd} {W' : World} (h : DD w0 W g R V C ao cap bs vc x) (hc : Cur W' g ao cap bs) (hk : Keep g W W') : DD w0 W' g R V C ao cap bs vc x := by
 have := h.old
 have := h.gg
 exact ⟨hc, h.keep.trans hk, h.r.keep hk (by omega), h.v.keep hk (by omega), h.c.keep hk (by omega), h.rv, h.cv, h.cr, h.old, h.gg⟩
theorem DD.alloc {w0 W : World} {g R V C : Nat} {ao : Option Addr} {cap : Nat} {bs : List Int} {vc : Array Value} {x : Dd} (h : DD w0 W g R V C ao cap bs vc x) (o : Obj) : DD w0 (W.alloc o) g R V C ao cap bs vc x := h.call (h.cur.alloc o) ((Keep.refl g W).alloc o)
theorem DD.put {w0 W : World} {g R V C : Nat} {ao : Option Addr} {cap : Nat} {bs : List Int} {vc : Array Value} {x : Dd} (h : DD w0 W g R V C ao cap bs vc x) (j : Nat) (u : Value) (x' : Dd) (e : (zat x).setIfInBounds j u = zat x') : DD w0 (W.setCell ⟨V, j, none⟩ u) g R V C ao cap bs vc x' := by
 have := h.old
 have := h.gg
 exact ⟨h.cur.far (by omega) u, Keep.far (n := 0) h.keep h.old.2.1 u, h.r.far h.rv j u, h.v.put j u e, h.c.far h.cv.symm j u, h.rv, h.cv, h.cr, h.old, h.gg⟩
theorem DD.row {w0 W : World} {g R V C : Nat} {ao : Option Addr} {cap : Nat} {bs : List Int} {vc : Array Value} {x : Dd} (h : DD w0 W g R V C ao cap bs vc x) {B : Nat} (cs : Array Value) (h1 : w0.heap.size <= B) (h2 : B ≠ R) (h3 : B ≠ V) (h4 : B ≠ C) : DD w0 (W.setRow B cs) g R V C ao cap bs vc x := by
 have := h.old
 have := h.gg
 exact ⟨h.cur.below ⟨rfl, rfl, rfl, by simp, fun k hk => setRow_other _ _ _ _ (by omega)⟩, ⟨h.keep.os, h.keep.tape, h.keep.output, by have := h.keep.size; simpa using this, fun b hb hbg => (setRow_other _ _ _ _ (by omega)).trans (h.keep.block b hb hbg)⟩, (setRow_other _ _ _ _ h2.symm).trans h.r, (setRow_other _ _ _ _ h3.symm).trans h.v, (setRow_other _ _ _ _ h4.symm).trans h.c, h.rv, h.cv, h.cr, h.old, h.gg⟩
theorem DD.told {w0 W : World} {g R V C : Nat} {ao : Option Addr} {cap : Nat} {bs : List Int} {vc : Array Value} {x : Dd} (h : DD w0 W g R V C ao cap bs vc x) : PB (W.setRow R (zat x)) R (zat x) 40 /\ Cur (W.setRow R (zat x)) g ao cap bs /\ Keep g w0 (W.setRow R (zat x)) := by
 have := h.old
 have := h.gg
 exact ⟨setRow_heap _ _ _ _ _ _ h.r, h.cur.below ⟨rfl, rfl, rfl, by simp, fun k hk => setRow_other _ _ _ _ (by omega)⟩, h.keep.os, h.keep.tape, h.keep.output, by have := h.keep.size; simpa using this, fun b hb hbg => (setRow_other _ _ _ _ (by omega)).trans (h.keep.block b hb hbg)⟩
set_option maxRecDepth 20000 in
set_option maxHeartbeats 16000000 in
theorem zjq (g : Nat) (ao : Option Addr) (cap : Nat) (bs : List Int) (a1 : Option Addr) (c1 : Nat) (ad : Option Addr) (m dcap : Nat) (os : List Od) (B0 : Nat) (tm : Int) (w : World) (hc : Cur w g ao cap bs) (ho : vz 9 jd w B0 (.slice a1 os.length c1) os) (hB0 : g < B0) (hn : os.length <= 1048576) :
  Calls Tryz.prog 51 #[.pointer (some ⟨g, 0, none⟩), .agg #[.slice a1 os.length c1, .slice ad m dcap], .int .i64 tm] w fun e w' => (∃ x : Dd, e = .returned (.agg (zat x))) /\ Cur w' g ao cap bs /\ Keep g w w' := by
 have hgl := hc.1
 have hkA : Keep g w ((w.alloc (.cells #[.slice a1 os.length c1, .slice ad m dcap] 27)).alloc (.cells #[.int .i64 0, .int .i64 0, .int .i64 0, .int .i64 0, .int .i64 0, .int .i64 0, .int .i64 0, .int .i64 0, .int .i64 0, .bool false, .int .i64 0, .int .i64 0, .int .i64 0, .int .i64 0, .int .i64 0, .int .i64 0, .int .i64 0] 40)) := ((Keep.refl g w).alloc _).alloc _
 have hcA : Cur ((w.alloc (.cells #[.slice a1 os.length c1, .slice ad m dcap] 27)).alloc (.cells #[.int .i64 0, .int .i64 0, .int .i64 0, .int .i64 0, .int .i64 0, .int .i64 0, .int .i64 0, .int .i64 0, .int .i64 0, .bool false, .int .i64 0, .int .i64 0, .int .i64 0, .int .i64 0, .int .i64 0, .int .i64 0, .int .i64 0] 40)) g ao cap bs := (hc.alloc _).alloc _
 have hCA : PB ((w.alloc (.cells #[.slice a1 os.length c1, .slice ad m dcap] 27)).alloc (.cells #[.int .i64 0, .int .i64 0, .int .i64 0, .int .i64 0, .int .i64 0, .int .i64 0, .int .i64 0, .int .i64 0, .int .i64 0, .bool false, .int .i64 0, .int .i64 0, .int .i64 0, .int .i64 0, .int .i64 0, .int .i64 0, .int .i64 0] 40)) w.heap.size #[.slice a1 os.length c1, .slice ad m dcap] 27 := (PB.new w #[.slice a1 os.length c1, .slice ad m dcap] 27).alloc (.cells #[.int .i64 0, .int .i64 0, .int .i64 0, .int .i64 0, .int .i64 0, .int .i64 0, .int .i64 0, .int .i64 0, .int .i64 0, .bool false, .int .i64 0, .int .i64 0, .int .i64 0, .int .i64 0, .int .i64 0, .int .i64 0, .int .i64 0] 40)
 have hRA := PB.new (w.alloc (.cells #[.slice a1 os.length c1, .slice ad m dcap] 27)) #[.int .i64 0, .int .i64 0, .int .i64 0, .int .i64 0, .int .i64 0, .int .i64 0, .int .i64 0, .int .i64 0, .int .i64 0, .bool false, .int .i64 0, .int .i64 0, .int .i64 0, .int .i64 0, .int .i64 0, .int .i64 0, .int .i64 0] 40
 simp only [World.size_alloc] at hRA
 have hzA : ((w.alloc (.cells #[.slice a1 os.length c1, .slice ad m dcap] 27)).alloc (.cells #[.int .i64 0, .int .i64 0, .int .i64 0, .int .i64 0, .int .i64 0, .int .i64 0, .int .i64 0, .int .i64 0, .int .i64 0, .bool false, .int .i64 0, .int .i64 0, .int .i64 0, .int .i64 0, .int .i64 0, .int .i64 0, .int .i64 0] 40)).heap.size = w.heap.size + 1 + 1 := by simp
 go_enter Tryz.func51, Tryz.ntmps51
 go_upto_region 1 with fail
 generalize (w.alloc (.cells #[.slice a1 os.length c1, .slice ad m dcap] 27)).alloc (.cells #[.int .i64 0, .int .i64 0, .int .i64 0, .int .i64 0, .int .i64 0, .int .i64 0, .int .i64 0, .int .i64 0, .int .i64 0, .bool false, .int .i64 0, .int .i64 0, .int .i64 0, .int .i64 0, .int .i64 0, .int .i64 0, .int .i64 0] 40) = wA at *
 refine regQ1 rfl rfl rfl hcA ?_
 intro b' w2 V x0 hf hc2 hk2 ho2 hV2 hP2
 (rw [layQ1 hf]; simp only [Rg.fl0, Rg.fl1, Rg.fl2, Nat.reduceAdd]; rw [ho2])
 clear ho2 hf
 generalize Rg.out (Rg.opsOf Tryz.f51 1) b' = yF
 have hd : DD w (w2.setRow V (zat x0)) g (w.heap.size + 1) V w.heap.size ao cap bs #[.slice a1 os.length c1, .slice ad m dcap] x0 := by
  have hk := hkA.trans hk2
  refine ⟨hc2.below ⟨rfl, rfl, rfl, by simp, fun k hk => setRow_other _ _ _ _ (by omega)⟩, ⟨hk.os, hk.tape, hk.output, by have := hk.size; simpa using this, fun b hb hbg => (setRow_other _ _ _ _ (by omega)).trans (hk.block b hb hbg)⟩, (setRow_other _ _ _ _ (by omega)).trans (hRA.keep hk2 (by omega)), setRow_heap _ _ _ _ _ _ hP2, (setRow_other _ _ _ _ (by omega)).trans (hCA.keep hk2 (by omega)), by omega, by omega, by omega, ⟨by omega, by omega, by omega⟩, hgl⟩
 generalize w2.setRow V (zat x0) = w3 at *
 clear hc2 hk2 hP2 hCA hRA hcA hkA
 generalize hR : w.heap.size + 1 = R at *
 generalize hC : w.heap.size = C at hd ⊢
 go_frame
 go_upto_region 2 with fail
 go_cut [36] (fun c wx => ∃ t : Bool, c = .bool t /\ (t = true -> 0 < os.length) /\ ∃ x, DD w wx g R V C ao cap bs #[.slice a1 os.length c1, .slice ad m dcap] x)
 case first =>
  obtain ⟨e0, e1⟩ := hd.c.two
  by_cases hp : 0 < os.length
  ·have hpi : (0 : Int) < (os.length : Int) := by omega
   go_wp2_with fail
   refine (zcf g ao cap bs 8 _ hd.cur (by omega)).mono ?_
   rintro e w4 ⟨t, rfl, hc4, hk4⟩
   go_wp2_with fail
   go_meet
   case rel => exact ⟨_, rfl, fun _ => hp, _, hd.call hc4 hk4⟩
  ·have hpi : ¬ (0 : Int) < (os.length : Int) := by omega
   go_wp2_with fail
   go_meet
   case rel => exact ⟨false, rfl, (fun h => by cases h), _, hd⟩
 case rest =>
  clear hd
  obtain ⟨t, rfl, ht, x, hd⟩ := hcut
  go_upto_if 36 with fail
  go_cut [] (fun wx => ∃ x, DD w wx g R V C ao cap bs #[.slice a1 os.length c1, .slice ad m dcap] x)
  case first =>
   rcases t with _ | _
   ·go_wp2_with fail
    go_meet
    case rel => exact ⟨_, hd⟩
   ·have hp := ht rfl
    obtain ⟨ao2, cap2, hsl, hcap2, hh⟩ := ho
    obtain ⟨G, rfl, hG, hVo⟩ := hh.resolve_left (by omega)
    simp only [Value.slice.injEq, true_and] at hsl
    obtain ⟨rfl, rfl⟩ := hsl
    have hgo := hd.old
    have hGl := hVo.1
    go_upto_region 3 with fail
    refine regQ3 rfl rfl rfl hd.cur hd.c (by omega) (by omega) (hVo.keep hd.keep (by omega)) hp hn ?_
    intro b' w4 B y hf hc4 hk4 ho4 hB4 hP4
    (rw [layQ3 hf]; simp only [Rg.fl0, Rg.fl1, Rg.fl2, Nat.reduceAdd]; rw [ho4])
    clear ho4 hf
    generalize Rg.out (Rg.opsOf Tryz.f51 3) b' 0 = z0
    generalize Rg.out (Rg.opsOf Tryz.f51 3) b' 1 = z1
    generalize Rg.out (Rg.opsOf Tryz.f51 3) b' 2 = z2
    generalize Rg.out (Rg.opsOf Tryz.f51 3) b' 3 = z3
    generalize Rg.out (Rg.opsOf Tryz.f51 3) b' 4 = z4
    generalize Rg.out (Rg.opsOf Tryz.f51 3) b' 5 = z5
    generalize Rg.out (Rg.opsOf Tryz.f51 3) b' 6 = z6
    generalize Rg.out (Rg.opsOf Tryz.f51 3) b' 7 = z7
    generalize Rg.out (Rg.opsOf Tryz.f51 3) b' 8 = z8
    have l1 := hd.r.lt
    have l2 := hd.v.lt
    have l3 := hd.c.lt
    have hd4 := (hd.call hc4 hk4).row (B := B) #[.int .i64 y.id, .int .i64 y.p, .int .i64 y.d, .int .i64 y.n, .int .i64 y.f, .int .i64 y.e, .int .i64 y.c, .int .i64 y.s, .bool y.two] (by omega) (by omega) (by omega) (by omega)
    have hP5 : PB (w4.setRow B #[.int .i64 y.id, .int .i64 y.p, .int .i64 y.d, .int .i64 y.n, .int .i64 y.f, .int .i64 y.e, .int .i64 y.c, .int .i64 y.s, .bool y.two]) B #[.int .i64 y.id, .int .i64 y.p, .int .i64 y.d, .int .i64 y.n, .int .i64 y.f, .int .i64 y.e, .int .i64 y.c, .int .i64 y.s, .bool y.two] 38 := setRow_heap _ _ _ _ _ _ hP4
    generalize w4.setRow B #[.int .i64 y.id, .int .i64 y.p, .int .i64 y.d, .int .i64 y.n, .int .i64 y.f, .int .i64 y.e, .int .i64 y.c, .int .i64 y.s, .bool y.two] = w5 at *
    have hBV : ¬ B = V := by omega
    have hVB : ¬ V = B := by omega
    clear hc4 hk4 hP4 hd
    have g0 : w5.cell? ⟨B, 0, none⟩ = some (.int .i64 y.id) := hP5.cell 0
    have g1 : w5.cell? ⟨B, 1, none⟩ = some (.int .i64 y.p) := hP5.cell 1
    have g2 : w5.cell? ⟨B, 2, none⟩ = some (.int .i64 y.d) := hP5.cell 2
    have g3 : w5.cell? ⟨B, 3, none⟩ = some (.int .i64 y.n) := hP5.cell 3
    have g8 : w5.cell? ⟨B, 8, none⟩ = some (.bool y.two) := hP5.cell 8
    have v10 : w5.cell? ⟨V, 10, none⟩ = some (.int .i64 x.id) := hd4.v.cell 10
    have f10 := hd4.v.frozen 10
    have v11 : w5.cell? ⟨V, 11, none⟩ = some (.int .i64 x.p) := hd4.v.cell 11
    have f11 := hd4.v.frozen 11
    have v12 : w5.cell? ⟨V, 12, none⟩ = some (.int .i64 x.d) := hd4.v.cell 12
    have f12 := hd4.v.frozen 12
    have v13 : w5.cell? ⟨V, 13, none⟩ = some (.int .i64 x.n) := hd4.v.cell 13
    have f13 := hd4.v.frozen 13
    have v16 : w5.cell? ⟨V, 16, none⟩ = some (.int .i64 x.a) := hd4.v.cell 16
    have f16 := hd4.v.frozen 16
    have hd8 := (((hd4.put 10 (.int .i64 y.id) { x with id := y.id } rfl).put 11 (.int .i64 y.p) { x with id := y.id, p := y.p } rfl).put 12 (.int .i64 y.d) { x with id := y.id, p := y.p, d := y.d } rfl).put 13 (.int .i64 y.n) { x with id := y.id, p := y.p, d := y.d, n := y.n } rfl
    clear hd4 hP5
    go_frame
    cases ht2 : y.two with
    | false =>
     rw [ht2] at g8
     go_wp2_with fail
     go_meet
     case rel => exact ⟨_, hd8⟩
    | true =>
     rw [ht2] at g8
     go_wp2_with fail
     refine (qh g ao cap bs 3 _ hd8.cur (by omega)).mono ?_
     rintro e w6 ⟨z, rfl, hz0, hz1, hc6, hk6⟩
     have hd6 := hd8.call hc6 hk6
     have m0 : w6.cell? ⟨V, 16, none⟩ = some _ := hd6.v.cell 16
     have n0 := hd6.v.frozen 16
     go_wp2_with fail
     go_meet
     case rel => exact ⟨_, hd6.put 16 _ { x with id := y.id, p := y.p, d := y.d, n := y.n, a := 5 + z } rfl⟩
  case rest =>
   clear hd ht
   obtain ⟨x, hd⟩ := hcut
   go_upto_if 65 with (go_at_call 12; refine (zcf g ao cap bs 8 _ hd.cur (by omega)).mono ?_; rintro e w9 ⟨t9, rfl, hc9, hk9⟩)
   have hd9 := hd.call hc9 hk9
   clear hc9 hk9 hd
   go_cut [] (fun wx => ∃ x, DD w wx g R V C ao cap bs #[.slice a1 os.length c1, .slice ad m dcap] x)
   case first =>
    rcases t9 with _ | _
    ·go_wp2_with fail
     go_meet
     case rel => exact ⟨_, hd9⟩
    ·go_wp2_with fail
     refine (qh g ao cap bs 8 _ hd9.cur (by omega)).mono ?_
     rintro e w10 ⟨y, rfl, hy0, hy1, hc10, hk10⟩
     have hd := hd9.call hc10 hk10
     clear hc10 hk10 hd9
     rcases (show y = 0 ∨ y = 1 ∨ y = 2 ∨ y = 3 ∨ y = 4 ∨ y = 5 ∨ y = 6 ∨ y = 7 by omega) with rfl | rfl | rfl | rfl | rfl | rfl | rfl | rfl
     ·go_wp2_with fail
      refine (zcy g ao cap bs (-1) 6 _ hd.cur (by omega) (by omega) (by omega)).mono ?_
      rintro e w3 ⟨z, rfl, hz0, hz1, hc3, hk3⟩
      have hd3 := hd.call hc3 hk3
      have m0 : w3.cell? ⟨V, 0, none⟩ = some _ := hd3.v.cell 0
      have n0 := hd3.v.frozen 0
      go_wp2_with fail
      go_meet
      case rel => exact ⟨_, hd3.put 0 (.int .i64 z) { x with k := z } rfl⟩
     ·go_wp2_with fail
      refine (qh g ao cap bs 3 _ (hd.alloc _).cur (by omega)).mono ?_
      rintro e w3 ⟨y, rfl, hy0, hy1, hc3, hk3⟩
      obtain ⟨k, rfl⟩ := Int.eq_ofNat_of_zero_le hy0
      have hk8 : k < 3 := by omega
      have hd3 := (hd.alloc _).call hc3 hk3
      obtain ⟨z, hz⟩ := zbw [0, 100001, 6] w10 w3 g _ hk3 (by have := hd.keep.size; omega) k hk8
      have m0 : w3.cell? ⟨V, 10, none⟩ = some _ := hd3.v.cell 10
      have n0 := hd3.v.frozen 10
      go_wp2_with fail
      go_meet
      case rel => exact ⟨_, hd3.put 10 (.int .i64 z) { x with id := z } rfl⟩
     ·go_wp2_with fail
      refine (zcy g ao cap bs (-1) 3 _ hd.cur (by omega) (by omega) (by omega)).mono ?_
      rintro e w3 ⟨z, rfl, hz0, hz1, hc3, hk3⟩
      have hd3 := hd.call hc3 hk3
      have m0 : w3.cell? ⟨V, 11, none⟩ = some _ := hd3.v.cell 11
      have n0 := hd3.v.frozen 11
      go_wp2_with fail
      go_meet
      case rel => exact ⟨_, hd3.put 11 (.int .i64 z) { x with p := z } rfl⟩
     ·go_wp2_with fail
      refine (zcy g ao cap bs (0) 4 _ hd.cur (by omega) (by omega) (by omega)).mono ?_
      rintro e w3 ⟨z, rfl, hz0, hz1, hc3, hk3⟩
      have hd3 := hd.call hc3 hk3
      have m0 : w3.cell? ⟨V, 12, none⟩ = some _ := hd3.v.cell 12
      have n0 := hd3.v.frozen 12
      go_wp2_with fail
      go_meet
      case rel => exact ⟨_, hd3.put 12 (.int .i64 z) { x with d := z } rfl⟩
     ·go_wp2_with fail
      refine (qh g ao cap bs 4 _ (hd.alloc _).cur (by omega)).mono ?_
      rintro e w3 ⟨y, rfl, hy0, hy1, hc3, hk3⟩
      obtain ⟨k, rfl⟩ := Int.eq_ofNat_of_zero_le hy0
      have hk8 : k < 4 := by omega
      have hd3 := (hd.alloc _).call hc3 hk3
      obtain ⟨z, hz⟩ := zbw [0, 300, 100, 1000000001] w10 w3 g _ hk3 (by have := hd.keep.size; omega) k hk8
      have m0 : w3.cell? ⟨V, 13, none⟩ = some _ := hd3.v.cell 13
      have n0 := hd3.v.frozen 13
      go_wp2_with fail
      go_meet
      case rel => exact ⟨_, hd3.put 13 (.int .i64 z) { x with n := z } rfl⟩
     ·go_wp2_with fail
      refine (qh g ao cap bs 4 _ (hd.alloc _).cur (by omega)).mono ?_
      rintro e w3 ⟨y, rfl, hy0, hy1, hc3, hk3⟩
      obtain ⟨k, rfl⟩ := Int.eq_ofNat_of_zero_le hy0
      have hk8 : k < 4 := by omega
      have hd3 := (hd.alloc _).call hc3 hk3
      obtain ⟨z, hz⟩ := zbw [-1, 0, 10000000, 10000001] w10 w3 g _ hk3 (by have := hd.keep.size; omega) k hk8
      have m0 : w3.cell? ⟨V, 14, none⟩ = some _ := hd3.v.cell 14
      have n0 := hd3.v.frozen 14
      go_wp2_with fail
      go_meet
      case rel => exact ⟨_, hd3.put 14 (.int .i64 z) { x with m := z } rfl⟩
     ·go_wp2_with fail
      refine (qh g ao cap bs 3 _ (hd.alloc _).cur (by omega)).mono ?_
      rintro e w3 ⟨y, rfl, hy0, hy1, hc3, hk3⟩
      obtain ⟨k, rfl⟩ := Int.eq_ofNat_of_zero_le hy0
      have hk8 : k < 3 := by omega
      have hd3 := (hd.alloc _).call hc3 hk3
      obtain ⟨z, hz⟩ := zbw [-1, 1000, 5] w10 w3 g _ hk3 (by have := hd.keep.size; omega) k hk8
      have m0 : w3.cell? ⟨V, 15, none⟩ = some _ := hd3.v.cell 15
      have n0 := hd3.v.frozen 15
      go_wp2_with fail
      go_meet
      case rel => exact ⟨_, hd3.put 15 (.int .i64 z) { x with b := z } rfl⟩
     ·go_upto_region 27 with fail
      refine regQ27 rfl rfl rfl hd.cur hd.v (by have := hd.old; omega) ?_
      intro b' w3 z hf hc3 hk3
      (rw [layQ27 hf]; simp only [Rg.fl0, Rg.fl1, Rg.fl2, Nat.reduceAdd])
      clear hf
      generalize Rg.out (Rg.opsOf Tryz.f51 27) b' = yF
      have hd3 := (hd.call hc3 hk3).put 16 (.int .i64 z) { x with a := z } rfl
      generalize w3.setCell ⟨V, 16, none⟩ (.int .i64 z) = w4 at *
      go_frame
      go_wp2_with fail
      go_meet
      case rel => exact ⟨_, hd3⟩
   case rest =>
    obtain ⟨x, hd⟩ := hcut
    obtain ⟨hT1, hT2, hT3⟩ := hd.told
    go_wp2_with (first | (refine wpList_load_row rfl 40 (.tmp 7) rfl V rfl 40 (zat x) (0, 0) _ hd.v Tryz.underlying40 rfl (by kernel_rfl) ?_) | (refine wpList_store_rowTo rfl 40 (.tmp 6) (.tmp 125) rfl rfl R (zat x) rfl rfl 40 #[.int .i64 0, .int .i64 0, .int .i64 0, .int .i64 0, .int .i64 0, .int .i64 0, .int .i64 0, .int .i64 0, .int .i64 0, .bool false, .int .i64 0, .int .i64 0, .int .i64 0, .int .i64 0, .int .i64 0, .int .i64 0, .int .i64 0] hd.r (by kernel_rfl) rfl (by simp [zat, Value.oneCell']) ?_))
    exact bodyPost_ret (zim Tryz.results51 _ _ R 40 _ _ rfl hT1 Tryz.underlying40 rfl (by kernel_rfl)) rfl ⟨⟨x, rfl⟩, hT2, hT3⟩
end Go.Proofs.YtjlpfpigggdemaaGreatDoor
namespace Go.Proofs.YtjlpfpigggdemaaGreatDoor.Uo
open Va
set_option linter.all false
def dO (os : List Od) (ds : List Ds) (x : Dd) : List Od := if doC os ds x = 0 then ve os x else os
def dD (os : List Od) (ds : List Ds) (x : Dd) : List Ds := if doC os ds x = 0 then qo os ds x else ds
def AllO (os : List Od) : Prop := ∀ (i : Nat) (y : Od), os[i]? = some y -> odB y = true
theorem allo_iff {os : List Od} : AllO os ↔ ∀ y ∈ os, odB y = true := by
 constructor
 ·intro h y hy
  obtain ⟨i, hi, rfl⟩ := List.getElem_of_mem hy
  exact h i _ (List.getElem?_eq_getElem hi)
 ·intro h i y hy
  exact h y (List.mem_of_getElem? hy)
theorem zgp (l : List Od) (o : Od) : ∀ n, n <= l.length -> ∀ y ∈ yu l o n, y = o ∨ y ∈ l
 | 0, _, y, hy => by simp [yu] at hy
 | n + 1, hn, y, hy => by
  have ih := zgp l o n (by omega)
  have hg : l.getD n default ∈ l := by
   rw [List.getD_eq_getElem?_getD, List.getElem?_eq_getElem (show n < l.length by omega)]
   exact List.getElem_mem _
  unfold yu at hy
  rw [List.mem_append] at hy
  rcases hy with hy | hy
  ·split at hy
   ·rw [List.mem_append] at hy
    rcases hy with hy | hy
    ·exact ih y hy
    ·exact Or.inl (List.mem_singleton.1 hy)
   ·exact ih y hy
  ·rw [List.mem_singleton.1 hy]; exact Or.inr hg
theorem insO_mem {l : List Od} {o y : Od} (hy : y ∈ yl l o) : y = o ∨ y ∈ l := by
 unfold yl at hy
 split at hy
 ·exact zgp l o l.length (Nat.le_refl _) y hy
 ·rw [List.mem_append] at hy
  rcases hy with hy | hy
  ·exact zgp l o l.length (Nat.le_refl _) y hy
  ·exact Or.inl (List.mem_singleton.1 hy)
theorem zff {os : List Od} {ds : List Ds} {x : Dd} (h : doC os ds x = 0) : ddB x = true := by
 cases hb : ddB x with
 | true => rfl
 | false => unfold doC at h; rw [if_pos hb] at h; cases h
theorem zju {o : Od} {k : Int} (h : odB o = true) (hk : 1 <= k /\ k <= 4) : odB { o with s := k } = true := by
 unfold odB at *
 simp only [Bool.and_eq_true] at *
 exact ⟨h.1, h.2.1, h.2.2.1, h.2.2.2.1, h.2.2.2.2.1, h.2.2.2.2.2.1, h.2.2.2.2.2.2.1, zax.2 hk⟩
theorem dO_od {os : List Od} {ds : List Ds} {x : Dd} (h : AllO os) : AllO (dO os ds x) := by
 unfold dO
 split
 ·rename_i hc
  have hb := zff hc
  rw [allo_iff] at *
  intro y hy
  unfold ve at hy
  unfold ddB at hb
  split at hy
  ·rename_i hk
   rw [if_pos hk, Bool.and_eq_true] at hb
   rcases insO_mem hy with rfl | hy
   ·exact hb.1
   ·exact h y hy
  ·rename_i hk1
   split at hy
   ·exact h y hy
   ·rename_i hk5
    rw [if_neg hk1, if_neg hk5] at hb
    have hk : x.k = 2 ∨ x.k = 3 ∨ x.k = 4 := by
     by_cases q : x.k = 2 ∨ x.k = 3 ∨ x.k = 4
     ·exact q
     ·rw [if_neg q] at hb; cases hb
    rcases List.mem_or_eq_of_mem_set hy with hy | rfl
    ·exact h y hy
    ·refine zju ?_ (by omega)
     have ha : ¬ atO os x.id < 0 := fun q => by
      unfold doC at hc
      rw [if_neg (by rw [zff (os := os) (ds := ds) (x := x) (by unfold doC; exact hc)]; decide), if_neg hk1, if_pos q] at hc
      cases hc
     have := atO_bd os x.id
     have hl : (atO os x.id).toNat < os.length := by omega
     rw [List.getD_eq_getElem?_getD, List.getElem?_eq_getElem hl]
     exact h _ (List.getElem_mem _)
 ·exact h
theorem zf9 (os : List Od) (ds : List Ds) (x : Dd) : (dO os ds x).length <= os.length + 2 := by
 unfold dO
 split
 ·have := (zfz os x.o os.length).1
  unfold ve yl
  split
  ·split
   ·omega
   ·rw [List.length_append]; simp; omega
  ·split
   ·omega
   ·rw [List.length_set]; omega
 ·omega
theorem zgv (os : List Od) (ds : List Ds) (x : Dd) : (dD os ds x).length <= ds.length + 1 := by
 unfold dD
 split
 ·unfold qo
  split
  ·rw [List.length_append]; simp
  ·omega
 ·omega
end Go.Proofs.YtjlpfpigggdemaaGreatDoor.Uo
namespace Go.Proofs.YtjlpfpigggdemaaGreatDoor
open Go.RowKit Va Uo
set_option linter.all false
theorem zgo {w w' : World} {g base e s n : Nat} {v : Value} {xs : List Value} (h : w.ownsRow base e s v n xs) (hk : Keep g w w') (hg : g < base) : w'.ownsRow base e s v n xs := by
 obtain ⟨q, ⟨q1, q2⟩ | ⟨G, c, cur, rfl, hG, hh, r⟩⟩ := h
 ·exact ⟨q, Or.inl ⟨q1, q2⟩⟩
 ·exact ⟨q, Or.inr ⟨G, c, cur, rfl, hG, (hk.block G (Array.getElem?_eq_some_iff.1 hh).1 (by omega)).trans hh, r⟩⟩
theorem zco {w w' : World} {g base : Nat} {v1 v2 : Value} {B : List Od} {S : List Ds} (h : Cp.zo w base v1 v2 B S) (hk : Keep g w w') (hg : g < base) : Cp.zo w' base v1 v2 B S := ⟨zgo h.1 hk hg, zgo h.2 hk hg⟩
theorem zev {w : World} {base : Nat} {v1 v2 : Value} {B : List Od} {S : List Ds} (h : Cp.zo w base v1 v2 B S) : Cp.CRw w v1 v2 B S := ⟨(za1 rfl h.1).row, (za1 rfl h.2).row⟩
def zbv (n1 g : Nat) (C : Nat) (a1 a2 : Option Addr) (c1 c2 : Nat) (os : List Od) (ds : List Ds) (tm : Int) (i9 : Nat) (v : Value) (w : World) : Prop :=
 match i9 with
 | 0 => v = .agg #[.slice a1 os.length c1, .slice a2 ds.length c2]
 | 1 => v = .pointer (some ⟨g, 0, none⟩)
 | 2 => v = .agg #[.slice a1 os.length c1, .slice a2 ds.length c2]
 | 3 => v = .int .i64 tm
 | 4 => ∃ x : Dd, v = .agg (zat x)
 | 5 => ∃ (x : Dd) (v1 v2 : Value), v = .tuple #[.agg #[v1, v2], .int .i64 (doC os ds x)] /\ Cp.zo w n1 v1 v2 (Uo.dO os ds x) (Uo.dD os ds x)
 | 6 => ∃ (x : Dd) (v1 v2 : Value), v = .tuple #[.agg #[v1, v2], .int .i64 (doC os ds x)] /\ Cp.zo w n1 v1 v2 (Uo.dO os ds x) (Uo.dD os ds x)
 | 7 => ∃ (x : Dd) (v1 v2 : Value), v = .agg #[v1, v2] /\ Cp.zo w n1 v1 v2 (Uo.dO os ds x) (Uo.dD os ds x)
 | 8 => ∃ z : Int, v = .int .i64 z
 | 9 => True
 | _ => True
theorem keepQ16 {n1 g : Nat} {C : Nat} {a1 a2 : Option Addr} {c1 c2 : Nat} {os : List Od} {ds : List Ds} {tm : Int} {w w' : World} (hg : g < n1) (hk : Keep g w w') (k9 : Nat) (v : Value) (h : zbv n1 g C a1 a2 c1 c2 os ds tm k9 v w) : zbv n1 g C a1 a2 c1 c2 os ds tm k9 v w' := by
 unfold zbv at *
 split at h <;> first
  | exact h
  | (obtain ⟨x, v1, v2, h1, h2⟩ := h; exact ⟨x, v1, v2, h1, zco h2 hk hg⟩)
theorem zci : (Rg.opsOf Tryz.f29 16).size = 10 := by kernel_rfl
def IQ16 (w1 : World) (g : Nat) (ao : Option Addr) (cap : Nat) (bs : List Int) (C : Nat) (a1 a2 : Option Addr) (c1 c2 : Nat) (os : List Od) (ds : List Ds) (tm : Int) (l : Array Bool) (w' : World) : Prop :=
 (l.getD 9 false = false -> Cur w' g ao cap bs /\ Keep g w1 w') /\ (l.getD 9 false = true -> ∃ (wx : World) (x : Dd) (d1 d2 : Option Addr) (e1 e2 : Nat), Cur wx g ao cap bs /\ Keep g w1 wx /\ Cp.zo wx w1.heap.size (.slice d1 (Uo.dO os ds x).length e1) (.slice d2 (Uo.dD os ds x).length e2) (Uo.dO os ds x) (Uo.dD os ds x) /\ PB wx C #[.slice a1 os.length c1, .slice a2 ds.length c2] 27 /\ w' = (wx.setCell ⟨C, 0, none⟩ (.slice d1 (Uo.dO os ds x).length e1)).setCell ⟨C, 1, none⟩ (.slice d2 (Uo.dD os ds x).length e2))
theorem zdg {w1 : World} {g : Nat} {ao : Option Addr} {cap : Nat} {bs : List Int} {C : Nat} {a1 a2 : Option Addr} {c1 c2 : Nat} {os : List Od} {ds : List Ds} {tm : Int} {l : Array Bool} {w : World} {i : Nat} (hi : i ≠ 9) (h : IQ16 w1 g ao cap bs C a1 a2 c1 c2 os ds tm l w) : IQ16 w1 g ao cap bs C a1 a2 c1 c2 os ds tm (l.setIfInBounds i true) w := by
 unfold IQ16
 rw [Rg.jk hi]
 exact h
theorem zh8 {w1 : World} {g : Nat} {ao : Option Addr} {cap : Nat} {bs : List Int} {C : Nat} {a1 a2 : Option Addr} {c1 c2 : Nat} {os : List Od} {ds : List Ds} {tm : Int} {l : Array Bool} {w w' : World} {i : Nat} (hi : i ≠ 9) (h9 : l.getD 9 false = false) (h : IQ16 w1 g ao cap bs C a1 a2 c1 c2 os ds tm l w) (hc : Cur w' g ao cap bs) (hk : Keep g w w') : IQ16 w1 g ao cap bs C a1 a2 c1 c2 os ds tm (l.setIfInBounds i true) w' := by
 unfold IQ16
 rw [Rg.jk hi, h9]
 exact ⟨fun _ => ⟨hc, (h.1 h9).2.trans hk⟩, fun q => by cases q⟩
theorem setQ16 {n1 g : Nat} {C : Nat} {a1 a2 : Option Addr} {c1 c2 : Nat} {os : List Od} {ds : List Ds} {tm : Int} {w : World} {vs : Array Value} (hp : PB w C vs 27) (j : Nat) (u : Value) (k9 : Nat) (v : Value) (h : zbv n1 g C a1 a2 c1 c2 os ds tm k9 v w) : zbv n1 g C a1 a2 c1 c2 os ds tm k9 v (w.setCell ⟨C, j, none⟩ u) := by
 unfold zbv at *
 split at h <;> first
  | exact h
  | (obtain ⟨x, v1, v2, h1, h2⟩ := h; exact ⟨x, v1, v2, h1, zaf h2 hp (by decide) (by decide) j u⟩)
set_option maxRecDepth 20000 in
set_option maxHeartbeats 16000000 in
theorem regQ16 {Q : Exit -> Act -> World -> Prop} {a : Act} {w1 : World} {g base : Nat} {ao : Option Addr} {cap : Nat} {bs : List Int} {C : Nat} {a1 a2 : Option Addr} {c1 c2 : Nat} {os : List Od} {ds : List Ds} {tm : Int} (ha : a.tmps.size = 63)
  (k4 : a.tmps[4]? = some (.pointer (some ⟨C, 0, none⟩))) (k0 : a.tmps[0]? = some (.pointer (some ⟨g, 0, none⟩))) (k9 : a.tmps[9]? = some (.int .i64 tm)) (hc : Cur w1 g ao cap bs) (hC : PB w1 C #[.slice a1 os.length c1, .slice a2 ds.length c2] 27) (hCg : C ≠ g) (hN : Cp.zo w1 base (.slice a1 os.length c1) (.slice a2 ds.length c2) os ds) (hgb : g < base) (ho : AllO os) (hn : os.length <= 100) (hm : ds.length <= 500)
  (hend : ∀ b' wx (x : Dd) (d1 d2 : Option Addr) (e1 e2 : Nat), Rg.Fr (Rg.opsOf Tryz.f29 16) a b' -> Cur wx g ao cap bs -> Keep g w1 wx -> Cp.zo wx w1.heap.size (.slice d1 (Uo.dO os ds x).length e1) (.slice d2 (Uo.dD os ds x).length e2) (Uo.dO os ds x) (Uo.dD os ds x) -> PB wx C #[.slice a1 os.length c1, .slice a2 ds.length c2] 27 -> Q .normal b' ((wx.setCell ⟨C, 0, none⟩ (.slice d1 (Uo.dO os ds x).length e1)).setCell ⟨C, 1, none⟩ (.slice d2 (Uo.dD os ds x).length e2))) :
  (Code.region 16 (Rg.opsOf Tryz.f29 16) true).wp Tryz.prog Q a w1 := by
 have hg1 : g < w1.heap.size := hc.1
 refine Rg.zeu (by kernel_rfl) (IQ16 w1 g ao cap bs C a1 a2 c1 c2 os ds tm) (zbv w1.heap.size g C a1 a2 c1 c2 os ds tm) (by rw [ha, zci]; kernel_rfl) ⟨fun _ => ⟨hc.drewN 1, (Keep.refl g w1).drewN 1⟩, fun h => (by rw [Rg.zaz] at h; cases h)⟩ ?_ ?_
 case refine_2 =>
  intro l b' w' hf hall hI hA
  rw [zci] at hall
  obtain ⟨wx, x, d1, d2, e1, e2, i1, i2, i3, i4, rfl⟩ := hI.2 (hall 9 (by omega))
  exact hend b' wx x d1 d2 e1 e2 hf i1 i2 i3 i4
 case refine_1 =>
  clear hend
  have HS : ∀ {w w' : World}, Keep g w w' -> ∀ k9 y9, zbv w1.heap.size g C a1 a2 c1 c2 os ds tm k9 y9 w -> zbv w1.heap.size g C a1 a2 c1 c2 os ds tm k9 y9 w' := fun hb k9 y9 h => keepQ16 hg1 hb k9 y9 h
  intro i' hi'
  rw [zci] at hi'
  rcases (show i' = 0 ∨ i' = 1 ∨ i' = 2 ∨ i' = 3 ∨ i' = 4 ∨ i' = 5 ∨ i' = 6 ∨ i' = 7 ∨ i' = 8 ∨ i' = 9 by omega) with rfl | rfl | rfl | rfl | rfl | rfl | rfl | rfl | rfl | rfl
  ·intro ll bb w' hs hlf hN9 hf hIl hA
   clear hi'
   have h9 := hN9 9 (by kernel_rfl)
   have hI := hIl.1 h9
   have q4 := hf.kept (s := 4) (by rw [zci]; kernel_rfl) k4
   obtain ⟨e0, e1⟩ := (hC.keep hI.2 hCg).two
   exact Rg.zf (o := ⟨some 53, Op.load 27 (Operand.tmp 4), _, _, _, _⟩) (x := .agg #[.slice a1 os.length c1, .slice a2 ds.length c2]) rfl rfl (by clear hA HS hC hN ho hN9 hIl; simp only [execOp]; go_simp) ⟨_, rfl, (fun h => by cases h), rfl, zdg (by decide) hIl, fun _ _ _ h => h⟩
  ·intro ll bb w' hs hlf hN9 hf hIl hA
   clear hi'
   have h9 := hN9 9 (by kernel_rfl)
   have hI := hIl.1 h9
   have q0 := hf.kept (s := 0) (by rw [zci]; kernel_rfl) k0
   exact Rg.zf (o := ⟨some 54, Op.move (Operand.tmp 0), _, _, _, _⟩) (x := .pointer (some ⟨g, 0, none⟩)) rfl rfl (by clear hA HS hC hN ho hN9 hIl; simp only [execOp]; go_simp) ⟨_, rfl, (fun h => by cases h), rfl, zdg (by decide) hIl, fun _ _ _ h => h⟩
  ·intro ll bb w' hs hlf hN9 hf hIl hA
   clear hi'
   have h9 := hN9 9 (by kernel_rfl)
   have hI := hIl.1 h9
   have q4 := hf.kept (s := 4) (by rw [zci]; kernel_rfl) k4
   obtain ⟨e0, e1⟩ := (hC.keep hI.2 hCg).two
   exact Rg.zf (o := ⟨some 55, Op.load 27 (Operand.tmp 4), _, _, _, _⟩) (x := .agg #[.slice a1 os.length c1, .slice a2 ds.length c2]) rfl rfl (by clear hA HS hC hN ho hN9 hIl; simp only [execOp]; go_simp) ⟨_, rfl, (fun h => by cases h), rfl, zdg (by decide) hIl, fun _ _ _ h => h⟩
  ·intro ll bb w' hs hlf hN9 hf hIl hA
   clear hi'
   have h9 := hN9 9 (by kernel_rfl)
   have hI := hIl.1 h9
   have q9 := hf.kept (s := 9) (by rw [zci]; kernel_rfl) k9
   exact Rg.zf (o := ⟨some 56, Op.move (Operand.tmp 9), _, _, _, _⟩) (x := .int .i64 tm) rfl rfl (by clear hA HS hC hN ho hN9 hIl; simp only [execOp]; go_simp) ⟨_, rfl, (fun h => by cases h), rfl, zdg (by decide) hIl, fun _ _ _ h => h⟩
  ·intro ll bb w' hs hlf hN9 hf hIl hA
   clear hi'
   have h9 := hN9 9 (by kernel_rfl)
   have hI := hIl.1 h9
   have q54 : bb.tmps[54]? = some _ := hf.tmp (k := 1) rfl (by rw [ha]; decide) (hA 1 (by kernel_rfl))
   have q55 : bb.tmps[55]? = some _ := hf.tmp (k := 2) rfl (by rw [ha]; decide) (hA 2 (by kernel_rfl))
   have q56 : bb.tmps[56]? = some _ := hf.tmp (k := 3) rfl (by rw [ha]; decide) (hA 3 (by kernel_rfl))
   refine Rg.jr (o := ⟨some 57, Op.call { callee := Callee.value (Operand.func 51), args := #[Operand.tmp 54, Operand.tmp 55, Operand.tmp 56], argTypes := _ }, _, _, _, _⟩) rfl rfl (by clear hA HS hC hN ho hN9 hIl; simp only [execOp, resolve]; go_simp) (zjq g ao cap bs a1 c1 a2 ds.length c2 os base tm w' hI.1 (za1 rfl (zgo hN.1 hI.2 hgb)) hgb (by omega)) ?_
   rintro e w2 ⟨⟨x, rfl⟩, hc2, hk2⟩
   exact ⟨_, rfl, _, rfl, (fun h => by cases h), ⟨x, rfl⟩, zh8 (by decide) h9 hIl hc2 hk2, fun k9 y9 _ h => HS hk2 k9 y9 h⟩
  ·intro ll bb w' hs hlf hN9 hf hIl hA
   clear hi'
   have h9 := hN9 9 (by kernel_rfl)
   have hI := hIl.1 h9
   have q53 : bb.tmps[53]? = some _ := hf.tmp (k := 0) rfl (by rw [ha]; decide) (hA 0 (by kernel_rfl))
   obtain ⟨x, hv⟩ := hA 4 (by kernel_rfl)
   have q57 : bb.tmps[57]? = some _ := hf.tmp (k := 4) rfl (by rw [ha]; decide) hv
   refine Rg.jr (o := ⟨some 58, Op.call { callee := Callee.value (Operand.func 50), args := #[Operand.tmp 53, Operand.tmp 57], argTypes := _ }, _, _, _, _⟩) rfl rfl (by clear hA HS hC hN ho hN9 hIl hv; simp only [execOp, resolve]; go_simp; rfl) (zge a1 c1 a2 c2 os ds x w' (zev (zco hN hI.2 hgb)) hn hm ho) ?_
   rintro e w2 ⟨v1, v2, rfl, hN2, hb2⟩
   have hk2 : Keep g w' w2 := Keep.of_below hb2
   exact ⟨_, rfl, _, rfl, (fun h => by cases h), ⟨x, v1, v2, rfl, zav hN2 hI.2.size⟩, zh8 (by decide) h9 hIl (hI.1.below (hb2.mono hI.1.1)) hk2, fun k9 y9 _ h => HS hk2 k9 y9 h⟩
  ·intro ll bb w' hs hlf hN9 hf hIl hA
   clear hi'
   have h9 := hN9 9 (by kernel_rfl)
   have hI := hIl.1 h9
   obtain ⟨x, v1, v2, hv, hn2⟩ := hA 5 (by kernel_rfl)
   have q58 : bb.tmps[58]? = some _ := hf.tmp (k := 5) rfl (by rw [ha]; decide) hv
   exact Rg.zf (o := ⟨some 52, Op.move (Operand.tmp 58), _, _, _, _⟩) (x := .tuple #[.agg #[v1, v2], .int .i64 (doC os ds x)]) rfl rfl (by clear hA HS hC hN ho hN9 hIl hv hn2; simp only [execOp]; go_simp) ⟨_, rfl, (fun h => by cases h), ⟨x, v1, v2, rfl, hn2⟩, zdg (by decide) hIl, fun _ _ _ h => h⟩
  ·intro ll bb w' hs hlf hN9 hf hIl hA
   clear hi'
   have h9 := hN9 9 (by kernel_rfl)
   have hI := hIl.1 h9
   obtain ⟨x, v1, v2, hv, hn2⟩ := hA 6 (by kernel_rfl)
   have q52 : bb.tmps[52]? = some _ := hf.tmp (k := 6) rfl (by rw [ha]; decide) hv
   exact Rg.zf (o := ⟨some 59, Op.extract (Operand.tmp 52) 0, _, _, _, _⟩) (x := .agg #[v1, v2]) rfl rfl (by clear hA HS hC hN ho hN9 hIl hv hn2; simp only [execOp]; go_simp) ⟨_, rfl, (fun h => by cases h), ⟨x, v1, v2, rfl, hn2⟩, zdg (by decide) hIl, fun _ _ _ h => h⟩
  ·intro ll bb w' hs hlf hN9 hf hIl hA
   clear hi'
   obtain ⟨x, v1, v2, hv, hn2⟩ := hA 6 (by kernel_rfl)
   have q52 : bb.tmps[52]? = some _ := hf.tmp (k := 6) rfl (by rw [ha]; decide) hv
   exact Rg.zf (o := ⟨some 60, Op.extract (Operand.tmp 52) 1, _, _, _, _⟩) (x := .int .i64 (doC os ds x)) rfl rfl (by clear hA HS hC hN ho hN9 hIl hv hn2; simp only [execOp]; go_simp) ⟨_, rfl, (fun h => by cases h), ⟨_, rfl⟩, zdg (by decide) hIl, fun _ _ _ h => h⟩
  ·intro ll bb w' hs hlf hN9 hf hIl hA
   clear hi'
   have hI := hIl.1 hlf
   obtain ⟨x, v1, v2, hv, hn2⟩ := hA 7 (by kernel_rfl)
   obtain ⟨d1, e1, d2, e2, rfl, rfl⟩ := hn2.form
   have q59 : bb.tmps[59]? = some _ := hf.tmp (k := 7) rfl (by rw [ha]; decide) hv
   have q4 := hf.kept (s := 4) (by rw [zci]; kernel_rfl) k4
   have hP := hC.keep hI.2 hCg
   have hP1 : PB (w'.setCell ⟨C, 0, none⟩ (.slice d1 (Uo.dO os ds x).length e1)) C #[.slice d1 (Uo.dO os ds x).length e1, .slice a2 ds.length c2] 27 := hP.put 0 _ (by simp)
   have hE : IQ16 w1 g ao cap bs C a1 a2 c1 c2 os ds tm (ll.setIfInBounds 9 true) ((w'.setCell ⟨C, 0, none⟩ (.slice d1 (Uo.dO os ds x).length e1)).setCell ⟨C, 1, none⟩ (.slice d2 (Uo.dD os ds x).length e2)) := ⟨fun h => (by rw [Rg.set_self hs (by rw [zci]; decide)] at h; cases h), fun _ => ⟨w', x, d1, d2, e1, e2, hI.1, hI.2, hn2, hP, rfl⟩⟩
   have hS : ∀ k9 y9, zbv w1.heap.size g C a1 a2 c1 c2 os ds tm k9 y9 w' -> zbv w1.heap.size g C a1 a2 c1 c2 os ds tm k9 y9 ((w'.setCell ⟨C, 0, none⟩ (.slice d1 (Uo.dO os ds x).length e1)).setCell ⟨C, 1, none⟩ (.slice d2 (Uo.dD os ds x).length e2)) := fun k9 y9 h => setQ16 hP1 1 _ k9 y9 (setQ16 hP 0 _ k9 y9 h)
   obtain ⟨z0, z1⟩ := hP.two
   have f0 := hP.frozen 0
   have f1 := hP.frozen 1
   clear hA HS hC hN ho hN9 hIl hf hI hv hP hP1 hn2
   refine Rg.zaq (o := ⟨none, Op.store 27 (Operand.tmp 4) (Operand.tmp 59), _, _, _, _⟩) (w' := (w'.setCell ⟨C, 0, none⟩ (.slice d1 (Uo.dO os ds x).length e1)).setCell ⟨C, 1, none⟩ (.slice d2 (Uo.dD os ds x).length e2)) rfl rfl ?_ ⟨undef, (by rw [show Rg.ja (Rg.opsOf Tryz.f29 16) 9 = none by kernel_rfl]), (fun _ => trivial), trivial, hE, fun k y _ h => hS k y h⟩
   clear hE hS
   simp only [execOp]
   go_simp
theorem layQ16 {a b : Act} (hf : Rg.Fr (Rg.opsOf Tryz.f29 16) a b) : b = Rg.fl (Rg.opsOf Tryz.f29 16) b 0 [some 53, some 54, some 55, some 56, some 57, some 58, some 52, some 59, some 60, none] a := Rg.ql _ (by kernel_rfl) hf
end Go.Proofs.YtjlpfpigggdemaaGreatDoor
