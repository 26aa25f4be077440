/-
 Merged: U60 U61.
-/
import Derived.Test.YtjlpfpigggdemaaDoorMh1
import Derived.Test.YtjlpfpigggdemaaDoorMh34
import Derived.Test.YtjlpfpigggdemaaDoorMh14
import Derived.Test.YtjlpfpigggdemaaDoorMh5
namespace Go.Proofs.YtjlpfpigggdemaaDoor
set_option maxRecDepth 8000
set_option maxHeartbeats 4000000
open Go.RowKit Va Uo
set_option linter.all false
structure DO (w0 W : World) (g R V : Nat) (ao : Option Addr) (cap : Nat) (bs : List Int) (x : Od) : Prop where
 cur : Cur W g ao cap bs
 keep : Keep g w0 W
 r : PB W R #[.int .i64 0, .int .i64 0, .int .i64 0, .int .i64 0, .int .i64 0, .int .i64 0, .int .i64 0, .int .i64 0, .bool false] 29
 v : PB W V #[.int .i64 x.id, .int .i64 x.p, .int .i64 x.d, .int .i64 x.n, .int .i64 x.f, .int .i64 x.e, .int .i64 x.c, .int .i64 x.s, .bool x.two] 29
 ne : V ≠ R
 old : w0.heap.size <= R /\ w0.heap.size <= V
 gg : g < R /\ g < V
theorem DO.lt {w0 W : World} {g R V : Nat} {ao : Option Addr} {cap : Nat} {bs : List Int} {x : Od} (h : DO w0 W g R V ao cap bs x) : V < W.heap.size /\ R < W.heap.size := ⟨(Array.getElem?_eq_some_iff.1 h.v).1, (Array.getElem?_eq_some_iff.1 h.r).1⟩
theorem DO.call {w0 W : World} {g R V : Nat} {ao : Option Addr} {cap : Nat} {bs : List Int} {x : Od} {W' : World} (h : DO w0 W g R V ao cap bs x) (hc : Cur W' g ao cap bs) (hk : Keep g W W') : DO w0 W' g R V ao cap bs x :=
 ⟨hc, h.keep.trans hk, (hk.block R h.lt.2 (by have := h.gg; omega)).trans h.r, (hk.block V h.lt.1 (by have := h.gg; omega)).trans h.v, h.ne, h.old, h.gg⟩
theorem DO.alloc {w0 W : World} {g R V : Nat} {ao : Option Addr} {cap : Nat} {bs : List Int} {x : Od} (h : DO w0 W g R V ao cap bs x) (o : Obj) : DO w0 (W.alloc o) g R V ao cap bs x :=
 h.call (h.cur.below ((Below.refl _ _).alloc (by have := h.lt; have := h.gg; omega) _)) ((Keep.refl g W).alloc o)
def setO (x : Od) (j : Nat) (y : Int) : Od := match j with
 | 0 => { x with id := y }
 | 1 => { x with p := y }
 | 2 => { x with d := y }
 | 3 => { x with n := y }
 | 4 => { x with f := y }
 | 5 => { x with e := y }
 | 6 => { x with c := y }
 | _ => { x with s := y }
theorem DO.set {w0 W : World} {g R V : Nat} {ao : Option Addr} {cap : Nat} {bs : List Int} {x : Od} (h : DO w0 W g R V ao cap bs x) (j : Nat) (hj : j < 8) (y : Int) : DO w0 (W.setCell ⟨V, j, none⟩ (.int .i64 y)) g R V ao cap bs (setO x j y) := by
 have e := setCell_eq_setRow W V j _ _ _ (.int .i64 y) h.v
 have hb : Below (g + 1) W (W.setCell ⟨V, j, none⟩ (.int .i64 y)) := (Below.refl _ W).setCell (p := ⟨V, j, none⟩) (show g + 1 <= V by have := h.gg; omega) _
 refine ⟨h.cur.below hb, ⟨h.keep.os, h.keep.tape, h.keep.output, ?_, ?_⟩, ?_, ?_, h.ne, h.old, h.gg⟩
 ·have := h.keep.size; simpa [World.setCell] using this
 ·intro b hb' hbg
  rw [e, setRow_other _ _ _ _ (by have := h.old; omega)]
  exact h.keep.block b hb' hbg
 ·unfold PB
  rw [e, setRow_other _ _ _ _ (fun q => h.ne q.symm)]
  exact h.r
 ·unfold PB
  rw [e, setRow_heap _ _ _ _ _ _ h.v]
  rcases (show j = 0 ∨ j = 1 ∨ j = 2 ∨ j = 3 ∨ j = 4 ∨ j = 5 ∨ j = 6 ∨ j = 7 by omega) with rfl | rfl | rfl | rfl | rfl | rfl | rfl | rfl <;> rfl
theorem DO.told {w0 W : World} {g R V : Nat} {ao : Option Addr} {cap : Nat} {bs : List Int} {x : Od} (h : DO w0 W g R V ao cap bs x) : PB (W.setRow R #[.int .i64 x.id, .int .i64 x.p, .int .i64 x.d, .int .i64 x.n, .int .i64 x.f, .int .i64 x.e, .int .i64 x.c, .int .i64 x.s, .bool x.two]) R #[.int .i64 x.id, .int .i64 x.p, .int .i64 x.d, .int .i64 x.n, .int .i64 x.f, .int .i64 x.e, .int .i64 x.c, .int .i64 x.s, .bool x.two] 29 /\ Cur (W.setRow R #[.int .i64 x.id, .int .i64 x.p, .int .i64 x.d, .int .i64 x.n, .int .i64 x.f, .int .i64 x.e, .int .i64 x.c, .int .i64 x.s, .bool x.two]) g ao cap bs /\ Keep g w0 (W.setRow R #[.int .i64 x.id, .int .i64 x.p, .int .i64 x.d, .int .i64 x.n, .int .i64 x.f, .int .i64 x.e, .int .i64 x.c, .int .i64 x.s, .bool x.two]) := by
 refine ⟨setRow_heap _ _ _ _ _ _ h.r, h.cur.below ⟨rfl, rfl, rfl, by simp, fun k hk => setRow_other _ _ _ _ (by have := h.gg; omega)⟩, ?_⟩
 exact ⟨h.keep.os, h.keep.tape, h.keep.output, by have := h.keep.size; simpa using this, fun b hb hbg => (setRow_other _ _ _ _ (by have := h.old; omega)).trans (h.keep.block b hb hbg)⟩
set_option maxRecDepth 20000 in
set_option maxHeartbeats 16000000 in
theorem zib (g : Nat) (ao : Option Addr) (cap : Nat) (bs : List Int) (w : World) (hc : Cur w g ao cap bs) :
  Calls Tryd.prog 32 #[.pointer (some ⟨g, 0, none⟩)] w fun e w' => (∃ x : Od, e = .returned (aOd x)) /\ Cur w' g ao cap bs /\ Keep g w w' := by
 have hcA : Cur (w.alloc (.cells #[.int .i64 0, .int .i64 0, .int .i64 0, .int .i64 0, .int .i64 0, .int .i64 0, .int .i64 0, .int .i64 0, .bool false] 29)) g ao cap bs := hc.below ((Below.refl _ _).alloc hc.1 _)
 have hkA : Keep g w (w.alloc (.cells #[.int .i64 0, .int .i64 0, .int .i64 0, .int .i64 0, .int .i64 0, .int .i64 0, .int .i64 0, .int .i64 0, .bool false] 29)) := (Keep.refl g w).alloc _
 have hrA : PB (w.alloc (.cells #[.int .i64 0, .int .i64 0, .int .i64 0, .int .i64 0, .int .i64 0, .int .i64 0, .int .i64 0, .int .i64 0, .bool false] 29)) w.heap.size #[.int .i64 0, .int .i64 0, .int .i64 0, .int .i64 0, .int .i64 0, .int .i64 0, .int .i64 0, .int .i64 0, .bool false] 29 := heap_alloc_new _ _
 have hgl := hc.1
 have hzA : w.heap.size < (w.alloc (.cells #[.int .i64 0, .int .i64 0, .int .i64 0, .int .i64 0, .int .i64 0, .int .i64 0, .int .i64 0, .int .i64 0, .bool false] 29)).heap.size := by simp
 go_enter Tryd.func32, Tryd.ntmps32
 generalize hwA : w.alloc (.cells #[.int .i64 0, .int .i64 0, .int .i64 0, .int .i64 0, .int .i64 0, .int .i64 0, .int .i64 0, .int .i64 0, .bool false] 29) = wA at *
 go_wp2_with fail
 refine (kz g ao cap bs 6 _ hcA (by omega)).mono ?_
 rintro e w1 ⟨y1, rfl, p1, q1, hc1, hk1⟩
 go_wp2_with fail
 refine (kz g ao cap bs 3 _ hc1 (by omega)).mono ?_
 rintro e w2 ⟨y2, rfl, p2, q2, hc2, hk2⟩
 go_wp2_with fail
 refine (kz g ao cap bs 3 _ hc2 (by omega)).mono ?_
 rintro e w3 ⟨y3, rfl, p3, q3, hc3, hk3⟩
 go_wp2_with fail
 refine (kz g ao cap bs 3 _ hc3 (by omega)).mono ?_
 rintro e w4 ⟨y4, rfl, p4, q4, hc4, hk4⟩
 go_wp2_with fail
 refine (kz g ao cap bs 8 _ hc4 (by omega)).mono ?_
 rintro e w5 ⟨y5, rfl, p5, q5, hc5, hk5⟩
 go_wp2_with fail
 refine (kz g ao cap bs 5 _ hc5 (by omega)).mono ?_
 rintro e w6 ⟨y6, rfl, p6, q6, hc6, hk6⟩
 go_wp2_with fail
 refine (kz g ao cap bs 5 _ hc6 (by omega)).mono ?_
 rintro e w7 ⟨y7, rfl, p7, q7, hc7, hk7⟩
 go_wp2_with fail
 refine (zcb g ao cap bs 3 _ hc7 (by omega)).mono ?_
 rintro e w8 ⟨t8, rfl, hc8, hk8⟩
 have hkR := ((((((hk1.trans hk2).trans hk3).trans hk4).trans hk5).trans hk6).trans hk7).trans hk8
 have hkB := hkA.trans hkR
 have hrB : PB w8 w.heap.size #[.int .i64 0, .int .i64 0, .int .i64 0, .int .i64 0, .int .i64 0, .int .i64 0, .int .i64 0, .int .i64 0, .bool false] 29 := (hkR.block w.heap.size hzA (by omega)).trans hrA
 have hzB : w.heap.size < w8.heap.size := (Array.getElem?_eq_some_iff.1 hrB).1
 have hd : DO w (w8.alloc (.cells #[.int .i64 (1 + y1), .int .i64 y2, .int .i64 (1 + y3), .int .i64 (100 * (1 + y4)), .int .i64 (30 * y5), .int .i64 (10 + 20 * y6), .int .i64 (1 + y7), .int .i64 1, .bool t8] 29)) g w.heap.size w8.heap.size ao cap bs ⟨1 + y1, y2, 1 + y3, 100 * (1 + y4), 30 * y5, 10 + 20 * y6, 1 + y7, 1, t8⟩ :=
  ⟨hc8.below ((Below.refl _ _).alloc hc8.1 _), hkB.alloc _, (((Below.refl w8.heap.size w8).alloc (Nat.le_refl _) _).block _ hzB).trans hrB, heap_alloc_new _ _, by omega, ⟨Nat.le_refl _, by omega⟩, ⟨hgl, hc8.1⟩⟩
 clear hkB hkR hrB hk1 hk2 hk3 hk4 hk5 hk6 hk7 hk8 hc1 hc2 hc3 hc4 hc5 hc6 hc7 hcA hkA hrA hzA hwA
 go_upto_region 2 with fail
 generalize w8.heap.size = V at *
 generalize w8.alloc (.cells #[.int .i64 (1 + y1), .int .i64 y2, .int .i64 (1 + y3), .int .i64 (100 * (1 + y4)), .int .i64 (30 * y5), .int .i64 (10 + 20 * y6), .int .i64 (1 + y7), .int .i64 1, .bool t8] 29) = wV at *
 generalize (⟨1 + y1, y2, 1 + y3, 100 * (1 + y4), 30 * y5, 10 + 20 * y6, 1 + y7, 1, t8⟩ : Od) = x0 at hd
 go_upto_if 30 with (go_at_call 30; refine (zcb g ao cap bs 40 _ hd.cur (by omega)).mono ?_; rintro e w9 ⟨t9, rfl, hc9, hk9⟩)
 have hd9 := hd.call hc9 hk9
 clear hc9 hk9 hd
 go_cut [] (fun wx => ∃ x, DO w wx g w.heap.size V ao cap bs x)
 case first =>
  rcases t9 with _ | _
  ·go_wp2_with fail
   go_meet
   case rel => exact ⟨_, hd9⟩
  ·go_wp2_with fail
   refine (kz g ao cap bs 8 _ hd9.cur (by omega)).mono ?_
   rintro e w10 ⟨y, rfl, hy0, hy1, hc10, hk10⟩
   have hd := hd9.call hc10 hk10
   clear hc10 hk10 hd9
   rcases (show y = 0 ∨ y = 1 ∨ y = 2 ∨ y = 3 ∨ y = 4 ∨ y = 5 ∨ y = 6 ∨ y = 7 by omega) with rfl | rfl | rfl | rfl | rfl | rfl | rfl | rfl
   ·go_wp2_with fail
    refine (kz g ao cap bs 3 _ (hd.alloc _).cur (by omega)).mono ?_
    rintro e w3 ⟨y, rfl, hy0, hy1, hc3, hk3⟩
    obtain ⟨k, rfl⟩ := Int.eq_ofNat_of_zero_le hy0
    have hk8 : k < 3 := by omega
    have hd3 := (hd.alloc _).call hc3 hk3
    obtain ⟨z, hz⟩ := zbq [0, 100000, 100001] w10 w3 g _ hk3 (Nat.lt_trans hd.gg.2 hd.lt.1) k hk8
    have m0 : w3.cell? ⟨V, 0, none⟩ = some _ := hd3.v.cell 0
    have n0 : w3.frozen? ⟨V, 0, none⟩ = false := hd3.v.frozen 0
    go_wp2_with fail
    go_meet
    case rel => exact ⟨_, hd3.set 0 (by omega) z⟩
   ·go_wp2_with fail
    refine (kz g ao cap bs 2 _ (hd.alloc _).cur (by omega)).mono ?_
    rintro e w3 ⟨y, rfl, hy0, hy1, hc3, hk3⟩
    obtain ⟨k, rfl⟩ := Int.eq_ofNat_of_zero_le hy0
    have hk8 : k < 2 := by omega
    have hd3 := (hd.alloc _).call hc3 hk3
    obtain ⟨z, hz⟩ := zbq [-1, 1000] w10 w3 g _ hk3 (Nat.lt_trans hd.gg.2 hd.lt.1) k hk8
    have m0 : w3.cell? ⟨V, 1, none⟩ = some _ := hd3.v.cell 1
    have n0 : w3.frozen? ⟨V, 1, none⟩ = false := hd3.v.frozen 1
    go_wp2_with fail
    go_meet
    case rel => exact ⟨_, hd3.set 1 (by omega) z⟩
   ·go_wp2_with fail
    refine (kz g ao cap bs 3 _ (hd.alloc _).cur (by omega)).mono ?_
    rintro e w3 ⟨y, rfl, hy0, hy1, hc3, hk3⟩
    obtain ⟨k, rfl⟩ := Int.eq_ofNat_of_zero_le hy0
    have hk8 : k < 3 := by omega
    have hd3 := (hd.alloc _).call hc3 hk3
    obtain ⟨z, hz⟩ := zbq [0, 1000, 1001] w10 w3 g _ hk3 (Nat.lt_trans hd.gg.2 hd.lt.1) k hk8
    have m0 : w3.cell? ⟨V, 2, none⟩ = some _ := hd3.v.cell 2
    have n0 : w3.frozen? ⟨V, 2, none⟩ = false := hd3.v.frozen 2
    go_wp2_with fail
    go_meet
    case rel => exact ⟨_, hd3.set 2 (by omega) z⟩
   ·go_wp2_with fail
    refine (kz g ao cap bs 3 _ (hd.alloc _).cur (by omega)).mono ?_
    rintro e w3 ⟨y, rfl, hy0, hy1, hc3, hk3⟩
    obtain ⟨k, rfl⟩ := Int.eq_ofNat_of_zero_le hy0
    have hk8 : k < 3 := by omega
    have hd3 := (hd.alloc _).call hc3 hk3
    obtain ⟨z, hz⟩ := zbq [0, 1000000000, 1000000001] w10 w3 g _ hk3 (Nat.lt_trans hd.gg.2 hd.lt.1) k hk8
    have m0 : w3.cell? ⟨V, 3, none⟩ = some _ := hd3.v.cell 3
    have n0 : w3.frozen? ⟨V, 3, none⟩ = false := hd3.v.frozen 3
    go_wp2_with fail
    go_meet
    case rel => exact ⟨_, hd3.set 3 (by omega) z⟩
   ·go_wp2_with fail
    refine (kz g ao cap bs 3 _ (hd.alloc _).cur (by omega)).mono ?_
    rintro e w3 ⟨y, rfl, hy0, hy1, hc3, hk3⟩
    obtain ⟨k, rfl⟩ := Int.eq_ofNat_of_zero_le hy0
    have hk8 : k < 3 := by omega
    have hd3 := (hd.alloc _).call hc3 hk3
    obtain ⟨z, hz⟩ := zbq [-1, 10000000, 10000001] w10 w3 g _ hk3 (Nat.lt_trans hd.gg.2 hd.lt.1) k hk8
    have m0 : w3.cell? ⟨V, 4, none⟩ = some _ := hd3.v.cell 4
    have n0 : w3.frozen? ⟨V, 4, none⟩ = false := hd3.v.frozen 4
    go_wp2_with fail
    go_meet
    case rel => exact ⟨_, hd3.set 4 (by omega) z⟩
   ·go_wp2_with fail
    refine (kz g ao cap bs 3 _ (hd.alloc _).cur (by omega)).mono ?_
    rintro e w3 ⟨y, rfl, hy0, hy1, hc3, hk3⟩
    obtain ⟨k, rfl⟩ := Int.eq_ofNat_of_zero_le hy0
    have hk8 : k < 3 := by omega
    have hd3 := (hd.alloc _).call hc3 hk3
    obtain ⟨z, hz⟩ := zbq [0, 1440, 1441] w10 w3 g _ hk3 (Nat.lt_trans hd.gg.2 hd.lt.1) k hk8
    have m0 : w3.cell? ⟨V, 5, none⟩ = some _ := hd3.v.cell 5
    have n0 : w3.frozen? ⟨V, 5, none⟩ = false := hd3.v.frozen 5
    go_wp2_with fail
    go_meet
    case rel => exact ⟨_, hd3.set 5 (by omega) z⟩
   ·go_wp2_with fail
    refine (kz g ao cap bs 3 _ (hd.alloc _).cur (by omega)).mono ?_
    rintro e w3 ⟨y, rfl, hy0, hy1, hc3, hk3⟩
    obtain ⟨k, rfl⟩ := Int.eq_ofNat_of_zero_le hy0
    have hk8 : k < 3 := by omega
    have hd3 := (hd.alloc _).call hc3 hk3
    obtain ⟨z, hz⟩ := zbq [0, 200, 201] w10 w3 g _ hk3 (Nat.lt_trans hd.gg.2 hd.lt.1) k hk8
    have m0 : w3.cell? ⟨V, 6, none⟩ = some _ := hd3.v.cell 6
    have n0 : w3.frozen? ⟨V, 6, none⟩ = false := hd3.v.frozen 6
    go_wp2_with fail
    go_meet
    case rel => exact ⟨_, hd3.set 6 (by omega) z⟩
   ·go_wp2_with fail
    refine (zcl g ao cap bs 0 5 _ hd.cur (by omega) (by omega) (by omega)).mono ?_
    rintro e w3 ⟨z, rfl, hz0, hz1, hc3, hk3⟩
    have hd3 := hd.call hc3 hk3
    have m0 : w3.cell? ⟨V, 7, none⟩ = some _ := hd3.v.cell 7
    have n0 : w3.frozen? ⟨V, 7, none⟩ = false := hd3.v.frozen 7
    go_wp2_with fail
    go_meet
    case rel => exact ⟨_, hd3.set 7 (by omega) z⟩
 case rest =>
  obtain ⟨x, hd⟩ := hcut
  obtain ⟨hT1, hT2, hT3⟩ := hd.told
  go_wp2_with (first | (refine wpList_load_row rfl 29 (.tmp 3) rfl V rfl 29 #[.int .i64 x.id, .int .i64 x.p, .int .i64 x.d, .int .i64 x.n, .int .i64 x.f, .int .i64 x.e, .int .i64 x.c, .int .i64 x.s, .bool x.two] (0, 0) _ hd.v Tryd.underlying29 rfl (by kernel_rfl) ?_) | (refine wpList_store_rowTo rfl 29 (.tmp 2) (.tmp 94) rfl rfl w.heap.size #[.int .i64 x.id, .int .i64 x.p, .int .i64 x.d, .int .i64 x.n, .int .i64 x.f, .int .i64 x.e, .int .i64 x.c, .int .i64 x.s, .bool x.two] rfl rfl 29 #[.int .i64 0, .int .i64 0, .int .i64 0, .int .i64 0, .int .i64 0, .int .i64 0, .int .i64 0, .int .i64 0, .bool false] hd.r (by kernel_rfl) rfl (by simp [Value.oneCell']) ?_))
  exact bodyPost_ret (zii Tryd.results32 _ _ w.heap.size 29 _ _ rfl hT1 Tryd.underlying29 rfl (by kernel_rfl)) rfl ⟨⟨x, rfl⟩, hT2, hT3⟩
end Go.Proofs.YtjlpfpigggdemaaDoor
namespace Go.Proofs.YtjlpfpigggdemaaDoor
open Go.RowKit Va Uo
set_option linter.all false
def qm (x : Dd) : Array Value := #[.int .i64 x.k, .int .i64 x.o.id, .int .i64 x.o.p, .int .i64 x.o.d, .int .i64 x.o.n, .int .i64 x.o.f, .int .i64 x.o.e, .int .i64 x.o.c, .int .i64 x.o.s, .bool x.o.two, .int .i64 x.id, .int .i64 x.p, .int .i64 x.d, .int .i64 x.n, .int .i64 x.m, .int .i64 x.b, .int .i64 x.a]
theorem zfq {P : Program} {b : Act} {w w' : World} {o : Oper} (ty : TypeId) (x y : Operand) (ad : Addr) (v : Value) (ho : o.op = .store ty x y) (hx : b.eval x = .pointer (some ad)) (hy : b.eval y = v) (hl : (storeVar ty ad v).run P w = .ok () w') : (execOp b.eval o).run P w = .ok .skip w' := by
 unfold execOp
 simp only [ho, hx, hy, Instr.storeAt, Instr.sureAddr, Sem.run_bind, Sem.run_pure, Result.andThen_ok, hl]
theorem PB.keep {W W' : World} {g B : Nat} {vs : Array Value} {t : TypeId} (h : PB W B vs t) (hk : Keep g W W') (hg : B ≠ g) : PB W' B vs t := (hk.block B h.lt hg).trans h
theorem Keep.far {g V j n : Nat} {a b : World} (h : Keep g a b) (hV : a.heap.size <= V) (u : Value) : Keep g a (b.setCell ⟨V, j, none⟩ u) :=
 ⟨h.os, h.tape, h.output, by simpa [World.setCell] using h.size, fun i hi hg => (heap_setCell_other b ⟨V, j, none⟩ i u (fun e => by have e' : i = V := e; omega)).trans (h.block i hi hg)⟩
theorem Cur.far {w : World} {g cap V j : Nat} {ao : Option Addr} {bs : List Int} (h : Cur w g ao cap bs) (hV : g < V) (u : Value) : Cur (w.setCell ⟨V, j, none⟩ u) g ao cap bs := h.below ((Below.refl _ _).setCell (show g + 1 <= V by omega) u)
theorem Cur.alloc {w : World} {g cap : Nat} {ao : Option Addr} {bs : List Int} (h : Cur w g ao cap bs) (o : Obj) : Cur (w.alloc o) g ao cap bs := h.below ((Below.refl _ _).alloc h.1 _)
def Tb (g : Nat) (w : World) (T : Nat) (zs : List Int) : Prop := T ≠ g /\ PB w T (zs.map (fun z => Value.int .i64 z)).toArray 2
theorem Tb.keep {g T : Nat} {w w' : World} {zs : List Int} (h : Tb g w T zs) (hk : Keep g w w') : Tb g w' T zs := ⟨h.1, h.2.keep hk h.1⟩
theorem Tb.at {g T k : Nat} {w : World} {zs : List Int} (h : Tb g w T zs) (hk : k < zs.length) : w.cell? ⟨T, k, none⟩ = some (.int .i64 zs[k]) := by
 rw [h.2.cell]
 simp [hk]
theorem Tb.new {g : Nat} {w : World} (zs : List Int) (hg : g < w.heap.size) : Tb g (w.alloc (.cells (zs.map (fun z => Value.int .i64 z)).toArray 2)) w.heap.size zs := ⟨by omega, PB.new _ _ _⟩
def FQ1 (n1 g : Nat) (tm : Int) (i9 : Nat) (v : Value) (w : World) : Prop :=
 match i9 with
 | 0 => ∃ T zs, v = .slice (some ⟨T, 0, none⟩) 12 12 /\ zs.length = 12 /\ n1 <= T /\ Tb g w T zs
 | 1 => v = .pointer (some ⟨g, 0, none⟩)
 | 2 => ∃ n : Nat, v = .int .i64 n /\ n < 12
 | 3 => ∃ T n zs, v = .pointer (some ⟨T, n, none⟩) /\ n < zs.length /\ n1 <= T /\ Tb g w T zs
 | 4 => ∃ z : Int, v = .int .i64 z
 | 5 => v = .pointer (some ⟨g, 0, none⟩)
 | 6 => ∃ y : Od, v = aOd y
 | 7 => v = .pointer (some ⟨g, 0, none⟩)
 | 8 => ∃ n : Nat, v = .int .i64 n /\ n < 6
 | 9 => ∃ z : Int, v = .int .i64 z
 | 10 => v = .pointer (some ⟨g, 0, none⟩)
 | 11 => ∃ n : Nat, v = .int .i64 n /\ n < 3
 | 12 => v = .pointer (some ⟨g, 0, none⟩)
 | 13 => ∃ n : Nat, v = .int .i64 n /\ n < 3
 | 14 => ∃ z : Int, v = .int .i64 z
 | 15 => v = .int .i64 tm
 | 16 => v = .pointer (some ⟨g, 0, none⟩)
 | 17 => ∃ n : Nat, v = .int .i64 n /\ n < 4
 | 18 => ∃ x : Dd, v = aDd x
 | 19 => ∃ B, v = .pointer (some ⟨B, 0, none⟩) /\ n1 <= B /\ PB w B #[.int .i64 0, .int .i64 0, .int .i64 0, .int .i64 0, .int .i64 0, .int .i64 0, .int .i64 0, .int .i64 0, .int .i64 0, .bool false, .int .i64 0, .int .i64 0, .int .i64 0, .int .i64 0, .int .i64 0, .int .i64 0, .int .i64 0] 31
 | 20 => True
 | _ => True
theorem keepQ1 {n1 g : Nat} {tm : Int} {w w' : World} (hg : g < n1) (hk : Keep g w w') (k9 : Nat) (v : Value) (h : FQ1 n1 g tm k9 v w) : FQ1 n1 g tm k9 v w' := by
 unfold FQ1 at *
 split at h <;> first
  | exact h
  | (obtain ⟨T, zs, h1, h2, h3, h4⟩ := h; exact ⟨T, zs, h1, h2, h3, h4.keep hk⟩)
  | (obtain ⟨T, n, zs, h1, h2, h3, h4⟩ := h; exact ⟨T, n, zs, h1, h2, h3, h4.keep hk⟩)
  | (obtain ⟨B, h1, h2, h3⟩ := h; exact ⟨B, h1, h2, h3.keep hk (by omega)⟩)
  | (obtain ⟨B, y1, h1, h2, h3⟩ := h; exact ⟨B, y1, h1, h2, h3.keep hk (by omega)⟩)
  | (obtain ⟨B, y1, y2, h1, h2, h3⟩ := h; exact ⟨B, y1, y2, h1, h2, h3.keep hk (by omega)⟩)
  | (obtain ⟨B, y1, y2, y3, h1, h2, h3⟩ := h; exact ⟨B, y1, y2, y3, h1, h2, h3.keep hk (by omega)⟩)
  | (obtain ⟨B, y1, y2, y3, y4, h1, h2, h3⟩ := h; exact ⟨B, y1, y2, y3, y4, h1, h2, h3.keep hk (by omega)⟩)
theorem zby : (Rg.opsOf Tryd.f14 1).size = 21 := by kernel_rfl
set_option maxRecDepth 20000 in
set_option maxHeartbeats 16000000 in
theorem regQ1 {Q : Exit -> Act -> World -> Prop} {a : Act} {w1 : World} {g : Nat} {ao : Option Addr} {cap : Nat} {bs : List Int} {tm : Int} (ha : a.tmps.size = 126)
  (k2 : a.tmps[2]? = some (.int .i64 tm)) (k0 : a.tmps[0]? = some (.pointer (some ⟨g, 0, none⟩))) (hc : Cur w1 g ao cap bs) 
  (hend : ∀ b' w' (B : Nat) (x : Dd), Rg.Fr (Rg.opsOf Tryd.f14 1) a b' -> Cur w' g ao cap bs -> Keep g w1 w' -> Rg.out (Rg.opsOf Tryd.f14 1) b' 19 = .pointer (some ⟨B, 0, none⟩) -> w1.heap.size <= B -> PB w' B #[.int .i64 0, .int .i64 0, .int .i64 0, .int .i64 0, .int .i64 0, .int .i64 0, .int .i64 0, .int .i64 0, .int .i64 0, .bool false, .int .i64 0, .int .i64 0, .int .i64 0, .int .i64 0, .int .i64 0, .int .i64 0, .int .i64 0] 31 -> Q .normal b' (w'.setRow B (qm x))) :
  (Code.region 1 (Rg.opsOf Tryd.f14 1) true).wp Tryd.prog Q a w1 := by
 have hg1 : g < w1.heap.size := hc.1
 refine Rg.zel 20 (by kernel_rfl) (fun w' => Cur w' g ao cap bs /\ Keep g w1 w') (FQ1 w1.heap.size g tm) (by rw [ha]; kernel_rfl) ⟨hc.drewN 1, (Keep.refl g w1).drewN 1⟩ ?_ ?_ ?_
 case refine_3 => exact fun h => absurd h (by rw [zby]; decide)
 case refine_2 =>
  intro _ bb w' hf hI hA
  rw [zby] at hA
  obtain ⟨x27, hv27⟩ := hA 18 (by decide) (by decide)
  have q27 : bb.tmps[27]? = some _ := hf.tmp (k := 18) rfl (by rw [ha]; decide) hv27
  obtain ⟨B7, hv7, hB7, hP7⟩ := hA 19 (by decide) (by decide)
  have q7 : bb.tmps[7]? = some _ := hf.tmp (k := 19) rfl (by rw [ha]; decide) hv7
  have hE := hend bb w' B7 x27 hf hI.1 hI.2 hv7 hB7 hP7
  exact Rg.zal (o := ⟨none, Op.store 31 (Operand.tmp 7) (Operand.tmp 27), _, _, _, _⟩) (w' := w'.setRow B7 (qm x27)) rfl rfl (zfq 31 (.tmp 7) (.tmp 27) ⟨B7, 0, none⟩ (.agg (qm x27)) rfl (by simp [Act.eval, q7]) (by simp [Act.eval, q27]; rfl) (run_storeVar_row w' B7 _ 31 _ _ hP7 (by kernel_rfl) rfl (by simp [qm, Value.oneCell']))) hE
 case refine_1 =>
  clear hend
  have HS : ∀ {w w' : World}, Keep g w w' -> ∀ k9 y9, FQ1 w1.heap.size g tm k9 y9 w -> FQ1 w1.heap.size g tm k9 y9 w' := fun hb k9 y9 h => keepQ1 hg1 hb k9 y9 h
  intro i' hi' hne
  rw [zby] at hi'
  rcases (show i' = 0 ∨ i' = 1 ∨ i' = 2 ∨ i' = 3 ∨ i' = 4 ∨ i' = 5 ∨ i' = 6 ∨ i' = 7 ∨ i' = 8 ∨ i' = 9 ∨ i' = 10 ∨ i' = 11 ∨ i' = 12 ∨ i' = 13 ∨ i' = 14 ∨ i' = 15 ∨ i' = 16 ∨ i' = 17 ∨ i' = 18 ∨ i' = 19 by omega) with rfl | rfl | rfl | rfl | rfl | rfl | rfl | rfl | rfl | rfl | rfl | rfl | rfl | rfl | rfl | rfl | rfl | rfl | rfl | rfl
  ·intro bb w' hf hI hA
   clear hi' hne
   have hK : Keep g w' (w'.alloc (.cells #[.int .i64 1, .int .i64 2, .int .i64 2, .int .i64 2, .int .i64 3, .int .i64 4, .int .i64 5, .int .i64 5, .int .i64 5, .int .i64 5, .int .i64 5, .int .i64 5] 2)) := (Keep.refl g w').alloc _
   have hT := Tb.new (g := g) (w := w') [1, 2, 2, 2, 3, 4, 5, 5, 5, 5, 5, 5] hI.1.1
   exact Rg.zf (o := ⟨some 9, Op.buildSlice 60 12 #[(0, (Operand.const (Value.int .i64 1))), (1, (Operand.const (Value.int .i64 2))), (2, (Operand.const (Value.int .i64 2))), (3, (Operand.const (Value.int .i64 2))), (4, (Operand.const (Value.int .i64 3))), (5, (Operand.const (Value.int .i64 4))), (6, (Operand.const (Value.int .i64 5))), (7, (Operand.const (Value.int .i64 5))), (8, (Operand.const (Value.int .i64 5))), (9, (Operand.const (Value.int .i64 5))), (10, (Operand.const (Value.int .i64 5))), (11, (Operand.const (Value.int .i64 5)))], _, _, _, _⟩) (x := .slice (some ⟨w'.heap.size, 0, none⟩) 12 12) (w' := w'.alloc (.cells #[.int .i64 1, .int .i64 2, .int .i64 2, .int .i64 2, .int .i64 3, .int .i64 4, .int .i64 5, .int .i64 5, .int .i64 5, .int .i64 5, .int .i64 5, .int .i64 5] 2)) rfl rfl (by clear hA HS; simp only [execOp]; go_simp) ⟨_, rfl, (fun h => by cases h), ⟨_, _, rfl, rfl, hI.2.size, hT⟩, ⟨(hI.1.alloc _), hI.2.trans hK⟩, HS hK⟩
  ·intro bb w' hf hI hA
   clear hi' hne
   have q0 := hf.kept (s := 0) (by rw [zby]; kernel_rfl) k0
   exact Rg.zf (o := ⟨some 10, Op.move (Operand.tmp 0), _, _, _, _⟩) (x := .pointer (some ⟨g, 0, none⟩)) rfl rfl (by clear hA HS ; simp only [execOp]; go_simp) ⟨_, rfl, (fun h => by cases h), rfl, hI, fun _ _ h => h⟩
  ·intro bb w' hf hI hA
   clear hi' hne
   have q10 : bb.tmps[10]? = some _ := hf.tmp (k := 1) rfl (by rw [ha]; decide) (hA 1 (by kernel_rfl))
   refine Rg.jr (o := ⟨some 11, Op.call { callee := Callee.value (Operand.func 31), args := #[(Operand.tmp 10), (Operand.const (Value.int .i64 12))], argTypes := _ }, _, _, _, _⟩) rfl rfl (by clear hA HS  ; simp only [execOp, resolve]; go_simp) (kz g ao cap bs 12 w' hI.1 (by omega)) ?_
   rintro e w2 ⟨y, rfl, hx0, hx1, hc2, hk2⟩
   obtain ⟨n, rfl⟩ := Int.eq_ofNat_of_zero_le hx0
   exact ⟨_, rfl, _, rfl, (fun h => by cases h), ⟨n, rfl, by omega⟩, ⟨hc2, hI.2.trans hk2⟩, HS hk2⟩
  ·intro bb w' hf hI hA
   clear hi' hne
   obtain ⟨T9, zs9, hv9, hl9, hT9, hb9⟩ := hA 0 (by kernel_rfl)
   have q9 : bb.tmps[9]? = some _ := hf.tmp (k := 0) rfl (by rw [ha]; decide) hv9
   obtain ⟨n11, hv11, hn11⟩ := hA 2 (by kernel_rfl)
   have q11 : bb.tmps[11]? = some _ := hf.tmp (k := 2) rfl (by rw [ha]; decide) hv11
   have hnl : (n11 : Int) < 12 := by omega
   exact Rg.zf (o := ⟨some 12, Op.indexAddr 60 (Operand.tmp 9) (Operand.tmp 11), _, _, _, _⟩) (x := .pointer (some ⟨T9, n11, none⟩)) rfl rfl (by clear hA HS hv9  hv11  hb9 hl9; simp only [execOp]; go_simp) ⟨_, rfl, (fun h => by cases h), ⟨T9, n11, zs9, rfl, by omega, hT9, hb9⟩, hI, fun _ _ h => h⟩
  ·intro bb w' hf hI hA
   clear hi' hne
   obtain ⟨T12, n12, zs12, hv12, hl12, hT12, hb12⟩ := hA 3 (by kernel_rfl)
   have q12 : bb.tmps[12]? = some _ := hf.tmp (k := 3) rfl (by rw [ha]; decide) hv12
   have hcell := hb12.at hl12
   generalize hz : zs12[n12] = z at hcell
   exact Rg.zf (o := ⟨some 13, Op.load 2 (Operand.tmp 12), _, _, _, _⟩) (x := .int .i64 z) rfl rfl (by clear hA HS hv12  hb12 hz; simp only [execOp]; go_simp) ⟨_, rfl, (fun h => by cases h), ⟨z, rfl⟩, hI, fun _ _ h => h⟩
  ·intro bb w' hf hI hA
   clear hi' hne
   have q0 := hf.kept (s := 0) (by rw [zby]; kernel_rfl) k0
   exact Rg.zf (o := ⟨some 14, Op.move (Operand.tmp 0), _, _, _, _⟩) (x := .pointer (some ⟨g, 0, none⟩)) rfl rfl (by clear hA HS ; simp only [execOp]; go_simp) ⟨_, rfl, (fun h => by cases h), rfl, hI, fun _ _ h => h⟩
  ·intro bb w' hf hI hA
   clear hi' hne
   have q14 : bb.tmps[14]? = some _ := hf.tmp (k := 5) rfl (by rw [ha]; decide) (hA 5 (by kernel_rfl))
   refine Rg.jr (o := ⟨some 15, Op.call { callee := Callee.value (Operand.func 32), args := #[(Operand.tmp 14)], argTypes := _ }, _, _, _, _⟩) rfl rfl (by clear hA HS ; simp only [execOp, resolve]; go_simp) (zib g ao cap bs w' hI.1) ?_
   rintro e w2 ⟨⟨y, rfl⟩, hc2, hk2⟩
   exact ⟨_, rfl, _, rfl, (fun h => by cases h), ⟨_, rfl⟩, ⟨hc2, hI.2.trans hk2⟩, HS hk2⟩
  ·intro bb w' hf hI hA
   clear hi' hne
   have q0 := hf.kept (s := 0) (by rw [zby]; kernel_rfl) k0
   exact Rg.zf (o := ⟨some 16, Op.move (Operand.tmp 0), _, _, _, _⟩) (x := .pointer (some ⟨g, 0, none⟩)) rfl rfl (by clear hA HS ; simp only [execOp]; go_simp) ⟨_, rfl, (fun h => by cases h), rfl, hI, fun _ _ h => h⟩
  ·intro bb w' hf hI hA
   clear hi' hne
   have q16 : bb.tmps[16]? = some _ := hf.tmp (k := 7) rfl (by rw [ha]; decide) (hA 7 (by kernel_rfl))
   refine Rg.jr (o := ⟨some 17, Op.call { callee := Callee.value (Operand.func 31), args := #[(Operand.tmp 16), (Operand.const (Value.int .i64 6))], argTypes := _ }, _, _, _, _⟩) rfl rfl (by clear hA HS  ; simp only [execOp, resolve]; go_simp) (kz g ao cap bs 6 w' hI.1 (by omega)) ?_
   rintro e w2 ⟨y, rfl, hx0, hx1, hc2, hk2⟩
   obtain ⟨n, rfl⟩ := Int.eq_ofNat_of_zero_le hx0
   exact ⟨_, rfl, _, rfl, (fun h => by cases h), ⟨n, rfl, by omega⟩, ⟨hc2, hI.2.trans hk2⟩, HS hk2⟩
  ·intro bb w' hf hI hA
   clear hi' hne
   obtain ⟨n17, hv17, hn17⟩ := hA 8 (by kernel_rfl)
   have q17 : bb.tmps[17]? = some _ := hf.tmp (k := 8) rfl (by rw [ha]; decide) hv17
   exact Rg.zf (o := ⟨some 18, Op.binOp BinOp.add 2 (Operand.const (Value.int .i64 1)) (Operand.tmp 17) 2, _, _, _, _⟩) (x := .int .i64 (IntKind.i64.wrap (1 + (n17 : Nat)))) rfl rfl (by clear hA HS  hv17 ; simp only [execOp]; go_simp) ⟨_, rfl, (fun h => by cases h), ⟨_, rfl⟩, hI, fun _ _ h => h⟩
  ·intro bb w' hf hI hA
   clear hi' hne
   have q0 := hf.kept (s := 0) (by rw [zby]; kernel_rfl) k0
   exact Rg.zf (o := ⟨some 19, Op.move (Operand.tmp 0), _, _, _, _⟩) (x := .pointer (some ⟨g, 0, none⟩)) rfl rfl (by clear hA HS ; simp only [execOp]; go_simp) ⟨_, rfl, (fun h => by cases h), rfl, hI, fun _ _ h => h⟩
  ·intro bb w' hf hI hA
   clear hi' hne
   have q19 : bb.tmps[19]? = some _ := hf.tmp (k := 10) rfl (by rw [ha]; decide) (hA 10 (by kernel_rfl))
   refine Rg.jr (o := ⟨some 20, Op.call { callee := Callee.value (Operand.func 31), args := #[(Operand.tmp 19), (Operand.const (Value.int .i64 3))], argTypes := _ }, _, _, _, _⟩) rfl rfl (by clear hA HS  ; simp only [execOp, resolve]; go_simp) (kz g ao cap bs 3 w' hI.1 (by omega)) ?_
   rintro e w2 ⟨y, rfl, hx0, hx1, hc2, hk2⟩
   obtain ⟨n, rfl⟩ := Int.eq_ofNat_of_zero_le hx0
   exact ⟨_, rfl, _, rfl, (fun h => by cases h), ⟨n, rfl, by omega⟩, ⟨hc2, hI.2.trans hk2⟩, HS hk2⟩
  ·intro bb w' hf hI hA
   clear hi' hne
   have q0 := hf.kept (s := 0) (by rw [zby]; kernel_rfl) k0
   exact Rg.zf (o := ⟨some 21, Op.move (Operand.tmp 0), _, _, _, _⟩) (x := .pointer (some ⟨g, 0, none⟩)) rfl rfl (by clear hA HS ; simp only [execOp]; go_simp) ⟨_, rfl, (fun h => by cases h), rfl, hI, fun _ _ h => h⟩
  ·intro bb w' hf hI hA
   clear hi' hne
   have q21 : bb.tmps[21]? = some _ := hf.tmp (k := 12) rfl (by rw [ha]; decide) (hA 12 (by kernel_rfl))
   refine Rg.jr (o := ⟨some 22, Op.call { callee := Callee.value (Operand.func 31), args := #[(Operand.tmp 21), (Operand.const (Value.int .i64 3))], argTypes := _ }, _, _, _, _⟩) rfl rfl (by clear hA HS  ; simp only [execOp, resolve]; go_simp) (kz g ao cap bs 3 w' hI.1 (by omega)) ?_
   rintro e w2 ⟨y, rfl, hx0, hx1, hc2, hk2⟩
   obtain ⟨n, rfl⟩ := Int.eq_ofNat_of_zero_le hx0
   exact ⟨_, rfl, _, rfl, (fun h => by cases h), ⟨n, rfl, by omega⟩, ⟨hc2, hI.2.trans hk2⟩, HS hk2⟩
  ·intro bb w' hf hI hA
   clear hi' hne
   obtain ⟨n22, hv22, hn22⟩ := hA 13 (by kernel_rfl)
   have q22 : bb.tmps[22]? = some _ := hf.tmp (k := 13) rfl (by rw [ha]; decide) hv22
   exact Rg.zf (o := ⟨some 23, Op.binOp BinOp.add 2 (Operand.const (Value.int .i64 1)) (Operand.tmp 22) 2, _, _, _, _⟩) (x := .int .i64 (IntKind.i64.wrap (1 + (n22 : Nat)))) rfl rfl (by clear hA HS  hv22 ; simp only [execOp]; go_simp) ⟨_, rfl, (fun h => by cases h), ⟨_, rfl⟩, hI, fun _ _ h => h⟩
  ·intro bb w' hf hI hA
   clear hi' hne
   have q2 := hf.kept (s := 2) (by rw [zby]; kernel_rfl) k2
   exact Rg.zf (o := ⟨some 24, Op.move (Operand.tmp 2), _, _, _, _⟩) (x := .int .i64 tm) rfl rfl (by clear hA HS ; simp only [execOp]; go_simp) ⟨_, rfl, (fun h => by cases h), rfl, hI, fun _ _ h => h⟩
  ·intro bb w' hf hI hA
   clear hi' hne
   have q0 := hf.kept (s := 0) (by rw [zby]; kernel_rfl) k0
   exact Rg.zf (o := ⟨some 25, Op.move (Operand.tmp 0), _, _, _, _⟩) (x := .pointer (some ⟨g, 0, none⟩)) rfl rfl (by clear hA HS ; simp only [execOp]; go_simp) ⟨_, rfl, (fun h => by cases h), rfl, hI, fun _ _ h => h⟩
  ·intro bb w' hf hI hA
   clear hi' hne
   have q25 : bb.tmps[25]? = some _ := hf.tmp (k := 16) rfl (by rw [ha]; decide) (hA 16 (by kernel_rfl))
   refine Rg.jr (o := ⟨some 26, Op.call { callee := Callee.value (Operand.func 31), args := #[(Operand.tmp 25), (Operand.const (Value.int .i64 4))], argTypes := _ }, _, _, _, _⟩) rfl rfl (by clear hA HS  ; simp only [execOp, resolve]; go_simp) (kz g ao cap bs 4 w' hI.1 (by omega)) ?_
   rintro e w2 ⟨y, rfl, hx0, hx1, hc2, hk2⟩
   obtain ⟨n, rfl⟩ := Int.eq_ofNat_of_zero_le hx0
   exact ⟨_, rfl, _, rfl, (fun h => by cases h), ⟨n, rfl, by omega⟩, ⟨hc2, hI.2.trans hk2⟩, HS hk2⟩
  ·intro bb w' hf hI hA
   clear hi' hne
   obtain ⟨z13, hv13⟩ := hA 4 (by kernel_rfl)
   have q13 : bb.tmps[13]? = some _ := hf.tmp (k := 4) rfl (by rw [ha]; decide) hv13
   obtain ⟨y15, hv15⟩ := hA 6 (by kernel_rfl)
   unfold aOd at hv15
   have q15 : bb.tmps[15]? = some _ := hf.tmp (k := 6) rfl (by rw [ha]; decide) hv15
   obtain ⟨z18, hv18⟩ := hA 9 (by kernel_rfl)
   have q18 : bb.tmps[18]? = some _ := hf.tmp (k := 9) rfl (by rw [ha]; decide) hv18
   obtain ⟨n20, hv20, hn20⟩ := hA 11 (by kernel_rfl)
   have q20 : bb.tmps[20]? = some _ := hf.tmp (k := 11) rfl (by rw [ha]; decide) hv20
   obtain ⟨z23, hv23⟩ := hA 14 (by kernel_rfl)
   have q23 : bb.tmps[23]? = some _ := hf.tmp (k := 14) rfl (by rw [ha]; decide) hv23
   have q24 : bb.tmps[24]? = some _ := hf.tmp (k := 15) rfl (by rw [ha]; decide) (hA 15 (by kernel_rfl))
   obtain ⟨n26, hv26, hn26⟩ := hA 17 (by kernel_rfl)
   have q26 : bb.tmps[26]? = some _ := hf.tmp (k := 17) rfl (by rw [ha]; decide) hv26
   exact Rg.zf (o := ⟨some 27, Op.build 31 #[(0, (Operand.tmp 13)), (1, (Operand.tmp 15)), (2, (Operand.tmp 18)), (3, (Operand.tmp 20)), (4, (Operand.tmp 23)), (5, (Operand.const (Value.int .i64 100))), (6, (Operand.tmp 24)), (7, (Operand.tmp 26)), (8, (Operand.const (Value.int IntKind.i64 (-1))))], _, _, _, _⟩) (x := .agg #[.int .i64 z13, .int .i64 y15.id, .int .i64 y15.p, .int .i64 y15.d, .int .i64 y15.n, .int .i64 y15.f, .int .i64 y15.e, .int .i64 y15.c, .int .i64 y15.s, .bool y15.two, .int .i64 z18, .int .i64 (n20 : Nat), .int .i64 z23, .int .i64 100, .int .i64 tm, .int .i64 (n26 : Nat), .int .i64 (-1)]) rfl rfl (by clear hA HS hv13  hv15  hv18  hv20  hv23   hv26 ; simp only [execOp]; go_simp) ⟨_, rfl, (fun h => by cases h), ⟨⟨z13, y15, z18, (n20 : Nat), z23, 100, tm, (n26 : Nat), (-1)⟩, rfl⟩, hI, fun _ _ h => h⟩
  ·intro bb w' hf hI hA
   clear hi' hne
   have hK : Keep g w' (w'.alloc (.cells #[.int .i64 0, .int .i64 0, .int .i64 0, .int .i64 0, .int .i64 0, .int .i64 0, .int .i64 0, .int .i64 0, .int .i64 0, .bool false, .int .i64 0, .int .i64 0, .int .i64 0, .int .i64 0, .int .i64 0, .int .i64 0, .int .i64 0] 31)) := (Keep.refl g w').alloc _
   exact Rg.zf (o := ⟨some 7, Op.alloc 31, _, _, _, _⟩) (x := .pointer (some ⟨w'.heap.size, 0, none⟩)) (w' := w'.alloc (.cells #[.int .i64 0, .int .i64 0, .int .i64 0, .int .i64 0, .int .i64 0, .int .i64 0, .int .i64 0, .int .i64 0, .int .i64 0, .bool false, .int .i64 0, .int .i64 0, .int .i64 0, .int .i64 0, .int .i64 0, .int .i64 0, .int .i64 0] 31)) rfl rfl (by clear hA HS; simp only [execOp]; go_simp) ⟨_, rfl, (fun h => by cases h), ⟨_, rfl, hI.2.size, PB.new _ _ _⟩, ⟨(hI.1.alloc _), hI.2.trans hK⟩, HS hK⟩
theorem pnQ1 (a : Act) (v : Value) : a.put none v = a := rfl
theorem layQ1 {a b : Act} (hf : Rg.Fr (Rg.opsOf Tryd.f14 1) a b) : b = Rg.fl (Rg.opsOf Tryd.f14 1) b 0 [some 9, some 10, some 11, some 12, some 13, some 14, some 15, some 16, some 17, some 18, some 19, some 20, some 21, some 22, some 23, some 24, some 25, some 26, some 27, some 7, none] a := Rg.qi _ (by kernel_rfl) hf
end Go.Proofs.YtjlpfpigggdemaaDoor
