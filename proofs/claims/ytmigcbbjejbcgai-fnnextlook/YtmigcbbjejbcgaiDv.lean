/-
  Vital signs drawn of a cursor.
-/
import Derived.Test.YtmigcbbjejbcgaiCuC
import Derived.Test.YtmigcbbjejbcgaiVb
import Derived.Laws.Tables
import Derived.Laws.Rows
namespace Go.Proofs.Ytmigcbbjejbcgai
open Go.RowKit Va
set_option linter.unusedVariables false

/-- A vital in a block of the call's own, beside a box for what is told, a cursor at g. -/
structure DV (w0 W : World) (g R V : Nat) (ao : Option Addr) (cap : Nat) (bs : List Int) (x : Vt) : Prop where
  cur : Cur W g ao cap bs
  keep : Keep g w0 W
  r : W.heap[R]? = some (.cells #[.int .i64 0, .int .i64 0, .int .i64 0, .int .i64 0, .int .i64 0, .int .i64 0] 25 (0, 0))
  v : W.heap[V]? = some (.cells #[.int .i64 x.b, .int .i64 x.o, .int .i64 x.p, .int .i64 x.u, .int .i64 x.a, .int .i64 x.h] 25 (0, 0))
  ne : V ≠ R
  old : w0.heap.size ≤ R ∧ w0.heap.size ≤ V
  gg : g < R ∧ g < V
theorem DV.cell {w0 W : World} {g R V : Nat} {ao : Option Addr} {cap : Nat} {bs : List Int} {x : Vt} (h : DV w0 W g R V ao cap bs x) (j : Nat) (u : Value) (hu : (#[.int .i64 x.b, .int .i64 x.o, .int .i64 x.p, .int .i64 x.u, .int .i64 x.a, .int .i64 x.h] : Array Value)[j]? = some u) : W.cell? ⟨V, j, none⟩ = some u := by
  simp only [World.cell?, h.v]; exact hu
theorem DV.fro {w0 W : World} {g R V : Nat} {ao : Option Addr} {cap : Nat} {bs : List Int} {x : Vt} (h : DV w0 W g R V ao cap bs x) (j : Nat) : W.frozen? ⟨V, j, none⟩ = false := by
  simp only [World.frozen?, h.v]; simp
theorem DV.lt {w0 W : World} {g R V : Nat} {ao : Option Addr} {cap : Nat} {bs : List Int} {x : Vt} (h : DV w0 W g R V ao cap bs x) : V < W.heap.size ∧ R < W.heap.size := ⟨(Array.getElem?_eq_some_iff.1 h.v).1, (Array.getElem?_eq_some_iff.1 h.r).1⟩
theorem DV.call {w0 W W' : World} {g R V : Nat} {ao : Option Addr} {cap : Nat} {bs : List Int} {x : Vt} (h : DV w0 W g R V ao cap bs x) (hc : Cur W' g ao cap bs) (hk : Keep g W W') : DV w0 W' g R V ao cap bs x :=
  ⟨hc, h.keep.trans hk, (hk.block R h.lt.2 (by have := h.gg; omega)).trans h.r, (hk.block V h.lt.1 (by have := h.gg; omega)).trans h.v, h.ne, h.old, h.gg⟩
theorem DV.alloc {w0 W : World} {g R V : Nat} {ao : Option Addr} {cap : Nat} {bs : List Int} {x : Vt} (h : DV w0 W g R V ao cap bs x) (o : Obj) : DV w0 (W.alloc o) g R V ao cap bs x :=
  h.call (h.cur.below ((Below.refl _ _).alloc (by have := h.lt; have := h.gg; omega) _)) ((Keep.refl g W).alloc o)
def setV (x : Vt) (j : Nat) (y : Int) : Vt := match j with
  | 0 => { x with b := y }
  | 1 => { x with o := y }
  | 2 => { x with p := y }
  | 3 => { x with u := y }
  | 4 => { x with a := y }
  | _ => { x with h := y }

theorem DV.set {w0 W : World} {g R V : Nat} {ao : Option Addr} {cap : Nat} {bs : List Int} {x : Vt} (h : DV w0 W g R V ao cap bs x) (j : Nat) (hj : j < 6) (y : Int) : DV w0 (W.setCell ⟨V, j, none⟩ (.int .i64 y)) g R V ao cap bs (setV x j y) := by
  have e := setCell_eq_setRow W V j _ _ _ (.int .i64 y) h.v
  have hb : Below (g + 1) W (W.setCell ⟨V, j, none⟩ (.int .i64 y)) := (Below.refl _ W).setCell (p := ⟨V, j, none⟩) (show g + 1 ≤ V by have := h.gg; omega) _
  refine ⟨h.cur.below hb, ⟨?_, ?_, ?_, ?_, ?_⟩, ?_, ?_, h.ne, h.old, h.gg⟩
  · exact h.keep.os
  · exact h.keep.tape
  · exact h.keep.output
  · have := h.keep.size; simpa [World.setCell] using this
  · intro b hb' hbg
    rw [e, setRow_other _ _ _ _ (by have := h.old; omega)]
    exact h.keep.block b hb' hbg
  · rw [e, setRow_other _ _ _ _ (fun q => h.ne q.symm)]
    exact h.r
  · rw [e, setRow_heap _ _ _ _ _ _ h.v]
    rcases (show j = 0 ∨ j = 1 ∨ j = 2 ∨ j = 3 ∨ j = 4 ∨ j = 5 by omega) with rfl | rfl | rfl | rfl | rfl | rfl <;> rfl
/-- What is told: the box holds the vital. -/
theorem DV.told {w0 W : World} {g R V : Nat} {ao : Option Addr} {cap : Nat} {bs : List Int} {x : Vt} (h : DV w0 W g R V ao cap bs x) (W' : World) (hW : W' = W.setRow R #[.int .i64 x.b, .int .i64 x.o, .int .i64 x.p, .int .i64 x.u, .int .i64 x.a, .int .i64 x.h]) : W'.heap[R]? = some (.cells #[.int .i64 x.b, .int .i64 x.o, .int .i64 x.p, .int .i64 x.u, .int .i64 x.a, .int .i64 x.h] 25 (0, 0)) ∧ Cur W' g ao cap bs ∧ Keep g w0 W' := by
  subst hW
  refine ⟨setRow_heap _ _ _ _ _ _ h.r, h.cur.below ⟨rfl, rfl, rfl, by simp, fun k hk => setRow_other _ _ _ _ (by have := h.gg; omega)⟩, ?_⟩
  exact ⟨h.keep.os, h.keep.tape, h.keep.output, by have := h.keep.size; simpa using this, fun b hb hbg => (setRow_other _ _ _ _ (by have := h.old; omega)).trans (h.keep.block b hb hbg)⟩
/-- A number out of a table that was just laid. -/
theorem tab_at (zs : List Int) (W W' : World) (g : Nat) (t : TypeId) (hk : Keep g (W.alloc (.cells (zs.map (fun z => Value.int .i64 z)).toArray t)) W') (hg : g < W.heap.size) (k : Nat) (hz : k < zs.length) : ∃ z : Int, W'.cell? ⟨W.heap.size, k, none⟩ = some (.int .i64 z) := by
  refine ⟨zs[k], ?_⟩
  rw [hk.cell (by simp) (by omega)]
  have e := heap_alloc_new W (.cells (zs.map (fun z => Value.int .i64 z)).toArray t)
  simp only [World.cell?, e]
  simp [hz]

/-- Six cells set are the row set. -/
theorem six_sets {W : World} {R : Nat} {t : TypeId} {z0 z1 z2 z3 z4 z5 : Value} (h : W.heap[R]? = some (.cells #[z0, z1, z2, z3, z4, z5] t (0, 0))) (a0 a1 a2 a3 a4 a5 : Value) :
    (((((W.setCell ⟨R, 0, none⟩ a0).setCell ⟨R, 1, none⟩ a1).setCell ⟨R, 2, none⟩ a2).setCell ⟨R, 3, none⟩ a3).setCell ⟨R, 4, none⟩ a4).setCell ⟨R, 5, none⟩ a5 = W.setRow R #[a0, a1, a2, a3, a4, a5] := by
  have e0 := setCell_eq_setRow W R 0 _ _ _ a0 h
  have h0 : (W.setRow R #[a0, z1, z2, z3, z4, z5]).heap[R]? = some (.cells #[a0, z1, z2, z3, z4, z5] t (0, 0)) := setRow_heap _ _ _ _ _ _ h
  rw [e0, show (#[z0, z1, z2, z3, z4, z5] : Array Value).setIfInBounds 0 a0 = #[a0, z1, z2, z3, z4, z5] from rfl]
  rw [setCell_eq_setRow _ R 1 _ _ _ a1 h0, show (#[a0, z1, z2, z3, z4, z5] : Array Value).setIfInBounds 1 a1 = #[a0, a1, z2, z3, z4, z5] from rfl, setRow_setRow]
  have h1 : (W.setRow R #[a0, a1, z2, z3, z4, z5]).heap[R]? = some (.cells #[a0, a1, z2, z3, z4, z5] t (0, 0)) := setRow_heap _ _ _ _ _ _ h
  rw [setCell_eq_setRow _ R 2 _ _ _ a2 h1, show (#[a0, a1, z2, z3, z4, z5] : Array Value).setIfInBounds 2 a2 = #[a0, a1, a2, z3, z4, z5] from rfl, setRow_setRow]
  have h2 : (W.setRow R #[a0, a1, a2, z3, z4, z5]).heap[R]? = some (.cells #[a0, a1, a2, z3, z4, z5] t (0, 0)) := setRow_heap _ _ _ _ _ _ h
  rw [setCell_eq_setRow _ R 3 _ _ _ a3 h2, show (#[a0, a1, a2, z3, z4, z5] : Array Value).setIfInBounds 3 a3 = #[a0, a1, a2, a3, z4, z5] from rfl, setRow_setRow]
  have h3 : (W.setRow R #[a0, a1, a2, a3, z4, z5]).heap[R]? = some (.cells #[a0, a1, a2, a3, z4, z5] t (0, 0)) := setRow_heap _ _ _ _ _ _ h
  rw [setCell_eq_setRow _ R 4 _ _ _ a4 h3, show (#[a0, a1, a2, a3, z4, z5] : Array Value).setIfInBounds 4 a4 = #[a0, a1, a2, a3, a4, z5] from rfl, setRow_setRow]
  have h4 : (W.setRow R #[a0, a1, a2, a3, a4, z5]).heap[R]? = some (.cells #[a0, a1, a2, a3, a4, z5] t (0, 0)) := setRow_heap _ _ _ _ _ _ h
  rw [setCell_eq_setRow _ R 5 _ _ _ a5 h4, show (#[a0, a1, a2, a3, a4, z5] : Array Value).setIfInBounds 5 a5 = #[a0, a1, a2, a3, a4, a5] from rfl, setRow_setRow]
theorem DV.rcell {w0 W : World} {g R V : Nat} {ao : Option Addr} {cap : Nat} {bs : List Int} {x : Vt} (h : DV w0 W g R V ao cap bs x) (j : Nat) (hj : j < 6) : W.cell? ⟨R, j, none⟩ = some (.int .i64 0) ∧ W.frozen? ⟨R, j, none⟩ = false := by
  constructor
  · simp only [World.cell?, h.r]
    rcases (show j = 0 ∨ j = 1 ∨ j = 2 ∨ j = 3 ∨ j = 4 ∨ j = 5 by omega) with rfl | rfl | rfl | rfl | rfl | rfl <;> rfl
  · simp only [World.frozen?, h.r]; simp

set_option maxHeartbeats 400000 in
theorem lmin_any (a b : Int) (w : World) : Calls Try.prog 28 #[.int .i64 a, .int .i64 b] w fun e w' => (∃ x : Int, e = .returned (.int .i64 x)) ∧ w = w' := by
  go_enter Try.func28, Try.ntmps28
  go_wp2
  all_goals (go_ret; exact ⟨⟨_, rfl⟩, rfl⟩)

set_option maxRecDepth 20000 in
set_option maxHeartbeats 8000000 in
theorem dvital_any (g : Nat) (ao : Option Addr) (cap : Nat) (bs : List Int) (w : World) (hc : Cur w g ao cap bs) :
    Calls Try.prog 14 #[.pointer (some ⟨g, 0, none⟩)] w fun e w' => ∃ x : Vt, e = .returned (aV x) ∧ Cur w' g ao cap bs ∧ Keep g w w' := by
  have hcA : Cur (w.alloc (.cells #[.int .i64 0, .int .i64 0, .int .i64 0, .int .i64 0, .int .i64 0, .int .i64 0] 25)) g ao cap bs := hc.below ((Below.refl _ _).alloc hc.1 _)
  have hkA : Keep g w (w.alloc (.cells #[.int .i64 0, .int .i64 0, .int .i64 0, .int .i64 0, .int .i64 0, .int .i64 0] 25)) := (Keep.refl g w).alloc _
  have hrA : (w.alloc (.cells #[.int .i64 0, .int .i64 0, .int .i64 0, .int .i64 0, .int .i64 0, .int .i64 0] 25)).heap[w.heap.size]? = some (.cells #[.int .i64 0, .int .i64 0, .int .i64 0, .int .i64 0, .int .i64 0, .int .i64 0] 25 (0, 0)) := heap_alloc_new _ _
  have hgl := hc.1
  have hzA : w.heap.size < (w.alloc (.cells #[.int .i64 0, .int .i64 0, .int .i64 0, .int .i64 0, .int .i64 0, .int .i64 0] 25)).heap.size := by simp
  go_enter Try.func14, Try.ntmps14
  generalize hwA : w.alloc (.cells #[.int .i64 0, .int .i64 0, .int .i64 0, .int .i64 0, .int .i64 0, .int .i64 0] 25) = wA at *
  go_wp2_with fail
  refine (below_any g ao cap bs 22 _ hcA (by omega)).mono ?_
  rintro e w1 ⟨y1, rfl, p1, q1, hc1, hk1⟩
  go_wp2_with fail
  refine (below_any g ao cap bs 12 _ hc1 (by omega)).mono ?_
  rintro e w2 ⟨y2, rfl, p2, q2, hc2, hk2⟩
  go_wp2_with fail
  refine (below_any g ao cap bs 140 _ hc2 (by omega)).mono ?_
  rintro e w3 ⟨y3, rfl, p3, q3, hc3, hk3⟩
  go_wp2_with fail
  refine (below_any g ao cap bs 100 _ hc3 (by omega)).mono ?_
  rintro e w4 ⟨y4, rfl, p4, q4, hc4, hk4⟩
  go_wp2_with fail
  refine (below_any g ao cap bs 6 _ hc4 (by omega)).mono ?_
  rintro e w5 ⟨y5, rfl, p5, q5, hc5, hk5⟩
  go_wp2_with fail
  refine (lmin_any _ _ _).mono ?_
  rintro e w6 ⟨⟨y6, rfl⟩, rfl⟩
  go_wp2_with fail
  refine (below_any g ao cap bs 50 _ hc5 (by omega)).mono ?_
  rintro e w7 ⟨y7, rfl, p7, q7, hc7, hk7⟩
  have hkB := ((((hkA.trans hk1).trans hk2).trans hk3).trans hk4).trans (hk5.trans hk7)
  have hkR := (((hk1.trans hk2).trans hk3).trans hk4).trans (hk5.trans hk7)
  have hrB := (hkR.block w.heap.size hzA (by omega)).trans hrA
  have hzB : w.heap.size < w7.heap.size := (Array.getElem?_eq_some_iff.1 hrB).1
  have hd0 : ∀ x : Vt, DV w (w7.alloc (.cells #[.int .i64 x.b, .int .i64 x.o, .int .i64 x.p, .int .i64 x.u, .int .i64 x.a, .int .i64 x.h] 25)) g w.heap.size w7.heap.size ao cap bs x := fun x =>
    ⟨hc7.below ((Below.refl _ _).alloc hc7.1 _), hkB.alloc _, (((Below.refl w7.heap.size w7).alloc (Nat.le_refl _) _).block _ hzB).trans hrB, heap_alloc_new _ _, by omega, ⟨Nat.le_refl _, by omega⟩, ⟨hgl, hc7.1⟩⟩
  clear hkB hkR hrB hk1 hk2 hk3 hk4 hk5 hk7 hc1 hc2 hc3 hc4 hc5 hcA hkA hrA hzA hwA
  have hd := hd0 ⟨6 + y1, 89 + y2, 85 + y3, 35 + y4, y6, 345 + y7⟩
  have HN : w7.heap.size = w7.heap.size := rfl
  clear hd0
  generalize hVV : w7.heap.size = V at *
  generalize hWW : w7.alloc (.cells #[.int .i64 (6 + y1), .int .i64 (89 + y2), .int .i64 (85 + y3), .int .i64 (35 + y4), .int .i64 y6, .int .i64 (345 + y7)] 25) = wV at *
  go_upto_if 26 with (go_at_call 16; refine (once_any g ao cap bs 2 _ hd.cur (by omega)).mono ?_; rintro e w8 ⟨t8, rfl, hc8, hk8⟩)
  have hd8 := hd.call hc8 hk8
  clear hc8 hk8 hd
  go_cut [] (fun wx => ∃ x, DV w wx g w.heap.size V ao cap bs x)
  case first =>
    rcases t8 with _ | _
    · go_wp2_with fail
      go_meet
      case rel => exact ⟨_, hd8⟩
    · have c0 : w8.cell? ⟨V, 0, none⟩ = some _ := hd8.cell 0 _ rfl
      have f0 : w8.frozen? ⟨V, 0, none⟩ = false := hd8.fro 0
      have c1 : w8.cell? ⟨V, 1, none⟩ = some _ := hd8.cell 1 _ rfl
      have f1 : w8.frozen? ⟨V, 1, none⟩ = false := hd8.fro 1
      have c2 : w8.cell? ⟨V, 2, none⟩ = some _ := hd8.cell 2 _ rfl
      have f2 : w8.frozen? ⟨V, 2, none⟩ = false := hd8.fro 2
      have c3 : w8.cell? ⟨V, 3, none⟩ = some _ := hd8.cell 3 _ rfl
      have f3 : w8.frozen? ⟨V, 3, none⟩ = false := hd8.fro 3
      have c4 : w8.cell? ⟨V, 4, none⟩ = some _ := hd8.cell 4 _ rfl
      have f4 : w8.frozen? ⟨V, 4, none⟩ = false := hd8.fro 4
      have c5 : w8.cell? ⟨V, 5, none⟩ = some _ := hd8.cell 5 _ rfl
      have f5 : w8.frozen? ⟨V, 5, none⟩ = false := hd8.fro 5
      have hdS := (((((hd8.set 0 (by omega) 15).set 1 (by omega) 97).set 2 (by omega) 120).set 3 (by omega) 70).set 4 (by omega) 1).set 5 (by omega) 370
      go_wp2_with fail
      refine (below_any g ao cap bs 6 _ hdS.cur (by omega)).mono ?_
      rintro e w9 ⟨y, rfl, hy0, hy1, hc9, hk9⟩
      have hd := hdS.call hc9 hk9
      clear hdS hc9 hk9 hd8
      generalize setV (setV (setV (setV (setV (setV _ 0 15) 1 97) 2 120) 3 70) 4 1) 5 370 = xx at hd
      rcases (show y = 0 ∨ y = 1 ∨ y = 2 ∨ y = 3 ∨ y = 4 ∨ y = 5 by omega) with rfl | rfl | rfl | rfl | rfl | rfl
      · go_wp2_with fail
        refine (below_any g ao cap bs 8 _ (hd.alloc _).cur (by omega)).mono ?_
        rintro e w3 ⟨y, rfl, hy0, hy1, hc3, hk3⟩
        obtain ⟨k, rfl⟩ := Int.eq_ofNat_of_zero_le hy0
        have hk8 : k < 8 := by omega
        have hd3 := (hd.alloc _).call hc3 hk3
        obtain ⟨z, hz⟩ := tab_at [8, 9, 11, 12, 20, 21, 24, 25] w9 w3 g _ hk3 (Nat.lt_trans hd.gg.2 hd.lt.1) k hk8
        have m0 : w3.cell? ⟨V, 0, none⟩ = some _ := hd3.cell 0 _ rfl
        have n0 : w3.frozen? ⟨V, 0, none⟩ = false := hd3.fro 0
        have m1 : w3.cell? ⟨V, 1, none⟩ = some _ := hd3.cell 1 _ rfl
        have n1 : w3.frozen? ⟨V, 1, none⟩ = false := hd3.fro 1
        have m2 : w3.cell? ⟨V, 2, none⟩ = some _ := hd3.cell 2 _ rfl
        have n2 : w3.frozen? ⟨V, 2, none⟩ = false := hd3.fro 2
        have m3 : w3.cell? ⟨V, 3, none⟩ = some _ := hd3.cell 3 _ rfl
        have n3 : w3.frozen? ⟨V, 3, none⟩ = false := hd3.fro 3
        have m4 : w3.cell? ⟨V, 4, none⟩ = some _ := hd3.cell 4 _ rfl
        have n4 : w3.frozen? ⟨V, 4, none⟩ = false := hd3.fro 4
        have m5 : w3.cell? ⟨V, 5, none⟩ = some _ := hd3.cell 5 _ rfl
        have n5 : w3.frozen? ⟨V, 5, none⟩ = false := hd3.fro 5
        go_wp2_with fail
        go_meet
        case rel => exact ⟨_, hd3.set 0 (by omega) z⟩
      · go_wp2_with fail
        refine (below_any g ao cap bs 8 _ (hd.alloc _).cur (by omega)).mono ?_
        rintro e w3 ⟨y, rfl, hy0, hy1, hc3, hk3⟩
        obtain ⟨k, rfl⟩ := Int.eq_ofNat_of_zero_le hy0
        have hk8 : k < 8 := by omega
        have hd3 := (hd.alloc _).call hc3 hk3
        obtain ⟨z, hz⟩ := tab_at [91, 92, 93, 94, 95, 96, 0, 100] w9 w3 g _ hk3 (Nat.lt_trans hd.gg.2 hd.lt.1) k hk8
        have m0 : w3.cell? ⟨V, 0, none⟩ = some _ := hd3.cell 0 _ rfl
        have n0 : w3.frozen? ⟨V, 0, none⟩ = false := hd3.fro 0
        have m1 : w3.cell? ⟨V, 1, none⟩ = some _ := hd3.cell 1 _ rfl
        have n1 : w3.frozen? ⟨V, 1, none⟩ = false := hd3.fro 1
        have m2 : w3.cell? ⟨V, 2, none⟩ = some _ := hd3.cell 2 _ rfl
        have n2 : w3.frozen? ⟨V, 2, none⟩ = false := hd3.fro 2
        have m3 : w3.cell? ⟨V, 3, none⟩ = some _ := hd3.cell 3 _ rfl
        have n3 : w3.frozen? ⟨V, 3, none⟩ = false := hd3.fro 3
        have m4 : w3.cell? ⟨V, 4, none⟩ = some _ := hd3.cell 4 _ rfl
        have n4 : w3.frozen? ⟨V, 4, none⟩ = false := hd3.fro 4
        have m5 : w3.cell? ⟨V, 5, none⟩ = some _ := hd3.cell 5 _ rfl
        have n5 : w3.frozen? ⟨V, 5, none⟩ = false := hd3.fro 5
        go_wp2_with fail
        go_meet
        case rel => exact ⟨_, hd3.set 1 (by omega) z⟩
      · go_wp2_with fail
        refine (below_any g ao cap bs 8 _ (hd.alloc _).cur (by omega)).mono ?_
        rintro e w3 ⟨y, rfl, hy0, hy1, hc3, hk3⟩
        obtain ⟨k, rfl⟩ := Int.eq_ofNat_of_zero_le hy0
        have hk8 : k < 8 := by omega
        have hd3 := (hd.alloc _).call hc3 hk3
        obtain ⟨z, hz⟩ := tab_at [90, 91, 100, 101, 110, 111, 219, 220] w9 w3 g _ hk3 (Nat.lt_trans hd.gg.2 hd.lt.1) k hk8
        have m0 : w3.cell? ⟨V, 0, none⟩ = some _ := hd3.cell 0 _ rfl
        have n0 : w3.frozen? ⟨V, 0, none⟩ = false := hd3.fro 0
        have m1 : w3.cell? ⟨V, 1, none⟩ = some _ := hd3.cell 1 _ rfl
        have n1 : w3.frozen? ⟨V, 1, none⟩ = false := hd3.fro 1
        have m2 : w3.cell? ⟨V, 2, none⟩ = some _ := hd3.cell 2 _ rfl
        have n2 : w3.frozen? ⟨V, 2, none⟩ = false := hd3.fro 2
        have m3 : w3.cell? ⟨V, 3, none⟩ = some _ := hd3.cell 3 _ rfl
        have n3 : w3.frozen? ⟨V, 3, none⟩ = false := hd3.fro 3
        have m4 : w3.cell? ⟨V, 4, none⟩ = some _ := hd3.cell 4 _ rfl
        have n4 : w3.frozen? ⟨V, 4, none⟩ = false := hd3.fro 4
        have m5 : w3.cell? ⟨V, 5, none⟩ = some _ := hd3.cell 5 _ rfl
        have n5 : w3.frozen? ⟨V, 5, none⟩ = false := hd3.fro 5
        go_wp2_with fail
        go_meet
        case rel => exact ⟨_, hd3.set 2 (by omega) z⟩
      · go_wp2_with fail
        refine (below_any g ao cap bs 10 _ (hd.alloc _).cur (by omega)).mono ?_
        rintro e w3 ⟨y, rfl, hy0, hy1, hc3, hk3⟩
        obtain ⟨k, rfl⟩ := Int.eq_ofNat_of_zero_le hy0
        have hk8 : k < 10 := by omega
        have hd3 := (hd.alloc _).call hc3 hk3
        obtain ⟨z, hz⟩ := tab_at [40, 41, 50, 51, 90, 91, 110, 111, 130, 131] w9 w3 g _ hk3 (Nat.lt_trans hd.gg.2 hd.lt.1) k hk8
        have m0 : w3.cell? ⟨V, 0, none⟩ = some _ := hd3.cell 0 _ rfl
        have n0 : w3.frozen? ⟨V, 0, none⟩ = false := hd3.fro 0
        have m1 : w3.cell? ⟨V, 1, none⟩ = some _ := hd3.cell 1 _ rfl
        have n1 : w3.frozen? ⟨V, 1, none⟩ = false := hd3.fro 1
        have m2 : w3.cell? ⟨V, 2, none⟩ = some _ := hd3.cell 2 _ rfl
        have n2 : w3.frozen? ⟨V, 2, none⟩ = false := hd3.fro 2
        have m3 : w3.cell? ⟨V, 3, none⟩ = some _ := hd3.cell 3 _ rfl
        have n3 : w3.frozen? ⟨V, 3, none⟩ = false := hd3.fro 3
        have m4 : w3.cell? ⟨V, 4, none⟩ = some _ := hd3.cell 4 _ rfl
        have n4 : w3.frozen? ⟨V, 4, none⟩ = false := hd3.fro 4
        have m5 : w3.cell? ⟨V, 5, none⟩ = some _ := hd3.cell 5 _ rfl
        have n5 : w3.frozen? ⟨V, 5, none⟩ = false := hd3.fro 5
        go_wp2_with fail
        go_meet
        case rel => exact ⟨_, hd3.set 3 (by omega) z⟩
      · go_wp2_with fail
        refine (below_any g ao cap bs 10 _ (hd.alloc _).cur (by omega)).mono ?_
        rintro e w3 ⟨y, rfl, hy0, hy1, hc3, hk3⟩
        obtain ⟨k, rfl⟩ := Int.eq_ofNat_of_zero_le hy0
        have hk8 : k < 10 := by omega
        have hd3 := (hd.alloc _).call hc3 hk3
        obtain ⟨z, hz⟩ := tab_at [350, 351, 360, 361, 380, 381, 390, 391, 200, 460] w9 w3 g _ hk3 (Nat.lt_trans hd.gg.2 hd.lt.1) k hk8
        have m0 : w3.cell? ⟨V, 0, none⟩ = some _ := hd3.cell 0 _ rfl
        have n0 : w3.frozen? ⟨V, 0, none⟩ = false := hd3.fro 0
        have m1 : w3.cell? ⟨V, 1, none⟩ = some _ := hd3.cell 1 _ rfl
        have n1 : w3.frozen? ⟨V, 1, none⟩ = false := hd3.fro 1
        have m2 : w3.cell? ⟨V, 2, none⟩ = some _ := hd3.cell 2 _ rfl
        have n2 : w3.frozen? ⟨V, 2, none⟩ = false := hd3.fro 2
        have m3 : w3.cell? ⟨V, 3, none⟩ = some _ := hd3.cell 3 _ rfl
        have n3 : w3.frozen? ⟨V, 3, none⟩ = false := hd3.fro 3
        have m4 : w3.cell? ⟨V, 4, none⟩ = some _ := hd3.cell 4 _ rfl
        have n4 : w3.frozen? ⟨V, 4, none⟩ = false := hd3.fro 4
        have m5 : w3.cell? ⟨V, 5, none⟩ = some _ := hd3.cell 5 _ rfl
        have n5 : w3.frozen? ⟨V, 5, none⟩ = false := hd3.fro 5
        go_wp2_with fail
        go_meet
        case rel => exact ⟨_, hd3.set 5 (by omega) z⟩
      · go_wp2_with fail
        go_meet
        case rel => exact ⟨_, hd⟩
  case rest =>
    obtain ⟨x, hd⟩ := hcut
    go_wp2_with fail
    refine (below_any g ao cap bs 3 _ hd.cur (by omega)).mono ?_
    rintro e w10 ⟨n0, rfl, hn0, hn1, hc10, hk10⟩
    have hd1 := hd.call hc10 hk10
    clear hd hc10 hk10 hd8
    go_wp2_with fail
    go_loopw [4, 5] (fun nv _ wr => ∃ n : Int, (0 ≤ n ∧ n ≤ 3) ∧ nv = .int .i64 n ∧ ∃ x, DV w wr g w.heap.size V ao cap bs x) (fun nv _ _ => (intOf nv).toNat)
    case atStart => exact ⟨n0, by omega, rfl, _, hd1⟩
    case round =>
      clear hd1
      obtain ⟨n, hn, rfl, x, hd⟩ := hrel
      by_cases hpos : 0 < n
      · go_upto_if 77 with (go_at_call 16; refine (once_any g ao cap bs 10 _ hd.cur (by omega)).mono ?_; rintro e w11 ⟨t11, rfl, hc11, hk11⟩)
        have hd2 := hd.call hc11 hk11
        clear hd hc11 hk11
        go_cut [5] (fun xv wx => ∃ (z : Int) (x : Vt), xv = .int .i64 z ∧ DV w wx g w.heap.size V ao cap bs x)
        case first =>
          rcases t11 with _ | _
          · go_wp2_with fail
            go_meet
            case rel => exact ⟨-1, _, rfl, hd2⟩
          · have hd := hd2
            clear hd2
            go_wp2_with fail
            refine (below_any g ao cap bs 7 _ (hd.alloc _).cur (by omega)).mono ?_
            rintro e w3 ⟨y, rfl, hy0, hy1, hc3, hk3⟩
            obtain ⟨k, rfl⟩ := Int.eq_ofNat_of_zero_le hy0
            have hk8 : k < 7 := by omega
            have hd3 := (hd.alloc _).call hc3 hk3
            obtain ⟨z, hz⟩ := tab_at [-2, 461, 199, 101, 2, 100, 401] w11 w3 g _ hk3 (Nat.lt_trans hd.gg.2 hd.lt.1) k hk8
            have m0 : w3.cell? ⟨V, 0, none⟩ = some _ := hd3.cell 0 _ rfl
            have n0 : w3.frozen? ⟨V, 0, none⟩ = false := hd3.fro 0
            have m1 : w3.cell? ⟨V, 1, none⟩ = some _ := hd3.cell 1 _ rfl
            have n1 : w3.frozen? ⟨V, 1, none⟩ = false := hd3.fro 1
            have m2 : w3.cell? ⟨V, 2, none⟩ = some _ := hd3.cell 2 _ rfl
            have n2 : w3.frozen? ⟨V, 2, none⟩ = false := hd3.fro 2
            have m3 : w3.cell? ⟨V, 3, none⟩ = some _ := hd3.cell 3 _ rfl
            have n3 : w3.frozen? ⟨V, 3, none⟩ = false := hd3.fro 3
            have m4 : w3.cell? ⟨V, 4, none⟩ = some _ := hd3.cell 4 _ rfl
            have n4 : w3.frozen? ⟨V, 4, none⟩ = false := hd3.fro 4
            have m5 : w3.cell? ⟨V, 5, none⟩ = some _ := hd3.cell 5 _ rfl
            have n5 : w3.frozen? ⟨V, 5, none⟩ = false := hd3.fro 5
            go_wp2_with fail
            go_meet
            case rel => exact ⟨z, _, rfl, hd3⟩
        case rest =>
          clear hd2
          obtain ⟨z, x2, rfl, hd⟩ := hcut
          go_wp2_with fail
          refine (below_any g ao cap bs 6 _ hd.cur (by omega)).mono ?_
          rintro e w12 ⟨y, rfl, hy0, hy1, hc12, hk12⟩
          have hd3 := hd.call hc12 hk12
          clear hd hc12 hk12
          have c0 : w12.cell? ⟨V, 0, none⟩ = some _ := hd3.cell 0 _ rfl
          have f0 : w12.frozen? ⟨V, 0, none⟩ = false := hd3.fro 0
          have c1 : w12.cell? ⟨V, 1, none⟩ = some _ := hd3.cell 1 _ rfl
          have f1 : w12.frozen? ⟨V, 1, none⟩ = false := hd3.fro 1
          have c2 : w12.cell? ⟨V, 2, none⟩ = some _ := hd3.cell 2 _ rfl
          have f2 : w12.frozen? ⟨V, 2, none⟩ = false := hd3.fro 2
          have c3 : w12.cell? ⟨V, 3, none⟩ = some _ := hd3.cell 3 _ rfl
          have f3 : w12.frozen? ⟨V, 3, none⟩ = false := hd3.fro 3
          have c4 : w12.cell? ⟨V, 4, none⟩ = some _ := hd3.cell 4 _ rfl
          have f4 : w12.frozen? ⟨V, 4, none⟩ = false := hd3.fro 4
          have c5 : w12.cell? ⟨V, 5, none⟩ = some _ := hd3.cell 5 _ rfl
          have f5 : w12.frozen? ⟨V, 5, none⟩ = false := hd3.fro 5
          rcases (show y = 0 ∨ y = 1 ∨ y = 2 ∨ y = 3 ∨ y = 4 ∨ y = 5 by omega) with rfl | rfl | rfl | rfl | rfl | rfl
          · go_wp2_with fail
            go_roundw
            case rel => exact ⟨n - 1, by omega, rfl, _, hd3.set 0 (by omega) z⟩
            case measure => simp [intOf]; omega
          · go_wp2_with fail
            go_roundw
            case rel => exact ⟨n - 1, by omega, rfl, _, hd3.set 1 (by omega) z⟩
            case measure => simp [intOf]; omega
          · go_wp2_with fail
            go_roundw
            case rel => exact ⟨n - 1, by omega, rfl, _, hd3.set 2 (by omega) z⟩
            case measure => simp [intOf]; omega
          · go_wp2_with fail
            go_roundw
            case rel => exact ⟨n - 1, by omega, rfl, _, hd3.set 3 (by omega) z⟩
            case measure => simp [intOf]; omega
          · go_wp2_with fail
            go_roundw
            case rel => exact ⟨n - 1, by omega, rfl, _, hd3.set 4 (by omega) z⟩
            case measure => simp [intOf]; omega
          · go_wp2_with fail
            go_roundw
            case rel => exact ⟨n - 1, by omega, rfl, _, hd3.set 5 (by omega) z⟩
            case measure => simp [intOf]; omega
      · have hnn : ¬ 0 < n := hpos
        have c0 : wr.cell? ⟨V, 0, none⟩ = some _ := hd.cell 0 _ rfl
        obtain ⟨r0, s0⟩ := hd.rcell 0 (by omega)
        have c1 : wr.cell? ⟨V, 1, none⟩ = some _ := hd.cell 1 _ rfl
        obtain ⟨r1, s1⟩ := hd.rcell 1 (by omega)
        have c2 : wr.cell? ⟨V, 2, none⟩ = some _ := hd.cell 2 _ rfl
        obtain ⟨r2, s2⟩ := hd.rcell 2 (by omega)
        have c3 : wr.cell? ⟨V, 3, none⟩ = some _ := hd.cell 3 _ rfl
        obtain ⟨r3, s3⟩ := hd.rcell 3 (by omega)
        have c4 : wr.cell? ⟨V, 4, none⟩ = some _ := hd.cell 4 _ rfl
        obtain ⟨r4, s4⟩ := hd.rcell 4 (by omega)
        have c5 : wr.cell? ⟨V, 5, none⟩ = some _ := hd.cell 5 _ rfl
        obtain ⟨r5, s5⟩ := hd.rcell 5 (by omega)
        have hT := hd.told _ (six_sets hd.r (.int .i64 x.b) (.int .i64 x.o) (.int .i64 x.p) (.int .i64 x.u) (.int .i64 x.a) (.int .i64 x.h))
        obtain ⟨hT1, hT2, hT3⟩ := hT
        go_wp2_with fail
        exact bodyPost_ret (v := aV x) (results_cell_row Try.results14 _ _ w.heap.size 25 _ (0, 0) _ rfl hT1 Try.underlying25 rfl (by kernel_rfl)) rfl ⟨⟨x, rfl⟩, hT2, hT3⟩
end Go.Proofs.Ytmigcbbjejbcgai
