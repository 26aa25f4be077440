/-
  A move that is drawn of a cursor: the box in which it is made; its first region, whatever its order.
-/
import Derived.Test.YtklgadaefngnnaaCuC
import Derived.Test.YtklgadaefngnnaaHw
import Derived.Test.YtklgadaefngnnaaRg
import Derived.Laws.Tables
import Derived.Laws.Rows
namespace Go.Proofs.Ytklgadaefngnnaa
open Go.RowKit Hm
set_option linter.all false

/-- A move in a block of the call's own, beside a box for what is told, a cursor at g. -/
structure DM (w0 W : World) (g R V : Nat) (ao : Option Addr) (cap : Nat) (bs : List Int) (x : Mv) : Prop where
  cur : Cur W g ao cap bs
  keep : Keep g w0 W
  r : W.heap[R]? = some (.cells #[.int .i64 0, .int .i64 0, .int .i64 0, .int .i64 0, .int .i64 0, .int .i64 0] 29 (0, 0))
  v : W.heap[V]? = some (.cells #[.int .i64 x.kind, .int .i64 x.person, .int .i64 x.sex, .int .i64 x.need, .int .i64 x.bed, .int .i64 x.time] 29 (0, 0))
  ne : V ≠ R
  old : w0.heap.size ≤ R ∧ w0.heap.size ≤ V
  gg : g < R ∧ g < V
theorem DM.cell {w0 W : World} {g R V : Nat} {ao : Option Addr} {cap : Nat} {bs : List Int} {x : Mv} (h : DM w0 W g R V ao cap bs x) (j : Nat) (u : Value) (hu : (#[.int .i64 x.kind, .int .i64 x.person, .int .i64 x.sex, .int .i64 x.need, .int .i64 x.bed, .int .i64 x.time] : Array Value)[j]? = some u) : W.cell? ⟨V, j, none⟩ = some u := by
  simp only [World.cell?, h.v]; exact hu
theorem DM.fro {w0 W : World} {g R V : Nat} {ao : Option Addr} {cap : Nat} {bs : List Int} {x : Mv} (h : DM w0 W g R V ao cap bs x) (j : Nat) : W.frozen? ⟨V, j, none⟩ = false := by
  simp only [World.frozen?, h.v]; simp
theorem DM.lt {w0 W : World} {g R V : Nat} {ao : Option Addr} {cap : Nat} {bs : List Int} {x : Mv} (h : DM w0 W g R V ao cap bs x) : V < W.heap.size ∧ R < W.heap.size := ⟨(Array.getElem?_eq_some_iff.1 h.v).1, (Array.getElem?_eq_some_iff.1 h.r).1⟩
theorem DM.call {w0 W W' : World} {g R V : Nat} {ao : Option Addr} {cap : Nat} {bs : List Int} {x : Mv} (h : DM w0 W g R V ao cap bs x) (hc : Cur W' g ao cap bs) (hk : Keep g W W') : DM w0 W' g R V ao cap bs x :=
  ⟨hc, h.keep.trans hk, (hk.block R h.lt.2 (by have := h.gg; omega)).trans h.r, (hk.block V h.lt.1 (by have := h.gg; omega)).trans h.v, h.ne, h.old, h.gg⟩
theorem DM.alloc {w0 W : World} {g R V : Nat} {ao : Option Addr} {cap : Nat} {bs : List Int} {x : Mv} (h : DM w0 W g R V ao cap bs x) (o : Obj) : DM w0 (W.alloc o) g R V ao cap bs x :=
  h.call (h.cur.below ((Below.refl _ _).alloc (by have := h.lt; have := h.gg; omega) _)) ((Keep.refl g W).alloc o)
def setM (x : Mv) (j : Nat) (y : Int) : Mv := match j with
  | 0 => { x with kind := y }
  | 1 => { x with person := y }
  | 2 => { x with sex := y }
  | 3 => { x with need := y }
  | 4 => { x with bed := y }
  | _ => { x with time := y }

theorem DM.set {w0 W : World} {g R V : Nat} {ao : Option Addr} {cap : Nat} {bs : List Int} {x : Mv} (h : DM w0 W g R V ao cap bs x) (j : Nat) (hj : j < 6) (y : Int) : DM w0 (W.setCell ⟨V, j, none⟩ (.int .i64 y)) g R V ao cap bs (setM x j y) := by
  have e := setCell_eq_setRow W V j _ _ _ (.int .i64 y) h.v
  have hb : Below (g + 1) W (W.setCell ⟨V, j, none⟩ (.int .i64 y)) := (Below.refl _ W).setCell (p := ⟨V, j, none⟩) (show g + 1 ≤ V by have := h.gg; omega) _
  refine ⟨h.cur.below hb, ⟨?_, ?_, ?_, ?_, ?_⟩, ?_, ?_, h.ne, h.old, h.gg⟩
  · exact h.keep.os
  · exact h.keep.tape
  · exact h.keep.output
  · have := h.keep.size; simpa [World.setCell] using this
  · intro b hb' hbg
    rw [e, setRow_other _ _ _ _ (by have := h.old; omega)]
    exact h.keep.block b hb' hbg
  · rw [e, setRow_other _ _ _ _ (fun q => h.ne q.symm)]
    exact h.r
  · rw [e, setRow_heap _ _ _ _ _ _ h.v]
    rcases (show j = 0 ∨ j = 1 ∨ j = 2 ∨ j = 3 ∨ j = 4 ∨ j = 5 by omega) with rfl | rfl | rfl | rfl | rfl | rfl <;> rfl
/-- What is told: the box holds the move. -/
theorem DM.told {w0 W : World} {g R V : Nat} {ao : Option Addr} {cap : Nat} {bs : List Int} {x : Mv} (h : DM w0 W g R V ao cap bs x) (W' : World) (hW : W' = W.setRow R #[.int .i64 x.kind, .int .i64 x.person, .int .i64 x.sex, .int .i64 x.need, .int .i64 x.bed, .int .i64 x.time]) : W'.heap[R]? = some (.cells #[.int .i64 x.kind, .int .i64 x.person, .int .i64 x.sex, .int .i64 x.need, .int .i64 x.bed, .int .i64 x.time] 29 (0, 0)) ∧ Cur W' g ao cap bs ∧ Keep g w0 W' := by
  subst hW
  refine ⟨setRow_heap _ _ _ _ _ _ h.r, h.cur.below ⟨rfl, rfl, rfl, by simp, fun k hk => setRow_other _ _ _ _ (by have := h.gg; omega)⟩, ?_⟩
  exact ⟨h.keep.os, h.keep.tape, h.keep.output, by have := h.keep.size; simpa using this, fun b hb hbg => (setRow_other _ _ _ _ (by have := h.old; omega)).trans (h.keep.block b hb hbg)⟩
/-- A number out of a table that was just laid. -/
theorem six_setsM {W : World} {R : Nat} {t : TypeId} {z0 z1 z2 z3 z4 z5 : Value} (h : W.heap[R]? = some (.cells #[z0, z1, z2, z3, z4, z5] t (0, 0))) (a0 a1 a2 a3 a4 a5 : Value) :
    (((((W.setCell ⟨R, 0, none⟩ a0).setCell ⟨R, 1, none⟩ a1).setCell ⟨R, 2, none⟩ a2).setCell ⟨R, 3, none⟩ a3).setCell ⟨R, 4, none⟩ a4).setCell ⟨R, 5, none⟩ a5 = W.setRow R #[a0, a1, a2, a3, a4, a5] := by
  have e0 := setCell_eq_setRow W R 0 _ _ _ a0 h
  have h0 : (W.setRow R #[a0, z1, z2, z3, z4, z5]).heap[R]? = some (.cells #[a0, z1, z2, z3, z4, z5] t (0, 0)) := setRow_heap _ _ _ _ _ _ h
  rw [e0, show (#[z0, z1, z2, z3, z4, z5] : Array Value).setIfInBounds 0 a0 = #[a0, z1, z2, z3, z4, z5] from rfl]
  rw [setCell_eq_setRow _ R 1 _ _ _ a1 h0, show (#[a0, z1, z2, z3, z4, z5] : Array Value).setIfInBounds 1 a1 = #[a0, a1, z2, z3, z4, z5] from rfl, setRow_setRow]
  have h1 : (W.setRow R #[a0, a1, z2, z3, z4, z5]).heap[R]? = some (.cells #[a0, a1, z2, z3, z4, z5] t (0, 0)) := setRow_heap _ _ _ _ _ _ h
  rw [setCell_eq_setRow _ R 2 _ _ _ a2 h1, show (#[a0, a1, z2, z3, z4, z5] : Array Value).setIfInBounds 2 a2 = #[a0, a1, a2, z3, z4, z5] from rfl, setRow_setRow]
  have h2 : (W.setRow R #[a0, a1, a2, z3, z4, z5]).heap[R]? = some (.cells #[a0, a1, a2, z3, z4, z5] t (0, 0)) := setRow_heap _ _ _ _ _ _ h
  rw [setCell_eq_setRow _ R 3 _ _ _ a3 h2, show (#[a0, a1, a2, z3, z4, z5] : Array Value).setIfInBounds 3 a3 = #[a0, a1, a2, a3, z4, z5] from rfl, setRow_setRow]
  have h3 : (W.setRow R #[a0, a1, a2, a3, z4, z5]).heap[R]? = some (.cells #[a0, a1, a2, a3, z4, z5] t (0, 0)) := setRow_heap _ _ _ _ _ _ h
  rw [setCell_eq_setRow _ R 4 _ _ _ a4 h3, show (#[a0, a1, a2, a3, z4, z5] : Array Value).setIfInBounds 4 a4 = #[a0, a1, a2, a3, a4, z5] from rfl, setRow_setRow]
  have h4 : (W.setRow R #[a0, a1, a2, a3, a4, z5]).heap[R]? = some (.cells #[a0, a1, a2, a3, a4, z5] t (0, 0)) := setRow_heap _ _ _ _ _ _ h
  rw [setCell_eq_setRow _ R 5 _ _ _ a5 h4, show (#[a0, a1, a2, a3, a4, z5] : Array Value).setIfInBounds 5 a5 = #[a0, a1, a2, a3, a4, a5] from rfl, setRow_setRow]
theorem DM.rcell {w0 W : World} {g R V : Nat} {ao : Option Addr} {cap : Nat} {bs : List Int} {x : Mv} (h : DM w0 W g R V ao cap bs x) (j : Nat) (hj : j < 6) : W.cell? ⟨R, j, none⟩ = some (.int .i64 0) ∧ W.frozen? ⟨R, j, none⟩ = false := by
  constructor
  · simp only [World.cell?, h.r]
    rcases (show j = 0 ∨ j = 1 ∨ j = 2 ∨ j = 3 ∨ j = 4 ∨ j = 5 by omega) with rfl | rfl | rfl | rfl | rfl | rfl <;> rfl
  · simp only [World.frozen?, h.r]; simp


theorem wrap_small {n : Int} (h0 : -1000000000000 ≤ n) (h1 : n ≤ 1000000000000) : IntKind.i64.wrap n = n := by
  have e : IntKind.i64.wrap n = (if true = true ∧ n % 18446744073709551616 ≥ 9223372036854775808 then n % 18446744073709551616 - 18446744073709551616 else n % 18446744073709551616) := by
    unfold IntKind.wrap
    simp [IntKind.bits, IntKind.signed]
  rw [e]
  by_cases q : n % 18446744073709551616 ≥ 9223372036854775808
  · rw [if_pos ⟨rfl, q⟩]; omega
  · rw [if_neg (fun z => q z.2)]; omega
/-- A table of numbers in a block apart from the cursor's. -/
def Tb (g : Nat) (w : World) (T : Nat) (zs : List Int) : Prop := T ≠ g ∧ w.heap[T]? = some (.cells (zs.map (fun z => Value.int .i64 z)).toArray 2 (0, 0))
theorem Tb.keep {g T : Nat} {w w' : World} {zs : List Int} (h : Tb g w T zs) (hk : Keep g w w') : Tb g w' T zs := ⟨h.1, (hk.block T (Array.getElem?_eq_some_iff.1 h.2).1 h.1).trans h.2⟩
theorem Tb.at {g T k : Nat} {w : World} {zs : List Int} (h : Tb g w T zs) (hk : k < zs.length) : w.cell? ⟨T, k, none⟩ = some (.int .i64 zs[k]) := by
  simp only [World.cell?, h.2]
  simp [hk]
theorem Tb.new {g : Nat} {w : World} (zs : List Int) (hg : g < w.heap.size) : Tb g (w.alloc (.cells (zs.map (fun z => Value.int .i64 z)).toArray 2)) w.heap.size zs := ⟨by omega, heap_alloc_new _ _⟩
/-- What each operation of the region leaves. -/
def FM (g B0 : Nat) (tm : Int) (k : Nat) (v : Value) (w : World) : Prop :=
  match k with
  | 0 => ∃ T, v = .slice (some ⟨T, 0, none⟩) 6 6 ∧ Tb g w T [1, 1, 1, 2, 2, 3]
  | 1 => v = .pointer (some ⟨g, 0, none⟩)
  | 2 => ∃ n : Nat, v = .int .i64 n ∧ n < 6
  | 3 => ∃ T n, v = .pointer (some ⟨T, n, none⟩) ∧ n < 6 ∧ Tb g w T [1, 1, 1, 2, 2, 3]
  | 4 => ∃ z : Int, v = .int .i64 z
  | 5 => v = .pointer (some ⟨g, 0, none⟩)
  | 6 => ∃ z : Int, v = .int .i64 z ∧ 0 ≤ z ∧ z < 7
  | 7 => v = .pointer (some ⟨g, 0, none⟩)
  | 8 => ∃ z : Int, v = .int .i64 z ∧ 0 ≤ z ∧ z < 2
  | 9 => ∃ z : Int, v = .int .i64 z
  | 10 => ∃ T, v = .slice (some ⟨T, 0, none⟩) 4 4 ∧ Tb g w T [1, 1, 2, 3]
  | 11 => v = .pointer (some ⟨g, 0, none⟩)
  | 12 => ∃ n : Nat, v = .int .i64 n ∧ n < 4
  | 13 => ∃ T n, v = .pointer (some ⟨T, n, none⟩) ∧ n < 4 ∧ Tb g w T [1, 1, 2, 3]
  | 14 => ∃ z : Int, v = .int .i64 z
  | 15 => v = .pointer (some ⟨g, 0, none⟩)
  | 16 => ∃ z : Int, v = .int .i64 z
  | 17 => v = .int .i64 tm
  | 18 => ∃ m : Mv, v = aM m ∧ m.person ≠ 700
  | 19 => ∃ B, v = .pointer (some ⟨B, 0, none⟩) ∧ B ≠ g ∧ B0 ≤ B ∧ w.heap[B]? = some (.cells #[.int .i64 0, .int .i64 0, .int .i64 0, .int .i64 0, .int .i64 0, .int .i64 0] 29 (0, 0))
  | _ => True
theorem FM_keep {g B0 : Nat} {tm : Int} {w w' : World} (hk : Keep g w w') (k : Nat) (v : Value) (h : FM g B0 tm k v w) : FM g B0 tm k v w' := by
  unfold FM at *
  split at h <;> first
    | exact h
    | (obtain ⟨T, h1, h2⟩ := h; exact ⟨T, h1, h2.keep hk⟩)
    | (obtain ⟨T, n, h1, h2, h3⟩ := h; exact ⟨T, n, h1, h2, h3.keep hk⟩)
    | (obtain ⟨B, h1, h2, h3, h4⟩ := h; exact ⟨B, h1, h2, h3, (hk.block B (Array.getElem?_eq_some_iff.1 h4).1 h2).trans h4⟩)
theorem sizesM : (Rg.opsOf Try.f36 1).size = 21 := by kernel_rfl

set_option maxRecDepth 20000 in
set_option maxHeartbeats 4000000 in
theorem regM {Q : Exit → Act → World → Prop} {a : Act} {w0 w1 : World} {g R : Nat} {ao : Option Addr} {cap : Nat} {bs : List Int} {tm : Int} (ha : a.tmps.size = 69)
    (k0 : a.tmps[0]? = some (.pointer (some ⟨g, 0, none⟩))) (k1 : a.tmps[1]? = some (.int .i64 tm)) (hc : Cur w1 g ao cap bs) (hk : Keep g w0 w1) (hgg : g < w0.heap.size) (hR : w0.heap.size ≤ R) (hr : w1.heap[R]? = some (.cells #[.int .i64 0, .int .i64 0, .int .i64 0, .int .i64 0, .int .i64 0, .int .i64 0] 29 (0, 0)))
    (hend : ∀ b' W B m, Rg.Fr (Rg.opsOf Try.f36 1) a b' → DM w0 W g R B ao cap bs m → m.person ≠ 700 → Rg.out (Rg.opsOf Try.f36 1) b' 19 = .pointer (some ⟨B, 0, none⟩) → Q .normal b' W) :
    (Code.region 1 (Rg.opsOf Try.f36 1) true).wp Try.prog Q a w1 := by
  have hRl : R < w1.heap.size := (Array.getElem?_eq_some_iff.1 hr).1
  refine Rg.region_by 20 (by kernel_rfl) (fun w' => Cur w' g ao cap bs ∧ Keep g w1 w') (FM g w1.heap.size tm) (by rw [ha]; kernel_rfl) ⟨hc.drewN 1, (Keep.refl g w1).drewN 1⟩ ?_ ?_ (fun h => absurd h (by rw [sizesM]; decide))
  case refine_2 =>
    intro _ bb w' hf hI hA
    obtain ⟨m, hm, hmf⟩ := hA 18 (by rw [sizesM]; decide) (by decide)
    obtain ⟨B, hB, hBg, hBl, hBh⟩ := hA 19 (by rw [sizesM]; decide) (by decide)
    have q18 : bb.tmps[24]? = some _ := hf.tmp (k := 18) rfl (by rw [ha]; decide) hm
    have q19 : bb.tmps[5]? = some _ := hf.tmp (k := 19) rfl (by rw [ha]; decide) hB
    have hrr := (hI.2.block R hRl (by omega)).trans hr
    have hne : B ≠ R := by omega
    obtain ⟨kd, pr, sx, nd, bd, t⟩ := m
    have c0 : w'.cell? ⟨B, 0, none⟩ = some (.int .i64 0) := by simp only [World.cell?, hBh]; rfl
    have c1 : w'.cell? ⟨B, 1, none⟩ = some (.int .i64 0) := by simp only [World.cell?, hBh]; rfl
    have c2 : w'.cell? ⟨B, 2, none⟩ = some (.int .i64 0) := by simp only [World.cell?, hBh]; rfl
    have c3 : w'.cell? ⟨B, 3, none⟩ = some (.int .i64 0) := by simp only [World.cell?, hBh]; rfl
    have c4 : w'.cell? ⟨B, 4, none⟩ = some (.int .i64 0) := by simp only [World.cell?, hBh]; rfl
    have c5 : w'.cell? ⟨B, 5, none⟩ = some (.int .i64 0) := by simp only [World.cell?, hBh]; rfl
    have fz : ∀ j, w'.frozen? ⟨B, j, none⟩ = false := fun j => by simp only [World.frozen?, hBh]; simp
    have f0 := fz 0
    have f1 := fz 1
    have f2 := fz 2
    have f3 := fz 3
    have f4 := fz 4
    have f5 := fz 5
    have hX := six_setsM hBh (.int .i64 kd) (.int .i64 pr) (.int .i64 sx) (.int .i64 nd) (.int .i64 bd) (.int .i64 t)
    have hD : DM w0 (w'.setRow B #[.int .i64 kd, .int .i64 pr, .int .i64 sx, .int .i64 nd, .int .i64 bd, .int .i64 t]) g R B ao cap bs ⟨kd, pr, sx, nd, bd, t⟩ := by
      have hk2 := hk.trans hI.2
      have hz1 := hk.size
      refine ⟨hI.1.below ⟨rfl, rfl, rfl, by simp, fun k hk => setRow_other _ _ _ _ (by omega)⟩, ⟨hk2.os, hk2.tape, hk2.output, by have := hk2.size; simpa using this, fun b hb hbg => (setRow_other _ _ _ _ (by omega)).trans (hk2.block b hb hbg)⟩, (setRow_other _ _ _ _ (fun e => hne e.symm)).trans hrr, setRow_heap _ _ _ _ _ _ hBh, hne, ⟨hR, by omega⟩, ⟨by omega, by omega⟩⟩
    have hE := hend bb _ B _ hf hD hmf hB
    unfold aM at q18
    clear hA hend hf hD hI hm hB hBh hrr fz
    refine Rg.op_skip (o := ⟨none, Op.store 29 (Operand.tmp 5) (Operand.tmp 24), _, _, _, _⟩) (w' := w'.setRow B #[.int .i64 kd, .int .i64 pr, .int .i64 sx, .int .i64 nd, .int .i64 bd, .int .i64 t]) rfl rfl ?_ hE
    rw [← hX]
    clear hX hE
    simp only [execOp]
    go_simp
  case refine_1 =>
    clear hend
    have HS : ∀ {w w' : World}, Keep g w w' → ∀ k y, FM g w1.heap.size tm k y w → FM g w1.heap.size tm k y w' := fun hb k y h => FM_keep hb k y h
    intro i' hi' hne
    rw [sizesM] at hi'
    rcases (show i' = 0 ∨ i' = 1 ∨ i' = 2 ∨ i' = 3 ∨ i' = 4 ∨ i' = 5 ∨ i' = 6 ∨ i' = 7 ∨ i' = 8 ∨ i' = 9 ∨ i' = 10 ∨ i' = 11 ∨ i' = 12 ∨ i' = 13 ∨ i' = 14 ∨ i' = 15 ∨ i' = 16 ∨ i' = 17 ∨ i' = 18 ∨ i' = 19 by omega) with rfl | rfl | rfl | rfl | rfl | rfl | rfl | rfl | rfl | rfl | rfl | rfl | rfl | rfl | rfl | rfl | rfl | rfl | rfl | rfl
    · intro bb w' hf hI hA
      clear hi' hne
      have hK : Keep g w' (w'.alloc (.cells #[.int .i64 1, .int .i64 1, .int .i64 1, .int .i64 2, .int .i64 2, .int .i64 3] 2)) := (Keep.refl g w').alloc _
      have hT := Tb.new (g := g) (w := w') [1, 1, 1, 2, 2, 3] hI.1.1
      exact Rg.op_value (o := ⟨some 6, Op.buildSlice 40 6 #[(0, Operand.const (Value.int .i64 1)), (1, Operand.const (Value.int .i64 1)), (2, Operand.const (Value.int .i64 1)), (3, Operand.const (Value.int .i64 2)), (4, Operand.const (Value.int .i64 2)), (5, Operand.const (Value.int .i64 3))], _, _, _, _⟩) (x := .slice (some ⟨w'.heap.size, 0, none⟩) 6 6) (w' := w'.alloc (.cells #[.int .i64 1, .int .i64 1, .int .i64 1, .int .i64 2, .int .i64 2, .int .i64 3] 2)) rfl rfl (by clear hA HS; simp only [execOp]; go_simp) ⟨_, rfl, (fun h => by cases h), ⟨_, rfl, hT⟩, ⟨hI.1.below ((Below.refl _ _).alloc hI.1.1 _), hI.2.trans hK⟩, HS hK⟩
    · intro bb w' hf hI hA
      clear hi' hne
      have q0 := hf.kept (s := 0) (by rw [sizesM]; kernel_rfl) k0
      exact Rg.op_value (o := ⟨some 7, Op.move (Operand.tmp 0), _, _, _, _⟩) rfl rfl rfl ⟨_, rfl, (fun h => by cases h), (by show Act.eval bb _ = _; simp [Act.eval, q0]), hI, fun _ _ h => h⟩
    · intro bb w' hf hI hA
      clear hi' hne
      have q1 : bb.tmps[7]? = some _ := hf.tmp (k := 1) rfl (by rw [ha]; decide) (hA 1 (by kernel_rfl))
      refine Rg.op_call (o := ⟨some 8, Op.call { callee := Callee.value (Operand.func 49), args := #[Operand.tmp 7, Operand.const (Value.int .i64 6)], argTypes := _ }, _, _, _, _⟩) rfl rfl (by clear hA HS; simp only [execOp, resolve]; go_simp) (below_any g ao cap bs 6 w' hI.1 (by omega)) ?_
      rintro e w2 ⟨x, rfl, hx0, hx1, hc2, hk2⟩
      obtain ⟨n, rfl⟩ := Int.eq_ofNat_of_zero_le hx0
      exact ⟨_, rfl, _, rfl, (fun h => by cases h), ⟨n, rfl, by omega⟩, ⟨hc2, hI.2.trans hk2⟩, HS hk2⟩
    · intro bb w' hf hI hA
      clear hi' hne
      obtain ⟨T, hT, hTb⟩ := hA 0 (by kernel_rfl)
      obtain ⟨n, hn, hnl⟩ := hA 2 (by kernel_rfl)
      have qt : bb.tmps[6]? = some _ := hf.tmp (k := 0) rfl (by rw [ha]; decide) hT
      have qn : bb.tmps[8]? = some _ := hf.tmp (k := 2) rfl (by rw [ha]; decide) hn
      have hnl2 : (n : Int) < 6 := by omega
      exact Rg.op_value (o := ⟨some 9, Op.indexAddr 40 (Operand.tmp 6) (Operand.tmp 8), _, _, _, _⟩) (x := .pointer (some ⟨T, n, none⟩)) rfl rfl (by clear hA HS hT hn hTb; simp only [execOp]; go_simp) ⟨_, rfl, (fun h => by cases h), ⟨T, n, rfl, hnl, hTb⟩, hI, fun _ _ h => h⟩
    · intro bb w' hf hI hA
      clear hi' hne
      obtain ⟨T, n, hp, hnl, hTb⟩ := hA 3 (by kernel_rfl)
      have qp : bb.tmps[9]? = some _ := hf.tmp (k := 3) rfl (by rw [ha]; decide) hp
      have hcell := hTb.at hnl
      generalize hz : ([1, 1, 1, 2, 2, 3] : List Int)[n] = z at hcell
      exact Rg.op_value (o := ⟨some 10, Op.load 2 (Operand.tmp 9), _, _, _, _⟩) (x := .int .i64 z) rfl rfl (by clear hA HS hp hTb hz; simp only [execOp]; go_simp) ⟨_, rfl, (fun h => by cases h), ⟨z, rfl⟩, hI, fun _ _ h => h⟩
    · intro bb w' hf hI hA
      clear hi' hne
      have q0 := hf.kept (s := 0) (by rw [sizesM]; kernel_rfl) k0
      exact Rg.op_value (o := ⟨some 11, Op.move (Operand.tmp 0), _, _, _, _⟩) rfl rfl rfl ⟨_, rfl, (fun h => by cases h), (by show Act.eval bb _ = _; simp [Act.eval, q0]), hI, fun _ _ h => h⟩
    · intro bb w' hf hI hA
      clear hi' hne
      have q5 : bb.tmps[11]? = some _ := hf.tmp (k := 5) rfl (by rw [ha]; decide) (hA 5 (by kernel_rfl))
      refine Rg.op_call (o := ⟨some 12, Op.call { callee := Callee.value (Operand.func 49), args := #[Operand.tmp 11, Operand.const (Value.int .i64 7)], argTypes := _ }, _, _, _, _⟩) rfl rfl (by clear hA HS; simp only [execOp, resolve]; go_simp) (below_any g ao cap bs 7 w' hI.1 (by omega)) ?_
      rintro e w2 ⟨x, rfl, hx0, hx1, hc2, hk2⟩
      exact ⟨_, rfl, _, rfl, (fun h => by cases h), ⟨x, rfl, hx0, hx1⟩, ⟨hc2, hI.2.trans hk2⟩, HS hk2⟩
    · intro bb w' hf hI hA
      clear hi' hne
      have q0 := hf.kept (s := 0) (by rw [sizesM]; kernel_rfl) k0
      exact Rg.op_value (o := ⟨some 13, Op.move (Operand.tmp 0), _, _, _, _⟩) rfl rfl rfl ⟨_, rfl, (fun h => by cases h), (by show Act.eval bb _ = _; simp [Act.eval, q0]), hI, fun _ _ h => h⟩
    · intro bb w' hf hI hA
      clear hi' hne
      have q7 : bb.tmps[13]? = some _ := hf.tmp (k := 7) rfl (by rw [ha]; decide) (hA 7 (by kernel_rfl))
      refine Rg.op_call (o := ⟨some 14, Op.call { callee := Callee.value (Operand.func 49), args := #[Operand.tmp 13, Operand.const (Value.int .i64 2)], argTypes := _ }, _, _, _, _⟩) rfl rfl (by clear hA HS; simp only [execOp, resolve]; go_simp) (below_any g ao cap bs 2 w' hI.1 (by omega)) ?_
      rintro e w2 ⟨x, rfl, hx0, hx1, hc2, hk2⟩
      exact ⟨_, rfl, _, rfl, (fun h => by cases h), ⟨x, rfl, hx0, hx1⟩, ⟨hc2, hI.2.trans hk2⟩, HS hk2⟩
    · intro bb w' hf hI hA
      clear hi' hne
      obtain ⟨z, hz, z0, z1⟩ := hA 8 (by kernel_rfl)
      have qz : bb.tmps[14]? = some _ := hf.tmp (k := 8) rfl (by rw [ha]; decide) hz
      exact Rg.op_value (o := ⟨some 15, Op.binOp BinOp.add 2 (Operand.const (Value.int .i64 1)) (Operand.tmp 14) 2, _, _, _, _⟩) (x := .int .i64 (1 + z)) rfl rfl (by clear hA HS hz; simp only [execOp]; go_simp; exact wrap_small (by omega) (by omega)) ⟨_, rfl, (fun h => by cases h), ⟨_, rfl⟩, hI, fun _ _ h => h⟩
    · intro bb w' hf hI hA
      clear hi' hne
      have hK : Keep g w' (w'.alloc (.cells #[.int .i64 1, .int .i64 1, .int .i64 2, .int .i64 3] 2)) := (Keep.refl g w').alloc _
      have hT := Tb.new (g := g) (w := w') [1, 1, 2, 3] hI.1.1
      exact Rg.op_value (o := ⟨some 16, Op.buildSlice 40 4 #[(0, Operand.const (Value.int .i64 1)), (1, Operand.const (Value.int .i64 1)), (2, Operand.const (Value.int .i64 2)), (3, Operand.const (Value.int .i64 3))], _, _, _, _⟩) (x := .slice (some ⟨w'.heap.size, 0, none⟩) 4 4) (w' := w'.alloc (.cells #[.int .i64 1, .int .i64 1, .int .i64 2, .int .i64 3] 2)) rfl rfl (by clear hA HS; simp only [execOp]; go_simp) ⟨_, rfl, (fun h => by cases h), ⟨_, rfl, hT⟩, ⟨hI.1.below ((Below.refl _ _).alloc hI.1.1 _), hI.2.trans hK⟩, HS hK⟩
    · intro bb w' hf hI hA
      clear hi' hne
      have q0 := hf.kept (s := 0) (by rw [sizesM]; kernel_rfl) k0
      exact Rg.op_value (o := ⟨some 17, Op.move (Operand.tmp 0), _, _, _, _⟩) rfl rfl rfl ⟨_, rfl, (fun h => by cases h), (by show Act.eval bb _ = _; simp [Act.eval, q0]), hI, fun _ _ h => h⟩
    · intro bb w' hf hI hA
      clear hi' hne
      have q11 : bb.tmps[17]? = some _ := hf.tmp (k := 11) rfl (by rw [ha]; decide) (hA 11 (by kernel_rfl))
      refine Rg.op_call (o := ⟨some 18, Op.call { callee := Callee.value (Operand.func 49), args := #[Operand.tmp 17, Operand.const (Value.int .i64 4)], argTypes := _ }, _, _, _, _⟩) rfl rfl (by clear hA HS; simp only [execOp, resolve]; go_simp) (below_any g ao cap bs 4 w' hI.1 (by omega)) ?_
      rintro e w2 ⟨x, rfl, hx0, hx1, hc2, hk2⟩
      obtain ⟨n, rfl⟩ := Int.eq_ofNat_of_zero_le hx0
      exact ⟨_, rfl, _, rfl, (fun h => by cases h), ⟨n, rfl, by omega⟩, ⟨hc2, hI.2.trans hk2⟩, HS hk2⟩
    · intro bb w' hf hI hA
      clear hi' hne
      obtain ⟨T, hT, hTb⟩ := hA 10 (by kernel_rfl)
      obtain ⟨n, hn, hnl⟩ := hA 12 (by kernel_rfl)
      have qt : bb.tmps[16]? = some _ := hf.tmp (k := 10) rfl (by rw [ha]; decide) hT
      have qn : bb.tmps[18]? = some _ := hf.tmp (k := 12) rfl (by rw [ha]; decide) hn
      have hnl2 : (n : Int) < 4 := by omega
      exact Rg.op_value (o := ⟨some 19, Op.indexAddr 40 (Operand.tmp 16) (Operand.tmp 18), _, _, _, _⟩) (x := .pointer (some ⟨T, n, none⟩)) rfl rfl (by clear hA HS hT hn hTb; simp only [execOp]; go_simp) ⟨_, rfl, (fun h => by cases h), ⟨T, n, rfl, hnl, hTb⟩, hI, fun _ _ h => h⟩
    · intro bb w' hf hI hA
      clear hi' hne
      obtain ⟨T, n, hp, hnl, hTb⟩ := hA 13 (by kernel_rfl)
      have qp : bb.tmps[19]? = some _ := hf.tmp (k := 13) rfl (by rw [ha]; decide) hp
      have hcell := hTb.at hnl
      generalize hz : ([1, 1, 2, 3] : List Int)[n] = z at hcell
      exact Rg.op_value (o := ⟨some 20, Op.load 2 (Operand.tmp 19), _, _, _, _⟩) (x := .int .i64 z) rfl rfl (by clear hA HS hp hTb hz; simp only [execOp]; go_simp) ⟨_, rfl, (fun h => by cases h), ⟨z, rfl⟩, hI, fun _ _ h => h⟩
    · intro bb w' hf hI hA
      clear hi' hne
      have q0 := hf.kept (s := 0) (by rw [sizesM]; kernel_rfl) k0
      exact Rg.op_value (o := ⟨some 21, Op.move (Operand.tmp 0), _, _, _, _⟩) rfl rfl rfl ⟨_, rfl, (fun h => by cases h), (by show Act.eval bb _ = _; simp [Act.eval, q0]), hI, fun _ _ h => h⟩
    · intro bb w' hf hI hA
      clear hi' hne
      have q15 : bb.tmps[21]? = some _ := hf.tmp (k := 15) rfl (by rw [ha]; decide) (hA 15 (by kernel_rfl))
      refine Rg.op_call (o := ⟨some 22, Op.call { callee := Callee.value (Operand.func 49), args := #[Operand.tmp 21, Operand.const (Value.int .i64 7)], argTypes := _ }, _, _, _, _⟩) rfl rfl (by clear hA HS; simp only [execOp, resolve]; go_simp) (below_any g ao cap bs 7 w' hI.1 (by omega)) ?_
      rintro e w2 ⟨x, rfl, hx0, hx1, hc2, hk2⟩
      exact ⟨_, rfl, _, rfl, (fun h => by cases h), ⟨x, rfl⟩, ⟨hc2, hI.2.trans hk2⟩, HS hk2⟩
    · intro bb w' hf hI hA
      clear hi' hne
      have q0 := hf.kept (s := 1) (by rw [sizesM]; kernel_rfl) k1
      exact Rg.op_value (o := ⟨some 23, Op.move (Operand.tmp 1), _, _, _, _⟩) rfl rfl rfl ⟨_, rfl, (fun h => by cases h), (by show Act.eval bb _ = _; simp [Act.eval, q0]), hI, fun _ _ h => h⟩
    · intro bb w' hf hI hA
      clear hi' hne
      obtain ⟨za, hva⟩ := hA 4 (by kernel_rfl)
      have qa : bb.tmps[10]? = some _ := hf.tmp (k := 4) rfl (by rw [ha]; decide) hva
      obtain ⟨zb, hvb, hb0, hb1⟩ := hA 6 (by kernel_rfl)
      have qb : bb.tmps[12]? = some _ := hf.tmp (k := 6) rfl (by rw [ha]; decide) hvb
      obtain ⟨zc, hvc⟩ := hA 9 (by kernel_rfl)
      have qc : bb.tmps[15]? = some _ := hf.tmp (k := 9) rfl (by rw [ha]; decide) hvc
      obtain ⟨zd, hvd⟩ := hA 14 (by kernel_rfl)
      have qd : bb.tmps[20]? = some _ := hf.tmp (k := 14) rfl (by rw [ha]; decide) hvd
      obtain ⟨ze, hve⟩ := hA 16 (by kernel_rfl)
      have qe : bb.tmps[22]? = some _ := hf.tmp (k := 16) rfl (by rw [ha]; decide) hve
      have qt : bb.tmps[23]? = some _ := hf.tmp (k := 17) rfl (by rw [ha]; decide) (hA 17 (by kernel_rfl))
      exact Rg.op_value (o := ⟨some 24, Op.build 29 #[(0, Operand.tmp 10), (1, Operand.tmp 12), (2, Operand.tmp 15), (3, Operand.tmp 20), (4, Operand.tmp 22), (5, Operand.tmp 23)], _, _, _, _⟩) (x := .agg #[.int .i64 za, .int .i64 zb, .int .i64 zc, .int .i64 zd, .int .i64 ze, .int .i64 tm]) rfl rfl (by clear hA HS; simp only [execOp]; go_simp) ⟨_, rfl, (fun h => by cases h), ⟨⟨za, zb, zc, zd, ze, tm⟩, rfl, (show zb ≠ 700 from by omega)⟩, hI, fun _ _ h => h⟩
    · intro bb w' hf hI hA
      clear hi' hne
      have hK : Keep g w' (w'.alloc (.cells #[.int .i64 0, .int .i64 0, .int .i64 0, .int .i64 0, .int .i64 0, .int .i64 0] 29)) := (Keep.refl g w').alloc _
      have hz := hI.2.size
      have hgl := hI.1.1
      exact Rg.op_value (o := ⟨some 5, Op.alloc 29, _, _, _, _⟩) (x := .pointer (some ⟨w'.heap.size, 0, none⟩)) (w' := w'.alloc (.cells #[.int .i64 0, .int .i64 0, .int .i64 0, .int .i64 0, .int .i64 0, .int .i64 0] 29)) rfl rfl (by clear hA HS; simp only [execOp]; go_simp) ⟨_, rfl, (fun h => by cases h), ⟨_, rfl, by omega, hz, heap_alloc_new _ _⟩, ⟨hI.1.below ((Below.refl _ _).alloc hI.1.1 _), hI.2.trans hK⟩, HS hK⟩
theorem Act.put_none (a : Act) (v : Value) : a.put none v = a := rfl
theorem dM_0 : Rg.dstAt (Rg.opsOf Try.f36 1) 0 = some 6 := by kernel_rfl
theorem dM_1 : Rg.dstAt (Rg.opsOf Try.f36 1) 1 = some 7 := by kernel_rfl
theorem dM_2 : Rg.dstAt (Rg.opsOf Try.f36 1) 2 = some 8 := by kernel_rfl
theorem dM_3 : Rg.dstAt (Rg.opsOf Try.f36 1) 3 = some 9 := by kernel_rfl
theorem dM_4 : Rg.dstAt (Rg.opsOf Try.f36 1) 4 = some 10 := by kernel_rfl
theorem dM_5 : Rg.dstAt (Rg.opsOf Try.f36 1) 5 = some 11 := by kernel_rfl
theorem dM_6 : Rg.dstAt (Rg.opsOf Try.f36 1) 6 = some 12 := by kernel_rfl
theorem dM_7 : Rg.dstAt (Rg.opsOf Try.f36 1) 7 = some 13 := by kernel_rfl
theorem dM_8 : Rg.dstAt (Rg.opsOf Try.f36 1) 8 = some 14 := by kernel_rfl
theorem dM_9 : Rg.dstAt (Rg.opsOf Try.f36 1) 9 = some 15 := by kernel_rfl
theorem dM_10 : Rg.dstAt (Rg.opsOf Try.f36 1) 10 = some 16 := by kernel_rfl
theorem dM_11 : Rg.dstAt (Rg.opsOf Try.f36 1) 11 = some 17 := by kernel_rfl
theorem dM_12 : Rg.dstAt (Rg.opsOf Try.f36 1) 12 = some 18 := by kernel_rfl
theorem dM_13 : Rg.dstAt (Rg.opsOf Try.f36 1) 13 = some 19 := by kernel_rfl
theorem dM_14 : Rg.dstAt (Rg.opsOf Try.f36 1) 14 = some 20 := by kernel_rfl
theorem dM_15 : Rg.dstAt (Rg.opsOf Try.f36 1) 15 = some 21 := by kernel_rfl
theorem dM_16 : Rg.dstAt (Rg.opsOf Try.f36 1) 16 = some 22 := by kernel_rfl
theorem dM_17 : Rg.dstAt (Rg.opsOf Try.f36 1) 17 = some 23 := by kernel_rfl
theorem dM_18 : Rg.dstAt (Rg.opsOf Try.f36 1) 18 = some 24 := by kernel_rfl
theorem dM_19 : Rg.dstAt (Rg.opsOf Try.f36 1) 19 = some 5 := by kernel_rfl
theorem dM_20 : Rg.dstAt (Rg.opsOf Try.f36 1) 20 = none := by kernel_rfl
theorem layM {a b : Act} (hf : Rg.Fr (Rg.opsOf Try.f36 1) a b) : b = ((((((((((((((((((((a.put (some 6) (Rg.out (Rg.opsOf Try.f36 1) b 0)).put (some 7) (Rg.out (Rg.opsOf Try.f36 1) b 1)).put (some 8) (Rg.out (Rg.opsOf Try.f36 1) b 2)).put (some 9) (Rg.out (Rg.opsOf Try.f36 1) b 3)).put (some 10) (Rg.out (Rg.opsOf Try.f36 1) b 4)).put (some 11) (Rg.out (Rg.opsOf Try.f36 1) b 5)).put (some 12) (Rg.out (Rg.opsOf Try.f36 1) b 6)).put (some 13) (Rg.out (Rg.opsOf Try.f36 1) b 7)).put (some 14) (Rg.out (Rg.opsOf Try.f36 1) b 8)).put (some 15) (Rg.out (Rg.opsOf Try.f36 1) b 9)).put (some 16) (Rg.out (Rg.opsOf Try.f36 1) b 10)).put (some 17) (Rg.out (Rg.opsOf Try.f36 1) b 11)).put (some 18) (Rg.out (Rg.opsOf Try.f36 1) b 12)).put (some 19) (Rg.out (Rg.opsOf Try.f36 1) b 13)).put (some 20) (Rg.out (Rg.opsOf Try.f36 1) b 14)).put (some 21) (Rg.out (Rg.opsOf Try.f36 1) b 15)).put (some 22) (Rg.out (Rg.opsOf Try.f36 1) b 16)).put (some 23) (Rg.out (Rg.opsOf Try.f36 1) b 17)).put (some 24) (Rg.out (Rg.opsOf Try.f36 1) b 18)).put (some 5) (Rg.out (Rg.opsOf Try.f36 1) b 19)) := by
  have h := hf.chain
  rw [sizesM, show List.range 21 = [0, 1, 2, 3, 4, 5, 6, 7, 8, 9, 10, 11, 12, 13, 14, 15, 16, 17, 18, 19, 20] from by decide] at h
  simp only [List.foldl_cons, List.foldl_nil, dM_0, dM_1, dM_2, dM_3, dM_4, dM_5, dM_6, dM_7, dM_8, dM_9, dM_10, dM_11, dM_12, dM_13, dM_14, dM_15, dM_16, dM_17, dM_18, dM_19, dM_20, Act.put_none] at h
  exact h
end Go.Proofs.Ytklgadaefngnnaa
