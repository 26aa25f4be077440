/-
 Merged: U61.
-/
import Derived.Test.YtjlpfpigggdemaaGreatDoorMi34
import Derived.Test.YtjlpfpigggdemaaGreatDoorMi14
import Derived.Test.YtjlpfpigggdemaaGreatDoorMi5
namespace Go.Proofs.YtjlpfpigggdemaaGreatDoor
set_option maxRecDepth 8000
set_option maxHeartbeats 4000000
open Go.RowKit Va Uo
set_option linter.all false
def zat (x : Dd) : Array Value := #[.int .i64 x.k, .int .i64 x.o.id, .int .i64 x.o.p, .int .i64 x.o.d, .int .i64 x.o.n, .int .i64 x.o.f, .int .i64 x.o.e, .int .i64 x.o.c, .int .i64 x.o.s, .bool x.o.two, .int .i64 x.id, .int .i64 x.p, .int .i64 x.d, .int .i64 x.n, .int .i64 x.m, .int .i64 x.b, .int .i64 x.a]
theorem zii {P : Program} {b : Act} {w w' : World} {o : Oper} (ty : TypeId) (x y : Operand) (ad : Addr) (v : Value) (ho : o.op = .store ty x y) (hx : b.eval x = .pointer (some ad)) (hy : b.eval y = v) (hl : (storeVar ty ad v).run P w = .ok () w') : (execOp b.eval o).run P w = .ok .skip w' := by
 unfold execOp
 simp only [ho, hx, hy, Instr.storeAt, Instr.sureAddr, Sem.run_bind, Sem.run_pure, Result.andThen_ok, hl]
theorem PB.keep {W W' : World} {g B : Nat} {vs : Array Value} {t : TypeId} (h : PB W B vs t) (hk : Keep g W W') (hg : B ≠ g) : PB W' B vs t := (hk.block B h.lt hg).trans h
theorem Keep.far {g V j n : Nat} {a b : World} (h : Keep g a b) (hV : a.heap.size <= V) (u : Value) : Keep g a (b.setCell ⟨V, j, none⟩ u) :=
 ⟨h.os, h.tape, h.output, by simpa [World.setCell] using h.size, fun i hi hg => (heap_setCell_other b ⟨V, j, none⟩ i u (fun e => by have e' : i = V := e; omega)).trans (h.block i hi hg)⟩
theorem Cur.far {w : World} {g cap V j : Nat} {ao : Option Addr} {bs : List Int} (h : Cur w g ao cap bs) (hV : g < V) (u : Value) : Cur (w.setCell ⟨V, j, none⟩ u) g ao cap bs := h.below ((Below.refl _ _).setCell (show g + 1 <= V by omega) u)
theorem Cur.alloc {w : World} {g cap : Nat} {ao : Option Addr} {bs : List Int} (h : Cur w g ao cap bs) (o : Obj) : Cur (w.alloc o) g ao cap bs := h.below ((Below.refl _ _).alloc h.1 _)
def Tb (g : Nat) (w : World) (T : Nat) (zs : List Int) : Prop := T ≠ g /\ PB w T (zs.map (fun z => Value.int .i64 z)).toArray 2
theorem Tb.keep {g T : Nat} {w w' : World} {zs : List Int} (h : Tb g w T zs) (hk : Keep g w w') : Tb g w' T zs := ⟨h.1, h.2.keep hk h.1⟩
theorem Tb.at {g T k : Nat} {w : World} {zs : List Int} (h : Tb g w T zs) (hk : k < zs.length) : w.cell? ⟨T, k, none⟩ = some (.int .i64 zs[k]) := by
 rw [h.2.cell]
 simp [hk]
theorem Tb.new {g : Nat} {w : World} (zs : List Int) (hg : g < w.heap.size) : Tb g (w.alloc (.cells (zs.map (fun z => Value.int .i64 z)).toArray 2)) w.heap.size zs := ⟨by omega, PB.new _ _ _⟩
def FQ1 (n1 g : Nat) (tm : Int) (i9 : Nat) (v : Value) (w : World) : Prop :=
 match i9 with
 | 0 => ∃ T zs, v = .slice (some ⟨T, 0, none⟩) 12 12 /\ zs.length = 12 /\ n1 <= T /\ Tb g w T zs
 | 1 => v = .pointer (some ⟨g, 0, none⟩)
 | 2 => ∃ n : Nat, v = .int .i64 n /\ n < 12
 | 3 => ∃ T n zs, v = .pointer (some ⟨T, n, none⟩) /\ n < zs.length /\ n1 <= T /\ Tb g w T zs
 | 4 => ∃ z : Int, v = .int .i64 z
 | 5 => v = .pointer (some ⟨g, 0, none⟩)
 | 6 => ∃ y : Od, v = aOd y
 | 7 => v = .pointer (some ⟨g, 0, none⟩)
 | 8 => ∃ n : Nat, v = .int .i64 n /\ n < 6
 | 9 => ∃ z : Int, v = .int .i64 z
 | 10 => v = .pointer (some ⟨g, 0, none⟩)
 | 11 => ∃ n : Nat, v = .int .i64 n /\ n < 3
 | 12 => v = .pointer (some ⟨g, 0, none⟩)
 | 13 => ∃ n : Nat, v = .int .i64 n /\ n < 3
 | 14 => ∃ z : Int, v = .int .i64 z
 | 15 => v = .int .i64 tm
 | 16 => v = .pointer (some ⟨g, 0, none⟩)
 | 17 => ∃ n : Nat, v = .int .i64 n /\ n < 4
 | 18 => ∃ x : Dd, v = aDd x
 | 19 => ∃ B, v = .pointer (some ⟨B, 0, none⟩) /\ n1 <= B /\ PB w B #[.int .i64 0, .int .i64 0, .int .i64 0, .int .i64 0, .int .i64 0, .int .i64 0, .int .i64 0, .int .i64 0, .int .i64 0, .bool false, .int .i64 0, .int .i64 0, .int .i64 0, .int .i64 0, .int .i64 0, .int .i64 0, .int .i64 0] 40
 | 20 => True
 | _ => True
theorem keepQ1 {n1 g : Nat} {tm : Int} {w w' : World} (hg : g < n1) (hk : Keep g w w') (k9 : Nat) (v : Value) (h : FQ1 n1 g tm k9 v w) : FQ1 n1 g tm k9 v w' := by
 unfold FQ1 at *
 split at h <;> first
  | exact h
  | (obtain ⟨T, zs, h1, h2, h3, h4⟩ := h; exact ⟨T, zs, h1, h2, h3, h4.keep hk⟩)
  | (obtain ⟨T, n, zs, h1, h2, h3, h4⟩ := h; exact ⟨T, n, zs, h1, h2, h3, h4.keep hk⟩)
  | (obtain ⟨B, h1, h2, h3⟩ := h; exact ⟨B, h1, h2, h3.keep hk (by omega)⟩)
  | (obtain ⟨B, y1, h1, h2, h3⟩ := h; exact ⟨B, y1, h1, h2, h3.keep hk (by omega)⟩)
  | (obtain ⟨B, y1, y2, h1, h2, h3⟩ := h; exact ⟨B, y1, y2, h1, h2, h3.keep hk (by omega)⟩)
  | (obtain ⟨B, y1, y2, y3, h1, h2, h3⟩ := h; exact ⟨B, y1, y2, y3, h1, h2, h3.keep hk (by omega)⟩)
  | (obtain ⟨B, y1, y2, y3, y4, h1, h2, h3⟩ := h; exact ⟨B, y1, y2, y3, y4, h1, h2, h3.keep hk (by omega)⟩)
theorem zca : (Rg.opsOf Tryz.f51 1).size = 21 := by kernel_rfl
set_option maxRecDepth 20000 in
set_option maxHeartbeats 16000000 in
theorem regQ1 {Q : Exit -> Act -> World -> Prop} {a : Act} {w1 : World} {g : Nat} {ao : Option Addr} {cap : Nat} {bs : List Int} {tm : Int} (ha : a.tmps.size = 126)
  (k2 : a.tmps[2]? = some (.int .i64 tm)) (k0 : a.tmps[0]? = some (.pointer (some ⟨g, 0, none⟩))) (hc : Cur w1 g ao cap bs) 
  (hend : ∀ b' w' (B : Nat) (x : Dd), Rg.Fr (Rg.opsOf Tryz.f51 1) a b' -> Cur w' g ao cap bs -> Keep g w1 w' -> Rg.out (Rg.opsOf Tryz.f51 1) b' 19 = .pointer (some ⟨B, 0, none⟩) -> w1.heap.size <= B -> PB w' B #[.int .i64 0, .int .i64 0, .int .i64 0, .int .i64 0, .int .i64 0, .int .i64 0, .int .i64 0, .int .i64 0, .int .i64 0, .bool false, .int .i64 0, .int .i64 0, .int .i64 0, .int .i64 0, .int .i64 0, .int .i64 0, .int .i64 0] 40 -> Q .normal b' (w'.setRow B (zat x))) :
  (Code.region 1 (Rg.opsOf Tryz.f51 1) true).wp Tryz.prog Q a w1 := by
 have hg1 : g < w1.heap.size := hc.1
 refine Rg.zfb 20 (by kernel_rfl) (fun w' => Cur w' g ao cap bs /\ Keep g w1 w') (FQ1 w1.heap.size g tm) (by rw [ha]; kernel_rfl) ⟨hc.drewN 1, (Keep.refl g w1).drewN 1⟩ ?_ ?_ ?_
 case refine_3 => exact fun h => absurd h (by rw [zca]; decide)
 case refine_2 =>
  intro _ bb w' hf hI hA
  rw [zca] at hA
  obtain ⟨x27, hv27⟩ := hA 18 (by decide) (by decide)
  have q27 : bb.tmps[27]? = some _ := hf.tmp (k := 18) rfl (by rw [ha]; decide) hv27
  obtain ⟨B7, hv7, hB7, hP7⟩ := hA 19 (by decide) (by decide)
  have q7 : bb.tmps[7]? = some _ := hf.tmp (k := 19) rfl (by rw [ha]; decide) hv7
  have hE := hend bb w' B7 x27 hf hI.1 hI.2 hv7 hB7 hP7
  exact Rg.zaq (o := ⟨none, Op.store 40 (Operand.tmp 7) (Operand.tmp 27), _, _, _, _⟩) (w' := w'.setRow B7 (zat x27)) rfl rfl (zii 40 (.tmp 7) (.tmp 27) ⟨B7, 0, none⟩ (.agg (zat x27)) rfl (by simp [Act.eval, q7]) (by simp [Act.eval, q27]; rfl) (run_storeVar_row w' B7 _ 40 _ _ hP7 (by kernel_rfl) rfl (by simp [zat, Value.oneCell']))) hE
 case refine_1 =>
  clear hend
  have HS : ∀ {w w' : World}, Keep g w w' -> ∀ k9 y9, FQ1 w1.heap.size g tm k9 y9 w -> FQ1 w1.heap.size g tm k9 y9 w' := fun hb k9 y9 h => keepQ1 hg1 hb k9 y9 h
  intro i' hi' hne
  rw [zca] at hi'
  rcases (show i' = 0 ∨ i' = 1 ∨ i' = 2 ∨ i' = 3 ∨ i' = 4 ∨ i' = 5 ∨ i' = 6 ∨ i' = 7 ∨ i' = 8 ∨ i' = 9 ∨ i' = 10 ∨ i' = 11 ∨ i' = 12 ∨ i' = 13 ∨ i' = 14 ∨ i' = 15 ∨ i' = 16 ∨ i' = 17 ∨ i' = 18 ∨ i' = 19 by omega) with rfl | rfl | rfl | rfl | rfl | rfl | rfl | rfl | rfl | rfl | rfl | rfl | rfl | rfl | rfl | rfl | rfl | rfl | rfl | rfl
  ·intro bb w' hf hI hA
   clear hi' hne
   have hK : Keep g w' (w'.alloc (.cells #[.int .i64 1, .int .i64 2, .int .i64 2, .int .i64 2, .int .i64 3, .int .i64 4, .int .i64 5, .int .i64 5, .int .i64 5, .int .i64 5, .int .i64 5, .int .i64 5] 2)) := (Keep.refl g w').alloc _
   have hT := Tb.new (g := g) (w := w') [1, 2, 2, 2, 3, 4, 5, 5, 5, 5, 5, 5] hI.1.1
   exact Rg.zf (o := ⟨some 9, Op.buildSlice 46 12 #[(0, (Operand.const (Value.int .i64 1))), (1, (Operand.const (Value.int .i64 2))), (2, (Operand.const (Value.int .i64 2))), (3, (Operand.const (Value.int .i64 2))), (4, (Operand.const (Value.int .i64 3))), (5, (Operand.const (Value.int .i64 4))), (6, (Operand.const (Value.int .i64 5))), (7, (Operand.const (Value.int .i64 5))), (8, (Operand.const (Value.int .i64 5))), (9, (Operand.const (Value.int .i64 5))), (10, (Operand.const (Value.int .i64 5))), (11, (Operand.const (Value.int .i64 5)))], _, _, _, _⟩) (x := .slice (some ⟨w'.heap.size, 0, none⟩) 12 12) (w' := w'.alloc (.cells #[.int .i64 1, .int .i64 2, .int .i64 2, .int .i64 2, .int .i64 3, .int .i64 4, .int .i64 5, .int .i64 5, .int .i64 5, .int .i64 5, .int .i64 5, .int .i64 5] 2)) rfl rfl (by clear hA HS; simp only [execOp]; go_simp) ⟨_, rfl, (fun h => by cases h), ⟨_, _, rfl, rfl, hI.2.size, hT⟩, ⟨(hI.1.alloc _), hI.2.trans hK⟩, HS hK⟩
  ·intro bb w' hf hI hA
   clear hi' hne
   have q0 := hf.kept (s := 0) (by rw [zca]; kernel_rfl) k0
   exact Rg.zf (o := ⟨some 10, Op.move (Operand.tmp 0), _, _, _, _⟩) (x := .pointer (some ⟨g, 0, none⟩)) rfl rfl (by clear hA HS ; simp only [execOp]; go_simp) ⟨_, rfl, (fun h => by cases h), rfl, hI, fun _ _ h => h⟩
  ·intro bb w' hf hI hA
   clear hi' hne
   have q10 : bb.tmps[10]? = some _ := hf.tmp (k := 1) rfl (by rw [ha]; decide) (hA 1 (by kernel_rfl))
   refine Rg.jr (o := ⟨some 11, Op.call { callee := Callee.value (Operand.func 13), args := #[(Operand.tmp 10), (Operand.const (Value.int .i64 12))], argTypes := _ }, _, _, _, _⟩) rfl rfl (by clear hA HS  ; simp only [execOp, resolve]; go_simp) (qh g ao cap bs 12 w' hI.1 (by omega)) ?_
   rintro e w2 ⟨y, rfl, hx0, hx1, hc2, hk2⟩
   obtain ⟨n, rfl⟩ := Int.eq_ofNat_of_zero_le hx0
   exact ⟨_, rfl, _, rfl, (fun h => by cases h), ⟨n, rfl, by omega⟩, ⟨hc2, hI.2.trans hk2⟩, HS hk2⟩
  ·intro bb w' hf hI hA
   clear hi' hne
   obtain ⟨T9, zs9, hv9, hl9, hT9, hb9⟩ := hA 0 (by kernel_rfl)
   have q9 : bb.tmps[9]? = some _ := hf.tmp (k := 0) rfl (by rw [ha]; decide) hv9
   obtain ⟨n11, hv11, hn11⟩ := hA 2 (by kernel_rfl)
   have q11 : bb.tmps[11]? = some _ := hf.tmp (k := 2) rfl (by rw [ha]; decide) hv11
   have hnl : (n11 : Int) < 12 := by omega
   exact Rg.zf (o := ⟨some 12, Op.indexAddr 46 (Operand.tmp 9) (Operand.tmp 11), _, _, _, _⟩) (x := .pointer (some ⟨T9, n11, none⟩)) rfl rfl (by clear hA HS hv9  hv11  hb9 hl9; simp only [execOp]; go_simp) ⟨_, rfl, (fun h => by cases h), ⟨T9, n11, zs9, rfl, by omega, hT9, hb9⟩, hI, fun _ _ h => h⟩
  ·intro bb w' hf hI hA
   clear hi' hne
   obtain ⟨T12, n12, zs12, hv12, hl12, hT12, hb12⟩ := hA 3 (by kernel_rfl)
   have q12 : bb.tmps[12]? = some _ := hf.tmp (k := 3) rfl (by rw [ha]; decide) hv12
   have hcell := hb12.at hl12
   generalize hz : zs12[n12] = z at hcell
   exact Rg.zf (o := ⟨some 13, Op.load 2 (Operand.tmp 12), _, _, _, _⟩) (x := .int .i64 z) rfl rfl (by clear hA HS hv12  hb12 hz; simp only [execOp]; go_simp) ⟨_, rfl, (fun h => by cases h), ⟨z, rfl⟩, hI, fun _ _ h => h⟩
  ·intro bb w' hf hI hA
   clear hi' hne
   have q0 := hf.kept (s := 0) (by rw [zca]; kernel_rfl) k0
   exact Rg.zf (o := ⟨some 14, Op.move (Operand.tmp 0), _, _, _, _⟩) (x := .pointer (some ⟨g, 0, none⟩)) rfl rfl (by clear hA HS ; simp only [execOp]; go_simp) ⟨_, rfl, (fun h => by cases h), rfl, hI, fun _ _ h => h⟩
  ·intro bb w' hf hI hA
   clear hi' hne
   have q14 : bb.tmps[14]? = some _ := hf.tmp (k := 5) rfl (by rw [ha]; decide) (hA 5 (by kernel_rfl))
   refine Rg.jr (o := ⟨some 15, Op.call { callee := Callee.value (Operand.func 49), args := #[(Operand.tmp 14)], argTypes := _ }, _, _, _, _⟩) rfl rfl (by clear hA HS ; simp only [execOp, resolve]; go_simp) (zgx g ao cap bs w' hI.1) ?_
   rintro e w2 ⟨⟨y, rfl⟩, hc2, hk2⟩
   exact ⟨_, rfl, _, rfl, (fun h => by cases h), ⟨_, rfl⟩, ⟨hc2, hI.2.trans hk2⟩, HS hk2⟩
  ·intro bb w' hf hI hA
   clear hi' hne
   have q0 := hf.kept (s := 0) (by rw [zca]; kernel_rfl) k0
   exact Rg.zf (o := ⟨some 16, Op.move (Operand.tmp 0), _, _, _, _⟩) (x := .pointer (some ⟨g, 0, none⟩)) rfl rfl (by clear hA HS ; simp only [execOp]; go_simp) ⟨_, rfl, (fun h => by cases h), rfl, hI, fun _ _ h => h⟩
  ·intro bb w' hf hI hA
   clear hi' hne
   have q16 : bb.tmps[16]? = some _ := hf.tmp (k := 7) rfl (by rw [ha]; decide) (hA 7 (by kernel_rfl))
   refine Rg.jr (o := ⟨some 17, Op.call { callee := Callee.value (Operand.func 13), args := #[(Operand.tmp 16), (Operand.const (Value.int .i64 6))], argTypes := _ }, _, _, _, _⟩) rfl rfl (by clear hA HS  ; simp only [execOp, resolve]; go_simp) (qh g ao cap bs 6 w' hI.1 (by omega)) ?_
   rintro e w2 ⟨y, rfl, hx0, hx1, hc2, hk2⟩
   obtain ⟨n, rfl⟩ := Int.eq_ofNat_of_zero_le hx0
   exact ⟨_, rfl, _, rfl, (fun h => by cases h), ⟨n, rfl, by omega⟩, ⟨hc2, hI.2.trans hk2⟩, HS hk2⟩
  ·intro bb w' hf hI hA
   clear hi' hne
   obtain ⟨n17, hv17, hn17⟩ := hA 8 (by kernel_rfl)
   have q17 : bb.tmps[17]? = some _ := hf.tmp (k := 8) rfl (by rw [ha]; decide) hv17
   exact Rg.zf (o := ⟨some 18, Op.binOp BinOp.add 2 (Operand.const (Value.int .i64 1)) (Operand.tmp 17) 2, _, _, _, _⟩) (x := .int .i64 (IntKind.i64.wrap (1 + (n17 : Nat)))) rfl rfl (by clear hA HS  hv17 ; simp only [execOp]; go_simp) ⟨_, rfl, (fun h => by cases h), ⟨_, rfl⟩, hI, fun _ _ h => h⟩
  ·intro bb w' hf hI hA
   clear hi' hne
   have q0 := hf.kept (s := 0) (by rw [zca]; kernel_rfl) k0
   exact Rg.zf (o := ⟨some 19, Op.move (Operand.tmp 0), _, _, _, _⟩) (x := .pointer (some ⟨g, 0, none⟩)) rfl rfl (by clear hA HS ; simp only [execOp]; go_simp) ⟨_, rfl, (fun h => by cases h), rfl, hI, fun _ _ h => h⟩
  ·intro bb w' hf hI hA
   clear hi' hne
   have q19 : bb.tmps[19]? = some _ := hf.tmp (k := 10) rfl (by rw [ha]; decide) (hA 10 (by kernel_rfl))
   refine Rg.jr (o := ⟨some 20, Op.call { callee := Callee.value (Operand.func 13), args := #[(Operand.tmp 19), (Operand.const (Value.int .i64 3))], argTypes := _ }, _, _, _, _⟩) rfl rfl (by clear hA HS  ; simp only [execOp, resolve]; go_simp) (qh g ao cap bs 3 w' hI.1 (by omega)) ?_
   rintro e w2 ⟨y, rfl, hx0, hx1, hc2, hk2⟩
   obtain ⟨n, rfl⟩ := Int.eq_ofNat_of_zero_le hx0
   exact ⟨_, rfl, _, rfl, (fun h => by cases h), ⟨n, rfl, by omega⟩, ⟨hc2, hI.2.trans hk2⟩, HS hk2⟩
  ·intro bb w' hf hI hA
   clear hi' hne
   have q0 := hf.kept (s := 0) (by rw [zca]; kernel_rfl) k0
   exact Rg.zf (o := ⟨some 21, Op.move (Operand.tmp 0), _, _, _, _⟩) (x := .pointer (some ⟨g, 0, none⟩)) rfl rfl (by clear hA HS ; simp only [execOp]; go_simp) ⟨_, rfl, (fun h => by cases h), rfl, hI, fun _ _ h => h⟩
  ·intro bb w' hf hI hA
   clear hi' hne
   have q21 : bb.tmps[21]? = some _ := hf.tmp (k := 12) rfl (by rw [ha]; decide) (hA 12 (by kernel_rfl))
   refine Rg.jr (o := ⟨some 22, Op.call { callee := Callee.value (Operand.func 13), args := #[(Operand.tmp 21), (Operand.const (Value.int .i64 3))], argTypes := _ }, _, _, _, _⟩) rfl rfl (by clear hA HS  ; simp only [execOp, resolve]; go_simp) (qh g ao cap bs 3 w' hI.1 (by omega)) ?_
   rintro e w2 ⟨y, rfl, hx0, hx1, hc2, hk2⟩
   obtain ⟨n, rfl⟩ := Int.eq_ofNat_of_zero_le hx0
   exact ⟨_, rfl, _, rfl, (fun h => by cases h), ⟨n, rfl, by omega⟩, ⟨hc2, hI.2.trans hk2⟩, HS hk2⟩
  ·intro bb w' hf hI hA
   clear hi' hne
   obtain ⟨n22, hv22, hn22⟩ := hA 13 (by kernel_rfl)
   have q22 : bb.tmps[22]? = some _ := hf.tmp (k := 13) rfl (by rw [ha]; decide) hv22
   exact Rg.zf (o := ⟨some 23, Op.binOp BinOp.add 2 (Operand.const (Value.int .i64 1)) (Operand.tmp 22) 2, _, _, _, _⟩) (x := .int .i64 (IntKind.i64.wrap (1 + (n22 : Nat)))) rfl rfl (by clear hA HS  hv22 ; simp only [execOp]; go_simp) ⟨_, rfl, (fun h => by cases h), ⟨_, rfl⟩, hI, fun _ _ h => h⟩
  ·intro bb w' hf hI hA
   clear hi' hne
   have q2 := hf.kept (s := 2) (by rw [zca]; kernel_rfl) k2
   exact Rg.zf (o := ⟨some 24, Op.move (Operand.tmp 2), _, _, _, _⟩) (x := .int .i64 tm) rfl rfl (by clear hA HS ; simp only [execOp]; go_simp) ⟨_, rfl, (fun h => by cases h), rfl, hI, fun _ _ h => h⟩
  ·intro bb w' hf hI hA
   clear hi' hne
   have q0 := hf.kept (s := 0) (by rw [zca]; kernel_rfl) k0
   exact Rg.zf (o := ⟨some 25, Op.move (Operand.tmp 0), _, _, _, _⟩) (x := .pointer (some ⟨g, 0, none⟩)) rfl rfl (by clear hA HS ; simp only [execOp]; go_simp) ⟨_, rfl, (fun h => by cases h), rfl, hI, fun _ _ h => h⟩
  ·intro bb w' hf hI hA
   clear hi' hne
   have q25 : bb.tmps[25]? = some _ := hf.tmp (k := 16) rfl (by rw [ha]; decide) (hA 16 (by kernel_rfl))
   refine Rg.jr (o := ⟨some 26, Op.call { callee := Callee.value (Operand.func 13), args := #[(Operand.tmp 25), (Operand.const (Value.int .i64 4))], argTypes := _ }, _, _, _, _⟩) rfl rfl (by clear hA HS  ; simp only [execOp, resolve]; go_simp) (qh g ao cap bs 4 w' hI.1 (by omega)) ?_
   rintro e w2 ⟨y, rfl, hx0, hx1, hc2, hk2⟩
   obtain ⟨n, rfl⟩ := Int.eq_ofNat_of_zero_le hx0
   exact ⟨_, rfl, _, rfl, (fun h => by cases h), ⟨n, rfl, by omega⟩, ⟨hc2, hI.2.trans hk2⟩, HS hk2⟩
  ·intro bb w' hf hI hA
   clear hi' hne
   obtain ⟨z13, hv13⟩ := hA 4 (by kernel_rfl)
   have q13 : bb.tmps[13]? = some _ := hf.tmp (k := 4) rfl (by rw [ha]; decide) hv13
   obtain ⟨y15, hv15⟩ := hA 6 (by kernel_rfl)
   unfold aOd at hv15
   have q15 : bb.tmps[15]? = some _ := hf.tmp (k := 6) rfl (by rw [ha]; decide) hv15
   obtain ⟨z18, hv18⟩ := hA 9 (by kernel_rfl)
   have q18 : bb.tmps[18]? = some _ := hf.tmp (k := 9) rfl (by rw [ha]; decide) hv18
   obtain ⟨n20, hv20, hn20⟩ := hA 11 (by kernel_rfl)
   have q20 : bb.tmps[20]? = some _ := hf.tmp (k := 11) rfl (by rw [ha]; decide) hv20
   obtain ⟨z23, hv23⟩ := hA 14 (by kernel_rfl)
   have q23 : bb.tmps[23]? = some _ := hf.tmp (k := 14) rfl (by rw [ha]; decide) hv23
   have q24 : bb.tmps[24]? = some _ := hf.tmp (k := 15) rfl (by rw [ha]; decide) (hA 15 (by kernel_rfl))
   obtain ⟨n26, hv26, hn26⟩ := hA 17 (by kernel_rfl)
   have q26 : bb.tmps[26]? = some _ := hf.tmp (k := 17) rfl (by rw [ha]; decide) hv26
   exact Rg.zf (o := ⟨some 27, Op.build 40 #[(0, (Operand.tmp 13)), (1, (Operand.tmp 15)), (2, (Operand.tmp 18)), (3, (Operand.tmp 20)), (4, (Operand.tmp 23)), (5, (Operand.const (Value.int .i64 100))), (6, (Operand.tmp 24)), (7, (Operand.tmp 26)), (8, (Operand.const (Value.int IntKind.i64 (-1))))], _, _, _, _⟩) (x := .agg #[.int .i64 z13, .int .i64 y15.id, .int .i64 y15.p, .int .i64 y15.d, .int .i64 y15.n, .int .i64 y15.f, .int .i64 y15.e, .int .i64 y15.c, .int .i64 y15.s, .bool y15.two, .int .i64 z18, .int .i64 (n20 : Nat), .int .i64 z23, .int .i64 100, .int .i64 tm, .int .i64 (n26 : Nat), .int .i64 (-1)]) rfl rfl (by clear hA HS hv13  hv15  hv18  hv20  hv23   hv26 ; simp only [execOp]; go_simp) ⟨_, rfl, (fun h => by cases h), ⟨⟨z13, y15, z18, (n20 : Nat), z23, 100, tm, (n26 : Nat), (-1)⟩, rfl⟩, hI, fun _ _ h => h⟩
  ·intro bb w' hf hI hA
   clear hi' hne
   have hK : Keep g w' (w'.alloc (.cells #[.int .i64 0, .int .i64 0, .int .i64 0, .int .i64 0, .int .i64 0, .int .i64 0, .int .i64 0, .int .i64 0, .int .i64 0, .bool false, .int .i64 0, .int .i64 0, .int .i64 0, .int .i64 0, .int .i64 0, .int .i64 0, .int .i64 0] 40)) := (Keep.refl g w').alloc _
   exact Rg.zf (o := ⟨some 7, Op.alloc 40, _, _, _, _⟩) (x := .pointer (some ⟨w'.heap.size, 0, none⟩)) (w' := w'.alloc (.cells #[.int .i64 0, .int .i64 0, .int .i64 0, .int .i64 0, .int .i64 0, .int .i64 0, .int .i64 0, .int .i64 0, .int .i64 0, .bool false, .int .i64 0, .int .i64 0, .int .i64 0, .int .i64 0, .int .i64 0, .int .i64 0, .int .i64 0] 40)) rfl rfl (by clear hA HS; simp only [execOp]; go_simp) ⟨_, rfl, (fun h => by cases h), ⟨_, rfl, hI.2.size, PB.new _ _ _⟩, ⟨(hI.1.alloc _), hI.2.trans hK⟩, HS hK⟩
theorem pnQ1 (a : Act) (v : Value) : a.put none v = a := rfl
theorem layQ1 {a b : Act} (hf : Rg.Fr (Rg.opsOf Tryz.f51 1) a b) : b = Rg.fl (Rg.opsOf Tryz.f51 1) b 0 [some 9, some 10, some 11, some 12, some 13, some 14, some 15, some 16, some 17, some 18, some 19, some 20, some 21, some 22, some 23, some 24, some 25, some 26, some 27, some 7, none] a := Rg.ql _ (by kernel_rfl) hf
end Go.Proofs.YtjlpfpigggdemaaGreatDoor
