/-
 Merged: Shelf U15 U16.
-/
import Derived.Shelf.SlSortCmp.WholeK
import Derived.Test.YtjlpfpigggdemaaGreatDoorProg
import Derived.Test.YtjlpfpigggdemaaGreatDoorMi22
import Derived.Test.YtjlpfpigggdemaaGreatDoorMi13
namespace Go.Proofs
set_option maxRecDepth 8000
set_option maxHeartbeats 4000000
open Go.Shelf
def Tryz.srtF_ren : Go.Shelf.Ren := ⟨fun | 6 => 18 | 15 => 34 | 14 => 33 | 28 => 63 | 29 => 64 | 20 => 55 | 21 => 56 | 22 => 57 | 23 => 58 | 24 => 59 | 25 => 60 | 26 => 61 | 27 => 62 | 46 => 82 | 47 => 83 | 48 => 84 | 49 => 85 | 50 => 86 | 57 => 92 | n => n, fun | 22 => 30 | 24 => 33 | 25 => 56 | 3 => 3 | 39 => 71 | 0 => 0 | 53 => 99 | 55 => 101 | 4 => 4 | 46 => 93 | 45 => 92 | 50 => 88 | 5 => 5 | 9 => 9 | 66 => 123 | 70 => 127 | 76 => 145 | 77 => 146 | n => n, fun | n => n⟩
set_option maxRecDepth 20000 in
set_option maxHeartbeats 16000000 in
theorem Tryz.srtF : Go.Proofs.SlLaysF0.n6 Tryz.prog Tryz.srtF_ren := {
 mixed := by kernel_rfl
 f6 := ⟨Tryz.f18.name, by decide, Tryz.func18.trans (congrArg some (by kernel_rfl))⟩
 f14 := ⟨Tryz.f33.name, by decide, Tryz.func33.trans (congrArg some (by kernel_rfl))⟩
 f15 := Tryz.func34.trans (congrArg some (by kernel_rfl))
 f20 := ⟨Tryz.f55.name, by decide, Tryz.func55.trans (congrArg some (by kernel_rfl))⟩
 f21 := ⟨Tryz.f56.name, by decide, Tryz.func56.trans (congrArg some (by kernel_rfl))⟩
 f22 := ⟨Tryz.f57.name, by decide, Tryz.func57.trans (congrArg some (by kernel_rfl))⟩
 f23 := ⟨Tryz.f58.name, by decide, Tryz.func58.trans (congrArg some (by kernel_rfl))⟩
 f24 := ⟨Tryz.f59.name, by decide, Tryz.func59.trans (congrArg some (by kernel_rfl))⟩
 f25 := ⟨Tryz.f60.name, by decide, Tryz.func60.trans (congrArg some (by kernel_rfl))⟩
 f26 := ⟨Tryz.f61.name, by decide, Tryz.func61.trans (congrArg some (by kernel_rfl))⟩
 f27 := ⟨Tryz.f62.name, by decide, Tryz.func62.trans (congrArg some (by kernel_rfl))⟩
 f28 := Tryz.func63.trans (congrArg some (by kernel_rfl))
 f29 := Tryz.func64.trans (congrArg some (by kernel_rfl))
 f46 := ⟨Tryz.f82.name, by decide, Tryz.func82.trans (congrArg some (by kernel_rfl))⟩
 f47 := Tryz.func83.trans (congrArg some (by kernel_rfl))
 f48 := Tryz.func84.trans (congrArg some (by kernel_rfl))
 f49 := ⟨Tryz.f85.name, by decide, Tryz.func85.trans (congrArg some (by kernel_rfl))⟩
 f50 := ⟨Tryz.f86.name, by decide, Tryz.func86.trans (congrArg some (by kernel_rfl))⟩
 f57 := ⟨Tryz.f92.name, by decide, Tryz.func92.trans (congrArg some (by kernel_rfl))⟩
 t0 := Tryz.underlying0
 a0 := Tryz.isAgg0
 z0 := Tryz.sizeOf0
 v0 := Tryz.zeroValue0
 t3 := Tryz.underlying3
 a3 := Tryz.isAgg3
 z3 := Tryz.sizeOf3
 v3 := Tryz.zeroValue3
 t4 := Tryz.underlying4
 a4 := Tryz.isAgg4
 z4 := Tryz.sizeOf4
 v4 := Tryz.zeroValue4
 t5 := Tryz.underlying5
 a5 := Tryz.isAgg5
 z5 := Tryz.sizeOf5
 v5 := Tryz.zeroValue5
 t9 := Tryz.underlying9
 a9 := Tryz.isAgg9
 z9 := Tryz.sizeOf9
 v9 := Tryz.zeroValue9
 t22 := Tryz.underlying30
 a22 := Tryz.isAgg30
 z22 := Tryz.sizeOf30
 v22 := Tryz.zeroValue30
 t25 := Tryz.underlying56
 a25 := Tryz.isAgg56
 z25 := Tryz.sizeOf56
 v25 := Tryz.zeroValue56
 t39 := Tryz.underlying71
 a39 := Tryz.isAgg71
 z39 := Tryz.sizeOf71
 v39 := Tryz.zeroValue71
 t45 := Tryz.underlying92
 a45 := Tryz.isAgg92
 z45 := Tryz.sizeOf92
 v45 := Tryz.zeroValue92
 t46 := Tryz.underlying93
 a46 := Tryz.isAgg93
 z46 := Tryz.sizeOf93
 v46 := Tryz.zeroValue93
 t50 := Tryz.underlying88
 a50 := Tryz.isAgg88
 z50 := Tryz.sizeOf88
 v50 := Tryz.zeroValue88
 t53 := Tryz.underlying99
 a53 := Tryz.isAgg99
 z53 := Tryz.sizeOf99
 v53 := Tryz.zeroValue99
 t55 := Tryz.underlying101
 a55 := Tryz.isAgg101
 z55 := Tryz.sizeOf101
 v55 := Tryz.zeroValue101
 t66 := Tryz.underlying123
 a66 := Tryz.isAgg123
 z66 := Tryz.sizeOf123
 v66 := Tryz.zeroValue123
 t70 := Tryz.underlying127
 a70 := Tryz.isAgg127
 z70 := Tryz.sizeOf127
 v70 := Tryz.zeroValue127
 t76 := Tryz.underlying145
 a76 := Tryz.isAgg145
 z76 := Tryz.sizeOf145
 v76 := Tryz.zeroValue145
 t77 := Tryz.underlying146
 a77 := Tryz.isAgg146
 z77 := Tryz.sizeOf146
 v77 := Tryz.zeroValue146 }
end Go.Proofs
namespace Go.Proofs.YtjlpfpigggdemaaGreatDoor
open Go.RowKit Go.Lib Go.Sort Go.Shelf Va Uo
set_option linter.all false
def zde (x : Du) : List Value := [.int .i64 x.o, .int .i64 x.t, .int .i64 x.s]
theorem zhb (x : Du) (q : Nat) (hq : q < 3) : (zde x)[q]! = jc x q := by
 match q, hq with
 | 0, _ => rfl
 | 1, _ => rfl
 | 2, _ => rfl
def orI (a b : Int) : Int := if a = 0 then b else a
def zby (x y : Du) : Int := orI (Lib.compareInt x.s y.s) (Lib.compareInt x.o y.o)
theorem ltDu (x y : Du) : ltOf zby x y = decide (x.s < y.s ∨ x.s = y.s /\ x.o < y.o) := by
 unfold ltOf zby orI Lib.compareInt
 by_cases h1 : x.s < y.s
 ·simp [h1]
 ·by_cases h2 : y.s < x.s
  ·simp [h1, h2]; omega
  ·have h3 : x.s = y.s := by omega
   by_cases h4 : x.o < y.o
   ·simp [h3, h4]
   ·by_cases h5 : y.o < x.o <;> simp [h3, h4, h5]
theorem swoDu : SWO (ltOf zby) where
 irrefl x := by rw [ltDu]; simp
 trans x y z h1 h2 := by rw [ltDu] at *; simp at *; omega
 ntrans x y z h1 h2 := by rw [ltDu] at *; simp at *; omega
theorem zj8 (a b : Int) (w : World) : Calls Tryz.prog 21 #[.int .i64 a, .int .i64 b] w fun e w' => e = .returned (.int .i64 (Lib.compareInt a b)) /\ w' = w :=
 (zi4 a b w).mono fun e w' ⟨h1, h2⟩ => ⟨by rw [h1]; rfl, h2.symm⟩
set_option maxRecDepth 20000 in
set_option maxHeartbeats 16000000 in
theorem ior_any (a b : Int) (B : Nat) (w : World) (hP : PB w B #[.int .i64 a, .int .i64 b] 3) : Calls Tryz.prog 20 #[.slice (some ⟨B, 0, none⟩) 2 2] w fun e w' => e = .returned (.int .i64 (orI a b)) /\ w' = w := by
 obtain ⟨p0, p1⟩ := hP.two
 have HV : Hid (orI a b = if a = 0 then b else a) := rfl
 generalize orI a b = R at *
 go_enter Tryz.func20, Tryz.ntmps20
 go_wp2_with fail
 go_loopw [5, 8] (fun _ iv wr => wr = w /\ ∃ i : Nat, i <= 2 /\ iv = .int .i64 i /\ Hid ((0 < i -> a = 0) /\ (1 < i -> b = 0))) (fun _ iv _ => 2 - (intOf iv).toNat)
 case atStart => exact ⟨rfl, 0, by omega, rfl, ⟨fun h => by omega, fun h => by omega⟩⟩
 case round =>
  obtain ⟨hw, i, hi, rfl, hok⟩ := hrel
  have hw' := hw.symm
  clear hw
  subst hw'
  rcases (show i = 0 ∨ i = 1 ∨ i = 2 by omega) with rfl | rfl | rfl
  ·by_cases h0 : a = 0
   ·have HA := hidden h0
    have q0 : (a == 0) = true := by simpa using h0
    subst h0
    go_wp2_with fail
    go_roundw
    case rel => exact ⟨by first | rfl | trivial, 1, by omega, rfl, ⟨fun _ => by first | rfl | trivial, fun h => by omega⟩⟩
    case measure => simp [intOf]
   ·have HR : Hid (R = a) := by rw [Hid, HV.out, if_neg h0]
    have q0 : (a != 0) = true := by simpa using h0
    go_wp2_with fail
    go_ret
    exact ⟨by rw [HR.out]; rfl, rfl⟩
  ·have HA : Hid (a = 0) := hok.out.1 (by omega)
   have HR : Hid (R = b) := by rw [Hid, HV.out, if_pos HA.out]
   by_cases h0 : b = 0
   ·have HB2 := hidden h0
    subst h0
    go_wp2_with fail
    go_roundw
    case rel => exact ⟨by first | rfl | trivial, 2, by omega, rfl, ⟨fun _ => HA.out, fun _ => by first | rfl | trivial⟩⟩
    case measure => simp [intOf]
   ·have q0 : (b != 0) = true := by simpa using h0
    go_wp2_with fail
    go_ret
    exact ⟨by rw [HR.out]; rfl, rfl⟩
  ·have HR : Hid (R = 0) := by rw [Hid, HV.out, if_pos (hok.out.1 (by omega))]; exact hok.out.2 (by omega)
   go_wp2_with fail
   go_ret
   exact ⟨by rw [HR.out]; rfl, rfl⟩
def FS1 (X Y H : Nat) (x y : Du) (k : Nat) (v : Value) (w : World) : Prop :=
 match k with
 | 0 => v = .pointer (some ⟨X, 2, none⟩)
 | 1 => v = .int .i64 x.s
 | 2 => v = .pointer (some ⟨Y, 2, none⟩)
 | 3 => v = .int .i64 y.s
 | 4 => v = .int .i64 (Lib.compareInt x.s y.s)
 | 5 => v = .pointer (some ⟨X, 0, none⟩)
 | 6 => v = .int .i64 x.o
 | 7 => v = .pointer (some ⟨Y, 0, none⟩)
 | 8 => v = .int .i64 y.o
 | 9 => v = .int .i64 (Lib.compareInt x.o y.o)
 | 10 => v = .slice (some ⟨H, 0, none⟩) 2 2
 | 11 => v = .int .i64 (zby x y)
 | 12 => v = .int .i64 (zby x y)
 | _ => True
def IS1 (w9 : World) (x y : Du) (l : Array Bool) (w : World) : Prop := (l.getD 10 false = false -> w = w9.drew) /\ (l.getD 10 false = true -> w = w9.drew.alloc (.cells #[.int .i64 (Lib.compareInt x.s y.s), .int .i64 (Lib.compareInt x.o y.o)] 3))
theorem zbq {w9 w : World} {x y : Du} {l : Array Bool} {i : Nat} (hi : i ≠ 10) (h : IS1 w9 x y l w) : IS1 w9 x y (l.setIfInBounds i true) w := by
 unfold IS1
 rw [Rg.jk hi]
 exact h
theorem boxS1 {w9 w : World} {x y : Du} {l : Array Bool} {B : Nat} {vs : Array Value} {t : TypeId} (h : PB w9 B vs t) (hI : IS1 w9 x y l w) : PB w B vs t := by
 cases hl : l.getD 10 false with
 | false => rw [hI.1 hl]; exact h
 | true =>
  rw [hI.2 hl]
  exact PB.alloc (W := w9.drew) h _
theorem zcn : (Rg.opsOf Tryz.f19 1).size = 13 := by kernel_rfl
set_option maxRecDepth 20000 in
set_option maxHeartbeats 16000000 in
theorem regS1 {Q : Exit -> Act -> World -> Prop} {a : Act} {w9 : World} {X Y : Nat} {x y : Du} (ha : a.tmps.size = 17) (k2 : a.tmps[2]? = some (.pointer (some ⟨X, 0, none⟩))) (k3 : a.tmps[3]? = some (.pointer (some ⟨Y, 0, none⟩))) (hX : PB w9 X #[.int .i64 x.o, .int .i64 x.t, .int .i64 x.s] 33) (hY : PB w9 Y #[.int .i64 y.o, .int .i64 y.t, .int .i64 y.s] 33)
  (hcm : ∀ a b W, Calls Tryz.prog 21 #[.int .i64 a, .int .i64 b] W fun e w' => e = .returned (.int .i64 (Lib.compareInt a b)) /\ w' = W)
  (hco : ∀ W, PB W w9.heap.size #[.int .i64 (Lib.compareInt x.s y.s), .int .i64 (Lib.compareInt x.o y.o)] 3 -> Calls Tryz.prog 20 #[.slice (some ⟨w9.heap.size, 0, none⟩) 2 2] W fun e w' => e = .returned (.int .i64 (zby x y)) /\ w' = W)
  (hend : ∀ b' w', Rg.Fr (Rg.opsOf Tryz.f19 1) a b' -> w' = w9.drew.alloc (.cells #[.int .i64 (Lib.compareInt x.s y.s), .int .i64 (Lib.compareInt x.o y.o)] 3) -> Rg.out (Rg.opsOf Tryz.f19 1) b' 12 = .int .i64 (zby x y) -> Q .normal b' w') : (Code.region 1 (Rg.opsOf Tryz.f19 1) true).wp Tryz.prog Q a w9 := by
 refine Rg.zeo (by kernel_rfl) (IS1 w9 x y) (FS1 X Y w9.heap.size x y) (by rw [ha, zcn]; kernel_rfl) ⟨fun _ => rfl, fun h => (by rw [Rg.zaz] at h; cases h)⟩ ?_ ?_
 case refine_2 =>
  intro l b' w' hf hall hI hA
  rw [zcn] at hA hall
  exact hend b' w' hf (hI.2 (hall 10 (by omega))) (hA 12 (by decide))
 case refine_1 =>
  clear hend
  intro i' hi'
  rw [zcn] at hi'
  rcases (show i' = 0 ∨ i' = 1 ∨ i' = 2 ∨ i' = 3 ∨ i' = 4 ∨ i' = 5 ∨ i' = 6 ∨ i' = 7 ∨ i' = 8 ∨ i' = 9 ∨ i' = 10 ∨ i' = 11 ∨ i' = 12 by omega) with rfl | rfl | rfl | rfl | rfl | rfl | rfl | rfl | rfl | rfl | rfl | rfl | rfl
  ·intro ll bb w' hs hlf hN hO hf hI hL hA
   clear hi'
   have q2 := hf.kept (s := 2) (by rw [zcn]; kernel_rfl) k2
   exact Rg.zf (o := ⟨some 5, Op.fieldAddr 33 (Operand.tmp 2) 2, _, _, _, _⟩) (x := .pointer (some ⟨X, 2, none⟩)) rfl rfl (by clear hA hN hO hL hI hcm hco; simp only [execOp]; go_simp) ⟨_, rfl, (fun h => by cases h), rfl, zbq (by decide) hI, fun _ _ _ _ h => h⟩
  ·intro ll bb w' hs hlf hN hO hf hI hL hA
   clear hi'
   have q5 : bb.tmps[5]? = some _ := hf.tmp (k := 0) rfl (by rw [ha]; decide) (hA 0 (by kernel_rfl))
   obtain ⟨e0, e1, e2⟩ := (boxS1 hX hI).three
   exact Rg.zf (o := ⟨some 6, Op.load 2 (Operand.tmp 5), _, _, _, _⟩) (x := .int .i64 x.s) rfl rfl (by clear hA hN hO hL hI hcm hco; simp only [execOp]; go_simp) ⟨_, rfl, (fun h => by cases h), rfl, zbq (by decide) hI, fun _ _ _ _ h => h⟩
  ·intro ll bb w' hs hlf hN hO hf hI hL hA
   clear hi'
   have q3 := hf.kept (s := 3) (by rw [zcn]; kernel_rfl) k3
   exact Rg.zf (o := ⟨some 7, Op.fieldAddr 33 (Operand.tmp 3) 2, _, _, _, _⟩) (x := .pointer (some ⟨Y, 2, none⟩)) rfl rfl (by clear hA hN hO hL hI hcm hco; simp only [execOp]; go_simp) ⟨_, rfl, (fun h => by cases h), rfl, zbq (by decide) hI, fun _ _ _ _ h => h⟩
  ·intro ll bb w' hs hlf hN hO hf hI hL hA
   clear hi'
   have q7 : bb.tmps[7]? = some _ := hf.tmp (k := 2) rfl (by rw [ha]; decide) (hA 2 (by kernel_rfl))
   obtain ⟨e0, e1, e2⟩ := (boxS1 hY hI).three
   exact Rg.zf (o := ⟨some 8, Op.load 2 (Operand.tmp 7), _, _, _, _⟩) (x := .int .i64 y.s) rfl rfl (by clear hA hN hO hL hI hcm hco; simp only [execOp]; go_simp) ⟨_, rfl, (fun h => by cases h), rfl, zbq (by decide) hI, fun _ _ _ _ h => h⟩
  ·intro ll bb w' hs hlf hN hO hf hI hL hA
   clear hi'
   have q6 : bb.tmps[6]? = some _ := hf.tmp (k := 1) rfl (by rw [ha]; decide) (hA 1 (by kernel_rfl))
   have q8 : bb.tmps[8]? = some _ := hf.tmp (k := 3) rfl (by rw [ha]; decide) (hA 3 (by kernel_rfl))
   refine Rg.jr (o := ⟨some 9, Op.call { callee := Callee.value (Operand.func 21), args := #[Operand.tmp 6, Operand.tmp 8], argTypes := _ }, _, _, _, _⟩) rfl rfl (by clear hA hN hO hL hI hcm hco; simp only [execOp, resolve]; go_simp) (hcm x.s y.s w') ?_
   rintro e w2 ⟨rfl, hw2⟩
   have hw3 := hw2.symm
   clear hw2
   subst hw3
   exact ⟨_, rfl, _, rfl, (fun h => by cases h), rfl, zbq (by decide) hI, fun _ _ _ _ h => h⟩
  ·intro ll bb w' hs hlf hN hO hf hI hL hA
   clear hi'
   have q2 := hf.kept (s := 2) (by rw [zcn]; kernel_rfl) k2
   exact Rg.zf (o := ⟨some 10, Op.fieldAddr 33 (Operand.tmp 2) 0, _, _, _, _⟩) (x := .pointer (some ⟨X, 0, none⟩)) rfl rfl (by clear hA hN hO hL hI hcm hco; simp only [execOp]; go_simp) ⟨_, rfl, (fun h => by cases h), rfl, zbq (by decide) hI, fun _ _ _ _ h => h⟩
  ·intro ll bb w' hs hlf hN hO hf hI hL hA
   clear hi'
   have q10 : bb.tmps[10]? = some _ := hf.tmp (k := 5) rfl (by rw [ha]; decide) (hA 5 (by kernel_rfl))
   obtain ⟨e0, e1, e2⟩ := (boxS1 hX hI).three
   exact Rg.zf (o := ⟨some 11, Op.load 2 (Operand.tmp 10), _, _, _, _⟩) (x := .int .i64 x.o) rfl rfl (by clear hA hN hO hL hI hcm hco; simp only [execOp]; go_simp) ⟨_, rfl, (fun h => by cases h), rfl, zbq (by decide) hI, fun _ _ _ _ h => h⟩
  ·intro ll bb w' hs hlf hN hO hf hI hL hA
   clear hi'
   have q3 := hf.kept (s := 3) (by rw [zcn]; kernel_rfl) k3
   exact Rg.zf (o := ⟨some 12, Op.fieldAddr 33 (Operand.tmp 3) 0, _, _, _, _⟩) (x := .pointer (some ⟨Y, 0, none⟩)) rfl rfl (by clear hA hN hO hL hI hcm hco; simp only [execOp]; go_simp) ⟨_, rfl, (fun h => by cases h), rfl, zbq (by decide) hI, fun _ _ _ _ h => h⟩
  ·intro ll bb w' hs hlf hN hO hf hI hL hA
   clear hi'
   have q12 : bb.tmps[12]? = some _ := hf.tmp (k := 7) rfl (by rw [ha]; decide) (hA 7 (by kernel_rfl))
   obtain ⟨e0, e1, e2⟩ := (boxS1 hY hI).three
   exact Rg.zf (o := ⟨some 13, Op.load 2 (Operand.tmp 12), _, _, _, _⟩) (x := .int .i64 y.o) rfl rfl (by clear hA hN hO hL hI hcm hco; simp only [execOp]; go_simp) ⟨_, rfl, (fun h => by cases h), rfl, zbq (by decide) hI, fun _ _ _ _ h => h⟩
  ·intro ll bb w' hs hlf hN hO hf hI hL hA
   clear hi'
   have q11 : bb.tmps[11]? = some _ := hf.tmp (k := 6) rfl (by rw [ha]; decide) (hA 6 (by kernel_rfl))
   have q13 : bb.tmps[13]? = some _ := hf.tmp (k := 8) rfl (by rw [ha]; decide) (hA 8 (by kernel_rfl))
   refine Rg.jr (o := ⟨some 14, Op.call { callee := Callee.value (Operand.func 21), args := #[Operand.tmp 11, Operand.tmp 13], argTypes := _ }, _, _, _, _⟩) rfl rfl (by clear hA hN hO hL hI hcm hco; simp only [execOp, resolve]; go_simp) (hcm x.o y.o w') ?_
   rintro e w2 ⟨rfl, hw2⟩
   have hw3 := hw2.symm
   clear hw2
   subst hw3
   exact ⟨_, rfl, _, rfl, (fun h => by cases h), rfl, zbq (by decide) hI, fun _ _ _ _ h => h⟩
  ·intro ll bb w' hs hlf hN hO hf hI hL hA
   clear hi'
   have q9 : bb.tmps[9]? = some _ := hf.tmp (k := 4) rfl (by rw [ha]; decide) (hA 4 (by kernel_rfl))
   have q14 : bb.tmps[14]? = some _ := hf.tmp (k := 9) rfl (by rw [ha]; decide) (hA 9 (by kernel_rfl))
   have hw : w' = w9.drew := hI.1 hlf
   subst hw
   exact Rg.zf (o := ⟨some 15, Op.buildSlice 72 2 #[(0, Operand.tmp 9), (1, Operand.tmp 14)], _, _, _, _⟩) (x := .slice (some ⟨w9.heap.size, 0, none⟩) 2 2) (w' := w9.drew.alloc (.cells #[.int .i64 (Lib.compareInt x.s y.s), .int .i64 (Lib.compareInt x.o y.o)] 3)) rfl rfl (by clear hA hN hO hL hI hcm hco; simp only [execOp]; go_simp) ⟨_, rfl, (fun h => by cases h), rfl, ⟨fun h => (by rw [Rg.set_self hs (by rw [zcn]; decide)] at h; cases h), fun _ => rfl⟩, fun _ _ _ _ h => h⟩
  ·intro ll bb w' hs hlf hN hO hf hI hL hA
   clear hi'
   have q15 : bb.tmps[15]? = some _ := hf.tmp (k := 10) rfl (by rw [ha]; decide) (hA 10 (by kernel_rfl))
   have hw : w' = w9.drew.alloc (.cells #[.int .i64 (Lib.compareInt x.s y.s), .int .i64 (Lib.compareInt x.o y.o)] 3) := hI.2 (hL 10 (by kernel_rfl))
   refine Rg.jr (o := ⟨some 16, Op.call { callee := Callee.value (Operand.func 20), args := #[Operand.tmp 15], argTypes := _ }, _, _, _, _⟩) rfl rfl (by clear hA hN hO hL hI hcm hco; simp only [execOp, resolve]; go_simp) (hco w' (by rw [hw]; exact PB.new w9.drew _ _)) ?_
   rintro e w2 ⟨rfl, hw2⟩
   have hw3 := hw2.symm
   clear hw2
   subst hw3
   exact ⟨_, rfl, _, rfl, (fun h => by cases h), rfl, zbq (by decide) hI, fun _ _ _ _ h => h⟩
  ·intro ll bb w' hs hlf hN hO hf hI hL hA
   clear hi'
   have q16 : bb.tmps[16]? = some _ := hf.tmp (k := 11) rfl (by rw [ha]; decide) (hA 11 (by kernel_rfl))
   exact Rg.zf (o := ⟨some 4, Op.assign (Operand.tmp 16), _, _, _, _⟩) (x := .int .i64 (zby x y)) rfl rfl (by clear hA hN hO hL hI hcm hco; simp only [execOp]; go_simp) ⟨_, rfl, (fun h => by cases h), rfl, zbq (by decide) hI, fun _ _ _ _ h => h⟩
theorem layS1 {a b : Act} (hf : Rg.Fr (Rg.opsOf Tryz.f19 1) a b) : b = Rg.fl (Rg.opsOf Tryz.f19 1) b 0 [some 5, some 6, some 7, some 8, some 9, some 10, some 11, some 12, some 13, some 14, some 15, some 16, some 4] a := Rg.ql _ (by kernel_rfl) hf
theorem grow3 (W : World) (A B C : Obj) : ((W.alloc A).alloc B).drew.alloc C = grow (W.drewN 1) (#[A] ++ (#[B] ++ #[C])) := by
 have e : ((W.alloc A).alloc B).drew = ((W.drewN 1).alloc A).alloc B := rfl
 rw [e, alloc_eq_grow, alloc_eq_grow, alloc_eq_grow, grow_grow, grow_grow]
theorem zje (x y : Du) (W : World) : Calls Tryz.prog 19 #[.agg #[.int .i64 x.o, .int .i64 x.t, .int .i64 x.s], .agg #[.int .i64 y.o, .int .i64 y.t, .int .i64 y.s]] W fun e w' => e = .returned (.int .i64 (zby x y)) /\ ∃ q os', w' = grow (W.drewN q) os' := by
 go_enter Tryz.func19, Tryz.ntmps19
 go_upto_region 1 with fail
 have hX := (PB.new W #[.int .i64 x.o, .int .i64 x.t, .int .i64 x.s] 33).alloc (.cells #[.int .i64 y.o, .int .i64 y.t, .int .i64 y.s] 33)
 have hY := PB.new (W.alloc (.cells #[.int .i64 x.o, .int .i64 x.t, .int .i64 x.s] 33)) #[.int .i64 y.o, .int .i64 y.t, .int .i64 y.s] 33
 have e9 : (W.alloc (.cells #[.int .i64 x.o, .int .i64 x.t, .int .i64 x.s] 33)).heap.size = W.heap.size + 1 := by simp
 rw [e9] at hY
 refine regS1 (x := x) (y := y) rfl rfl rfl hX hY (fun a b W' => zj8 a b W') (fun W' hW => ior_any _ _ _ W' hW) ?_
 intro b' w' hf hw hv
 (rw [layS1 hf]; simp only [Rg.fl0, Rg.fl1, Rg.fl2, Nat.reduceAdd]; rw [hv])
 clear hv hf hX hY e9
 subst hw
 generalize Rg.out (Rg.opsOf Tryz.f19 1) b' = yF
 go_frame
 go_wp2_with fail
 go_ret
 exact ⟨rfl, 1, _, grow3 _ _ _ _⟩
theorem cmpLaysD (blk off size : Nat) (w : World) : CmpLays Tryz.prog 19 #[] zde 3 zby blk off size w := fun _ _ _ _ x y => zje x y _
end Go.Proofs.YtjlpfpigggdemaaGreatDoor
namespace Go.Proofs.YtjlpfpigggdemaaGreatDoor
open Go.RowKit Go.Lib Go.Sort Go.Shelf Va Uo
set_option linter.all false
theorem zkf {S D : List Du} (hp : S.Perm D) (hD : zbs D) (hS : ∀ i j (hi : i < S.length) (hj : j < S.length), i < j -> ¬ ltD S[j] S[i]) : S = D := by
 refine List.Perm.eq_of_pairwise (le := fun a b => ¬ ltD b a) (fun a b ha hb h1 h2 => ?_) (List.pairwise_iff_getElem.2 (fun i j hi hj hij => hS i j hi hj hij)) (hD.imp (fun h => zi5 h)) hp
 obtain ⟨i, hi, rfl⟩ := List.getElem_of_mem (hp.mem_iff.1 ha)
 obtain ⟨j, hj, rfl⟩ := List.getElem_of_mem hb
 by_cases e : i = j
 ·subst e; rfl
 ·rcases Nat.lt_or_gt_of_ne e with q | q
  ·exact absurd (List.pairwise_iff_getElem.1 hD i j hi hj q) h2
  ·exact absurd (List.pairwise_iff_getElem.1 hD j i hj hi q) h1
set_option maxRecDepth 20000 in
set_option maxHeartbeats 16000000 in
theorem zkb (G cap base : Nat) (K : List Du) (w : World) (h : w.ownsRow base 33 3 (.slice (some ⟨G, 0, none⟩) K.length cap) K.length (zt 3 jc K)) (hl : K.length <= 1048576) :
  Calls Tryz.prog 18 #[.slice (some ⟨G, 0, none⟩) K.length cap, .func (.func 19) #[] #[]] w fun e w' => e = .returned (.tuple #[]) /\ (∃ S : List Du, S.Perm K /\ (∀ i j (hi : i < S.length) (hj : j < S.length), i < j -> ¬ ltD S[j] S[i]) /\ vz 3 jc w' base (.slice (some ⟨G, 0, none⟩) K.length cap) S) /\ w.grownBy w' (some G) := by
 have eg : ∀ args w, (callFunc 19 args).run Tryz.prog w = .ok (.enter 19 args) w := enters_of Tryz.func19 (by kernel_rfl) rfl
 obtain ⟨hGb, hGl⟩ := zbu h
 have hcap : K.length <= cap := by
  obtain ⟨_, ⟨h2, _⟩ | ⟨g, c, cur, h2, _, _, hc, _⟩⟩ := h
  ·cases h2
  ·simp only [Value.slice.injEq] at h2
   omega
 have hH : HoldsK zde 3 w G 0 K.toArray := fun j hj => by
  have hj' : j < K.length * 3 := by simpa using hj
  obtain ⟨x, hx⟩ := zaa K (j / 3) (by omega)
  have e1 := jw h (jg (s := 3) (cs := jc) K (j / 3) x hx (j % 3) (by omega))
  rw [show j / 3 * 3 + j % 3 = j by omega] at e1
  rw [Nat.zero_add]
  refine ⟨?_, e1.2⟩
  rw [e1.1, get_flatK _ _ _ j (by simpa using hj')]
  have e2 : K.toArray[j / 3]! = x := by
   rw [getElem!_pos K.toArray (j / 3) (by simp; omega)]
   have := (List.getElem?_eq_some_iff.1 hx).2
   simpa using this
  rw [e2, zhb _ _ (by omega)]
  rfl
 have hcon := AnyQ.slices_SortFunc Tryz.srtF 3 Tryz.isAgg33 Tryz.sizeOf33 zde (fun _ => rfl) (fun x v hv => by simp [zde] at hv; rcases hv with rfl | rfl | rfl <;> rfl) zby swoDu 19 #[] G 0 cap K.toArray w eg (cmpLaysD G 0 K.toArray.size w) hH hGl (by simp; omega)
 change Calls Tryz.prog 18 _ _ _ at hcon
 rw [show K.toArray.size = K.length by simp] at hcon
 refine hcon.mono ?_
 rintro e w' ⟨rfl, d', m, os, ⟨hp1, -, hp3⟩, hs, rfl⟩
 have hd : d'.size = K.length := by simpa using hp1
 have hperm : d'.toList.Perm K := by
  have e1 : (d'.extract 0 K.length).toList = d'.toList := by rw [<- hd]; simp
  have e2 : (K.toArray.extract 0 K.length).toList = K := by simp
  rw [e1, e2] at hp3
  exact hp3
 refine ⟨rfl, ⟨d'.toList, hperm, fun i j hi hj hij => ?_, ?_⟩, ?_⟩
 ·have hi' : i < d'.size := by simpa using hi
  have hj' : j < d'.size := by simpa using hj
  have := hs i j (Nat.zero_le _) hij (by omega)
  rw [ltDu, getElem!_pos d' j hj', getElem!_pos d' i hi'] at this
  unfold ltD
  simpa using this
 ·have hH2 := holdsK_sortWorldK zde 3 w G 0 m K.toArray d' os hGl hH (by simpa using hd)
  refine ⟨_, cap, by simp [hd], by simpa [hd] using hcap, Or.inr ⟨G, rfl, hGb, lt_sortWorldK zde 3 w G 0 m d' os hGl, fun j hj => ?_, fun i x hil hx k hk => ?_⟩⟩
  ·have hj2 : j < d'.size * 3 := by simpa using hj
   have h2 := hH2 j (by simpa using hj2)
   rw [Nat.zero_add] at h2
   exact ⟨⟨_, h2.1⟩, h2.2⟩
  ·have hi : i < d'.size := by have := (List.getElem?_eq_some_iff.1 hx).1; simpa using this
   have h2 := (hH2 (i * 3 + k) (by simp; omega)).1
   rw [get_flatK _ _ _ _ (by omega), show (i * 3 + k) / 3 = i by omega, show (i * 3 + k) % 3 = k by omega] at h2
   have e2 : d'[i]! = x := by
    rw [getElem!_pos d' i hi]
    have := (List.getElem?_eq_some_iff.1 hx).2
    simpa using this
   rw [e2, zhb _ _ hk, Nat.zero_add] at h2
   exact h2
 ·refine ⟨rfl, rfl, rfl, size_sortWorldK_c _ _ _ _ _ _ _ _, fun k hk hne => ?_⟩
  have : G ≠ k := fun e => hne (by rw [e])
  unfold sortWorldK
  rw [heap_grow_old _ _ (by rw [size_putRowK]; simpa using hk)]
  simp [putRowK, putRow, mapBlock, Sort.ahead, Array.getElem?_modify, this]
theorem vc_app {α : Type} {s : Nat} {cs : α -> Nat -> Value} (l l' : List α) : zt s cs (l ++ l') = zt s cs l ++ zt s cs l' := by simp [zt]
theorem vc_one (l : List Du) : ∀ u ∈ zt 3 jc l, u.oneCell' = true := fun u hu => by
 simp only [zt, List.mem_flatMap, List.mem_map, List.mem_range] at hu
 obtain ⟨x, _, k, hk, rfl⟩ := hu
 rcases (show k = 0 ∨ k = 1 ∨ k = 2 by omega) with rfl | rfl | rfl <;> rfl
theorem own_nn {w : World} {b e s n : Nat} {v : Value} {xs : List Value} (h : w.ownsRow b e s v n xs) (hn : v ≠ .slice none 0 0) : ∃ G c, v = .slice (some ⟨G, 0, none⟩) n c := by
 obtain ⟨_, ⟨h1, _⟩ | ⟨g, cap, cur, h1, _⟩⟩ := h
 ·exact absurd h1 hn
 ·exact ⟨g, cap, h1⟩
set_option maxRecDepth 20000 in
set_option maxHeartbeats 16000000 in
theorem zia (ao : Option Addr) (n cap : Nat) (ad : Option Addr) (m dcap : Nat) (os : List Od) (ds : List Ds) (time : Int) (w : World) (ho : VRw 9 jd w (.slice ao n cap) os) (hd : VRw 5 jy w (.slice ad m dcap) ds) (hn : os.length <= 1048576) (hm : ds.length <= 1048576) :
  Calls Tryz.prog 6 #[.agg #[.slice ao n cap, .slice ad m dcap], .int .i64 time] w fun e w' => ∃ v, e = .returned v /\ vz 3 jc w' w.heap.size v (zaj os ds time) /\ Below w.heap.size w w' := by
 obtain rfl := ho.len
 obtain rfl := hd.len
 obtain ⟨i0, hi0, hv0, hv1, hv2⟩ := zfe zfo
 have hbA : Below w.heap.size w (w.alloc (.cells #[.slice ao os.length cap, .slice ad ds.length dcap] 27)) := (Below.refl _ _).alloc (Nat.le_refl _) _
 have hbB : Below w.heap.size w ((w.alloc (.cells #[.slice ao os.length cap, .slice ad ds.length dcap] 27)).alloc (.cells #[] 33)) := hbA.alloc hbA.size _
 have HX := hidden ((PB.new w #[.slice ao os.length cap, .slice ad ds.length dcap] 27).alloc (.cells #[] 33))
 have HO := hidden ho
 have HD := hidden hd
 have HB := hidden hbB
 have HR0 : Hid (((w.alloc (.cells #[.slice ao os.length cap, .slice ad ds.length dcap] 27)).alloc (.cells #[] 33)).ownsRow w.heap.size 33 3 (.slice (some ⟨w.heap.size + 1, 0, none⟩) 0 0) 0 []) := by
  have h9 := zc7 (zdx (w.alloc (.cells #[.slice ao os.length cap, .slice ad ds.length dcap] 27)) 33 3) hbA.size
  have e9 : (w.alloc (.cells #[.slice ao os.length cap, .slice ad ds.length dcap] 27)).heap.size = w.heap.size + 1 := by simp
  rw [e9] at h9
  exact h9
 have H1 := hidden (fun W h1 h2 => zic ao os.length cap ad ds.length dcap os ds W h1 h2 hn hm)
 have h2 := zfl time
 have HV : Hid (zaj os ds time = if ji os ds = true /\ zl time = true then vg os ds time 0 else []) := rfl
 have HTm : Hid (zl time = rng time 0 10000000) := rfl
 clear ho hd hbA hbB
 generalize zaj os ds time = R at *
 cases hq : ji os ds with
 | false =>
  have HN : Hid (R = []) := by rw [Hid, HV.out, hq]; simp
  rw [hq] at H1
  go_enter Tryz.func6, Tryz.ntmps6
  go_upto_region 2 with fail
  generalize (w.alloc (.cells #[.slice ao os.length cap, .slice ad ds.length dcap] 27)).alloc (.cells #[] 33) = wA at *
  obtain ⟨b0, b1⟩ := HX.out.two
  go_wp2_with (go_at_call 14; refine (H1.out _ (HO.out.below HB.out) (HD.out.below HB.out)).mono ?_; rintro e w1 ⟨rfl, hb1⟩)
  go_ret
  rw [HN.out]
  exact ⟨_, rfl, vz.nil _ _ _ _, onto HB.out hb1⟩
 | true =>
  cases hr : rng time 0 10000000 with
  | false =>
   have HN : Hid (R = []) := by rw [Hid, HV.out, HTm.out, hr]; simp
   rw [hq] at H1
   rw [hr] at h2
   go_enter Tryz.func6, Tryz.ntmps6
   go_upto_region 2 with fail
   generalize (w.alloc (.cells #[.slice ao os.length cap, .slice ad ds.length dcap] 27)).alloc (.cells #[] 33) = wA at *
   obtain ⟨b0, b1⟩ := HX.out.two
   go_wp2_with (first | (go_at_call 14; refine (H1.out _ (HO.out.below HB.out) (HD.out.below HB.out)).mono ?_; rintro e w1 ⟨rfl, hb1⟩) | (go_at_call 15; refine (h2 _).mono ?_; rintro e w9 ⟨rfl, rfl⟩))
   go_ret
   rw [HN.out]
   exact ⟨_, rfl, vz.nil _ _ _ _, onto HB.out hb1⟩
  | true =>
   have HN : Hid (R = vg os ds time 0) := by rw [Hid, HV.out, HTm.out, hr, hq]; simp
   obtain ⟨⟨q1, q2⟩, q3, q4⟩ := za5.1 hq
   have HOd := hidden (zi1 hq)
   have HRis := hidden (zcd q3)
   have HBd : Hid (∀ (i : Nat) (d : Ds), ds[i]? = some d -> Bd d.o /\ Bd d.t) := fun i d hd => bd_of q3 (by have := q4 i (List.getElem?_eq_some_iff.1 hd).1; unfold okD at this; simp only [Bool.and_eq_true] at this; exact this.1) hd
   have HTt : Hid (zl time = true) := by rw [Hid, HTm.out]; exact hr
   have HCc : Hid (∀ i, i < os.length -> (os.getD i default).c <= 200) := fun i hi => by
    obtain ⟨x, hx⟩ := zaa os i hi
    have := HOd.out i x hx
    rw [jm hx]
    simp only [odB, Bool.and_eq_true, zax] at this
    exact this.2.2.2.2.2.2.1.2
   have HCe : Hid (∀ i, i < os.length -> 1 <= (os.getD i default).e) := fun i hi => by
    obtain ⟨x, hx⟩ := zaa os i hi
    have := HOd.out i x hx
    rw [jm hx]
    simp only [odB, Bool.and_eq_true, zax] at this
    exact this.2.2.2.2.2.1.1
   rw [hq] at H1
   rw [hr] at h2
   have HG := hidden (fun W hW => zgt ad ds.length dcap ds W hW q2 HBd.out)
   clear q3 q4 HV HTm hr hq
   go_enter Tryz.func6, Tryz.ntmps6
   go_upto_region 2 with fail
   generalize (w.alloc (.cells #[.slice ao os.length cap, .slice ad ds.length dcap] 27)).alloc (.cells #[] 33) = wA at *
   generalize Value.agg #[.slice ao os.length cap, .slice ad ds.length dcap] = av at ⊢
   obtain ⟨b0, b1⟩ := HX.out.two
   go_upto_region 5 with (first | (go_at_call 14; refine (H1.out _ (HO.out.below HB.out) (HD.out.below HB.out)).mono ?_; rintro e w1 ⟨rfl, hb1⟩; obtain ⟨e0, e1⟩ := (HX.out.below hb1).two) | (go_at_call 15; refine (h2 _).mono ?_; rintro e w9 ⟨rfl, rfl⟩) | (go_at_call 16; refine (HG.out _ ((HD.out.below HB.out).below hb1)).mono ?_; rintro e w2 ⟨rfl, ⟨D, hmap, hcnt⟩, hb2⟩))
   have HB2 := hidden (onto (onto HB.out hb1) hb2)
   have HX2 := hidden ((HX.out.below hb1).below hb2)
   have HR2 := hidden (zam (zam HR0.out hb1) hb2)
   have HMp := hidden hmap
   have HCn := hidden hcnt
   have hMl := hmap.lt
   have hMb : w.heap.size <= w1.heap.size := (onto HB.out hb1).size
   have HMR : Hid (w.heap.size + 1 < w1.heap.size) := Nat.lt_of_lt_of_le (zbu HR0.out).2 hb1.size
   clear b0 b1 e0 e1 hb1 hb2 hmap hcnt HX HR0 HB H1 HG h2
   generalize hMB : w1.heap.size = MB at *
   obtain ⟨b0, b1⟩ := HX2.out.two
   go_wp2_with fail
   clear b0 b1
   go_loopw [5, 8, 25] (fun sv _ iv wr => ∃ (i : Nat) (L : List Du), i <= os.length /\ iv = .int .i64 i /\ Hid (L = zad os ds time i) /\ (∃ G c, sv = .slice (some ⟨G, 0, none⟩) L.length c /\ G ≠ MB /\ wr.ownsRow w.heap.size 33 3 (.slice (some ⟨G, 0, none⟩) L.length c) L.length (zt 3 jc L)) /\ wr.ownsMap Tryz.prog 68 (plainElem Tryz.prog 3) MB 500 D /\ Below w.heap.size w wr) (fun _ _ iv _ => os.length - (intOf iv).toNat)
   case atStart => exact ⟨0, [], Nat.zero_le _, rfl, rfl, ⟨_, _, rfl, by have := HMR.out; omega, HR2.out⟩, HMp.out, HB2.out⟩
   case round =>
    clear HR2 HMp HB2 HX2
    obtain ⟨i, L, hi, rfl, HL, ⟨G, c, rfl, hGM, hrow⟩, hmap, hb⟩ := hrel
    have hll : L.length <= i * 200 := by rw [HL.out]; exact ziv ds time HCc.out i hi
    by_cases hlt : i < os.length
    ·have hlti : (i : Int) < (os.length : Int) := by omega
     obtain ⟨x, hx⟩ := zaa os i hlt
     obtain ⟨g, off, rfl, hg, hcs⟩ := (HO.out.below hb).at hx
     have HodX := hidden (HOd.out i x hx)
     have c0 : wr.cell? ⟨g, off + i * 9, none⟩ = some (.int .i64 x.id) := hcs 0 (by omega)
     have c1 : wr.cell? ⟨g, off + i * 9 + 1, none⟩ = some (.int .i64 x.p) := hcs 1 (by omega)
     have c2 : wr.cell? ⟨g, off + i * 9 + 2, none⟩ = some (.int .i64 x.d) := hcs 2 (by omega)
     have c3 : wr.cell? ⟨g, off + i * 9 + 3, none⟩ = some (.int .i64 x.n) := hcs 3 (by omega)
     have c4 : wr.cell? ⟨g, off + i * 9 + 4, none⟩ = some (.int .i64 x.f) := hcs 4 (by omega)
     have c5 : wr.cell? ⟨g, off + i * 9 + 5, none⟩ = some (.int .i64 x.e) := hcs 5 (by omega)
     have c6 : wr.cell? ⟨g, off + i * 9 + 6, none⟩ = some (.int .i64 x.c) := hcs 6 (by omega)
     have c7 : wr.cell? ⟨g, off + i * 9 + 7, none⟩ = some (.int .i64 x.s) := hcs 7 (by omega)
     have c8 : wr.cell? ⟨g, off + i * 9 + 8, none⟩ = some (.bool x.two) := hcs 8 (by omega)
     have bx : Below wr.heap.size wr (wr.alloc (.cells #[.int .i64 x.id, .int .i64 x.p, .int .i64 x.d, .int .i64 x.n, .int .i64 x.f, .int .i64 x.e, .int .i64 x.c, .int .i64 x.s, .bool x.two] 38)) := (Below.refl _ _).alloc (Nat.le_refl _) _
     have HPO := hidden (PB.new wr #[.int .i64 x.id, .int .i64 x.p, .int .i64 x.d, .int .i64 x.n, .int .i64 x.f, .int .i64 x.e, .int .i64 x.c, .int .i64 x.s, .bool x.two] 38)
     have HRow := hidden (zam hrow bx)
     have HMap := hidden (Rt.zcz hmap (bx.block MB hmap.lt))
     have HB := hidden (onto hb bx)
     have HA1 : Hid (zad os ds time (i + 1) = if x.s = 2 then L ++ jh ds time x x.c.toNat else L) := by rw [Hid, zad, jm hx, HL.out]
     clear hcs hx bx hb hrow hmap
     go_upto_region 8 with fail
     clear c0 c1 c2 c3 c4 c5 c6 c7 c8
     generalize wr.alloc (.cells #[.int .i64 x.id, .int .i64 x.p, .int .i64 x.d, .int .i64 x.n, .int .i64 x.f, .int .i64 x.e, .int .i64 x.c, .int .i64 x.s, .bool x.two] 38) = w3 at *
     obtain ⟨o0, o1, o2, o3, o4, o5, o6, o7, o8⟩ := HPO.out.nine
     by_cases hs2 : x.s = 2
     ·have HA2 : Hid (zad os ds time (i + 1) = L ++ jh ds time x x.c.toNat) := by rw [Hid, HA1.out, if_pos hs2]
      have hK := zhv x time MB D ds w3 HMap.out HCn.out HodX.out HTt.out
      have hT : (jh ds time x x.c.toNat).length <= 200 := by
       have h8 := zfc ds time x x.c.toNat
       have h9 := HodX.out
       simp only [odB, Bool.and_eq_true, zax] at h9
       have := h9.2.2.2.2.2.2.1.2
       omega
      unfold aOd at hK
      clear HA1
      generalize jh ds time x x.c.toNat = N at *
      have o7' : w3.cell? ⟨wr.heap.size, 7, none⟩ = some (.int .i64 2) := by rw [o7, hs2]
      go_upto_region 9 with fail
      clear hs2 o7'
      go_wp2_with (first | (go_at_call 17; refine hK.mono ?_; rintro e w4 ⟨G4, c4, rfl, ho4, hb4⟩; have HRow4 := hidden (zam HRow.out hb4); have HB4 := hidden (onto HB.out hb4); have HMap4 := hidden (Rt.zcz HMap.out (hb4.block MB HMap.out.lt)); have hsz4 := HB4.out.size) | (at_builtin; refine wpList_append_own_at _ rfl (.tmp 32) (.tmp 36) 30 rfl w.heap.size 33 i0 (.agg #[.int .i64 0, .int .i64 0, .int .i64 0]) 3 24 Tryz.underlying30 hi0 hv0 hv1 hv2 rfl (by decide) _ L.length (zt 3 jc L) rfl HRow4.out ⟨G4, 0, none⟩ N.length c4 (zt 3 jc N) rfl (za2 N) (fun j u hu => by rw [Addr.add_lit, Nat.zero_add]; exact (jw ho4 hu).1) (vc_one N) (by unfold maxLen; omega) (by omega) (by omega) ?_; intro v5 w5 ho5 hg5 hn5 hloc5; obtain ⟨G5, c5, rfl⟩ := own_nn ho5 (fun e => by cases (hn5.1 e).1)))
      have HB5 := hidden (HB4.out.grown hg5 (by omega) (fun k hk => (zcw HRow4.out k hk).1))
      have HM5 := hidden (HMap4.out.kept hg5 (fun e => hGM (by have e2 : some MB = some G := e; exact (Option.some.inj e2).symm)))
      have hG5 : G5 ≠ MB := by
       rcases hloc5 with q | q
       ·have q2 : some G5 = some G := q; have := Option.some.inj q2; omega
       ·have q2 : some G5 = some w4.heap.size := q; have := Option.some.inj q2; have := HMap4.out.lt; omega
      have HR5 : Hid (w5.ownsRow w.heap.size 33 3 (.slice (some ⟨G5, 0, none⟩) (L ++ N).length c5) (L ++ N).length (zt 3 jc (L ++ N))) := by rw [Hid, vc_app, List.length_append]; exact ho5
      go_roundw
      case rel => exact ⟨i + 1, L ++ N, by omega, rfl, HA2.out.symm, ⟨_, _, by rw [List.length_append], hG5, HR5.out⟩, HM5.out, HB5.out⟩
      case measure => simp [intOf]; omega
     ·have HA2 : Hid (L = zad os ds time (i + 1)) := by rw [Hid, HA1.out, if_neg hs2]
      have q2 : (x.s == 2) = false := by simpa using hs2
      clear HA1
      go_wp2_with fail
      go_roundw
      case rel => exact ⟨i + 1, L, by omega, rfl, HA2, ⟨_, _, rfl, hGM, HRow.out⟩, HMap.out, HB.out⟩
      case measure => simp [intOf]; omega
    ·have hlti : ¬ (i : Int) < (os.length : Int) := by omega
     obtain ⟨k1, k2, -⟩ := zfy (ds := ds) (time := time) HRis.out HCe.out os.length (Nat.le_refl _)
     have HK2 : Hid (∀ S : List Du, S.Perm L -> (∀ i j (hi : i < S.length) (hj : j < S.length), i < j -> ¬ ltD S[j] S[i]) -> S = R) := fun S hp hs => by
      rw [HN.out]
      refine zkf ?_ k1 hs
      rw [HL.out, show i = os.length by omega] at hp
      exact hp.trans k2.symm
     have hS := zkb G c w.heap.size L wr hrow (by omega)
     have hGb := (zbu hrow).1
     clear k1 k2 hrow hmap
     go_wp2_with (go_at_call 18; refine hS.mono ?_; rintro e w5 ⟨rfl, ⟨S, hp, hs, hv⟩, hg5⟩)
     go_ret
     have e9 := HK2.out S hp hs
     rw [<- e9]
     exact ⟨_, rfl, hv, hb.grown hg5 hb.size (fun k hk => by cases hk; exact hGb)⟩
end Go.Proofs.YtjlpfpigggdemaaGreatDoor
