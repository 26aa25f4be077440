/-
 Merged: Uc2.
-/
import Derived.Test.YtjlpfpigggdemaaGreatDoorMi18
import Derived.Test.YtjlpfpigggdemaaGreatDoorMi2
import Derived.Test.YtjlpfpigggdemaaGreatDoorMi4
namespace Go.Proofs.YtjlpfpigggdemaaGreatDoor
set_option maxRecDepth 8000
set_option maxHeartbeats 4000000
open Go.RowKit Va Uo
set_option linter.all false
def FC21 (CB DB g off n cap j : Nat) (so : Value) (d y : Ds) (i9 : Nat) (v : Value) (w : World) : Prop :=
 match i9 with
 | 0 => v = .pointer (some ⟨CB, 1, none⟩)
 | 1 => v = .slice (some ⟨g, off, none⟩) n cap
 | 2 => v = .int .i64 (j : Nat)
 | 3 => v = .pointer (some ⟨g, off + j * 5, none⟩)
 | 4 => v = .pointer (some ⟨g, off + j * 5, none⟩)
 | 5 => v = .int .i64 y.o
 | 6 => v = .pointer (some ⟨DB, 0, none⟩)
 | 7 => v = .int .i64 d.o
 | 8 => v = .bool (decide (y.o = d.o))
 | 9 => v = .bool (decide (y.o = d.o))
 | 10 => v = cond (true && ((decide (y.o = d.o)) == true)) (.pointer (some ⟨CB, 1, none⟩)) undef
 | 11 => v = cond (true && ((decide (y.o = d.o)) == true)) (.slice (some ⟨g, off, none⟩) n cap) undef
 | 12 => v = cond (true && ((decide (y.o = d.o)) == true)) (.int .i64 (j : Nat)) undef
 | 13 => v = cond (true && ((decide (y.o = d.o)) == true)) (.pointer (some ⟨g, off + j * 5, none⟩)) undef
 | 14 => v = cond (true && ((decide (y.o = d.o)) == true)) (.pointer (some ⟨g, off + j * 5 + 1, none⟩)) undef
 | 15 => v = cond (true && ((decide (y.o = d.o)) == true)) (.int .i64 y.t) undef
 | 16 => v = cond (true && ((decide (y.o = d.o)) == true)) (.pointer (some ⟨DB, 1, none⟩)) undef
 | 17 => v = cond (true && ((decide (y.o = d.o)) == true)) (.int .i64 d.t) undef
 | 18 => v = cond (true && ((decide (y.o = d.o)) == true)) (.bool (decide (y.t = d.t))) undef
 | 19 => v = .bool ((decide (y.o = d.o)) && (decide (y.t = d.t)))
 | _ => True
theorem zau : (Rg.opsOf Tryz.f22 21).size = 20 := by kernel_rfl
set_option maxRecDepth 20000 in
set_option maxHeartbeats 16000000 in
theorem regC21 {Q : Exit -> Act -> World -> Prop} {a : Act} {w9 : World} {CB DB g off n cap j : Nat} {so : Value} {d y : Ds} (ha : a.tmps.size = 162)
  (k1 : a.tmps[1]? = some (.pointer (some ⟨CB, 0, none⟩))) (k8 : a.tmps[8]? = some (.int .i64 (j : Nat))) (k5 : a.tmps[5]? = some (.pointer (some ⟨DB, 0, none⟩))) (hX : PB w9 CB #[so, .slice (some ⟨g, off, none⟩) n cap] 27) (hD5 : PB w9 DB #[.int .i64 d.o, .int .i64 d.t, .int .i64 d.m, .int .i64 d.b, .int .i64 d.a] 35) (hjn : j < n) (hgl : g < w9.heap.size) (y0 : w9.cell? ⟨g, off + j * 5, none⟩ = some (.int .i64 y.o)) (y1 : w9.cell? ⟨g, off + j * 5 + 1, none⟩ = some (.int .i64 y.t))
  (hend : ∀ b' w', Rg.Fr (Rg.opsOf Tryz.f22 21) a b' -> Below w9.heap.size w9 w' -> Rg.out (Rg.opsOf Tryz.f22 21) b' 19 = .bool ((decide (y.o = d.o)) && (decide (y.t = d.t))) -> Q .normal b' w') :
  (Code.region 21 (Rg.opsOf Tryz.f22 21) true).wp Tryz.prog Q a w9 := by
 refine Rg.zcq (by kernel_rfl) (fun _ w' => Below w9.heap.size w9 w') (FC21 CB DB g off n cap j so d y) (by rw [ha, zau]; kernel_rfl) (jq (Below.refl _ _)) ?_ ?_
 case refine_2 =>
  intro l b' w' hf hall hI hA
  rw [zau] at hA
  exact hend b' w' hf hI (hA 19 (by decide))
 case refine_1 =>
  clear hend
  have HS : ∀ {w w' : World}, Below w.heap.size w w' -> ∀ k9 y9, FC21 CB DB g off n cap j so d y k9 y9 w -> FC21 CB DB g off n cap j so d y k9 y9 w' := fun hb k9 y9 h => by
   unfold FC21 at *
   split at h <;> exact h
  intro i' hi'
  rw [zau] at hi'
  rcases (show i' = 0 ∨ i' = 1 ∨ i' = 2 ∨ i' = 3 ∨ i' = 4 ∨ i' = 5 ∨ i' = 6 ∨ i' = 7 ∨ i' = 8 ∨ i' = 9 ∨ i' = 10 ∨ i' = 11 ∨ i' = 12 ∨ i' = 13 ∨ i' = 14 ∨ i' = 15 ∨ i' = 16 ∨ i' = 17 ∨ i' = 18 ∨ i' = 19 by omega) with rfl | rfl | rfl | rfl | rfl | rfl | rfl | rfl | rfl | rfl | rfl | rfl | rfl | rfl | rfl | rfl | rfl | rfl | rfl | rfl
  ·intro ll bb w' hs hlf hN hO hf hI hA
   clear hi'
   have q1 := hf.kept (s := 1) (by rw [zau]; kernel_rfl) k1
   exact Rg.zf (o := ⟨some 142, Op.fieldAddr 27 (Operand.tmp 1) 1, _, _, _, _⟩) (x := .pointer (some ⟨CB, 1, none⟩)) rfl rfl (by clear hA HS hN hO hX hD5; simp only [execOp]; go_simp) ⟨_, rfl, (fun h => by cases h), rfl, hI, fun _ _ _ _ h => h⟩
  ·intro ll bb w' hs hlf hN hO hf hI hA
   clear hi'
   have q142 : bb.tmps[142]? = some _ := hf.tmp (k := 0) rfl (by rw [ha]; decide) (hA 0 (by kernel_rfl))
   obtain ⟨b0, b1⟩ := (hX.below hI).two
   exact Rg.zf (o := ⟨some 143, Op.load 25 (Operand.tmp 142), _, _, _, _⟩) (x := .slice (some ⟨g, off, none⟩) n cap) rfl rfl (by clear hA HS hN hO hX hD5; simp only [execOp]; go_simp) ⟨_, rfl, (fun h => by cases h), rfl, hI, fun _ _ _ _ h => h⟩
  ·intro ll bb w' hs hlf hN hO hf hI hA
   clear hi'
   have q0 := hf.kept (s := 8) (by rw [zau]; kernel_rfl) k8
   exact Rg.zf (o := ⟨some 144, Op.move (Operand.tmp 8), _, _, _, _⟩) (x := .int .i64 (j : Nat)) rfl rfl (by clear hA HS hN hO hX hD5; simp only [execOp]; go_simp) ⟨_, rfl, (fun h => by cases h), rfl, hI, fun _ _ _ _ h => h⟩
  ·intro ll bb w' hs hlf hN hO hf hI hA
   clear hi'
   have q143 : bb.tmps[143]? = some _ := hf.tmp (k := 1) rfl (by rw [ha]; decide) (hA 1 (by kernel_rfl))
   have q144 : bb.tmps[144]? = some _ := hf.tmp (k := 2) rfl (by rw [ha]; decide) (hA 2 (by kernel_rfl))
   have hin2 : (j : Int) < (n : Int) := by omega
   exact Rg.zf (o := ⟨some 145, Op.indexAddr 25 (Operand.tmp 143) (Operand.tmp 144), _, _, _, _⟩) (x := .pointer (some ⟨g, off + j * 5, none⟩)) rfl rfl (by clear hA HS hN hO hX hD5; simp only [execOp]; go_simp) ⟨_, rfl, (fun h => by cases h), rfl, hI, fun _ _ _ _ h => h⟩
  ·intro ll bb w' hs hlf hN hO hf hI hA
   clear hi'
   have q145 : bb.tmps[145]? = some _ := hf.tmp (k := 3) rfl (by rw [ha]; decide) (hA 3 (by kernel_rfl))
   exact Rg.zf (o := ⟨some 146, Op.fieldAddr 35 (Operand.tmp 145) 0, _, _, _, _⟩) (x := .pointer (some ⟨g, off + j * 5, none⟩)) rfl rfl (by clear hA HS hN hO hX hD5; simp only [execOp]; go_simp) ⟨_, rfl, (fun h => by cases h), rfl, hI, fun _ _ _ _ h => h⟩
  ·intro ll bb w' hs hlf hN hO hf hI hA
   clear hi'
   have q146 : bb.tmps[146]? = some _ := hf.tmp (k := 4) rfl (by rw [ha]; decide) (hA 4 (by kernel_rfl))
   have e9 := (hI.cell (p := ⟨g, off + j * 5, none⟩) hgl).trans y0
   exact Rg.zf (o := ⟨some 147, Op.load 2 (Operand.tmp 146), _, _, _, _⟩) (x := .int .i64 y.o) rfl rfl (by clear hA HS hN hO hX hD5; simp only [execOp]; go_simp) ⟨_, rfl, (fun h => by cases h), rfl, hI, fun _ _ _ _ h => h⟩
  ·intro ll bb w' hs hlf hN hO hf hI hA
   clear hi'
   have q5 := hf.kept (s := 5) (by rw [zau]; kernel_rfl) k5
   exact Rg.zf (o := ⟨some 148, Op.fieldAddr 35 (Operand.tmp 5) 0, _, _, _, _⟩) (x := .pointer (some ⟨DB, 0, none⟩)) rfl rfl (by clear hA HS hN hO hX hD5; simp only [execOp]; go_simp) ⟨_, rfl, (fun h => by cases h), rfl, hI, fun _ _ _ _ h => h⟩
  ·intro ll bb w' hs hlf hN hO hf hI hA
   clear hi'
   have q148 : bb.tmps[148]? = some _ := hf.tmp (k := 6) rfl (by rw [ha]; decide) (hA 6 (by kernel_rfl))
   obtain ⟨d0, d1, d2, d3, d4⟩ := (hD5.below hI).five
   exact Rg.zf (o := ⟨some 149, Op.load 2 (Operand.tmp 148), _, _, _, _⟩) (x := .int .i64 d.o) rfl rfl (by clear hA HS hN hO hX hD5; simp only [execOp]; go_simp) ⟨_, rfl, (fun h => by cases h), rfl, hI, fun _ _ _ _ h => h⟩
  ·intro ll bb w' hs hlf hN hO hf hI hA
   clear hi'
   have q147 : bb.tmps[147]? = some _ := hf.tmp (k := 5) rfl (by rw [ha]; decide) (hA 5 (by kernel_rfl))
   have q149 : bb.tmps[149]? = some _ := hf.tmp (k := 7) rfl (by rw [ha]; decide) (hA 7 (by kernel_rfl))
   exact Rg.zf (o := ⟨some 150, Op.binOp BinOp.eql 2 (Operand.tmp 147) (Operand.tmp 149) 2, _, _, _, _⟩) (x := .bool (decide (y.o = d.o))) rfl rfl (by clear hA HS hN hO hX hD5; simp only [execOp]; go_simp; exact Rg.zgg _ _) ⟨_, rfl, (fun h => by cases h), rfl, hI, fun _ _ _ _ h => h⟩
  ·intro ll bb w' hs hlf hN hO hf hI hA
   clear hi'
   have q150 : bb.tmps[150]? = some _ := hf.tmp (k := 8) rfl (by rw [ha]; decide) (hA 8 (by kernel_rfl))
   exact Rg.zf (o := ⟨some 151, Op.move (Operand.tmp 150), _, _, _, _⟩) (x := .bool (decide (y.o = d.o))) rfl rfl (by clear hA HS hN hO hX hD5; simp only [execOp]; go_simp) ⟨_, rfl, (fun h => by cases h), rfl, hI, fun _ _ _ _ h => h⟩
  ·intro ll bb w' hs hlf hN hO hf hI hA
   clear hi'
   have qg : bb.tmps[151]? = some (cond true (.bool (decide (y.o = d.o))) undef) := hf.tmp (k := 9) rfl (by rw [ha]; decide) (hA 9 (by kernel_rfl))
   cases hP : (true && ((decide (y.o = d.o)) == true)) with
   | false => exact Rg.zq (o := ⟨some 152, _, _, _, _, _⟩) rfl (Rg.zy (g := 9) rfl rfl qg hP) ⟨_, rfl, (fun h => by cases h), Rg.zu hP, hI, fun _ _ _ _ h => h⟩
   | true =>
    have hw := Rg.zx (ops := (Rg.opsOf Tryz.f22 21)) (o := (Rg.opsOf Tryz.f22 21)[10]'(by rw [zau]; decide)) (g := 9) rfl rfl qg hP
    have g0 := Rg.zn hP
    have q1 := hf.kept (s := 1) (by rw [zau]; kernel_rfl) k1
    exact Rg.zf (o := ⟨some 152, Op.fieldAddr 27 (Operand.tmp 1) 1, _, _, _, _⟩) (x := .pointer (some ⟨CB, 1, none⟩)) rfl hw (by clear hA HS hN hO hX hD5; simp only [execOp]; go_simp) ⟨_, rfl, (fun h => by cases h), (Rg.zk hP).symm, hI, fun _ _ _ _ h => h⟩
  ·intro ll bb w' hs hlf hN hO hf hI hA
   clear hi'
   have qg : bb.tmps[151]? = some (cond true (.bool (decide (y.o = d.o))) undef) := hf.tmp (k := 9) rfl (by rw [ha]; decide) (hA 9 (by kernel_rfl))
   cases hP : (true && ((decide (y.o = d.o)) == true)) with
   | false => exact Rg.zq (o := ⟨some 153, _, _, _, _, _⟩) rfl (Rg.zy (g := 9) rfl rfl qg hP) ⟨_, rfl, (fun h => by cases h), Rg.zu hP, hI, fun _ _ _ _ h => h⟩
   | true =>
    have hw := Rg.zx (ops := (Rg.opsOf Tryz.f22 21)) (o := (Rg.opsOf Tryz.f22 21)[11]'(by rw [zau]; decide)) (g := 9) rfl rfl qg hP
    have g0 := Rg.zn hP
    have q152 : bb.tmps[152]? = some (.pointer (some ⟨CB, 1, none⟩)) := hf.tmp (k := 10) rfl (by rw [ha]; decide) (Eq.trans (hA 10 (by kernel_rfl)) (Rg.zk hP))
    obtain ⟨b0, b1⟩ := (hX.below hI).two
    exact Rg.zf (o := ⟨some 153, Op.load 25 (Operand.tmp 152), _, _, _, _⟩) (x := .slice (some ⟨g, off, none⟩) n cap) rfl hw (by clear hA HS hN hO hX hD5; simp only [execOp]; go_simp) ⟨_, rfl, (fun h => by cases h), (Rg.zk hP).symm, hI, fun _ _ _ _ h => h⟩
  ·intro ll bb w' hs hlf hN hO hf hI hA
   clear hi'
   have qg : bb.tmps[151]? = some (cond true (.bool (decide (y.o = d.o))) undef) := hf.tmp (k := 9) rfl (by rw [ha]; decide) (hA 9 (by kernel_rfl))
   cases hP : (true && ((decide (y.o = d.o)) == true)) with
   | false => exact Rg.zq (o := ⟨some 154, _, _, _, _, _⟩) rfl (Rg.zy (g := 9) rfl rfl qg hP) ⟨_, rfl, (fun h => by cases h), Rg.zu hP, hI, fun _ _ _ _ h => h⟩
   | true =>
    have hw := Rg.zx (ops := (Rg.opsOf Tryz.f22 21)) (o := (Rg.opsOf Tryz.f22 21)[12]'(by rw [zau]; decide)) (g := 9) rfl rfl qg hP
    have g0 := Rg.zn hP
    have q0 := hf.kept (s := 8) (by rw [zau]; kernel_rfl) k8
    exact Rg.zf (o := ⟨some 154, Op.move (Operand.tmp 8), _, _, _, _⟩) (x := .int .i64 (j : Nat)) rfl hw (by clear hA HS hN hO hX hD5; simp only [execOp]; go_simp) ⟨_, rfl, (fun h => by cases h), (Rg.zk hP).symm, hI, fun _ _ _ _ h => h⟩
  ·intro ll bb w' hs hlf hN hO hf hI hA
   clear hi'
   have qg : bb.tmps[151]? = some (cond true (.bool (decide (y.o = d.o))) undef) := hf.tmp (k := 9) rfl (by rw [ha]; decide) (hA 9 (by kernel_rfl))
   cases hP : (true && ((decide (y.o = d.o)) == true)) with
   | false => exact Rg.zq (o := ⟨some 155, _, _, _, _, _⟩) rfl (Rg.zy (g := 9) rfl rfl qg hP) ⟨_, rfl, (fun h => by cases h), Rg.zu hP, hI, fun _ _ _ _ h => h⟩
   | true =>
    have hw := Rg.zx (ops := (Rg.opsOf Tryz.f22 21)) (o := (Rg.opsOf Tryz.f22 21)[13]'(by rw [zau]; decide)) (g := 9) rfl rfl qg hP
    have g0 := Rg.zn hP
    have q153 : bb.tmps[153]? = some (.slice (some ⟨g, off, none⟩) n cap) := hf.tmp (k := 11) rfl (by rw [ha]; decide) (Eq.trans (hA 11 (by kernel_rfl)) (Rg.zk hP))
    have q154 : bb.tmps[154]? = some (.int .i64 (j : Nat)) := hf.tmp (k := 12) rfl (by rw [ha]; decide) (Eq.trans (hA 12 (by kernel_rfl)) (Rg.zk hP))
    have hin2 : (j : Int) < (n : Int) := by omega
    exact Rg.zf (o := ⟨some 155, Op.indexAddr 25 (Operand.tmp 153) (Operand.tmp 154), _, _, _, _⟩) (x := .pointer (some ⟨g, off + j * 5, none⟩)) rfl hw (by clear hA HS hN hO hX hD5; simp only [execOp]; go_simp) ⟨_, rfl, (fun h => by cases h), (Rg.zk hP).symm, hI, fun _ _ _ _ h => h⟩
  ·intro ll bb w' hs hlf hN hO hf hI hA
   clear hi'
   have qg : bb.tmps[151]? = some (cond true (.bool (decide (y.o = d.o))) undef) := hf.tmp (k := 9) rfl (by rw [ha]; decide) (hA 9 (by kernel_rfl))
   cases hP : (true && ((decide (y.o = d.o)) == true)) with
   | false => exact Rg.zq (o := ⟨some 156, _, _, _, _, _⟩) rfl (Rg.zy (g := 9) rfl rfl qg hP) ⟨_, rfl, (fun h => by cases h), Rg.zu hP, hI, fun _ _ _ _ h => h⟩
   | true =>
    have hw := Rg.zx (ops := (Rg.opsOf Tryz.f22 21)) (o := (Rg.opsOf Tryz.f22 21)[14]'(by rw [zau]; decide)) (g := 9) rfl rfl qg hP
    have g0 := Rg.zn hP
    have q155 : bb.tmps[155]? = some (.pointer (some ⟨g, off + j * 5, none⟩)) := hf.tmp (k := 13) rfl (by rw [ha]; decide) (Eq.trans (hA 13 (by kernel_rfl)) (Rg.zk hP))
    exact Rg.zf (o := ⟨some 156, Op.fieldAddr 35 (Operand.tmp 155) 1, _, _, _, _⟩) (x := .pointer (some ⟨g, off + j * 5 + 1, none⟩)) rfl hw (by clear hA HS hN hO hX hD5; simp only [execOp]; go_simp) ⟨_, rfl, (fun h => by cases h), (Rg.zk hP).symm, hI, fun _ _ _ _ h => h⟩
  ·intro ll bb w' hs hlf hN hO hf hI hA
   clear hi'
   have qg : bb.tmps[151]? = some (cond true (.bool (decide (y.o = d.o))) undef) := hf.tmp (k := 9) rfl (by rw [ha]; decide) (hA 9 (by kernel_rfl))
   cases hP : (true && ((decide (y.o = d.o)) == true)) with
   | false => exact Rg.zq (o := ⟨some 157, _, _, _, _, _⟩) rfl (Rg.zy (g := 9) rfl rfl qg hP) ⟨_, rfl, (fun h => by cases h), Rg.zu hP, hI, fun _ _ _ _ h => h⟩
   | true =>
    have hw := Rg.zx (ops := (Rg.opsOf Tryz.f22 21)) (o := (Rg.opsOf Tryz.f22 21)[15]'(by rw [zau]; decide)) (g := 9) rfl rfl qg hP
    have g0 := Rg.zn hP
    have q156 : bb.tmps[156]? = some (.pointer (some ⟨g, off + j * 5 + 1, none⟩)) := hf.tmp (k := 14) rfl (by rw [ha]; decide) (Eq.trans (hA 14 (by kernel_rfl)) (Rg.zk hP))
    have e9 := (hI.cell (p := ⟨g, off + j * 5 + 1, none⟩) hgl).trans y1
    exact Rg.zf (o := ⟨some 157, Op.load 2 (Operand.tmp 156), _, _, _, _⟩) (x := .int .i64 y.t) rfl hw (by clear hA HS hN hO hX hD5; simp only [execOp]; go_simp) ⟨_, rfl, (fun h => by cases h), (Rg.zk hP).symm, hI, fun _ _ _ _ h => h⟩
  ·intro ll bb w' hs hlf hN hO hf hI hA
   clear hi'
   have qg : bb.tmps[151]? = some (cond true (.bool (decide (y.o = d.o))) undef) := hf.tmp (k := 9) rfl (by rw [ha]; decide) (hA 9 (by kernel_rfl))
   cases hP : (true && ((decide (y.o = d.o)) == true)) with
   | false => exact Rg.zq (o := ⟨some 158, _, _, _, _, _⟩) rfl (Rg.zy (g := 9) rfl rfl qg hP) ⟨_, rfl, (fun h => by cases h), Rg.zu hP, hI, fun _ _ _ _ h => h⟩
   | true =>
    have hw := Rg.zx (ops := (Rg.opsOf Tryz.f22 21)) (o := (Rg.opsOf Tryz.f22 21)[16]'(by rw [zau]; decide)) (g := 9) rfl rfl qg hP
    have g0 := Rg.zn hP
    have q5 := hf.kept (s := 5) (by rw [zau]; kernel_rfl) k5
    exact Rg.zf (o := ⟨some 158, Op.fieldAddr 35 (Operand.tmp 5) 1, _, _, _, _⟩) (x := .pointer (some ⟨DB, 1, none⟩)) rfl hw (by clear hA HS hN hO hX hD5; simp only [execOp]; go_simp) ⟨_, rfl, (fun h => by cases h), (Rg.zk hP).symm, hI, fun _ _ _ _ h => h⟩
  ·intro ll bb w' hs hlf hN hO hf hI hA
   clear hi'
   have qg : bb.tmps[151]? = some (cond true (.bool (decide (y.o = d.o))) undef) := hf.tmp (k := 9) rfl (by rw [ha]; decide) (hA 9 (by kernel_rfl))
   cases hP : (true && ((decide (y.o = d.o)) == true)) with
   | false => exact Rg.zq (o := ⟨some 159, _, _, _, _, _⟩) rfl (Rg.zy (g := 9) rfl rfl qg hP) ⟨_, rfl, (fun h => by cases h), Rg.zu hP, hI, fun _ _ _ _ h => h⟩
   | true =>
    have hw := Rg.zx (ops := (Rg.opsOf Tryz.f22 21)) (o := (Rg.opsOf Tryz.f22 21)[17]'(by rw [zau]; decide)) (g := 9) rfl rfl qg hP
    have g0 := Rg.zn hP
    have q158 : bb.tmps[158]? = some (.pointer (some ⟨DB, 1, none⟩)) := hf.tmp (k := 16) rfl (by rw [ha]; decide) (Eq.trans (hA 16 (by kernel_rfl)) (Rg.zk hP))
    obtain ⟨d0, d1, d2, d3, d4⟩ := (hD5.below hI).five
    exact Rg.zf (o := ⟨some 159, Op.load 2 (Operand.tmp 158), _, _, _, _⟩) (x := .int .i64 d.t) rfl hw (by clear hA HS hN hO hX hD5; simp only [execOp]; go_simp) ⟨_, rfl, (fun h => by cases h), (Rg.zk hP).symm, hI, fun _ _ _ _ h => h⟩
  ·intro ll bb w' hs hlf hN hO hf hI hA
   clear hi'
   have qg : bb.tmps[151]? = some (cond true (.bool (decide (y.o = d.o))) undef) := hf.tmp (k := 9) rfl (by rw [ha]; decide) (hA 9 (by kernel_rfl))
   cases hP : (true && ((decide (y.o = d.o)) == true)) with
   | false => exact Rg.zq (o := ⟨some 160, _, _, _, _, _⟩) rfl (Rg.zy (g := 9) rfl rfl qg hP) ⟨_, rfl, (fun h => by cases h), Rg.zu hP, hI, fun _ _ _ _ h => h⟩
   | true =>
    have hw := Rg.zx (ops := (Rg.opsOf Tryz.f22 21)) (o := (Rg.opsOf Tryz.f22 21)[18]'(by rw [zau]; decide)) (g := 9) rfl rfl qg hP
    have g0 := Rg.zn hP
    have q157 : bb.tmps[157]? = some (.int .i64 y.t) := hf.tmp (k := 15) rfl (by rw [ha]; decide) (Eq.trans (hA 15 (by kernel_rfl)) (Rg.zk hP))
    have q159 : bb.tmps[159]? = some (.int .i64 d.t) := hf.tmp (k := 17) rfl (by rw [ha]; decide) (Eq.trans (hA 17 (by kernel_rfl)) (Rg.zk hP))
    exact Rg.zf (o := ⟨some 160, Op.binOp BinOp.eql 2 (Operand.tmp 157) (Operand.tmp 159) 2, _, _, _, _⟩) (x := .bool (decide (y.t = d.t))) rfl hw (by clear hA HS hN hO hX hD5; simp only [execOp]; go_simp; exact Rg.zgg _ _) ⟨_, rfl, (fun h => by cases h), (Rg.zk hP).symm, hI, fun _ _ _ _ h => h⟩
  ·intro ll bb w' hs hlf hN hO hf hI hA
   clear hi'
   have q151 : bb.tmps[151]? = some _ := hf.tmp (k := 9) rfl (by rw [ha]; decide) (hA 9 (by kernel_rfl))
   cases hC : (decide (y.o = d.o)) with
   | false =>
    have hval : ((.bool ((decide (y.o = d.o)) && (decide (y.t = d.t))) : Value)) = .bool false := by rw [hC]; rfl
    exact Rg.zf (o := ⟨some 161, Op.pick (Operand.tmp 151) (Operand.tmp 160) (Operand.const (Value.bool false)), _, _, _, _⟩) (x := .bool false) rfl rfl (by rw [hC] at q151; clear hA HS hN hO hX hD5 hval; simp only [execOp]; go_simp) ⟨_, rfl, (fun h => by cases h), (by show ((.bool false : Value)) = _; exact hval.symm), hI, fun _ _ _ _ h => h⟩
   | true =>
    have hB : (true && ((decide (y.o = d.o)) == true)) = true := by rw [hC]; rfl
    have q160 : bb.tmps[160]? = some (.bool (decide (y.t = d.t))) := hf.tmp (k := 18) rfl (by rw [ha]; decide) (Eq.trans (hA 18 (by kernel_rfl)) (Rg.zk hB))
    have hval : ((.bool ((decide (y.o = d.o)) && (decide (y.t = d.t))) : Value)) = .bool (decide (y.t = d.t)) := by rw [hC]; rfl
    exact Rg.zf (o := ⟨some 161, Op.pick (Operand.tmp 151) (Operand.tmp 160) (Operand.const (Value.bool false)), _, _, _, _⟩) (x := .bool (decide (y.t = d.t))) rfl rfl (by rw [hC] at q151; clear hA HS hN hO hX hD5 hval; simp only [execOp]; go_simp) ⟨_, rfl, (fun h => by cases h), (by show ((.bool (decide (y.t = d.t)) : Value)) = _; exact hval.symm), hI, fun _ _ _ _ h => h⟩
theorem layC21 {a b : Act} (hf : Rg.Fr (Rg.opsOf Tryz.f22 21) a b) : b = Rg.fl (Rg.opsOf Tryz.f22 21) b 0 [some 142, some 143, some 144, some 145, some 146, some 147, some 148, some 149, some 150, some 151, some 152, some 153, some 154, some 155, some 156, some 157, some 158, some 159, some 160, some 161] a := Rg.ql _ (by kernel_rfl) hf
def FC16 (CB OB DB g off n cap i : Nat) (so : Value) (o : Od) (d : Ds) (ym : Int) (i9 : Nat) (v : Value) (w : World) : Prop :=
 match i9 with
 | 0 => v = .pointer (some ⟨OB, 7, none⟩)
 | 1 => v = .int .i64 o.s
 | 2 => v = .bool (decide (o.s = 1))
 | 3 => v = .bool (decide (o.s = 1))
 | 4 => v = cond (true && ((decide (o.s = 1)) == false)) (.pointer (some ⟨DB, 1, none⟩)) undef
 | 5 => v = cond (true && ((decide (o.s = 1)) == false)) (.int .i64 d.t) undef
 | 6 => v = cond (true && ((decide (o.s = 1)) == false)) (.pointer (some ⟨OB, 6, none⟩)) undef
 | 7 => v = cond (true && ((decide (o.s = 1)) == false)) (.int .i64 o.c) undef
 | 8 => v = cond (true && ((decide (o.s = 1)) == false)) (.int .i64 (o.c - 1)) undef
 | 9 => v = cond (true && ((decide (o.s = 1)) == false)) (.bool (rng d.t 0 (o.c - 1))) undef
 | 10 => v = cond (true && ((decide (o.s = 1)) == false)) (.bool (!(rng d.t 0 (o.c - 1)))) undef
 | 11 => v = .bool ((decide (o.s = 1)) || (!(rng d.t 0 (o.c - 1))))
 | 12 => v = .bool ((decide (o.s = 1)) || (!(rng d.t 0 (o.c - 1))))
 | 13 => v = cond (true && (((decide (o.s = 1)) || (!(rng d.t 0 (o.c - 1)))) == false)) (.pointer (some ⟨DB, 2, none⟩)) undef
 | 14 => v = cond (true && (((decide (o.s = 1)) || (!(rng d.t 0 (o.c - 1)))) == false)) (.int .i64 d.m) undef
 | 15 => v = cond (true && (((decide (o.s = 1)) || (!(rng d.t 0 (o.c - 1)))) == false)) (.bool (zl d.m)) undef
 | 16 => v = cond (true && (((decide (o.s = 1)) || (!(rng d.t 0 (o.c - 1)))) == false)) (.bool (!(zl d.m))) undef
 | 17 => v = .bool (((decide (o.s = 1)) || (!(rng d.t 0 (o.c - 1)))) || (!(zl d.m)))
 | 18 => v = .bool (((decide (o.s = 1)) || (!(rng d.t 0 (o.c - 1)))) || (!(zl d.m)))
 | 19 => v = cond (true && ((((decide (o.s = 1)) || (!(rng d.t 0 (o.c - 1)))) || (!(zl d.m))) == false)) (.pointer (some ⟨DB, 3, none⟩)) undef
 | 20 => v = cond (true && ((((decide (o.s = 1)) || (!(rng d.t 0 (o.c - 1)))) || (!(zl d.m))) == false)) (.int .i64 d.b) undef
 | 21 => v = cond (true && ((((decide (o.s = 1)) || (!(rng d.t 0 (o.c - 1)))) || (!(zl d.m))) == false)) (.bool (zh d.b)) undef
 | 22 => v = cond (true && ((((decide (o.s = 1)) || (!(rng d.t 0 (o.c - 1)))) || (!(zl d.m))) == false)) (.bool (!(zh d.b))) undef
 | 23 => v = .bool ((((decide (o.s = 1)) || (!(rng d.t 0 (o.c - 1)))) || (!(zl d.m))) || (!(zh d.b)))
 | 24 => v = .bool ((((decide (o.s = 1)) || (!(rng d.t 0 (o.c - 1)))) || (!(zl d.m))) || (!(zh d.b)))
 | 25 => v = cond (true && (((((decide (o.s = 1)) || (!(rng d.t 0 (o.c - 1)))) || (!(zl d.m))) || (!(zh d.b))) == false)) (.pointer (some ⟨DB, 4, none⟩)) undef
 | 26 => v = cond (true && (((((decide (o.s = 1)) || (!(rng d.t 0 (o.c - 1)))) || (!(zl d.m))) || (!(zh d.b))) == false)) (.int .i64 d.a) undef
 | 27 => v = cond (true && (((((decide (o.s = 1)) || (!(rng d.t 0 (o.c - 1)))) || (!(zl d.m))) || (!(zh d.b))) == false)) (.bool (!decide (d.a = -1))) undef
 | 28 => v = cond (true && (((((decide (o.s = 1)) || (!(rng d.t 0 (o.c - 1)))) || (!(zl d.m))) || (!(zh d.b))) == false)) (.bool (!decide (d.a = -1))) undef
 | 29 => v = cond ((true && (((((decide (o.s = 1)) || (!(rng d.t 0 (o.c - 1)))) || (!(zl d.m))) || (!(zh d.b))) == false)) && ((!decide (d.a = -1)) == true)) (.pointer (some ⟨DB, 4, none⟩)) undef
 | 30 => v = cond ((true && (((((decide (o.s = 1)) || (!(rng d.t 0 (o.c - 1)))) || (!(zl d.m))) || (!(zh d.b))) == false)) && ((!decide (d.a = -1)) == true)) (.int .i64 d.a) undef
 | 31 => v = cond ((true && (((((decide (o.s = 1)) || (!(rng d.t 0 (o.c - 1)))) || (!(zl d.m))) || (!(zh d.b))) == false)) && ((!decide (d.a = -1)) == true)) (.bool (zh d.a)) undef
 | 32 => v = cond ((true && (((((decide (o.s = 1)) || (!(rng d.t 0 (o.c - 1)))) || (!(zl d.m))) || (!(zh d.b))) == false)) && ((!decide (d.a = -1)) == true)) (.bool (!(zh d.a))) undef
 | 33 => v = cond (true && (((((decide (o.s = 1)) || (!(rng d.t 0 (o.c - 1)))) || (!(zl d.m))) || (!(zh d.b))) == false)) (.bool ((!decide (d.a = -1)) && (!(zh d.a)))) undef
 | 34 => v = .bool (((((decide (o.s = 1)) || (!(rng d.t 0 (o.c - 1)))) || (!(zl d.m))) || (!(zh d.b))) || ((!decide (d.a = -1)) && (!(zh d.a))))
 | 35 => v = .bool (((((decide (o.s = 1)) || (!(rng d.t 0 (o.c - 1)))) || (!(zl d.m))) || (!(zh d.b))) || ((!decide (d.a = -1)) && (!(zh d.a))))
 | 36 => v = cond (true && ((((((decide (o.s = 1)) || (!(rng d.t 0 (o.c - 1)))) || (!(zl d.m))) || (!(zh d.b))) || ((!decide (d.a = -1)) && (!(zh d.a)))) == false)) (.agg #[.int .i64 o.id, .int .i64 o.p, .int .i64 o.d, .int .i64 o.n, .int .i64 o.f, .int .i64 o.e, .int .i64 o.c, .int .i64 o.s, .bool o.two]) undef
 | 37 => v = cond (true && ((((((decide (o.s = 1)) || (!(rng d.t 0 (o.c - 1)))) || (!(zl d.m))) || (!(zh d.b))) || ((!decide (d.a = -1)) && (!(zh d.a)))) == false)) (.pointer (some ⟨DB, 3, none⟩)) undef
 | 38 => v = cond (true && ((((((decide (o.s = 1)) || (!(rng d.t 0 (o.c - 1)))) || (!(zl d.m))) || (!(zh d.b))) || ((!decide (d.a = -1)) && (!(zh d.a)))) == false)) (.int .i64 d.b) undef
 | 39 => v = cond (true && ((((((decide (o.s = 1)) || (!(rng d.t 0 (o.c - 1)))) || (!(zl d.m))) || (!(zh d.b))) || ((!decide (d.a = -1)) && (!(zh d.a)))) == false)) (.pointer (some ⟨DB, 4, none⟩)) undef
 | 40 => v = cond (true && ((((((decide (o.s = 1)) || (!(rng d.t 0 (o.c - 1)))) || (!(zl d.m))) || (!(zh d.b))) || ((!decide (d.a = -1)) && (!(zh d.a)))) == false)) (.int .i64 d.a) undef
 | 41 => v = cond (true && ((((((decide (o.s = 1)) || (!(rng d.t 0 (o.c - 1)))) || (!(zl d.m))) || (!(zh d.b))) || ((!decide (d.a = -1)) && (!(zh d.a)))) == false)) (.bool (byB o.two d.b d.a)) undef
 | 42 => v = cond (true && ((((((decide (o.s = 1)) || (!(rng d.t 0 (o.c - 1)))) || (!(zl d.m))) || (!(zh d.b))) || ((!decide (d.a = -1)) && (!(zh d.a)))) == false)) (.bool (!(byB o.two d.b d.a))) undef
 | 43 => v = .bool ((((((decide (o.s = 1)) || (!(rng d.t 0 (o.c - 1)))) || (!(zl d.m))) || (!(zh d.b))) || ((!decide (d.a = -1)) && (!(zh d.a)))) || (!(byB o.two d.b d.a)))
 | 44 => v = .bool ((((((decide (o.s = 1)) || (!(rng d.t 0 (o.c - 1)))) || (!(zl d.m))) || (!(zh d.b))) || ((!decide (d.a = -1)) && (!(zh d.a)))) || (!(byB o.two d.b d.a)))
 | 45 => v = cond (true && (((((((decide (o.s = 1)) || (!(rng d.t 0 (o.c - 1)))) || (!(zl d.m))) || (!(zh d.b))) || ((!decide (d.a = -1)) && (!(zh d.a)))) || (!(byB o.two d.b d.a))) == false)) (.int .i64 (i : Nat)) undef
 | 46 => v = cond (true && (((((((decide (o.s = 1)) || (!(rng d.t 0 (o.c - 1)))) || (!(zl d.m))) || (!(zh d.b))) || ((!decide (d.a = -1)) && (!(zh d.a)))) || (!(byB o.two d.b d.a))) == false)) (.bool (decide ((0 : Int) < (i : Int)))) undef
 | 47 => v = cond (true && (((((((decide (o.s = 1)) || (!(rng d.t 0 (o.c - 1)))) || (!(zl d.m))) || (!(zh d.b))) || ((!decide (d.a = -1)) && (!(zh d.a)))) || (!(byB o.two d.b d.a))) == false)) (.bool (decide ((0 : Int) < (i : Int)))) undef
 | 48 => v = cond ((true && (((((((decide (o.s = 1)) || (!(rng d.t 0 (o.c - 1)))) || (!(zl d.m))) || (!(zh d.b))) || ((!decide (d.a = -1)) && (!(zh d.a)))) || (!(byB o.two d.b d.a))) == false)) && ((decide ((0 : Int) < (i : Int))) == true)) (.pointer (some ⟨DB, 2, none⟩)) undef
 | 49 => v = cond ((true && (((((((decide (o.s = 1)) || (!(rng d.t 0 (o.c - 1)))) || (!(zl d.m))) || (!(zh d.b))) || ((!decide (d.a = -1)) && (!(zh d.a)))) || (!(byB o.two d.b d.a))) == false)) && ((decide ((0 : Int) < (i : Int))) == true)) (.int .i64 d.m) undef
 | 50 => v = cond ((true && (((((((decide (o.s = 1)) || (!(rng d.t 0 (o.c - 1)))) || (!(zl d.m))) || (!(zh d.b))) || ((!decide (d.a = -1)) && (!(zh d.a)))) || (!(byB o.two d.b d.a))) == false)) && ((decide ((0 : Int) < (i : Int))) == true)) (.pointer (some ⟨CB, 1, none⟩)) undef
 | 51 => v = cond ((true && (((((((decide (o.s = 1)) || (!(rng d.t 0 (o.c - 1)))) || (!(zl d.m))) || (!(zh d.b))) || ((!decide (d.a = -1)) && (!(zh d.a)))) || (!(byB o.two d.b d.a))) == false)) && ((decide ((0 : Int) < (i : Int))) == true)) (.slice (some ⟨g, off, none⟩) n cap) undef
 | 52 => v = cond ((true && (((((((decide (o.s = 1)) || (!(rng d.t 0 (o.c - 1)))) || (!(zl d.m))) || (!(zh d.b))) || ((!decide (d.a = -1)) && (!(zh d.a)))) || (!(byB o.two d.b d.a))) == false)) && ((decide ((0 : Int) < (i : Int))) == true)) (.int .i64 (i : Nat)) undef
 | 53 => v = cond ((true && (((((((decide (o.s = 1)) || (!(rng d.t 0 (o.c - 1)))) || (!(zl d.m))) || (!(zh d.b))) || ((!decide (d.a = -1)) && (!(zh d.a)))) || (!(byB o.two d.b d.a))) == false)) && ((decide ((0 : Int) < (i : Int))) == true)) (.int .i64 ((i - 1 : Nat) : Int)) undef
 | 54 => v = cond ((true && (((((((decide (o.s = 1)) || (!(rng d.t 0 (o.c - 1)))) || (!(zl d.m))) || (!(zh d.b))) || ((!decide (d.a = -1)) && (!(zh d.a)))) || (!(byB o.two d.b d.a))) == false)) && ((decide ((0 : Int) < (i : Int))) == true)) (.pointer (some ⟨g, off + (i - 1) * 5, none⟩)) undef
 | 55 => v = cond ((true && (((((((decide (o.s = 1)) || (!(rng d.t 0 (o.c - 1)))) || (!(zl d.m))) || (!(zh d.b))) || ((!decide (d.a = -1)) && (!(zh d.a)))) || (!(byB o.two d.b d.a))) == false)) && ((decide ((0 : Int) < (i : Int))) == true)) (.pointer (some ⟨g, off + (i - 1) * 5 + 2, none⟩)) undef
 | 56 => v = cond ((true && (((((((decide (o.s = 1)) || (!(rng d.t 0 (o.c - 1)))) || (!(zl d.m))) || (!(zh d.b))) || ((!decide (d.a = -1)) && (!(zh d.a)))) || (!(byB o.two d.b d.a))) == false)) && ((decide ((0 : Int) < (i : Int))) == true)) (.int .i64 ym) undef
 | 57 => v = cond ((true && (((((((decide (o.s = 1)) || (!(rng d.t 0 (o.c - 1)))) || (!(zl d.m))) || (!(zh d.b))) || ((!decide (d.a = -1)) && (!(zh d.a)))) || (!(byB o.two d.b d.a))) == false)) && ((decide ((0 : Int) < (i : Int))) == true)) (.bool (decide (d.m < ym))) undef
 | 58 => v = cond (true && (((((((decide (o.s = 1)) || (!(rng d.t 0 (o.c - 1)))) || (!(zl d.m))) || (!(zh d.b))) || ((!decide (d.a = -1)) && (!(zh d.a)))) || (!(byB o.two d.b d.a))) == false)) (.bool ((decide ((0 : Int) < (i : Int))) && (decide (d.m < ym)))) undef
 | 59 => v = .bool (((((((decide (o.s = 1)) || (!(rng d.t 0 (o.c - 1)))) || (!(zl d.m))) || (!(zh d.b))) || ((!decide (d.a = -1)) && (!(zh d.a)))) || (!(byB o.two d.b d.a))) || ((decide ((0 : Int) < (i : Int))) && (decide (d.m < ym))))
 | _ => True
theorem jl : (Rg.opsOf Tryz.f22 16).size = 60 := by kernel_rfl
set_option maxRecDepth 20000 in
set_option maxHeartbeats 16000000 in
theorem regC16 {Q : Exit -> Act -> World -> Prop} {a : Act} {w9 : World} {CB OB DB g off n cap i : Nat} {so : Value} {o : Od} {d : Ds} {ym : Int} (ha : a.tmps.size = 162)
  (k1 : a.tmps[1]? = some (.pointer (some ⟨CB, 0, none⟩))) (k4 : a.tmps[4]? = some (.int .i64 (i : Nat))) (k5 : a.tmps[5]? = some (.pointer (some ⟨DB, 0, none⟩))) (k7 : a.tmps[7]? = some (.pointer (some ⟨OB, 0, none⟩))) (hX : PB w9 CB #[so, .slice (some ⟨g, off, none⟩) n cap] 27) (hO9 : PB w9 OB #[.int .i64 o.id, .int .i64 o.p, .int .i64 o.d, .int .i64 o.n, .int .i64 o.f, .int .i64 o.e, .int .i64 o.c, .int .i64 o.s, .bool o.two] 38) (hD5 : PB w9 DB #[.int .i64 d.o, .int .i64 d.t, .int .i64 d.m, .int .i64 d.b, .int .i64 d.a] 35) (hin : i < n) (hil : i < 1000000) (hgl : g < w9.heap.size) (hoc : -1000000000 <= o.c /\ o.c <= 1000000000) (y2 : 0 < i -> w9.cell? ⟨g, off + (i - 1) * 5 + 2, none⟩ = some (.int .i64 ym)) (hK1 : ∀ W, Calls Tryz.prog 38 #[.int .i64 d.t, .int .i64 0, .int .i64 (o.c - 1)] W fun e W' => e = .returned (.bool (rng d.t 0 (o.c - 1))) /\ W = W') (hK2 : ∀ W, Calls Tryz.prog 23 #[.int .i64 d.m] W fun e W' => e = .returned (.bool (zl d.m)) /\ W = W') (hK3 : ∀ W, Calls Tryz.prog 39 #[.int .i64 d.b] W fun e W' => e = .returned (.bool (zh d.b)) /\ W = W') (hK4 : ∀ W, Calls Tryz.prog 39 #[.int .i64 d.a] W fun e W' => e = .returned (.bool (zh d.a)) /\ W = W') (hK5 : ∀ W, Calls Tryz.prog 40 #[.agg #[.int .i64 o.id, .int .i64 o.p, .int .i64 o.d, .int .i64 o.n, .int .i64 o.f, .int .i64 o.e, .int .i64 o.c, .int .i64 o.s, .bool o.two], .int .i64 d.b, .int .i64 d.a] W fun e W' => e = .returned (.bool (byB o.two d.b d.a)) /\ Below W.heap.size W W')
  (hend : ∀ b' w', Rg.Fr (Rg.opsOf Tryz.f22 16) a b' -> Below w9.heap.size w9 w' -> Rg.out (Rg.opsOf Tryz.f22 16) b' 59 = .bool (((((((decide (o.s = 1)) || (!(rng d.t 0 (o.c - 1)))) || (!(zl d.m))) || (!(zh d.b))) || ((!decide (d.a = -1)) && (!(zh d.a)))) || (!(byB o.two d.b d.a))) || ((decide ((0 : Int) < (i : Int))) && (decide (d.m < ym)))) -> Q .normal b' w') :
  (Code.region 16 (Rg.opsOf Tryz.f22 16) true).wp Tryz.prog Q a w9 := by
 refine Rg.zcq (by kernel_rfl) (fun _ w' => Below w9.heap.size w9 w') (FC16 CB OB DB g off n cap i so o d ym) (by rw [ha, jl]; kernel_rfl) (jq (Below.refl _ _)) ?_ ?_
 case refine_2 =>
  intro l b' w' hf hall hI hA
  rw [jl] at hA
  exact hend b' w' hf hI (hA 59 (by decide))
 case refine_1 =>
  clear hend
  have HS : ∀ {w w' : World}, Below w.heap.size w w' -> ∀ k9 y9, FC16 CB OB DB g off n cap i so o d ym k9 y9 w -> FC16 CB OB DB g off n cap i so o d ym k9 y9 w' := fun hb k9 y9 h => by
   unfold FC16 at *
   split at h <;> exact h
  intro i' hi'
  rw [jl] at hi'
  rcases (show i' = 0 ∨ i' = 1 ∨ i' = 2 ∨ i' = 3 ∨ i' = 4 ∨ i' = 5 ∨ i' = 6 ∨ i' = 7 ∨ i' = 8 ∨ i' = 9 ∨ i' = 10 ∨ i' = 11 ∨ i' = 12 ∨ i' = 13 ∨ i' = 14 ∨ i' = 15 ∨ i' = 16 ∨ i' = 17 ∨ i' = 18 ∨ i' = 19 ∨ i' = 20 ∨ i' = 21 ∨ i' = 22 ∨ i' = 23 ∨ i' = 24 ∨ i' = 25 ∨ i' = 26 ∨ i' = 27 ∨ i' = 28 ∨ i' = 29 ∨ i' = 30 ∨ i' = 31 ∨ i' = 32 ∨ i' = 33 ∨ i' = 34 ∨ i' = 35 ∨ i' = 36 ∨ i' = 37 ∨ i' = 38 ∨ i' = 39 ∨ i' = 40 ∨ i' = 41 ∨ i' = 42 ∨ i' = 43 ∨ i' = 44 ∨ i' = 45 ∨ i' = 46 ∨ i' = 47 ∨ i' = 48 ∨ i' = 49 ∨ i' = 50 ∨ i' = 51 ∨ i' = 52 ∨ i' = 53 ∨ i' = 54 ∨ i' = 55 ∨ i' = 56 ∨ i' = 57 ∨ i' = 58 ∨ i' = 59 by omega) with rfl | rfl | rfl | rfl | rfl | rfl | rfl | rfl | rfl | rfl | rfl | rfl | rfl | rfl | rfl | rfl | rfl | rfl | rfl | rfl | rfl | rfl | rfl | rfl | rfl | rfl | rfl | rfl | rfl | rfl | rfl | rfl | rfl | rfl | rfl | rfl | rfl | rfl | rfl | rfl | rfl | rfl | rfl | rfl | rfl | rfl | rfl | rfl | rfl | rfl | rfl | rfl | rfl | rfl | rfl | rfl | rfl | rfl | rfl | rfl
  ·intro ll bb w' hs hlf hN hO hf hI hA
   clear hi'
   have q7 := hf.kept (s := 7) (by rw [jl]; kernel_rfl) k7
   exact Rg.zf (o := ⟨some 77, Op.fieldAddr 38 (Operand.tmp 7) 7, _, _, _, _⟩) (x := .pointer (some ⟨OB, 7, none⟩)) rfl rfl (by clear hA HS hN hO hX hO9 hD5 hK1 hK2 hK3 hK4 hK5; simp only [execOp]; go_simp) ⟨_, rfl, (fun h => by cases h), rfl, hI, fun _ _ _ _ h => h⟩
  ·intro ll bb w' hs hlf hN hO hf hI hA
   clear hi'
   have q77 : bb.tmps[77]? = some _ := hf.tmp (k := 0) rfl (by rw [ha]; decide) (hA 0 (by kernel_rfl))
   obtain ⟨o0, o1, o2, o3, o4, o5, o6, o7, o8⟩ := (hO9.below hI).nine
   exact Rg.zf (o := ⟨some 78, Op.load 2 (Operand.tmp 77), _, _, _, _⟩) (x := .int .i64 o.s) rfl rfl (by clear hA HS hN hO hX hO9 hD5 hK1 hK2 hK3 hK4 hK5; simp only [execOp]; go_simp) ⟨_, rfl, (fun h => by cases h), rfl, hI, fun _ _ _ _ h => h⟩
  ·intro ll bb w' hs hlf hN hO hf hI hA
   clear hi'
   have q78 : bb.tmps[78]? = some _ := hf.tmp (k := 1) rfl (by rw [ha]; decide) (hA 1 (by kernel_rfl))
   exact Rg.zf (o := ⟨some 79, Op.binOp BinOp.eql 2 (Operand.tmp 78) (Operand.const (Value.int .i64 1)) 2, _, _, _, _⟩) (x := .bool (decide (o.s = 1))) rfl rfl (by clear hA HS hN hO hX hO9 hD5 hK1 hK2 hK3 hK4 hK5; simp only [execOp]; go_simp; exact Rg.zgg _ _) ⟨_, rfl, (fun h => by cases h), rfl, hI, fun _ _ _ _ h => h⟩
  ·intro ll bb w' hs hlf hN hO hf hI hA
   clear hi'
   have q79 : bb.tmps[79]? = some _ := hf.tmp (k := 2) rfl (by rw [ha]; decide) (hA 2 (by kernel_rfl))
   exact Rg.zf (o := ⟨some 80, Op.move (Operand.tmp 79), _, _, _, _⟩) (x := .bool (decide (o.s = 1))) rfl rfl (by clear hA HS hN hO hX hO9 hD5 hK1 hK2 hK3 hK4 hK5; simp only [execOp]; go_simp) ⟨_, rfl, (fun h => by cases h), rfl, hI, fun _ _ _ _ h => h⟩
  ·intro ll bb w' hs hlf hN hO hf hI hA
   clear hi'
   have qg : bb.tmps[80]? = some (cond true (.bool (decide (o.s = 1))) undef) := hf.tmp (k := 3) rfl (by rw [ha]; decide) (hA 3 (by kernel_rfl))
   cases hP : (true && ((decide (o.s = 1)) == false)) with
   | false => exact Rg.zq (o := ⟨some 81, _, _, _, _, _⟩) rfl (Rg.zy (g := 3) rfl rfl qg hP) ⟨_, rfl, (fun h => by cases h), Rg.zu hP, hI, fun _ _ _ _ h => h⟩
   | true =>
    have hw := Rg.zx (ops := (Rg.opsOf Tryz.f22 16)) (o := (Rg.opsOf Tryz.f22 16)[4]'(by rw [jl]; decide)) (g := 3) rfl rfl qg hP
    have g0 := Rg.zn hP
    have q5 := hf.kept (s := 5) (by rw [jl]; kernel_rfl) k5
    exact Rg.zf (o := ⟨some 81, Op.fieldAddr 35 (Operand.tmp 5) 1, _, _, _, _⟩) (x := .pointer (some ⟨DB, 1, none⟩)) rfl hw (by clear hA HS hN hO hX hO9 hD5 hK1 hK2 hK3 hK4 hK5; simp only [execOp]; go_simp) ⟨_, rfl, (fun h => by cases h), (Rg.zk hP).symm, hI, fun _ _ _ _ h => h⟩
  ·intro ll bb w' hs hlf hN hO hf hI hA
   clear hi'
   have qg : bb.tmps[80]? = some (cond true (.bool (decide (o.s = 1))) undef) := hf.tmp (k := 3) rfl (by rw [ha]; decide) (hA 3 (by kernel_rfl))
   cases hP : (true && ((decide (o.s = 1)) == false)) with
   | false => exact Rg.zq (o := ⟨some 82, _, _, _, _, _⟩) rfl (Rg.zy (g := 3) rfl rfl qg hP) ⟨_, rfl, (fun h => by cases h), Rg.zu hP, hI, fun _ _ _ _ h => h⟩
   | true =>
    have hw := Rg.zx (ops := (Rg.opsOf Tryz.f22 16)) (o := (Rg.opsOf Tryz.f22 16)[5]'(by rw [jl]; decide)) (g := 3) rfl rfl qg hP
    have g0 := Rg.zn hP
    have q81 : bb.tmps[81]? = some (.pointer (some ⟨DB, 1, none⟩)) := hf.tmp (k := 4) rfl (by rw [ha]; decide) (Eq.trans (hA 4 (by kernel_rfl)) (Rg.zk hP))
    obtain ⟨d0, d1, d2, d3, d4⟩ := (hD5.below hI).five
    exact Rg.zf (o := ⟨some 82, Op.load 2 (Operand.tmp 81), _, _, _, _⟩) (x := .int .i64 d.t) rfl hw (by clear hA HS hN hO hX hO9 hD5 hK1 hK2 hK3 hK4 hK5; simp only [execOp]; go_simp) ⟨_, rfl, (fun h => by cases h), (Rg.zk hP).symm, hI, fun _ _ _ _ h => h⟩
  ·intro ll bb w' hs hlf hN hO hf hI hA
   clear hi'
   have qg : bb.tmps[80]? = some (cond true (.bool (decide (o.s = 1))) undef) := hf.tmp (k := 3) rfl (by rw [ha]; decide) (hA 3 (by kernel_rfl))
   cases hP : (true && ((decide (o.s = 1)) == false)) with
   | false => exact Rg.zq (o := ⟨some 83, _, _, _, _, _⟩) rfl (Rg.zy (g := 3) rfl rfl qg hP) ⟨_, rfl, (fun h => by cases h), Rg.zu hP, hI, fun _ _ _ _ h => h⟩
   | true =>
    have hw := Rg.zx (ops := (Rg.opsOf Tryz.f22 16)) (o := (Rg.opsOf Tryz.f22 16)[6]'(by rw [jl]; decide)) (g := 3) rfl rfl qg hP
    have g0 := Rg.zn hP
    have q7 := hf.kept (s := 7) (by rw [jl]; kernel_rfl) k7
    exact Rg.zf (o := ⟨some 83, Op.fieldAddr 38 (Operand.tmp 7) 6, _, _, _, _⟩) (x := .pointer (some ⟨OB, 6, none⟩)) rfl hw (by clear hA HS hN hO hX hO9 hD5 hK1 hK2 hK3 hK4 hK5; simp only [execOp]; go_simp) ⟨_, rfl, (fun h => by cases h), (Rg.zk hP).symm, hI, fun _ _ _ _ h => h⟩
  ·intro ll bb w' hs hlf hN hO hf hI hA
   clear hi'
   have qg : bb.tmps[80]? = some (cond true (.bool (decide (o.s = 1))) undef) := hf.tmp (k := 3) rfl (by rw [ha]; decide) (hA 3 (by kernel_rfl))
   cases hP : (true && ((decide (o.s = 1)) == false)) with
   | false => exact Rg.zq (o := ⟨some 84, _, _, _, _, _⟩) rfl (Rg.zy (g := 3) rfl rfl qg hP) ⟨_, rfl, (fun h => by cases h), Rg.zu hP, hI, fun _ _ _ _ h => h⟩
   | true =>
    have hw := Rg.zx (ops := (Rg.opsOf Tryz.f22 16)) (o := (Rg.opsOf Tryz.f22 16)[7]'(by rw [jl]; decide)) (g := 3) rfl rfl qg hP
    have g0 := Rg.zn hP
    have q83 : bb.tmps[83]? = some (.pointer (some ⟨OB, 6, none⟩)) := hf.tmp (k := 6) rfl (by rw [ha]; decide) (Eq.trans (hA 6 (by kernel_rfl)) (Rg.zk hP))
    obtain ⟨o0, o1, o2, o3, o4, o5, o6, o7, o8⟩ := (hO9.below hI).nine
    exact Rg.zf (o := ⟨some 84, Op.load 2 (Operand.tmp 83), _, _, _, _⟩) (x := .int .i64 o.c) rfl hw (by clear hA HS hN hO hX hO9 hD5 hK1 hK2 hK3 hK4 hK5; simp only [execOp]; go_simp) ⟨_, rfl, (fun h => by cases h), (Rg.zk hP).symm, hI, fun _ _ _ _ h => h⟩
  ·intro ll bb w' hs hlf hN hO hf hI hA
   clear hi'
   have qg : bb.tmps[80]? = some (cond true (.bool (decide (o.s = 1))) undef) := hf.tmp (k := 3) rfl (by rw [ha]; decide) (hA 3 (by kernel_rfl))
   cases hP : (true && ((decide (o.s = 1)) == false)) with
   | false => exact Rg.zq (o := ⟨some 85, _, _, _, _, _⟩) rfl (Rg.zy (g := 3) rfl rfl qg hP) ⟨_, rfl, (fun h => by cases h), Rg.zu hP, hI, fun _ _ _ _ h => h⟩
   | true =>
    have hw := Rg.zx (ops := (Rg.opsOf Tryz.f22 16)) (o := (Rg.opsOf Tryz.f22 16)[8]'(by rw [jl]; decide)) (g := 3) rfl rfl qg hP
    have g0 := Rg.zn hP
    have q84 : bb.tmps[84]? = some (.int .i64 o.c) := hf.tmp (k := 7) rfl (by rw [ha]; decide) (Eq.trans (hA 7 (by kernel_rfl)) (Rg.zk hP))
    have hwr : IntKind.i64.wrap (o.c - 1) = o.c - 1 := by rw [IntKind.wrap_i64]; omega
    exact Rg.zf (o := ⟨some 85, Op.binOp BinOp.sub 2 (Operand.tmp 84) (Operand.const (Value.int .i64 1)) 2, _, _, _, _⟩) (x := .int .i64 (o.c - 1)) rfl hw (by clear hA HS hN hO hX hO9 hD5 hK1 hK2 hK3 hK4 hK5; simp only [execOp]; go_simp) ⟨_, rfl, (fun h => by cases h), (Rg.zk hP).symm, hI, fun _ _ _ _ h => h⟩
  ·intro ll bb w' hs hlf hN hO hf hI hA
   clear hi'
   have qg : bb.tmps[80]? = some (cond true (.bool (decide (o.s = 1))) undef) := hf.tmp (k := 3) rfl (by rw [ha]; decide) (hA 3 (by kernel_rfl))
   cases hP : (true && ((decide (o.s = 1)) == false)) with
   | false => exact Rg.zq (o := ⟨some 86, _, _, _, _, _⟩) rfl (Rg.zy (g := 3) rfl rfl qg hP) ⟨_, rfl, (fun h => by cases h), Rg.zu hP, hI, fun _ _ _ _ h => h⟩
   | true =>
    have hw := Rg.zx (ops := (Rg.opsOf Tryz.f22 16)) (o := (Rg.opsOf Tryz.f22 16)[9]'(by rw [jl]; decide)) (g := 3) rfl rfl qg hP
    have g0 := Rg.zn hP
    have q82 : bb.tmps[82]? = some (.int .i64 d.t) := hf.tmp (k := 5) rfl (by rw [ha]; decide) (Eq.trans (hA 5 (by kernel_rfl)) (Rg.zk hP))
    have q85 : bb.tmps[85]? = some (.int .i64 (o.c - 1)) := hf.tmp (k := 8) rfl (by rw [ha]; decide) (Eq.trans (hA 8 (by kernel_rfl)) (Rg.zk hP))
    refine Rg.jr (o := ⟨some 86, Op.call { callee := Callee.value (Operand.func 38), args := #[(Operand.tmp 82), (Operand.const (Value.int .i64 0)), (Operand.tmp 85)], argTypes := _ }, _, _, _, _⟩) rfl hw (by clear hA HS hN hO hX hO9 hD5 hK1 hK2 hK3 hK4 hK5; simp only [execOp, resolve]; go_simp) (hK1 w') ?_
    rintro e w2 ⟨rfl, rfl⟩
    exact ⟨_, rfl, _, rfl, (fun h => by cases h), (Rg.zk hP).symm, hI, fun _ _ _ _ h => h⟩
  ·intro ll bb w' hs hlf hN hO hf hI hA
   clear hi'
   have qg : bb.tmps[80]? = some (cond true (.bool (decide (o.s = 1))) undef) := hf.tmp (k := 3) rfl (by rw [ha]; decide) (hA 3 (by kernel_rfl))
   cases hP : (true && ((decide (o.s = 1)) == false)) with
   | false => exact Rg.zq (o := ⟨some 87, _, _, _, _, _⟩) rfl (Rg.zy (g := 3) rfl rfl qg hP) ⟨_, rfl, (fun h => by cases h), Rg.zu hP, hI, fun _ _ _ _ h => h⟩
   | true =>
    have hw := Rg.zx (ops := (Rg.opsOf Tryz.f22 16)) (o := (Rg.opsOf Tryz.f22 16)[10]'(by rw [jl]; decide)) (g := 3) rfl rfl qg hP
    have g0 := Rg.zn hP
    have q86 : bb.tmps[86]? = some (.bool (rng d.t 0 (o.c - 1))) := hf.tmp (k := 9) rfl (by rw [ha]; decide) (Eq.trans (hA 9 (by kernel_rfl)) (Rg.zk hP))
    exact Rg.zf (o := ⟨some 87, Op.unOp UnOp.not 4 (Operand.tmp 86), _, _, _, _⟩) (x := .bool (!(rng d.t 0 (o.c - 1)))) rfl hw (by clear hA HS hN hO hX hO9 hD5 hK1 hK2 hK3 hK4 hK5; simp only [execOp]; go_simp) ⟨_, rfl, (fun h => by cases h), (Rg.zk hP).symm, hI, fun _ _ _ _ h => h⟩
  ·intro ll bb w' hs hlf hN hO hf hI hA
   clear hi'
   have q80 : bb.tmps[80]? = some _ := hf.tmp (k := 3) rfl (by rw [ha]; decide) (hA 3 (by kernel_rfl))
   cases hC : (decide (o.s = 1)) with
   | false =>
    have hB : (true && ((decide (o.s = 1)) == false)) = true := by rw [hC]; rfl
    have q87 : bb.tmps[87]? = some (.bool (!(rng d.t 0 (o.c - 1)))) := hf.tmp (k := 10) rfl (by rw [ha]; decide) (Eq.trans (hA 10 (by kernel_rfl)) (Rg.zk hB))
    have hval : ((.bool ((decide (o.s = 1)) || (!(rng d.t 0 (o.c - 1)))) : Value)) = .bool (!(rng d.t 0 (o.c - 1))) := by rw [hC]; rfl
    exact Rg.zf (o := ⟨some 88, Op.pick (Operand.tmp 80) (Operand.const (Value.bool true)) (Operand.tmp 87), _, _, _, _⟩) (x := .bool (!(rng d.t 0 (o.c - 1)))) rfl rfl (by rw [hC] at q80; clear hA HS hN hO hX hO9 hD5 hK1 hK2 hK3 hK4 hK5 hval; simp only [execOp]; go_simp) ⟨_, rfl, (fun h => by cases h), (by show ((.bool (!(rng d.t 0 (o.c - 1))) : Value)) = _; exact hval.symm), hI, fun _ _ _ _ h => h⟩
   | true =>
    have hval : ((.bool ((decide (o.s = 1)) || (!(rng d.t 0 (o.c - 1)))) : Value)) = .bool true := by rw [hC]; rfl
    exact Rg.zf (o := ⟨some 88, Op.pick (Operand.tmp 80) (Operand.const (Value.bool true)) (Operand.tmp 87), _, _, _, _⟩) (x := .bool true) rfl rfl (by rw [hC] at q80; clear hA HS hN hO hX hO9 hD5 hK1 hK2 hK3 hK4 hK5 hval; simp only [execOp]; go_simp) ⟨_, rfl, (fun h => by cases h), (by show ((.bool true : Value)) = _; exact hval.symm), hI, fun _ _ _ _ h => h⟩
  ·intro ll bb w' hs hlf hN hO hf hI hA
   clear hi'
   have q88 : bb.tmps[88]? = some _ := hf.tmp (k := 11) rfl (by rw [ha]; decide) (hA 11 (by kernel_rfl))
   exact Rg.zf (o := ⟨some 89, Op.move (Operand.tmp 88), _, _, _, _⟩) (x := .bool ((decide (o.s = 1)) || (!(rng d.t 0 (o.c - 1))))) rfl rfl (by clear hA HS hN hO hX hO9 hD5 hK1 hK2 hK3 hK4 hK5; simp only [execOp]; go_simp) ⟨_, rfl, (fun h => by cases h), rfl, hI, fun _ _ _ _ h => h⟩
  ·intro ll bb w' hs hlf hN hO hf hI hA
   clear hi'
   have qg : bb.tmps[89]? = some (cond true (.bool ((decide (o.s = 1)) || (!(rng d.t 0 (o.c - 1))))) undef) := hf.tmp (k := 12) rfl (by rw [ha]; decide) (hA 12 (by kernel_rfl))
   cases hP : (true && (((decide (o.s = 1)) || (!(rng d.t 0 (o.c - 1)))) == false)) with
   | false => exact Rg.zq (o := ⟨some 90, _, _, _, _, _⟩) rfl (Rg.zy (g := 12) rfl rfl qg hP) ⟨_, rfl, (fun h => by cases h), Rg.zu hP, hI, fun _ _ _ _ h => h⟩
   | true =>
    have hw := Rg.zx (ops := (Rg.opsOf Tryz.f22 16)) (o := (Rg.opsOf Tryz.f22 16)[13]'(by rw [jl]; decide)) (g := 12) rfl rfl qg hP
    have g0 := Rg.zn hP
    have q5 := hf.kept (s := 5) (by rw [jl]; kernel_rfl) k5
    exact Rg.zf (o := ⟨some 90, Op.fieldAddr 35 (Operand.tmp 5) 2, _, _, _, _⟩) (x := .pointer (some ⟨DB, 2, none⟩)) rfl hw (by clear hA HS hN hO hX hO9 hD5 hK1 hK2 hK3 hK4 hK5; simp only [execOp]; go_simp) ⟨_, rfl, (fun h => by cases h), (Rg.zk hP).symm, hI, fun _ _ _ _ h => h⟩
  ·intro ll bb w' hs hlf hN hO hf hI hA
   clear hi'
   have qg : bb.tmps[89]? = some (cond true (.bool ((decide (o.s = 1)) || (!(rng d.t 0 (o.c - 1))))) undef) := hf.tmp (k := 12) rfl (by rw [ha]; decide) (hA 12 (by kernel_rfl))
   cases hP : (true && (((decide (o.s = 1)) || (!(rng d.t 0 (o.c - 1)))) == false)) with
   | false => exact Rg.zq (o := ⟨some 91, _, _, _, _, _⟩) rfl (Rg.zy (g := 12) rfl rfl qg hP) ⟨_, rfl, (fun h => by cases h), Rg.zu hP, hI, fun _ _ _ _ h => h⟩
   | true =>
    have hw := Rg.zx (ops := (Rg.opsOf Tryz.f22 16)) (o := (Rg.opsOf Tryz.f22 16)[14]'(by rw [jl]; decide)) (g := 12) rfl rfl qg hP
    have g0 := Rg.zn hP
    have q90 : bb.tmps[90]? = some (.pointer (some ⟨DB, 2, none⟩)) := hf.tmp (k := 13) rfl (by rw [ha]; decide) (Eq.trans (hA 13 (by kernel_rfl)) (Rg.zk hP))
    obtain ⟨d0, d1, d2, d3, d4⟩ := (hD5.below hI).five
    exact Rg.zf (o := ⟨some 91, Op.load 2 (Operand.tmp 90), _, _, _, _⟩) (x := .int .i64 d.m) rfl hw (by clear hA HS hN hO hX hO9 hD5 hK1 hK2 hK3 hK4 hK5; simp only [execOp]; go_simp) ⟨_, rfl, (fun h => by cases h), (Rg.zk hP).symm, hI, fun _ _ _ _ h => h⟩
  ·intro ll bb w' hs hlf hN hO hf hI hA
   clear hi'
   have qg : bb.tmps[89]? = some (cond true (.bool ((decide (o.s = 1)) || (!(rng d.t 0 (o.c - 1))))) undef) := hf.tmp (k := 12) rfl (by rw [ha]; decide) (hA 12 (by kernel_rfl))
   cases hP : (true && (((decide (o.s = 1)) || (!(rng d.t 0 (o.c - 1)))) == false)) with
   | false => exact Rg.zq (o := ⟨some 92, _, _, _, _, _⟩) rfl (Rg.zy (g := 12) rfl rfl qg hP) ⟨_, rfl, (fun h => by cases h), Rg.zu hP, hI, fun _ _ _ _ h => h⟩
   | true =>
    have hw := Rg.zx (ops := (Rg.opsOf Tryz.f22 16)) (o := (Rg.opsOf Tryz.f22 16)[15]'(by rw [jl]; decide)) (g := 12) rfl rfl qg hP
    have g0 := Rg.zn hP
    have q91 : bb.tmps[91]? = some (.int .i64 d.m) := hf.tmp (k := 14) rfl (by rw [ha]; decide) (Eq.trans (hA 14 (by kernel_rfl)) (Rg.zk hP))
    refine Rg.jr (o := ⟨some 92, Op.call { callee := Callee.value (Operand.func 23), args := #[(Operand.tmp 91)], argTypes := _ }, _, _, _, _⟩) rfl hw (by clear hA HS hN hO hX hO9 hD5 hK1 hK2 hK3 hK4 hK5; simp only [execOp, resolve]; go_simp) (hK2 w') ?_
    rintro e w2 ⟨rfl, rfl⟩
    exact ⟨_, rfl, _, rfl, (fun h => by cases h), (Rg.zk hP).symm, hI, fun _ _ _ _ h => h⟩
  ·intro ll bb w' hs hlf hN hO hf hI hA
   clear hi'
   have qg : bb.tmps[89]? = some (cond true (.bool ((decide (o.s = 1)) || (!(rng d.t 0 (o.c - 1))))) undef) := hf.tmp (k := 12) rfl (by rw [ha]; decide) (hA 12 (by kernel_rfl))
   cases hP : (true && (((decide (o.s = 1)) || (!(rng d.t 0 (o.c - 1)))) == false)) with
   | false => exact Rg.zq (o := ⟨some 93, _, _, _, _, _⟩) rfl (Rg.zy (g := 12) rfl rfl qg hP) ⟨_, rfl, (fun h => by cases h), Rg.zu hP, hI, fun _ _ _ _ h => h⟩
   | true =>
    have hw := Rg.zx (ops := (Rg.opsOf Tryz.f22 16)) (o := (Rg.opsOf Tryz.f22 16)[16]'(by rw [jl]; decide)) (g := 12) rfl rfl qg hP
    have g0 := Rg.zn hP
    have q92 : bb.tmps[92]? = some (.bool (zl d.m)) := hf.tmp (k := 15) rfl (by rw [ha]; decide) (Eq.trans (hA 15 (by kernel_rfl)) (Rg.zk hP))
    exact Rg.zf (o := ⟨some 93, Op.unOp UnOp.not 4 (Operand.tmp 92), _, _, _, _⟩) (x := .bool (!(zl d.m))) rfl hw (by clear hA HS hN hO hX hO9 hD5 hK1 hK2 hK3 hK4 hK5; simp only [execOp]; go_simp) ⟨_, rfl, (fun h => by cases h), (Rg.zk hP).symm, hI, fun _ _ _ _ h => h⟩
  ·intro ll bb w' hs hlf hN hO hf hI hA
   clear hi'
   have q89 : bb.tmps[89]? = some _ := hf.tmp (k := 12) rfl (by rw [ha]; decide) (hA 12 (by kernel_rfl))
   cases hC : ((decide (o.s = 1)) || (!(rng d.t 0 (o.c - 1)))) with
   | false =>
    have hB : (true && (((decide (o.s = 1)) || (!(rng d.t 0 (o.c - 1)))) == false)) = true := by rw [hC]; rfl
    have q93 : bb.tmps[93]? = some (.bool (!(zl d.m))) := hf.tmp (k := 16) rfl (by rw [ha]; decide) (Eq.trans (hA 16 (by kernel_rfl)) (Rg.zk hB))
    have hval : ((.bool (((decide (o.s = 1)) || (!(rng d.t 0 (o.c - 1)))) || (!(zl d.m))) : Value)) = .bool (!(zl d.m)) := by rw [hC]; rfl
    exact Rg.zf (o := ⟨some 94, Op.pick (Operand.tmp 89) (Operand.const (Value.bool true)) (Operand.tmp 93), _, _, _, _⟩) (x := .bool (!(zl d.m))) rfl rfl (by rw [hC] at q89; clear hA HS hN hO hX hO9 hD5 hK1 hK2 hK3 hK4 hK5 hval; simp only [execOp]; go_simp) ⟨_, rfl, (fun h => by cases h), (by show ((.bool (!(zl d.m)) : Value)) = _; exact hval.symm), hI, fun _ _ _ _ h => h⟩
   | true =>
    have hval : ((.bool (((decide (o.s = 1)) || (!(rng d.t 0 (o.c - 1)))) || (!(zl d.m))) : Value)) = .bool true := by rw [hC]; rfl
    exact Rg.zf (o := ⟨some 94, Op.pick (Operand.tmp 89) (Operand.const (Value.bool true)) (Operand.tmp 93), _, _, _, _⟩) (x := .bool true) rfl rfl (by rw [hC] at q89; clear hA HS hN hO hX hO9 hD5 hK1 hK2 hK3 hK4 hK5 hval; simp only [execOp]; go_simp) ⟨_, rfl, (fun h => by cases h), (by show ((.bool true : Value)) = _; exact hval.symm), hI, fun _ _ _ _ h => h⟩
  ·intro ll bb w' hs hlf hN hO hf hI hA
   clear hi'
   have q94 : bb.tmps[94]? = some _ := hf.tmp (k := 17) rfl (by rw [ha]; decide) (hA 17 (by kernel_rfl))
   exact Rg.zf (o := ⟨some 95, Op.move (Operand.tmp 94), _, _, _, _⟩) (x := .bool (((decide (o.s = 1)) || (!(rng d.t 0 (o.c - 1)))) || (!(zl d.m)))) rfl rfl (by clear hA HS hN hO hX hO9 hD5 hK1 hK2 hK3 hK4 hK5; simp only [execOp]; go_simp) ⟨_, rfl, (fun h => by cases h), rfl, hI, fun _ _ _ _ h => h⟩
  ·intro ll bb w' hs hlf hN hO hf hI hA
   clear hi'
   have qg : bb.tmps[95]? = some (cond true (.bool (((decide (o.s = 1)) || (!(rng d.t 0 (o.c - 1)))) || (!(zl d.m)))) undef) := hf.tmp (k := 18) rfl (by rw [ha]; decide) (hA 18 (by kernel_rfl))
   cases hP : (true && ((((decide (o.s = 1)) || (!(rng d.t 0 (o.c - 1)))) || (!(zl d.m))) == false)) with
   | false => exact Rg.zq (o := ⟨some 96, _, _, _, _, _⟩) rfl (Rg.zy (g := 18) rfl rfl qg hP) ⟨_, rfl, (fun h => by cases h), Rg.zu hP, hI, fun _ _ _ _ h => h⟩
   | true =>
    have hw := Rg.zx (ops := (Rg.opsOf Tryz.f22 16)) (o := (Rg.opsOf Tryz.f22 16)[19]'(by rw [jl]; decide)) (g := 18) rfl rfl qg hP
    have g0 := Rg.zn hP
    have q5 := hf.kept (s := 5) (by rw [jl]; kernel_rfl) k5
    exact Rg.zf (o := ⟨some 96, Op.fieldAddr 35 (Operand.tmp 5) 3, _, _, _, _⟩) (x := .pointer (some ⟨DB, 3, none⟩)) rfl hw (by clear hA HS hN hO hX hO9 hD5 hK1 hK2 hK3 hK4 hK5; simp only [execOp]; go_simp) ⟨_, rfl, (fun h => by cases h), (Rg.zk hP).symm, hI, fun _ _ _ _ h => h⟩
  ·intro ll bb w' hs hlf hN hO hf hI hA
   clear hi'
   have qg : bb.tmps[95]? = some (cond true (.bool (((decide (o.s = 1)) || (!(rng d.t 0 (o.c - 1)))) || (!(zl d.m)))) undef) := hf.tmp (k := 18) rfl (by rw [ha]; decide) (hA 18 (by kernel_rfl))
   cases hP : (true && ((((decide (o.s = 1)) || (!(rng d.t 0 (o.c - 1)))) || (!(zl d.m))) == false)) with
   | false => exact Rg.zq (o := ⟨some 97, _, _, _, _, _⟩) rfl (Rg.zy (g := 18) rfl rfl qg hP) ⟨_, rfl, (fun h => by cases h), Rg.zu hP, hI, fun _ _ _ _ h => h⟩
   | true =>
    have hw := Rg.zx (ops := (Rg.opsOf Tryz.f22 16)) (o := (Rg.opsOf Tryz.f22 16)[20]'(by rw [jl]; decide)) (g := 18) rfl rfl qg hP
    have g0 := Rg.zn hP
    have q96 : bb.tmps[96]? = some (.pointer (some ⟨DB, 3, none⟩)) := hf.tmp (k := 19) rfl (by rw [ha]; decide) (Eq.trans (hA 19 (by kernel_rfl)) (Rg.zk hP))
    obtain ⟨d0, d1, d2, d3, d4⟩ := (hD5.below hI).five
    exact Rg.zf (o := ⟨some 97, Op.load 2 (Operand.tmp 96), _, _, _, _⟩) (x := .int .i64 d.b) rfl hw (by clear hA HS hN hO hX hO9 hD5 hK1 hK2 hK3 hK4 hK5; simp only [execOp]; go_simp) ⟨_, rfl, (fun h => by cases h), (Rg.zk hP).symm, hI, fun _ _ _ _ h => h⟩
  ·intro ll bb w' hs hlf hN hO hf hI hA
   clear hi'
   have qg : bb.tmps[95]? = some (cond true (.bool (((decide (o.s = 1)) || (!(rng d.t 0 (o.c - 1)))) || (!(zl d.m)))) undef) := hf.tmp (k := 18) rfl (by rw [ha]; decide) (hA 18 (by kernel_rfl))
   cases hP : (true && ((((decide (o.s = 1)) || (!(rng d.t 0 (o.c - 1)))) || (!(zl d.m))) == false)) with
   | false => exact Rg.zq (o := ⟨some 98, _, _, _, _, _⟩) rfl (Rg.zy (g := 18) rfl rfl qg hP) ⟨_, rfl, (fun h => by cases h), Rg.zu hP, hI, fun _ _ _ _ h => h⟩
   | true =>
    have hw := Rg.zx (ops := (Rg.opsOf Tryz.f22 16)) (o := (Rg.opsOf Tryz.f22 16)[21]'(by rw [jl]; decide)) (g := 18) rfl rfl qg hP
    have g0 := Rg.zn hP
    have q97 : bb.tmps[97]? = some (.int .i64 d.b) := hf.tmp (k := 20) rfl (by rw [ha]; decide) (Eq.trans (hA 20 (by kernel_rfl)) (Rg.zk hP))
    refine Rg.jr (o := ⟨some 98, Op.call { callee := Callee.value (Operand.func 39), args := #[(Operand.tmp 97)], argTypes := _ }, _, _, _, _⟩) rfl hw (by clear hA HS hN hO hX hO9 hD5 hK1 hK2 hK3 hK4 hK5; simp only [execOp, resolve]; go_simp) (hK3 w') ?_
    rintro e w2 ⟨rfl, rfl⟩
    exact ⟨_, rfl, _, rfl, (fun h => by cases h), (Rg.zk hP).symm, hI, fun _ _ _ _ h => h⟩
  ·intro ll bb w' hs hlf hN hO hf hI hA
   clear hi'
   have qg : bb.tmps[95]? = some (cond true (.bool (((decide (o.s = 1)) || (!(rng d.t 0 (o.c - 1)))) || (!(zl d.m)))) undef) := hf.tmp (k := 18) rfl (by rw [ha]; decide) (hA 18 (by kernel_rfl))
   cases hP : (true && ((((decide (o.s = 1)) || (!(rng d.t 0 (o.c - 1)))) || (!(zl d.m))) == false)) with
   | false => exact Rg.zq (o := ⟨some 99, _, _, _, _, _⟩) rfl (Rg.zy (g := 18) rfl rfl qg hP) ⟨_, rfl, (fun h => by cases h), Rg.zu hP, hI, fun _ _ _ _ h => h⟩
   | true =>
    have hw := Rg.zx (ops := (Rg.opsOf Tryz.f22 16)) (o := (Rg.opsOf Tryz.f22 16)[22]'(by rw [jl]; decide)) (g := 18) rfl rfl qg hP
    have g0 := Rg.zn hP
    have q98 : bb.tmps[98]? = some (.bool (zh d.b)) := hf.tmp (k := 21) rfl (by rw [ha]; decide) (Eq.trans (hA 21 (by kernel_rfl)) (Rg.zk hP))
    exact Rg.zf (o := ⟨some 99, Op.unOp UnOp.not 4 (Operand.tmp 98), _, _, _, _⟩) (x := .bool (!(zh d.b))) rfl hw (by clear hA HS hN hO hX hO9 hD5 hK1 hK2 hK3 hK4 hK5; simp only [execOp]; go_simp) ⟨_, rfl, (fun h => by cases h), (Rg.zk hP).symm, hI, fun _ _ _ _ h => h⟩
  ·intro ll bb w' hs hlf hN hO hf hI hA
   clear hi'
   have q95 : bb.tmps[95]? = some _ := hf.tmp (k := 18) rfl (by rw [ha]; decide) (hA 18 (by kernel_rfl))
   cases hC : (((decide (o.s = 1)) || (!(rng d.t 0 (o.c - 1)))) || (!(zl d.m))) with
   | false =>
    have hB : (true && ((((decide (o.s = 1)) || (!(rng d.t 0 (o.c - 1)))) || (!(zl d.m))) == false)) = true := by rw [hC]; rfl
    have q99 : bb.tmps[99]? = some (.bool (!(zh d.b))) := hf.tmp (k := 22) rfl (by rw [ha]; decide) (Eq.trans (hA 22 (by kernel_rfl)) (Rg.zk hB))
    have hval : ((.bool ((((decide (o.s = 1)) || (!(rng d.t 0 (o.c - 1)))) || (!(zl d.m))) || (!(zh d.b))) : Value)) = .bool (!(zh d.b)) := by rw [hC]; rfl
    exact Rg.zf (o := ⟨some 100, Op.pick (Operand.tmp 95) (Operand.const (Value.bool true)) (Operand.tmp 99), _, _, _, _⟩) (x := .bool (!(zh d.b))) rfl rfl (by rw [hC] at q95; clear hA HS hN hO hX hO9 hD5 hK1 hK2 hK3 hK4 hK5 hval; simp only [execOp]; go_simp) ⟨_, rfl, (fun h => by cases h), (by show ((.bool (!(zh d.b)) : Value)) = _; exact hval.symm), hI, fun _ _ _ _ h => h⟩
   | true =>
    have hval : ((.bool ((((decide (o.s = 1)) || (!(rng d.t 0 (o.c - 1)))) || (!(zl d.m))) || (!(zh d.b))) : Value)) = .bool true := by rw [hC]; rfl
    exact Rg.zf (o := ⟨some 100, Op.pick (Operand.tmp 95) (Operand.const (Value.bool true)) (Operand.tmp 99), _, _, _, _⟩) (x := .bool true) rfl rfl (by rw [hC] at q95; clear hA HS hN hO hX hO9 hD5 hK1 hK2 hK3 hK4 hK5 hval; simp only [execOp]; go_simp) ⟨_, rfl, (fun h => by cases h), (by show ((.bool true : Value)) = _; exact hval.symm), hI, fun _ _ _ _ h => h⟩
  ·intro ll bb w' hs hlf hN hO hf hI hA
   clear hi'
   have q100 : bb.tmps[100]? = some _ := hf.tmp (k := 23) rfl (by rw [ha]; decide) (hA 23 (by kernel_rfl))
   exact Rg.zf (o := ⟨some 101, Op.move (Operand.tmp 100), _, _, _, _⟩) (x := .bool ((((decide (o.s = 1)) || (!(rng d.t 0 (o.c - 1)))) || (!(zl d.m))) || (!(zh d.b)))) rfl rfl (by clear hA HS hN hO hX hO9 hD5 hK1 hK2 hK3 hK4 hK5; simp only [execOp]; go_simp) ⟨_, rfl, (fun h => by cases h), rfl, hI, fun _ _ _ _ h => h⟩
  ·intro ll bb w' hs hlf hN hO hf hI hA
   clear hi'
   have qg : bb.tmps[101]? = some (cond true (.bool ((((decide (o.s = 1)) || (!(rng d.t 0 (o.c - 1)))) || (!(zl d.m))) || (!(zh d.b)))) undef) := hf.tmp (k := 24) rfl (by rw [ha]; decide) (hA 24 (by kernel_rfl))
   cases hP : (true && (((((decide (o.s = 1)) || (!(rng d.t 0 (o.c - 1)))) || (!(zl d.m))) || (!(zh d.b))) == false)) with
   | false => exact Rg.zq (o := ⟨some 102, _, _, _, _, _⟩) rfl (Rg.zy (g := 24) rfl rfl qg hP) ⟨_, rfl, (fun h => by cases h), Rg.zu hP, hI, fun _ _ _ _ h => h⟩
   | true =>
    have hw := Rg.zx (ops := (Rg.opsOf Tryz.f22 16)) (o := (Rg.opsOf Tryz.f22 16)[25]'(by rw [jl]; decide)) (g := 24) rfl rfl qg hP
    have g0 := Rg.zn hP
    have q5 := hf.kept (s := 5) (by rw [jl]; kernel_rfl) k5
    exact Rg.zf (o := ⟨some 102, Op.fieldAddr 35 (Operand.tmp 5) 4, _, _, _, _⟩) (x := .pointer (some ⟨DB, 4, none⟩)) rfl hw (by clear hA HS hN hO hX hO9 hD5 hK1 hK2 hK3 hK4 hK5; simp only [execOp]; go_simp) ⟨_, rfl, (fun h => by cases h), (Rg.zk hP).symm, hI, fun _ _ _ _ h => h⟩
  ·intro ll bb w' hs hlf hN hO hf hI hA
   clear hi'
   have qg : bb.tmps[101]? = some (cond true (.bool ((((decide (o.s = 1)) || (!(rng d.t 0 (o.c - 1)))) || (!(zl d.m))) || (!(zh d.b)))) undef) := hf.tmp (k := 24) rfl (by rw [ha]; decide) (hA 24 (by kernel_rfl))
   cases hP : (true && (((((decide (o.s = 1)) || (!(rng d.t 0 (o.c - 1)))) || (!(zl d.m))) || (!(zh d.b))) == false)) with
   | false => exact Rg.zq (o := ⟨some 103, _, _, _, _, _⟩) rfl (Rg.zy (g := 24) rfl rfl qg hP) ⟨_, rfl, (fun h => by cases h), Rg.zu hP, hI, fun _ _ _ _ h => h⟩
   | true =>
    have hw := Rg.zx (ops := (Rg.opsOf Tryz.f22 16)) (o := (Rg.opsOf Tryz.f22 16)[26]'(by rw [jl]; decide)) (g := 24) rfl rfl qg hP
    have g0 := Rg.zn hP
    have q102 : bb.tmps[102]? = some (.pointer (some ⟨DB, 4, none⟩)) := hf.tmp (k := 25) rfl (by rw [ha]; decide) (Eq.trans (hA 25 (by kernel_rfl)) (Rg.zk hP))
    obtain ⟨d0, d1, d2, d3, d4⟩ := (hD5.below hI).five
    exact Rg.zf (o := ⟨some 103, Op.load 2 (Operand.tmp 102), _, _, _, _⟩) (x := .int .i64 d.a) rfl hw (by clear hA HS hN hO hX hO9 hD5 hK1 hK2 hK3 hK4 hK5; simp only [execOp]; go_simp) ⟨_, rfl, (fun h => by cases h), (Rg.zk hP).symm, hI, fun _ _ _ _ h => h⟩
  ·intro ll bb w' hs hlf hN hO hf hI hA
   clear hi'
   have qg : bb.tmps[101]? = some (cond true (.bool ((((decide (o.s = 1)) || (!(rng d.t 0 (o.c - 1)))) || (!(zl d.m))) || (!(zh d.b)))) undef) := hf.tmp (k := 24) rfl (by rw [ha]; decide) (hA 24 (by kernel_rfl))
   cases hP : (true && (((((decide (o.s = 1)) || (!(rng d.t 0 (o.c - 1)))) || (!(zl d.m))) || (!(zh d.b))) == false)) with
   | false => exact Rg.zq (o := ⟨some 104, _, _, _, _, _⟩) rfl (Rg.zy (g := 24) rfl rfl qg hP) ⟨_, rfl, (fun h => by cases h), Rg.zu hP, hI, fun _ _ _ _ h => h⟩
   | true =>
    have hw := Rg.zx (ops := (Rg.opsOf Tryz.f22 16)) (o := (Rg.opsOf Tryz.f22 16)[27]'(by rw [jl]; decide)) (g := 24) rfl rfl qg hP
    have g0 := Rg.zn hP
    have q103 : bb.tmps[103]? = some (.int .i64 d.a) := hf.tmp (k := 26) rfl (by rw [ha]; decide) (Eq.trans (hA 26 (by kernel_rfl)) (Rg.zk hP))
    exact Rg.zf (o := ⟨some 104, Op.binOp BinOp.neq 2 (Operand.tmp 103) (Operand.const (Value.int IntKind.i64 (-1))) 2, _, _, _, _⟩) (x := .bool (!decide (d.a = -1))) rfl hw (by clear hA HS hN hO hX hO9 hD5 hK1 hK2 hK3 hK4 hK5; simp only [execOp]; go_simp; first | exact Rg.bne_dec _ _ | (by_cases h9 : d.a = -1 <;> simp [h9])) ⟨_, rfl, (fun h => by cases h), (Rg.zk hP).symm, hI, fun _ _ _ _ h => h⟩
  ·intro ll bb w' hs hlf hN hO hf hI hA
   clear hi'
   have qg : bb.tmps[101]? = some (cond true (.bool ((((decide (o.s = 1)) || (!(rng d.t 0 (o.c - 1)))) || (!(zl d.m))) || (!(zh d.b)))) undef) := hf.tmp (k := 24) rfl (by rw [ha]; decide) (hA 24 (by kernel_rfl))
   cases hP : (true && (((((decide (o.s = 1)) || (!(rng d.t 0 (o.c - 1)))) || (!(zl d.m))) || (!(zh d.b))) == false)) with
   | false => exact Rg.zq (o := ⟨some 105, _, _, _, _, _⟩) rfl (Rg.zy (g := 24) rfl rfl qg hP) ⟨_, rfl, (fun h => by cases h), Rg.zu hP, hI, fun _ _ _ _ h => h⟩
   | true =>
    have hw := Rg.zx (ops := (Rg.opsOf Tryz.f22 16)) (o := (Rg.opsOf Tryz.f22 16)[28]'(by rw [jl]; decide)) (g := 24) rfl rfl qg hP
    have g0 := Rg.zn hP
    have q104 : bb.tmps[104]? = some (.bool (!decide (d.a = -1))) := hf.tmp (k := 27) rfl (by rw [ha]; decide) (Eq.trans (hA 27 (by kernel_rfl)) (Rg.zk hP))
    exact Rg.zf (o := ⟨some 105, Op.move (Operand.tmp 104), _, _, _, _⟩) (x := .bool (!decide (d.a = -1))) rfl hw (by clear hA HS hN hO hX hO9 hD5 hK1 hK2 hK3 hK4 hK5; simp only [execOp]; go_simp) ⟨_, rfl, (fun h => by cases h), (Rg.zk hP).symm, hI, fun _ _ _ _ h => h⟩
  ·intro ll bb w' hs hlf hN hO hf hI hA
   clear hi'
   have qg : bb.tmps[105]? = some (cond (true && (((((decide (o.s = 1)) || (!(rng d.t 0 (o.c - 1)))) || (!(zl d.m))) || (!(zh d.b))) == false)) (.bool (!decide (d.a = -1))) undef) := hf.tmp (k := 28) rfl (by rw [ha]; decide) (hA 28 (by kernel_rfl))
   cases hP : ((true && (((((decide (o.s = 1)) || (!(rng d.t 0 (o.c - 1)))) || (!(zl d.m))) || (!(zh d.b))) == false)) && ((!decide (d.a = -1)) == true)) with
   | false => exact Rg.zq (o := ⟨some 106, _, _, _, _, _⟩) rfl (Rg.zy (g := 28) rfl rfl qg hP) ⟨_, rfl, (fun h => by cases h), Rg.zu hP, hI, fun _ _ _ _ h => h⟩
   | true =>
    have hw := Rg.zx (ops := (Rg.opsOf Tryz.f22 16)) (o := (Rg.opsOf Tryz.f22 16)[29]'(by rw [jl]; decide)) (g := 28) rfl rfl qg hP
    have g1 := Rg.zn hP
    have p1 := Rg.ku hP
    have g0 := Rg.zn p1
    have q5 := hf.kept (s := 5) (by rw [jl]; kernel_rfl) k5
    exact Rg.zf (o := ⟨some 106, Op.fieldAddr 35 (Operand.tmp 5) 4, _, _, _, _⟩) (x := .pointer (some ⟨DB, 4, none⟩)) rfl hw (by clear hA HS hN hO hX hO9 hD5 hK1 hK2 hK3 hK4 hK5; simp only [execOp]; go_simp) ⟨_, rfl, (fun h => by cases h), (Rg.zk hP).symm, hI, fun _ _ _ _ h => h⟩
  ·intro ll bb w' hs hlf hN hO hf hI hA
   clear hi'
   have qg : bb.tmps[105]? = some (cond (true && (((((decide (o.s = 1)) || (!(rng d.t 0 (o.c - 1)))) || (!(zl d.m))) || (!(zh d.b))) == false)) (.bool (!decide (d.a = -1))) undef) := hf.tmp (k := 28) rfl (by rw [ha]; decide) (hA 28 (by kernel_rfl))
   cases hP : ((true && (((((decide (o.s = 1)) || (!(rng d.t 0 (o.c - 1)))) || (!(zl d.m))) || (!(zh d.b))) == false)) && ((!decide (d.a = -1)) == true)) with
   | false => exact Rg.zq (o := ⟨some 107, _, _, _, _, _⟩) rfl (Rg.zy (g := 28) rfl rfl qg hP) ⟨_, rfl, (fun h => by cases h), Rg.zu hP, hI, fun _ _ _ _ h => h⟩
   | true =>
    have hw := Rg.zx (ops := (Rg.opsOf Tryz.f22 16)) (o := (Rg.opsOf Tryz.f22 16)[30]'(by rw [jl]; decide)) (g := 28) rfl rfl qg hP
    have g1 := Rg.zn hP
    have p1 := Rg.ku hP
    have g0 := Rg.zn p1
    have q106 : bb.tmps[106]? = some (.pointer (some ⟨DB, 4, none⟩)) := hf.tmp (k := 29) rfl (by rw [ha]; decide) (Eq.trans (hA 29 (by kernel_rfl)) (Rg.zk hP))
    obtain ⟨d0, d1, d2, d3, d4⟩ := (hD5.below hI).five
    exact Rg.zf (o := ⟨some 107, Op.load 2 (Operand.tmp 106), _, _, _, _⟩) (x := .int .i64 d.a) rfl hw (by clear hA HS hN hO hX hO9 hD5 hK1 hK2 hK3 hK4 hK5; simp only [execOp]; go_simp) ⟨_, rfl, (fun h => by cases h), (Rg.zk hP).symm, hI, fun _ _ _ _ h => h⟩
  ·intro ll bb w' hs hlf hN hO hf hI hA
   clear hi'
   have qg : bb.tmps[105]? = some (cond (true && (((((decide (o.s = 1)) || (!(rng d.t 0 (o.c - 1)))) || (!(zl d.m))) || (!(zh d.b))) == false)) (.bool (!decide (d.a = -1))) undef) := hf.tmp (k := 28) rfl (by rw [ha]; decide) (hA 28 (by kernel_rfl))
   cases hP : ((true && (((((decide (o.s = 1)) || (!(rng d.t 0 (o.c - 1)))) || (!(zl d.m))) || (!(zh d.b))) == false)) && ((!decide (d.a = -1)) == true)) with
   | false => exact Rg.zq (o := ⟨some 108, _, _, _, _, _⟩) rfl (Rg.zy (g := 28) rfl rfl qg hP) ⟨_, rfl, (fun h => by cases h), Rg.zu hP, hI, fun _ _ _ _ h => h⟩
   | true =>
    have hw := Rg.zx (ops := (Rg.opsOf Tryz.f22 16)) (o := (Rg.opsOf Tryz.f22 16)[31]'(by rw [jl]; decide)) (g := 28) rfl rfl qg hP
    have g1 := Rg.zn hP
    have p1 := Rg.ku hP
    have g0 := Rg.zn p1
    have q107 : bb.tmps[107]? = some (.int .i64 d.a) := hf.tmp (k := 30) rfl (by rw [ha]; decide) (Eq.trans (hA 30 (by kernel_rfl)) (Rg.zk hP))
    refine Rg.jr (o := ⟨some 108, Op.call { callee := Callee.value (Operand.func 39), args := #[(Operand.tmp 107)], argTypes := _ }, _, _, _, _⟩) rfl hw (by clear hA HS hN hO hX hO9 hD5 hK1 hK2 hK3 hK4 hK5; simp only [execOp, resolve]; go_simp) (hK4 w') ?_
    rintro e w2 ⟨rfl, rfl⟩
    exact ⟨_, rfl, _, rfl, (fun h => by cases h), (Rg.zk hP).symm, hI, fun _ _ _ _ h => h⟩
  ·intro ll bb w' hs hlf hN hO hf hI hA
   clear hi'
   have qg : bb.tmps[105]? = some (cond (true && (((((decide (o.s = 1)) || (!(rng d.t 0 (o.c - 1)))) || (!(zl d.m))) || (!(zh d.b))) == false)) (.bool (!decide (d.a = -1))) undef) := hf.tmp (k := 28) rfl (by rw [ha]; decide) (hA 28 (by kernel_rfl))
   cases hP : ((true && (((((decide (o.s = 1)) || (!(rng d.t 0 (o.c - 1)))) || (!(zl d.m))) || (!(zh d.b))) == false)) && ((!decide (d.a = -1)) == true)) with
   | false => exact Rg.zq (o := ⟨some 109, _, _, _, _, _⟩) rfl (Rg.zy (g := 28) rfl rfl qg hP) ⟨_, rfl, (fun h => by cases h), Rg.zu hP, hI, fun _ _ _ _ h => h⟩
   | true =>
    have hw := Rg.zx (ops := (Rg.opsOf Tryz.f22 16)) (o := (Rg.opsOf Tryz.f22 16)[32]'(by rw [jl]; decide)) (g := 28) rfl rfl qg hP
    have g1 := Rg.zn hP
    have p1 := Rg.ku hP
    have g0 := Rg.zn p1
    have q108 : bb.tmps[108]? = some (.bool (zh d.a)) := hf.tmp (k := 31) rfl (by rw [ha]; decide) (Eq.trans (hA 31 (by kernel_rfl)) (Rg.zk hP))
    exact Rg.zf (o := ⟨some 109, Op.unOp UnOp.not 4 (Operand.tmp 108), _, _, _, _⟩) (x := .bool (!(zh d.a))) rfl hw (by clear hA HS hN hO hX hO9 hD5 hK1 hK2 hK3 hK4 hK5; simp only [execOp]; go_simp) ⟨_, rfl, (fun h => by cases h), (Rg.zk hP).symm, hI, fun _ _ _ _ h => h⟩
  ·intro ll bb w' hs hlf hN hO hf hI hA
   clear hi'
   have qg : bb.tmps[101]? = some (cond true (.bool ((((decide (o.s = 1)) || (!(rng d.t 0 (o.c - 1)))) || (!(zl d.m))) || (!(zh d.b)))) undef) := hf.tmp (k := 24) rfl (by rw [ha]; decide) (hA 24 (by kernel_rfl))
   cases hP : (true && (((((decide (o.s = 1)) || (!(rng d.t 0 (o.c - 1)))) || (!(zl d.m))) || (!(zh d.b))) == false)) with
   | false => exact Rg.zq (o := ⟨some 110, _, _, _, _, _⟩) rfl (Rg.zy (g := 24) rfl rfl qg hP) ⟨_, rfl, (fun h => by cases h), Rg.zu hP, hI, fun _ _ _ _ h => h⟩
   | true =>
    have hw := Rg.zx (ops := (Rg.opsOf Tryz.f22 16)) (o := (Rg.opsOf Tryz.f22 16)[33]'(by rw [jl]; decide)) (g := 24) rfl rfl qg hP
    have g0 := Rg.zn hP
    have q105 : bb.tmps[105]? = some (.bool (!decide (d.a = -1))) := hf.tmp (k := 28) rfl (by rw [ha]; decide) (Eq.trans (hA 28 (by kernel_rfl)) (Rg.zk hP))
    cases hC : (!decide (d.a = -1)) with
    | false =>
     have hval : ((.bool ((!decide (d.a = -1)) && (!(zh d.a))) : Value)) = .bool false := by rw [hC]; rfl
     exact Rg.zf (o := ⟨some 110, Op.pick (Operand.tmp 105) (Operand.tmp 109) (Operand.const (Value.bool false)), _, _, _, _⟩) (x := .bool false) rfl hw (by rw [hC] at q105; clear hA HS hN hO hX hO9 hD5 hK1 hK2 hK3 hK4 hK5 hval; simp only [execOp]; go_simp) ⟨_, rfl, (fun h => by cases h), (by show ((.bool false : Value)) = _; exact hval.symm.trans (Rg.zk hP).symm), hI, fun _ _ _ _ h => h⟩
    | true =>
     have hB : ((true && (((((decide (o.s = 1)) || (!(rng d.t 0 (o.c - 1)))) || (!(zl d.m))) || (!(zh d.b))) == false)) && ((!decide (d.a = -1)) == true)) = true := by
      rw [hC]; first | rfl | (rw [hP]; rfl) | simp_all
     have q109 : bb.tmps[109]? = some (.bool (!(zh d.a))) := hf.tmp (k := 32) rfl (by rw [ha]; decide) (Eq.trans (hA 32 (by kernel_rfl)) (Rg.zk hB))
     have hval : ((.bool ((!decide (d.a = -1)) && (!(zh d.a))) : Value)) = .bool (!(zh d.a)) := by rw [hC]; rfl
     exact Rg.zf (o := ⟨some 110, Op.pick (Operand.tmp 105) (Operand.tmp 109) (Operand.const (Value.bool false)), _, _, _, _⟩) (x := .bool (!(zh d.a))) rfl hw (by rw [hC] at q105; clear hA HS hN hO hX hO9 hD5 hK1 hK2 hK3 hK4 hK5 hval; simp only [execOp]; go_simp) ⟨_, rfl, (fun h => by cases h), (by show ((.bool (!(zh d.a)) : Value)) = _; exact hval.symm.trans (Rg.zk hP).symm), hI, fun _ _ _ _ h => h⟩
  ·intro ll bb w' hs hlf hN hO hf hI hA
   clear hi'
   have q101 : bb.tmps[101]? = some _ := hf.tmp (k := 24) rfl (by rw [ha]; decide) (hA 24 (by kernel_rfl))
   cases hC : ((((decide (o.s = 1)) || (!(rng d.t 0 (o.c - 1)))) || (!(zl d.m))) || (!(zh d.b))) with
   | false =>
    have hB : (true && (((((decide (o.s = 1)) || (!(rng d.t 0 (o.c - 1)))) || (!(zl d.m))) || (!(zh d.b))) == false)) = true := by rw [hC]; rfl
    have q110 : bb.tmps[110]? = some (.bool ((!decide (d.a = -1)) && (!(zh d.a)))) := hf.tmp (k := 33) rfl (by rw [ha]; decide) (Eq.trans (hA 33 (by kernel_rfl)) (Rg.zk hB))
    have hval : ((.bool (((((decide (o.s = 1)) || (!(rng d.t 0 (o.c - 1)))) || (!(zl d.m))) || (!(zh d.b))) || ((!decide (d.a = -1)) && (!(zh d.a)))) : Value)) = .bool ((!decide (d.a = -1)) && (!(zh d.a))) := by rw [hC]; rfl
    exact Rg.zf (o := ⟨some 111, Op.pick (Operand.tmp 101) (Operand.const (Value.bool true)) (Operand.tmp 110), _, _, _, _⟩) (x := .bool ((!decide (d.a = -1)) && (!(zh d.a)))) rfl rfl (by rw [hC] at q101; clear hA HS hN hO hX hO9 hD5 hK1 hK2 hK3 hK4 hK5 hval; simp only [execOp]; go_simp) ⟨_, rfl, (fun h => by cases h), (by show ((.bool ((!decide (d.a = -1)) && (!(zh d.a))) : Value)) = _; exact hval.symm), hI, fun _ _ _ _ h => h⟩
   | true =>
    have hval : ((.bool (((((decide (o.s = 1)) || (!(rng d.t 0 (o.c - 1)))) || (!(zl d.m))) || (!(zh d.b))) || ((!decide (d.a = -1)) && (!(zh d.a)))) : Value)) = .bool true := by rw [hC]; rfl
    exact Rg.zf (o := ⟨some 111, Op.pick (Operand.tmp 101) (Operand.const (Value.bool true)) (Operand.tmp 110), _, _, _, _⟩) (x := .bool true) rfl rfl (by rw [hC] at q101; clear hA HS hN hO hX hO9 hD5 hK1 hK2 hK3 hK4 hK5 hval; simp only [execOp]; go_simp) ⟨_, rfl, (fun h => by cases h), (by show ((.bool true : Value)) = _; exact hval.symm), hI, fun _ _ _ _ h => h⟩
  ·intro ll bb w' hs hlf hN hO hf hI hA
   clear hi'
   have q111 : bb.tmps[111]? = some _ := hf.tmp (k := 34) rfl (by rw [ha]; decide) (hA 34 (by kernel_rfl))
   exact Rg.zf (o := ⟨some 112, Op.move (Operand.tmp 111), _, _, _, _⟩) (x := .bool (((((decide (o.s = 1)) || (!(rng d.t 0 (o.c - 1)))) || (!(zl d.m))) || (!(zh d.b))) || ((!decide (d.a = -1)) && (!(zh d.a))))) rfl rfl (by clear hA HS hN hO hX hO9 hD5 hK1 hK2 hK3 hK4 hK5; simp only [execOp]; go_simp) ⟨_, rfl, (fun h => by cases h), rfl, hI, fun _ _ _ _ h => h⟩
  ·intro ll bb w' hs hlf hN hO hf hI hA
   clear hi'
   have qg : bb.tmps[112]? = some (cond true (.bool (((((decide (o.s = 1)) || (!(rng d.t 0 (o.c - 1)))) || (!(zl d.m))) || (!(zh d.b))) || ((!decide (d.a = -1)) && (!(zh d.a))))) undef) := hf.tmp (k := 35) rfl (by rw [ha]; decide) (hA 35 (by kernel_rfl))
   cases hP : (true && ((((((decide (o.s = 1)) || (!(rng d.t 0 (o.c - 1)))) || (!(zl d.m))) || (!(zh d.b))) || ((!decide (d.a = -1)) && (!(zh d.a)))) == false)) with
   | false => exact Rg.zq (o := ⟨some 113, _, _, _, _, _⟩) rfl (Rg.zy (g := 35) rfl rfl qg hP) ⟨_, rfl, (fun h => by cases h), Rg.zu hP, hI, fun _ _ _ _ h => h⟩
   | true =>
    have hw := Rg.zx (ops := (Rg.opsOf Tryz.f22 16)) (o := (Rg.opsOf Tryz.f22 16)[36]'(by rw [jl]; decide)) (g := 35) rfl rfl qg hP
    have g0 := Rg.zn hP
    have q7 := hf.kept (s := 7) (by rw [jl]; kernel_rfl) k7
    obtain ⟨o0, o1, o2, o3, o4, o5, o6, o7, o8⟩ := (hO9.below hI).nine
    exact Rg.zf (o := ⟨some 113, Op.load 38 (Operand.tmp 7), _, _, _, _⟩) (x := .agg #[.int .i64 o.id, .int .i64 o.p, .int .i64 o.d, .int .i64 o.n, .int .i64 o.f, .int .i64 o.e, .int .i64 o.c, .int .i64 o.s, .bool o.two]) rfl hw (by clear hA HS hN hO hX hO9 hD5 hK1 hK2 hK3 hK4 hK5; simp only [execOp]; go_simp) ⟨_, rfl, (fun h => by cases h), (Rg.zk hP).symm, hI, fun _ _ _ _ h => h⟩
  ·intro ll bb w' hs hlf hN hO hf hI hA
   clear hi'
   have qg : bb.tmps[112]? = some (cond true (.bool (((((decide (o.s = 1)) || (!(rng d.t 0 (o.c - 1)))) || (!(zl d.m))) || (!(zh d.b))) || ((!decide (d.a = -1)) && (!(zh d.a))))) undef) := hf.tmp (k := 35) rfl (by rw [ha]; decide) (hA 35 (by kernel_rfl))
   cases hP : (true && ((((((decide (o.s = 1)) || (!(rng d.t 0 (o.c - 1)))) || (!(zl d.m))) || (!(zh d.b))) || ((!decide (d.a = -1)) && (!(zh d.a)))) == false)) with
   | false => exact Rg.zq (o := ⟨some 114, _, _, _, _, _⟩) rfl (Rg.zy (g := 35) rfl rfl qg hP) ⟨_, rfl, (fun h => by cases h), Rg.zu hP, hI, fun _ _ _ _ h => h⟩
   | true =>
    have hw := Rg.zx (ops := (Rg.opsOf Tryz.f22 16)) (o := (Rg.opsOf Tryz.f22 16)[37]'(by rw [jl]; decide)) (g := 35) rfl rfl qg hP
    have g0 := Rg.zn hP
    have q5 := hf.kept (s := 5) (by rw [jl]; kernel_rfl) k5
    exact Rg.zf (o := ⟨some 114, Op.fieldAddr 35 (Operand.tmp 5) 3, _, _, _, _⟩) (x := .pointer (some ⟨DB, 3, none⟩)) rfl hw (by clear hA HS hN hO hX hO9 hD5 hK1 hK2 hK3 hK4 hK5; simp only [execOp]; go_simp) ⟨_, rfl, (fun h => by cases h), (Rg.zk hP).symm, hI, fun _ _ _ _ h => h⟩
  ·intro ll bb w' hs hlf hN hO hf hI hA
   clear hi'
   have qg : bb.tmps[112]? = some (cond true (.bool (((((decide (o.s = 1)) || (!(rng d.t 0 (o.c - 1)))) || (!(zl d.m))) || (!(zh d.b))) || ((!decide (d.a = -1)) && (!(zh d.a))))) undef) := hf.tmp (k := 35) rfl (by rw [ha]; decide) (hA 35 (by kernel_rfl))
   cases hP : (true && ((((((decide (o.s = 1)) || (!(rng d.t 0 (o.c - 1)))) || (!(zl d.m))) || (!(zh d.b))) || ((!decide (d.a = -1)) && (!(zh d.a)))) == false)) with
   | false => exact Rg.zq (o := ⟨some 115, _, _, _, _, _⟩) rfl (Rg.zy (g := 35) rfl rfl qg hP) ⟨_, rfl, (fun h => by cases h), Rg.zu hP, hI, fun _ _ _ _ h => h⟩
   | true =>
    have hw := Rg.zx (ops := (Rg.opsOf Tryz.f22 16)) (o := (Rg.opsOf Tryz.f22 16)[38]'(by rw [jl]; decide)) (g := 35) rfl rfl qg hP
    have g0 := Rg.zn hP
    have q114 : bb.tmps[114]? = some (.pointer (some ⟨DB, 3, none⟩)) := hf.tmp (k := 37) rfl (by rw [ha]; decide) (Eq.trans (hA 37 (by kernel_rfl)) (Rg.zk hP))
    obtain ⟨d0, d1, d2, d3, d4⟩ := (hD5.below hI).five
    exact Rg.zf (o := ⟨some 115, Op.load 2 (Operand.tmp 114), _, _, _, _⟩) (x := .int .i64 d.b) rfl hw (by clear hA HS hN hO hX hO9 hD5 hK1 hK2 hK3 hK4 hK5; simp only [execOp]; go_simp) ⟨_, rfl, (fun h => by cases h), (Rg.zk hP).symm, hI, fun _ _ _ _ h => h⟩
  ·intro ll bb w' hs hlf hN hO hf hI hA
   clear hi'
   have qg : bb.tmps[112]? = some (cond true (.bool (((((decide (o.s = 1)) || (!(rng d.t 0 (o.c - 1)))) || (!(zl d.m))) || (!(zh d.b))) || ((!decide (d.a = -1)) && (!(zh d.a))))) undef) := hf.tmp (k := 35) rfl (by rw [ha]; decide) (hA 35 (by kernel_rfl))
   cases hP : (true && ((((((decide (o.s = 1)) || (!(rng d.t 0 (o.c - 1)))) || (!(zl d.m))) || (!(zh d.b))) || ((!decide (d.a = -1)) && (!(zh d.a)))) == false)) with
   | false => exact Rg.zq (o := ⟨some 116, _, _, _, _, _⟩) rfl (Rg.zy (g := 35) rfl rfl qg hP) ⟨_, rfl, (fun h => by cases h), Rg.zu hP, hI, fun _ _ _ _ h => h⟩
   | true =>
    have hw := Rg.zx (ops := (Rg.opsOf Tryz.f22 16)) (o := (Rg.opsOf Tryz.f22 16)[39]'(by rw [jl]; decide)) (g := 35) rfl rfl qg hP
    have g0 := Rg.zn hP
    have q5 := hf.kept (s := 5) (by rw [jl]; kernel_rfl) k5
    exact Rg.zf (o := ⟨some 116, Op.fieldAddr 35 (Operand.tmp 5) 4, _, _, _, _⟩) (x := .pointer (some ⟨DB, 4, none⟩)) rfl hw (by clear hA HS hN hO hX hO9 hD5 hK1 hK2 hK3 hK4 hK5; simp only [execOp]; go_simp) ⟨_, rfl, (fun h => by cases h), (Rg.zk hP).symm, hI, fun _ _ _ _ h => h⟩
  ·intro ll bb w' hs hlf hN hO hf hI hA
   clear hi'
   have qg : bb.tmps[112]? = some (cond true (.bool (((((decide (o.s = 1)) || (!(rng d.t 0 (o.c - 1)))) || (!(zl d.m))) || (!(zh d.b))) || ((!decide (d.a = -1)) && (!(zh d.a))))) undef) := hf.tmp (k := 35) rfl (by rw [ha]; decide) (hA 35 (by kernel_rfl))
   cases hP : (true && ((((((decide (o.s = 1)) || (!(rng d.t 0 (o.c - 1)))) || (!(zl d.m))) || (!(zh d.b))) || ((!decide (d.a = -1)) && (!(zh d.a)))) == false)) with
   | false => exact Rg.zq (o := ⟨some 117, _, _, _, _, _⟩) rfl (Rg.zy (g := 35) rfl rfl qg hP) ⟨_, rfl, (fun h => by cases h), Rg.zu hP, hI, fun _ _ _ _ h => h⟩
   | true =>
    have hw := Rg.zx (ops := (Rg.opsOf Tryz.f22 16)) (o := (Rg.opsOf Tryz.f22 16)[40]'(by rw [jl]; decide)) (g := 35) rfl rfl qg hP
    have g0 := Rg.zn hP
    have q116 : bb.tmps[116]? = some (.pointer (some ⟨DB, 4, none⟩)) := hf.tmp (k := 39) rfl (by rw [ha]; decide) (Eq.trans (hA 39 (by kernel_rfl)) (Rg.zk hP))
    obtain ⟨d0, d1, d2, d3, d4⟩ := (hD5.below hI).five
    exact Rg.zf (o := ⟨some 117, Op.load 2 (Operand.tmp 116), _, _, _, _⟩) (x := .int .i64 d.a) rfl hw (by clear hA HS hN hO hX hO9 hD5 hK1 hK2 hK3 hK4 hK5; simp only [execOp]; go_simp) ⟨_, rfl, (fun h => by cases h), (Rg.zk hP).symm, hI, fun _ _ _ _ h => h⟩
  ·intro ll bb w' hs hlf hN hO hf hI hA
   clear hi'
   have qg : bb.tmps[112]? = some (cond true (.bool (((((decide (o.s = 1)) || (!(rng d.t 0 (o.c - 1)))) || (!(zl d.m))) || (!(zh d.b))) || ((!decide (d.a = -1)) && (!(zh d.a))))) undef) := hf.tmp (k := 35) rfl (by rw [ha]; decide) (hA 35 (by kernel_rfl))
   cases hP : (true && ((((((decide (o.s = 1)) || (!(rng d.t 0 (o.c - 1)))) || (!(zl d.m))) || (!(zh d.b))) || ((!decide (d.a = -1)) && (!(zh d.a)))) == false)) with
   | false => exact Rg.zq (o := ⟨some 118, _, _, _, _, _⟩) rfl (Rg.zy (g := 35) rfl rfl qg hP) ⟨_, rfl, (fun h => by cases h), Rg.zu hP, hI, fun _ _ _ _ h => h⟩
   | true =>
    have hw := Rg.zx (ops := (Rg.opsOf Tryz.f22 16)) (o := (Rg.opsOf Tryz.f22 16)[41]'(by rw [jl]; decide)) (g := 35) rfl rfl qg hP
    have g0 := Rg.zn hP
    have q113 : bb.tmps[113]? = some (.agg #[.int .i64 o.id, .int .i64 o.p, .int .i64 o.d, .int .i64 o.n, .int .i64 o.f, .int .i64 o.e, .int .i64 o.c, .int .i64 o.s, .bool o.two]) := hf.tmp (k := 36) rfl (by rw [ha]; decide) (Eq.trans (hA 36 (by kernel_rfl)) (Rg.zk hP))
    have q115 : bb.tmps[115]? = some (.int .i64 d.b) := hf.tmp (k := 38) rfl (by rw [ha]; decide) (Eq.trans (hA 38 (by kernel_rfl)) (Rg.zk hP))
    have q117 : bb.tmps[117]? = some (.int .i64 d.a) := hf.tmp (k := 40) rfl (by rw [ha]; decide) (Eq.trans (hA 40 (by kernel_rfl)) (Rg.zk hP))
    refine Rg.jr (o := ⟨some 118, Op.call { callee := Callee.value (Operand.func 40), args := #[(Operand.tmp 113), (Operand.tmp 115), (Operand.tmp 117)], argTypes := _ }, _, _, _, _⟩) rfl hw (by clear hA HS hN hO hX hO9 hD5 hK1 hK2 hK3 hK4 hK5; simp only [execOp, resolve]; go_simp) (hK5 w') ?_
    rintro e w2 ⟨rfl, hb2⟩
    exact ⟨_, rfl, _, rfl, (fun h => by cases h), (Rg.zk hP).symm, onto hI hb2, fun k9 y9 _ _ h => HS hb2 k9 y9 h⟩
  ·intro ll bb w' hs hlf hN hO hf hI hA
   clear hi'
   have qg : bb.tmps[112]? = some (cond true (.bool (((((decide (o.s = 1)) || (!(rng d.t 0 (o.c - 1)))) || (!(zl d.m))) || (!(zh d.b))) || ((!decide (d.a = -1)) && (!(zh d.a))))) undef) := hf.tmp (k := 35) rfl (by rw [ha]; decide) (hA 35 (by kernel_rfl))
   cases hP : (true && ((((((decide (o.s = 1)) || (!(rng d.t 0 (o.c - 1)))) || (!(zl d.m))) || (!(zh d.b))) || ((!decide (d.a = -1)) && (!(zh d.a)))) == false)) with
   | false => exact Rg.zq (o := ⟨some 119, _, _, _, _, _⟩) rfl (Rg.zy (g := 35) rfl rfl qg hP) ⟨_, rfl, (fun h => by cases h), Rg.zu hP, hI, fun _ _ _ _ h => h⟩
   | true =>
    have hw := Rg.zx (ops := (Rg.opsOf Tryz.f22 16)) (o := (Rg.opsOf Tryz.f22 16)[42]'(by rw [jl]; decide)) (g := 35) rfl rfl qg hP
    have g0 := Rg.zn hP
    have q118 : bb.tmps[118]? = some (.bool (byB o.two d.b d.a)) := hf.tmp (k := 41) rfl (by rw [ha]; decide) (Eq.trans (hA 41 (by kernel_rfl)) (Rg.zk hP))
    exact Rg.zf (o := ⟨some 119, Op.unOp UnOp.not 4 (Operand.tmp 118), _, _, _, _⟩) (x := .bool (!(byB o.two d.b d.a))) rfl hw (by clear hA HS hN hO hX hO9 hD5 hK1 hK2 hK3 hK4 hK5; simp only [execOp]; go_simp) ⟨_, rfl, (fun h => by cases h), (Rg.zk hP).symm, hI, fun _ _ _ _ h => h⟩
  ·intro ll bb w' hs hlf hN hO hf hI hA
   clear hi'
   have q112 : bb.tmps[112]? = some _ := hf.tmp (k := 35) rfl (by rw [ha]; decide) (hA 35 (by kernel_rfl))
   cases hC : (((((decide (o.s = 1)) || (!(rng d.t 0 (o.c - 1)))) || (!(zl d.m))) || (!(zh d.b))) || ((!decide (d.a = -1)) && (!(zh d.a)))) with
   | false =>
    have hB : (true && ((((((decide (o.s = 1)) || (!(rng d.t 0 (o.c - 1)))) || (!(zl d.m))) || (!(zh d.b))) || ((!decide (d.a = -1)) && (!(zh d.a)))) == false)) = true := by rw [hC]; rfl
    have q119 : bb.tmps[119]? = some (.bool (!(byB o.two d.b d.a))) := hf.tmp (k := 42) rfl (by rw [ha]; decide) (Eq.trans (hA 42 (by kernel_rfl)) (Rg.zk hB))
    have hval : ((.bool ((((((decide (o.s = 1)) || (!(rng d.t 0 (o.c - 1)))) || (!(zl d.m))) || (!(zh d.b))) || ((!decide (d.a = -1)) && (!(zh d.a)))) || (!(byB o.two d.b d.a))) : Value)) = .bool (!(byB o.two d.b d.a)) := by rw [hC]; rfl
    exact Rg.zf (o := ⟨some 120, Op.pick (Operand.tmp 112) (Operand.const (Value.bool true)) (Operand.tmp 119), _, _, _, _⟩) (x := .bool (!(byB o.two d.b d.a))) rfl rfl (by rw [hC] at q112; clear hA HS hN hO hX hO9 hD5 hK1 hK2 hK3 hK4 hK5 hval; simp only [execOp]; go_simp) ⟨_, rfl, (fun h => by cases h), (by show ((.bool (!(byB o.two d.b d.a)) : Value)) = _; exact hval.symm), hI, fun _ _ _ _ h => h⟩
   | true =>
    have hval : ((.bool ((((((decide (o.s = 1)) || (!(rng d.t 0 (o.c - 1)))) || (!(zl d.m))) || (!(zh d.b))) || ((!decide (d.a = -1)) && (!(zh d.a)))) || (!(byB o.two d.b d.a))) : Value)) = .bool true := by rw [hC]; rfl
    exact Rg.zf (o := ⟨some 120, Op.pick (Operand.tmp 112) (Operand.const (Value.bool true)) (Operand.tmp 119), _, _, _, _⟩) (x := .bool true) rfl rfl (by rw [hC] at q112; clear hA HS hN hO hX hO9 hD5 hK1 hK2 hK3 hK4 hK5 hval; simp only [execOp]; go_simp) ⟨_, rfl, (fun h => by cases h), (by show ((.bool true : Value)) = _; exact hval.symm), hI, fun _ _ _ _ h => h⟩
  ·intro ll bb w' hs hlf hN hO hf hI hA
   clear hi'
   have q120 : bb.tmps[120]? = some _ := hf.tmp (k := 43) rfl (by rw [ha]; decide) (hA 43 (by kernel_rfl))
   exact Rg.zf (o := ⟨some 121, Op.move (Operand.tmp 120), _, _, _, _⟩) (x := .bool ((((((decide (o.s = 1)) || (!(rng d.t 0 (o.c - 1)))) || (!(zl d.m))) || (!(zh d.b))) || ((!decide (d.a = -1)) && (!(zh d.a)))) || (!(byB o.two d.b d.a)))) rfl rfl (by clear hA HS hN hO hX hO9 hD5 hK1 hK2 hK3 hK4 hK5; simp only [execOp]; go_simp) ⟨_, rfl, (fun h => by cases h), rfl, hI, fun _ _ _ _ h => h⟩
  ·intro ll bb w' hs hlf hN hO hf hI hA
   clear hi'
   have qg : bb.tmps[121]? = some (cond true (.bool ((((((decide (o.s = 1)) || (!(rng d.t 0 (o.c - 1)))) || (!(zl d.m))) || (!(zh d.b))) || ((!decide (d.a = -1)) && (!(zh d.a)))) || (!(byB o.two d.b d.a)))) undef) := hf.tmp (k := 44) rfl (by rw [ha]; decide) (hA 44 (by kernel_rfl))
   cases hP : (true && (((((((decide (o.s = 1)) || (!(rng d.t 0 (o.c - 1)))) || (!(zl d.m))) || (!(zh d.b))) || ((!decide (d.a = -1)) && (!(zh d.a)))) || (!(byB o.two d.b d.a))) == false)) with
   | false => exact Rg.zq (o := ⟨some 122, _, _, _, _, _⟩) rfl (Rg.zy (g := 44) rfl rfl qg hP) ⟨_, rfl, (fun h => by cases h), Rg.zu hP, hI, fun _ _ _ _ h => h⟩
   | true =>
    have hw := Rg.zx (ops := (Rg.opsOf Tryz.f22 16)) (o := (Rg.opsOf Tryz.f22 16)[45]'(by rw [jl]; decide)) (g := 44) rfl rfl qg hP
    have g0 := Rg.zn hP
    have q0 := hf.kept (s := 4) (by rw [jl]; kernel_rfl) k4
    exact Rg.zf (o := ⟨some 122, Op.move (Operand.tmp 4), _, _, _, _⟩) (x := .int .i64 (i : Nat)) rfl hw (by clear hA HS hN hO hX hO9 hD5 hK1 hK2 hK3 hK4 hK5; simp only [execOp]; go_simp) ⟨_, rfl, (fun h => by cases h), (Rg.zk hP).symm, hI, fun _ _ _ _ h => h⟩
  ·intro ll bb w' hs hlf hN hO hf hI hA
   clear hi'
   have qg : bb.tmps[121]? = some (cond true (.bool ((((((decide (o.s = 1)) || (!(rng d.t 0 (o.c - 1)))) || (!(zl d.m))) || (!(zh d.b))) || ((!decide (d.a = -1)) && (!(zh d.a)))) || (!(byB o.two d.b d.a)))) undef) := hf.tmp (k := 44) rfl (by rw [ha]; decide) (hA 44 (by kernel_rfl))
   cases hP : (true && (((((((decide (o.s = 1)) || (!(rng d.t 0 (o.c - 1)))) || (!(zl d.m))) || (!(zh d.b))) || ((!decide (d.a = -1)) && (!(zh d.a)))) || (!(byB o.two d.b d.a))) == false)) with
   | false => exact Rg.zq (o := ⟨some 123, _, _, _, _, _⟩) rfl (Rg.zy (g := 44) rfl rfl qg hP) ⟨_, rfl, (fun h => by cases h), Rg.zu hP, hI, fun _ _ _ _ h => h⟩
   | true =>
    have hw := Rg.zx (ops := (Rg.opsOf Tryz.f22 16)) (o := (Rg.opsOf Tryz.f22 16)[46]'(by rw [jl]; decide)) (g := 44) rfl rfl qg hP
    have g0 := Rg.zn hP
    have q122 : bb.tmps[122]? = some (.int .i64 (i : Nat)) := hf.tmp (k := 45) rfl (by rw [ha]; decide) (Eq.trans (hA 45 (by kernel_rfl)) (Rg.zk hP))
    exact Rg.zf (o := ⟨some 123, Op.binOp BinOp.gtr 3 (Operand.tmp 122) (Operand.const (Value.int .i64 0)) 3, _, _, _, _⟩) (x := .bool (decide ((0 : Int) < (i : Int)))) rfl hw (by clear hA HS hN hO hX hO9 hD5 hK1 hK2 hK3 hK4 hK5; simp only [execOp]; go_simp) ⟨_, rfl, (fun h => by cases h), (Rg.zk hP).symm, hI, fun _ _ _ _ h => h⟩
  ·intro ll bb w' hs hlf hN hO hf hI hA
   clear hi'
   have qg : bb.tmps[121]? = some (cond true (.bool ((((((decide (o.s = 1)) || (!(rng d.t 0 (o.c - 1)))) || (!(zl d.m))) || (!(zh d.b))) || ((!decide (d.a = -1)) && (!(zh d.a)))) || (!(byB o.two d.b d.a)))) undef) := hf.tmp (k := 44) rfl (by rw [ha]; decide) (hA 44 (by kernel_rfl))
   cases hP : (true && (((((((decide (o.s = 1)) || (!(rng d.t 0 (o.c - 1)))) || (!(zl d.m))) || (!(zh d.b))) || ((!decide (d.a = -1)) && (!(zh d.a)))) || (!(byB o.two d.b d.a))) == false)) with
   | false => exact Rg.zq (o := ⟨some 124, _, _, _, _, _⟩) rfl (Rg.zy (g := 44) rfl rfl qg hP) ⟨_, rfl, (fun h => by cases h), Rg.zu hP, hI, fun _ _ _ _ h => h⟩
   | true =>
    have hw := Rg.zx (ops := (Rg.opsOf Tryz.f22 16)) (o := (Rg.opsOf Tryz.f22 16)[47]'(by rw [jl]; decide)) (g := 44) rfl rfl qg hP
    have g0 := Rg.zn hP
    have q123 : bb.tmps[123]? = some (.bool (decide ((0 : Int) < (i : Int)))) := hf.tmp (k := 46) rfl (by rw [ha]; decide) (Eq.trans (hA 46 (by kernel_rfl)) (Rg.zk hP))
    exact Rg.zf (o := ⟨some 124, Op.move (Operand.tmp 123), _, _, _, _⟩) (x := .bool (decide ((0 : Int) < (i : Int)))) rfl hw (by clear hA HS hN hO hX hO9 hD5 hK1 hK2 hK3 hK4 hK5; simp only [execOp]; go_simp) ⟨_, rfl, (fun h => by cases h), (Rg.zk hP).symm, hI, fun _ _ _ _ h => h⟩
  ·intro ll bb w' hs hlf hN hO hf hI hA
   clear hi'
   have qg : bb.tmps[124]? = some (cond (true && (((((((decide (o.s = 1)) || (!(rng d.t 0 (o.c - 1)))) || (!(zl d.m))) || (!(zh d.b))) || ((!decide (d.a = -1)) && (!(zh d.a)))) || (!(byB o.two d.b d.a))) == false)) (.bool (decide ((0 : Int) < (i : Int)))) undef) := hf.tmp (k := 47) rfl (by rw [ha]; decide) (hA 47 (by kernel_rfl))
   cases hP : ((true && (((((((decide (o.s = 1)) || (!(rng d.t 0 (o.c - 1)))) || (!(zl d.m))) || (!(zh d.b))) || ((!decide (d.a = -1)) && (!(zh d.a)))) || (!(byB o.two d.b d.a))) == false)) && ((decide ((0 : Int) < (i : Int))) == true)) with
   | false => exact Rg.zq (o := ⟨some 125, _, _, _, _, _⟩) rfl (Rg.zy (g := 47) rfl rfl qg hP) ⟨_, rfl, (fun h => by cases h), Rg.zu hP, hI, fun _ _ _ _ h => h⟩
   | true =>
    have hw := Rg.zx (ops := (Rg.opsOf Tryz.f22 16)) (o := (Rg.opsOf Tryz.f22 16)[48]'(by rw [jl]; decide)) (g := 47) rfl rfl qg hP
    have g1 := Rg.zn hP
    have p1 := Rg.ku hP
    have g0 := Rg.zn p1
    have q5 := hf.kept (s := 5) (by rw [jl]; kernel_rfl) k5
    exact Rg.zf (o := ⟨some 125, Op.fieldAddr 35 (Operand.tmp 5) 2, _, _, _, _⟩) (x := .pointer (some ⟨DB, 2, none⟩)) rfl hw (by clear hA HS hN hO hX hO9 hD5 hK1 hK2 hK3 hK4 hK5; simp only [execOp]; go_simp) ⟨_, rfl, (fun h => by cases h), (Rg.zk hP).symm, hI, fun _ _ _ _ h => h⟩
  ·intro ll bb w' hs hlf hN hO hf hI hA
   clear hi'
   have qg : bb.tmps[124]? = some (cond (true && (((((((decide (o.s = 1)) || (!(rng d.t 0 (o.c - 1)))) || (!(zl d.m))) || (!(zh d.b))) || ((!decide (d.a = -1)) && (!(zh d.a)))) || (!(byB o.two d.b d.a))) == false)) (.bool (decide ((0 : Int) < (i : Int)))) undef) := hf.tmp (k := 47) rfl (by rw [ha]; decide) (hA 47 (by kernel_rfl))
   cases hP : ((true && (((((((decide (o.s = 1)) || (!(rng d.t 0 (o.c - 1)))) || (!(zl d.m))) || (!(zh d.b))) || ((!decide (d.a = -1)) && (!(zh d.a)))) || (!(byB o.two d.b d.a))) == false)) && ((decide ((0 : Int) < (i : Int))) == true)) with
   | false => exact Rg.zq (o := ⟨some 126, _, _, _, _, _⟩) rfl (Rg.zy (g := 47) rfl rfl qg hP) ⟨_, rfl, (fun h => by cases h), Rg.zu hP, hI, fun _ _ _ _ h => h⟩
   | true =>
    have hw := Rg.zx (ops := (Rg.opsOf Tryz.f22 16)) (o := (Rg.opsOf Tryz.f22 16)[49]'(by rw [jl]; decide)) (g := 47) rfl rfl qg hP
    have g1 := Rg.zn hP
    have p1 := Rg.ku hP
    have g0 := Rg.zn p1
    have q125 : bb.tmps[125]? = some (.pointer (some ⟨DB, 2, none⟩)) := hf.tmp (k := 48) rfl (by rw [ha]; decide) (Eq.trans (hA 48 (by kernel_rfl)) (Rg.zk hP))
    obtain ⟨d0, d1, d2, d3, d4⟩ := (hD5.below hI).five
    exact Rg.zf (o := ⟨some 126, Op.load 2 (Operand.tmp 125), _, _, _, _⟩) (x := .int .i64 d.m) rfl hw (by clear hA HS hN hO hX hO9 hD5 hK1 hK2 hK3 hK4 hK5; simp only [execOp]; go_simp) ⟨_, rfl, (fun h => by cases h), (Rg.zk hP).symm, hI, fun _ _ _ _ h => h⟩
  ·intro ll bb w' hs hlf hN hO hf hI hA
   clear hi'
   have qg : bb.tmps[124]? = some (cond (true && (((((((decide (o.s = 1)) || (!(rng d.t 0 (o.c - 1)))) || (!(zl d.m))) || (!(zh d.b))) || ((!decide (d.a = -1)) && (!(zh d.a)))) || (!(byB o.two d.b d.a))) == false)) (.bool (decide ((0 : Int) < (i : Int)))) undef) := hf.tmp (k := 47) rfl (by rw [ha]; decide) (hA 47 (by kernel_rfl))
   cases hP : ((true && (((((((decide (o.s = 1)) || (!(rng d.t 0 (o.c - 1)))) || (!(zl d.m))) || (!(zh d.b))) || ((!decide (d.a = -1)) && (!(zh d.a)))) || (!(byB o.two d.b d.a))) == false)) && ((decide ((0 : Int) < (i : Int))) == true)) with
   | false => exact Rg.zq (o := ⟨some 127, _, _, _, _, _⟩) rfl (Rg.zy (g := 47) rfl rfl qg hP) ⟨_, rfl, (fun h => by cases h), Rg.zu hP, hI, fun _ _ _ _ h => h⟩
   | true =>
    have hw := Rg.zx (ops := (Rg.opsOf Tryz.f22 16)) (o := (Rg.opsOf Tryz.f22 16)[50]'(by rw [jl]; decide)) (g := 47) rfl rfl qg hP
    have g1 := Rg.zn hP
    have p1 := Rg.ku hP
    have g0 := Rg.zn p1
    have q1 := hf.kept (s := 1) (by rw [jl]; kernel_rfl) k1
    exact Rg.zf (o := ⟨some 127, Op.fieldAddr 27 (Operand.tmp 1) 1, _, _, _, _⟩) (x := .pointer (some ⟨CB, 1, none⟩)) rfl hw (by clear hA HS hN hO hX hO9 hD5 hK1 hK2 hK3 hK4 hK5; simp only [execOp]; go_simp) ⟨_, rfl, (fun h => by cases h), (Rg.zk hP).symm, hI, fun _ _ _ _ h => h⟩
  ·intro ll bb w' hs hlf hN hO hf hI hA
   clear hi'
   have qg : bb.tmps[124]? = some (cond (true && (((((((decide (o.s = 1)) || (!(rng d.t 0 (o.c - 1)))) || (!(zl d.m))) || (!(zh d.b))) || ((!decide (d.a = -1)) && (!(zh d.a)))) || (!(byB o.two d.b d.a))) == false)) (.bool (decide ((0 : Int) < (i : Int)))) undef) := hf.tmp (k := 47) rfl (by rw [ha]; decide) (hA 47 (by kernel_rfl))
   cases hP : ((true && (((((((decide (o.s = 1)) || (!(rng d.t 0 (o.c - 1)))) || (!(zl d.m))) || (!(zh d.b))) || ((!decide (d.a = -1)) && (!(zh d.a)))) || (!(byB o.two d.b d.a))) == false)) && ((decide ((0 : Int) < (i : Int))) == true)) with
   | false => exact Rg.zq (o := ⟨some 128, _, _, _, _, _⟩) rfl (Rg.zy (g := 47) rfl rfl qg hP) ⟨_, rfl, (fun h => by cases h), Rg.zu hP, hI, fun _ _ _ _ h => h⟩
   | true =>
    have hw := Rg.zx (ops := (Rg.opsOf Tryz.f22 16)) (o := (Rg.opsOf Tryz.f22 16)[51]'(by rw [jl]; decide)) (g := 47) rfl rfl qg hP
    have g1 := Rg.zn hP
    have p1 := Rg.ku hP
    have g0 := Rg.zn p1
    have q127 : bb.tmps[127]? = some (.pointer (some ⟨CB, 1, none⟩)) := hf.tmp (k := 50) rfl (by rw [ha]; decide) (Eq.trans (hA 50 (by kernel_rfl)) (Rg.zk hP))
    obtain ⟨b0, b1⟩ := (hX.below hI).two
    exact Rg.zf (o := ⟨some 128, Op.load 25 (Operand.tmp 127), _, _, _, _⟩) (x := .slice (some ⟨g, off, none⟩) n cap) rfl hw (by clear hA HS hN hO hX hO9 hD5 hK1 hK2 hK3 hK4 hK5; simp only [execOp]; go_simp) ⟨_, rfl, (fun h => by cases h), (Rg.zk hP).symm, hI, fun _ _ _ _ h => h⟩
  ·intro ll bb w' hs hlf hN hO hf hI hA
   clear hi'
   have qg : bb.tmps[124]? = some (cond (true && (((((((decide (o.s = 1)) || (!(rng d.t 0 (o.c - 1)))) || (!(zl d.m))) || (!(zh d.b))) || ((!decide (d.a = -1)) && (!(zh d.a)))) || (!(byB o.two d.b d.a))) == false)) (.bool (decide ((0 : Int) < (i : Int)))) undef) := hf.tmp (k := 47) rfl (by rw [ha]; decide) (hA 47 (by kernel_rfl))
   cases hP : ((true && (((((((decide (o.s = 1)) || (!(rng d.t 0 (o.c - 1)))) || (!(zl d.m))) || (!(zh d.b))) || ((!decide (d.a = -1)) && (!(zh d.a)))) || (!(byB o.two d.b d.a))) == false)) && ((decide ((0 : Int) < (i : Int))) == true)) with
   | false => exact Rg.zq (o := ⟨some 129, _, _, _, _, _⟩) rfl (Rg.zy (g := 47) rfl rfl qg hP) ⟨_, rfl, (fun h => by cases h), Rg.zu hP, hI, fun _ _ _ _ h => h⟩
   | true =>
    have hw := Rg.zx (ops := (Rg.opsOf Tryz.f22 16)) (o := (Rg.opsOf Tryz.f22 16)[52]'(by rw [jl]; decide)) (g := 47) rfl rfl qg hP
    have g1 := Rg.zn hP
    have p1 := Rg.ku hP
    have g0 := Rg.zn p1
    have q0 := hf.kept (s := 4) (by rw [jl]; kernel_rfl) k4
    exact Rg.zf (o := ⟨some 129, Op.move (Operand.tmp 4), _, _, _, _⟩) (x := .int .i64 (i : Nat)) rfl hw (by clear hA HS hN hO hX hO9 hD5 hK1 hK2 hK3 hK4 hK5; simp only [execOp]; go_simp) ⟨_, rfl, (fun h => by cases h), (Rg.zk hP).symm, hI, fun _ _ _ _ h => h⟩
  ·intro ll bb w' hs hlf hN hO hf hI hA
   clear hi'
   have qg : bb.tmps[124]? = some (cond (true && (((((((decide (o.s = 1)) || (!(rng d.t 0 (o.c - 1)))) || (!(zl d.m))) || (!(zh d.b))) || ((!decide (d.a = -1)) && (!(zh d.a)))) || (!(byB o.two d.b d.a))) == false)) (.bool (decide ((0 : Int) < (i : Int)))) undef) := hf.tmp (k := 47) rfl (by rw [ha]; decide) (hA 47 (by kernel_rfl))
   cases hP : ((true && (((((((decide (o.s = 1)) || (!(rng d.t 0 (o.c - 1)))) || (!(zl d.m))) || (!(zh d.b))) || ((!decide (d.a = -1)) && (!(zh d.a)))) || (!(byB o.two d.b d.a))) == false)) && ((decide ((0 : Int) < (i : Int))) == true)) with
   | false => exact Rg.zq (o := ⟨some 130, _, _, _, _, _⟩) rfl (Rg.zy (g := 47) rfl rfl qg hP) ⟨_, rfl, (fun h => by cases h), Rg.zu hP, hI, fun _ _ _ _ h => h⟩
   | true =>
    have hw := Rg.zx (ops := (Rg.opsOf Tryz.f22 16)) (o := (Rg.opsOf Tryz.f22 16)[53]'(by rw [jl]; decide)) (g := 47) rfl rfl qg hP
    have g1 := Rg.zn hP
    have p1 := Rg.ku hP
    have g0 := Rg.zn p1
    have q129 : bb.tmps[129]? = some (.int .i64 (i : Nat)) := hf.tmp (k := 52) rfl (by rw [ha]; decide) (Eq.trans (hA 52 (by kernel_rfl)) (Rg.zk hP))
    have hi0 : 0 < i := by have := g1; simp at this; omega
    have hwr : IntKind.i64.wrap ((i : Int) - 1) = ((i - 1 : Nat) : Int) := by rw [IntKind.wrap_i64]; omega
    exact Rg.zf (o := ⟨some 130, Op.binOp BinOp.sub 3 (Operand.tmp 129) (Operand.const (Value.int .i64 1)) 3, _, _, _, _⟩) (x := .int .i64 ((i - 1 : Nat) : Int)) rfl hw (by clear hA HS hN hO hX hO9 hD5 hK1 hK2 hK3 hK4 hK5; simp only [execOp]; go_simp) ⟨_, rfl, (fun h => by cases h), (Rg.zk hP).symm, hI, fun _ _ _ _ h => h⟩
  ·intro ll bb w' hs hlf hN hO hf hI hA
   clear hi'
   have qg : bb.tmps[124]? = some (cond (true && (((((((decide (o.s = 1)) || (!(rng d.t 0 (o.c - 1)))) || (!(zl d.m))) || (!(zh d.b))) || ((!decide (d.a = -1)) && (!(zh d.a)))) || (!(byB o.two d.b d.a))) == false)) (.bool (decide ((0 : Int) < (i : Int)))) undef) := hf.tmp (k := 47) rfl (by rw [ha]; decide) (hA 47 (by kernel_rfl))
   cases hP : ((true && (((((((decide (o.s = 1)) || (!(rng d.t 0 (o.c - 1)))) || (!(zl d.m))) || (!(zh d.b))) || ((!decide (d.a = -1)) && (!(zh d.a)))) || (!(byB o.two d.b d.a))) == false)) && ((decide ((0 : Int) < (i : Int))) == true)) with
   | false => exact Rg.zq (o := ⟨some 131, _, _, _, _, _⟩) rfl (Rg.zy (g := 47) rfl rfl qg hP) ⟨_, rfl, (fun h => by cases h), Rg.zu hP, hI, fun _ _ _ _ h => h⟩
   | true =>
    have hw := Rg.zx (ops := (Rg.opsOf Tryz.f22 16)) (o := (Rg.opsOf Tryz.f22 16)[54]'(by rw [jl]; decide)) (g := 47) rfl rfl qg hP
    have g1 := Rg.zn hP
    have p1 := Rg.ku hP
    have g0 := Rg.zn p1
    have q128 : bb.tmps[128]? = some (.slice (some ⟨g, off, none⟩) n cap) := hf.tmp (k := 51) rfl (by rw [ha]; decide) (Eq.trans (hA 51 (by kernel_rfl)) (Rg.zk hP))
    have q130 : bb.tmps[130]? = some (.int .i64 ((i - 1 : Nat) : Int)) := hf.tmp (k := 53) rfl (by rw [ha]; decide) (Eq.trans (hA 53 (by kernel_rfl)) (Rg.zk hP))
    have hi0 : 0 < i := by have := g1; simp at this; omega
    have hi3 : ((i - 1 : Nat) : Int) < (n : Int) := by omega
    have hi4 : i - 1 < n := by omega
    exact Rg.zf (o := ⟨some 131, Op.indexAddr 25 (Operand.tmp 128) (Operand.tmp 130), _, _, _, _⟩) (x := .pointer (some ⟨g, off + (i - 1) * 5, none⟩)) rfl hw (by clear hA HS hN hO hX hO9 hD5 hK1 hK2 hK3 hK4 hK5; simp only [execOp]; go_simp) ⟨_, rfl, (fun h => by cases h), (Rg.zk hP).symm, hI, fun _ _ _ _ h => h⟩
  ·intro ll bb w' hs hlf hN hO hf hI hA
   clear hi'
   have qg : bb.tmps[124]? = some (cond (true && (((((((decide (o.s = 1)) || (!(rng d.t 0 (o.c - 1)))) || (!(zl d.m))) || (!(zh d.b))) || ((!decide (d.a = -1)) && (!(zh d.a)))) || (!(byB o.two d.b d.a))) == false)) (.bool (decide ((0 : Int) < (i : Int)))) undef) := hf.tmp (k := 47) rfl (by rw [ha]; decide) (hA 47 (by kernel_rfl))
   cases hP : ((true && (((((((decide (o.s = 1)) || (!(rng d.t 0 (o.c - 1)))) || (!(zl d.m))) || (!(zh d.b))) || ((!decide (d.a = -1)) && (!(zh d.a)))) || (!(byB o.two d.b d.a))) == false)) && ((decide ((0 : Int) < (i : Int))) == true)) with
   | false => exact Rg.zq (o := ⟨some 132, _, _, _, _, _⟩) rfl (Rg.zy (g := 47) rfl rfl qg hP) ⟨_, rfl, (fun h => by cases h), Rg.zu hP, hI, fun _ _ _ _ h => h⟩
   | true =>
    have hw := Rg.zx (ops := (Rg.opsOf Tryz.f22 16)) (o := (Rg.opsOf Tryz.f22 16)[55]'(by rw [jl]; decide)) (g := 47) rfl rfl qg hP
    have g1 := Rg.zn hP
    have p1 := Rg.ku hP
    have g0 := Rg.zn p1
    have q131 : bb.tmps[131]? = some (.pointer (some ⟨g, off + (i - 1) * 5, none⟩)) := hf.tmp (k := 54) rfl (by rw [ha]; decide) (Eq.trans (hA 54 (by kernel_rfl)) (Rg.zk hP))
    exact Rg.zf (o := ⟨some 132, Op.fieldAddr 35 (Operand.tmp 131) 2, _, _, _, _⟩) (x := .pointer (some ⟨g, off + (i - 1) * 5 + 2, none⟩)) rfl hw (by clear hA HS hN hO hX hO9 hD5 hK1 hK2 hK3 hK4 hK5; simp only [execOp]; go_simp) ⟨_, rfl, (fun h => by cases h), (Rg.zk hP).symm, hI, fun _ _ _ _ h => h⟩
  ·intro ll bb w' hs hlf hN hO hf hI hA
   clear hi'
   have qg : bb.tmps[124]? = some (cond (true && (((((((decide (o.s = 1)) || (!(rng d.t 0 (o.c - 1)))) || (!(zl d.m))) || (!(zh d.b))) || ((!decide (d.a = -1)) && (!(zh d.a)))) || (!(byB o.two d.b d.a))) == false)) (.bool (decide ((0 : Int) < (i : Int)))) undef) := hf.tmp (k := 47) rfl (by rw [ha]; decide) (hA 47 (by kernel_rfl))
   cases hP : ((true && (((((((decide (o.s = 1)) || (!(rng d.t 0 (o.c - 1)))) || (!(zl d.m))) || (!(zh d.b))) || ((!decide (d.a = -1)) && (!(zh d.a)))) || (!(byB o.two d.b d.a))) == false)) && ((decide ((0 : Int) < (i : Int))) == true)) with
   | false => exact Rg.zq (o := ⟨some 133, _, _, _, _, _⟩) rfl (Rg.zy (g := 47) rfl rfl qg hP) ⟨_, rfl, (fun h => by cases h), Rg.zu hP, hI, fun _ _ _ _ h => h⟩
   | true =>
    have hw := Rg.zx (ops := (Rg.opsOf Tryz.f22 16)) (o := (Rg.opsOf Tryz.f22 16)[56]'(by rw [jl]; decide)) (g := 47) rfl rfl qg hP
    have g1 := Rg.zn hP
    have p1 := Rg.ku hP
    have g0 := Rg.zn p1
    have q132 : bb.tmps[132]? = some (.pointer (some ⟨g, off + (i - 1) * 5 + 2, none⟩)) := hf.tmp (k := 55) rfl (by rw [ha]; decide) (Eq.trans (hA 55 (by kernel_rfl)) (Rg.zk hP))
    have hi0 : 0 < i := by have := g1; simp at this; omega
    have e9 := (hI.cell (p := ⟨g, off + (i - 1) * 5 + 2, none⟩) hgl).trans (y2 hi0)
    exact Rg.zf (o := ⟨some 133, Op.load 2 (Operand.tmp 132), _, _, _, _⟩) (x := .int .i64 ym) rfl hw (by clear hA HS hN hO hX hO9 hD5 hK1 hK2 hK3 hK4 hK5; simp only [execOp]; go_simp) ⟨_, rfl, (fun h => by cases h), (Rg.zk hP).symm, hI, fun _ _ _ _ h => h⟩
  ·intro ll bb w' hs hlf hN hO hf hI hA
   clear hi'
   have qg : bb.tmps[124]? = some (cond (true && (((((((decide (o.s = 1)) || (!(rng d.t 0 (o.c - 1)))) || (!(zl d.m))) || (!(zh d.b))) || ((!decide (d.a = -1)) && (!(zh d.a)))) || (!(byB o.two d.b d.a))) == false)) (.bool (decide ((0 : Int) < (i : Int)))) undef) := hf.tmp (k := 47) rfl (by rw [ha]; decide) (hA 47 (by kernel_rfl))
   cases hP : ((true && (((((((decide (o.s = 1)) || (!(rng d.t 0 (o.c - 1)))) || (!(zl d.m))) || (!(zh d.b))) || ((!decide (d.a = -1)) && (!(zh d.a)))) || (!(byB o.two d.b d.a))) == false)) && ((decide ((0 : Int) < (i : Int))) == true)) with
   | false => exact Rg.zq (o := ⟨some 134, _, _, _, _, _⟩) rfl (Rg.zy (g := 47) rfl rfl qg hP) ⟨_, rfl, (fun h => by cases h), Rg.zu hP, hI, fun _ _ _ _ h => h⟩
   | true =>
    have hw := Rg.zx (ops := (Rg.opsOf Tryz.f22 16)) (o := (Rg.opsOf Tryz.f22 16)[57]'(by rw [jl]; decide)) (g := 47) rfl rfl qg hP
    have g1 := Rg.zn hP
    have p1 := Rg.ku hP
    have g0 := Rg.zn p1
    have q126 : bb.tmps[126]? = some (.int .i64 d.m) := hf.tmp (k := 49) rfl (by rw [ha]; decide) (Eq.trans (hA 49 (by kernel_rfl)) (Rg.zk hP))
    have q133 : bb.tmps[133]? = some (.int .i64 ym) := hf.tmp (k := 56) rfl (by rw [ha]; decide) (Eq.trans (hA 56 (by kernel_rfl)) (Rg.zk hP))
    exact Rg.zf (o := ⟨some 134, Op.binOp BinOp.lss 2 (Operand.tmp 126) (Operand.tmp 133) 2, _, _, _, _⟩) (x := .bool (decide (d.m < ym))) rfl hw (by clear hA HS hN hO hX hO9 hD5 hK1 hK2 hK3 hK4 hK5; simp only [execOp]; go_simp) ⟨_, rfl, (fun h => by cases h), (Rg.zk hP).symm, hI, fun _ _ _ _ h => h⟩
  ·intro ll bb w' hs hlf hN hO hf hI hA
   clear hi'
   have qg : bb.tmps[121]? = some (cond true (.bool ((((((decide (o.s = 1)) || (!(rng d.t 0 (o.c - 1)))) || (!(zl d.m))) || (!(zh d.b))) || ((!decide (d.a = -1)) && (!(zh d.a)))) || (!(byB o.two d.b d.a)))) undef) := hf.tmp (k := 44) rfl (by rw [ha]; decide) (hA 44 (by kernel_rfl))
   cases hP : (true && (((((((decide (o.s = 1)) || (!(rng d.t 0 (o.c - 1)))) || (!(zl d.m))) || (!(zh d.b))) || ((!decide (d.a = -1)) && (!(zh d.a)))) || (!(byB o.two d.b d.a))) == false)) with
   | false => exact Rg.zq (o := ⟨some 135, _, _, _, _, _⟩) rfl (Rg.zy (g := 44) rfl rfl qg hP) ⟨_, rfl, (fun h => by cases h), Rg.zu hP, hI, fun _ _ _ _ h => h⟩
   | true =>
    have hw := Rg.zx (ops := (Rg.opsOf Tryz.f22 16)) (o := (Rg.opsOf Tryz.f22 16)[58]'(by rw [jl]; decide)) (g := 44) rfl rfl qg hP
    have g0 := Rg.zn hP
    have q124 : bb.tmps[124]? = some (.bool (decide ((0 : Int) < (i : Int)))) := hf.tmp (k := 47) rfl (by rw [ha]; decide) (Eq.trans (hA 47 (by kernel_rfl)) (Rg.zk hP))
    cases hC : (decide ((0 : Int) < (i : Int))) with
    | false =>
     have hval : ((.bool ((decide ((0 : Int) < (i : Int))) && (decide (d.m < ym))) : Value)) = .bool false := by rw [hC]; rfl
     exact Rg.zf (o := ⟨some 135, Op.pick (Operand.tmp 124) (Operand.tmp 134) (Operand.const (Value.bool false)), _, _, _, _⟩) (x := .bool false) rfl hw (by rw [hC] at q124; clear hA HS hN hO hX hO9 hD5 hK1 hK2 hK3 hK4 hK5 hval; simp only [execOp]; go_simp) ⟨_, rfl, (fun h => by cases h), (by show ((.bool false : Value)) = _; exact hval.symm.trans (Rg.zk hP).symm), hI, fun _ _ _ _ h => h⟩
    | true =>
     have hB : ((true && (((((((decide (o.s = 1)) || (!(rng d.t 0 (o.c - 1)))) || (!(zl d.m))) || (!(zh d.b))) || ((!decide (d.a = -1)) && (!(zh d.a)))) || (!(byB o.two d.b d.a))) == false)) && ((decide ((0 : Int) < (i : Int))) == true)) = true := by
      rw [hC]; first | rfl | (rw [hP]; rfl) | simp_all
     have q134 : bb.tmps[134]? = some (.bool (decide (d.m < ym))) := hf.tmp (k := 57) rfl (by rw [ha]; decide) (Eq.trans (hA 57 (by kernel_rfl)) (Rg.zk hB))
     have hval : ((.bool ((decide ((0 : Int) < (i : Int))) && (decide (d.m < ym))) : Value)) = .bool (decide (d.m < ym)) := by rw [hC]; rfl
     exact Rg.zf (o := ⟨some 135, Op.pick (Operand.tmp 124) (Operand.tmp 134) (Operand.const (Value.bool false)), _, _, _, _⟩) (x := .bool (decide (d.m < ym))) rfl hw (by rw [hC] at q124; clear hA HS hN hO hX hO9 hD5 hK1 hK2 hK3 hK4 hK5 hval; simp only [execOp]; go_simp) ⟨_, rfl, (fun h => by cases h), (by show ((.bool (decide (d.m < ym)) : Value)) = _; exact hval.symm.trans (Rg.zk hP).symm), hI, fun _ _ _ _ h => h⟩
  ·intro ll bb w' hs hlf hN hO hf hI hA
   clear hi'
   have q121 : bb.tmps[121]? = some _ := hf.tmp (k := 44) rfl (by rw [ha]; decide) (hA 44 (by kernel_rfl))
   cases hC : ((((((decide (o.s = 1)) || (!(rng d.t 0 (o.c - 1)))) || (!(zl d.m))) || (!(zh d.b))) || ((!decide (d.a = -1)) && (!(zh d.a)))) || (!(byB o.two d.b d.a))) with
   | false =>
    have hB : (true && (((((((decide (o.s = 1)) || (!(rng d.t 0 (o.c - 1)))) || (!(zl d.m))) || (!(zh d.b))) || ((!decide (d.a = -1)) && (!(zh d.a)))) || (!(byB o.two d.b d.a))) == false)) = true := by rw [hC]; rfl
    have q135 : bb.tmps[135]? = some (.bool ((decide ((0 : Int) < (i : Int))) && (decide (d.m < ym)))) := hf.tmp (k := 58) rfl (by rw [ha]; decide) (Eq.trans (hA 58 (by kernel_rfl)) (Rg.zk hB))
    have hval : ((.bool (((((((decide (o.s = 1)) || (!(rng d.t 0 (o.c - 1)))) || (!(zl d.m))) || (!(zh d.b))) || ((!decide (d.a = -1)) && (!(zh d.a)))) || (!(byB o.two d.b d.a))) || ((decide ((0 : Int) < (i : Int))) && (decide (d.m < ym)))) : Value)) = .bool ((decide ((0 : Int) < (i : Int))) && (decide (d.m < ym))) := by rw [hC]; rfl
    exact Rg.zf (o := ⟨some 136, Op.pick (Operand.tmp 121) (Operand.const (Value.bool true)) (Operand.tmp 135), _, _, _, _⟩) (x := .bool ((decide ((0 : Int) < (i : Int))) && (decide (d.m < ym)))) rfl rfl (by rw [hC] at q121; clear hA HS hN hO hX hO9 hD5 hK1 hK2 hK3 hK4 hK5 hval; simp only [execOp]; go_simp) ⟨_, rfl, (fun h => by cases h), (by show ((.bool ((decide ((0 : Int) < (i : Int))) && (decide (d.m < ym))) : Value)) = _; exact hval.symm), hI, fun _ _ _ _ h => h⟩
   | true =>
    have hval : ((.bool (((((((decide (o.s = 1)) || (!(rng d.t 0 (o.c - 1)))) || (!(zl d.m))) || (!(zh d.b))) || ((!decide (d.a = -1)) && (!(zh d.a)))) || (!(byB o.two d.b d.a))) || ((decide ((0 : Int) < (i : Int))) && (decide (d.m < ym)))) : Value)) = .bool true := by rw [hC]; rfl
    exact Rg.zf (o := ⟨some 136, Op.pick (Operand.tmp 121) (Operand.const (Value.bool true)) (Operand.tmp 135), _, _, _, _⟩) (x := .bool true) rfl rfl (by rw [hC] at q121; clear hA HS hN hO hX hO9 hD5 hK1 hK2 hK3 hK4 hK5 hval; simp only [execOp]; go_simp) ⟨_, rfl, (fun h => by cases h), (by show ((.bool true : Value)) = _; exact hval.symm), hI, fun _ _ _ _ h => h⟩
theorem layC16 {a b : Act} (hf : Rg.Fr (Rg.opsOf Tryz.f22 16) a b) : b = Rg.fl (Rg.opsOf Tryz.f22 16) b 0 [some 77, some 78, some 79, some 80, some 81, some 82, some 83, some 84, some 85, some 86, some 87, some 88, some 89, some 90, some 91, some 92, some 93, some 94, some 95, some 96, some 97, some 98, some 99, some 100, some 101, some 102, some 103, some 104, some 105, some 106, some 107, some 108, some 109, some 110, some 111, some 112, some 113, some 114, some 115, some 116, some 117, some 118, some 119, some 120, some 121, some 122, some 123, some 124, some 125, some 126, some 127, some 128, some 129, some 130, some 131, some 132, some 133, some 134, some 135, some 136] a := Rg.ql _ (by kernel_rfl) hf
end Go.Proofs.YtjlpfpigggdemaaGreatDoor
