/-
 Merged: U13.
-/
import Derived.Test.YtjlpfpigggdemaaGreatDoorMi20
import Derived.Test.YtjlpfpigggdemaaGreatDoorMi4
import Derived.Test.YtjlpfpigggdemaaGreatDoorMi3
namespace Go.Proofs.YtjlpfpigggdemaaGreatDoor
set_option maxRecDepth 8000
set_option maxHeartbeats 4000000
open Go.RowKit Va Uo Go.Maps
set_option linter.all false
def FL14 (G c n DB at9 : Nat) (d y : Du) (i9 : Nat) (v : Value) (w : World) : Prop :=
 match i9 with
 | 0 => v = .int .i64 (at9 : Nat)
 | 1 => v = .bool (decide ((0 : Int) < (at9 : Int)))
 | 2 => v = .bool (decide ((0 : Int) < (at9 : Int)))
 | 3 => v = cond (true && ((decide ((0 : Int) < (at9 : Int))) == true)) (.slice (some ⟨G, 0, none⟩) n c) undef
 | 4 => v = cond (true && ((decide ((0 : Int) < (at9 : Int))) == true)) (.int .i64 (at9 : Nat)) undef
 | 5 => v = cond (true && ((decide ((0 : Int) < (at9 : Int))) == true)) (.int .i64 ((at9 - 1 : Nat) : Int)) undef
 | 6 => v = cond (true && ((decide ((0 : Int) < (at9 : Int))) == true)) (.pointer (some ⟨G, (at9 - 1) * 3, none⟩)) undef
 | 7 => v = cond (true && ((decide ((0 : Int) < (at9 : Int))) == true)) (.pointer (some ⟨G, (at9 - 1) * 3 + 2, none⟩)) undef
 | 8 => v = cond (true && ((decide ((0 : Int) < (at9 : Int))) == true)) (.int .i64 y.s) undef
 | 9 => v = cond (true && ((decide ((0 : Int) < (at9 : Int))) == true)) (.pointer (some ⟨DB, 2, none⟩)) undef
 | 10 => v = cond (true && ((decide ((0 : Int) < (at9 : Int))) == true)) (.int .i64 d.s) undef
 | 11 => v = cond (true && ((decide ((0 : Int) < (at9 : Int))) == true)) (.bool (decide (d.s < y.s))) undef
 | 12 => v = .bool ((decide ((0 : Int) < (at9 : Int))) && (decide (d.s < y.s)))
 | _ => True
theorem za7 : (Rg.opsOf Tryz.f24 14).size = 13 := by kernel_rfl
set_option maxRecDepth 20000 in
set_option maxHeartbeats 16000000 in
theorem zfh {Q : Exit -> Act -> World -> Prop} {a : Act} {w9 : World} {G c n DB at9 : Nat} {d y : Du} (ha : a.tmps.size = 105)
  (k12 : a.tmps[12]? = some (.int .i64 (at9 : Nat))) (k7 : a.tmps[7]? = some (.slice (some ⟨G, 0, none⟩) n c)) (k11 : a.tmps[11]? = some (.pointer (some ⟨DB, 0, none⟩))) (hD3 : PB w9 DB #[.int .i64 d.o, .int .i64 d.t, .int .i64 d.s] 33) (hin : at9 < n) (hil : at9 < 1000000) (hgl : G < w9.heap.size) (y2 : 0 < at9 -> w9.cell? ⟨G, (at9 - 1) * 3 + 2, none⟩ = some (.int .i64 y.s))
  (hend : ∀ b' w', Rg.Fr (Rg.opsOf Tryz.f24 14) a b' -> Below w9.heap.size w9 w' -> Rg.out (Rg.opsOf Tryz.f24 14) b' 12 = .bool ((decide ((0 : Int) < (at9 : Int))) && (decide (d.s < y.s))) -> Q .normal b' w') :
  (Code.region 14 (Rg.opsOf Tryz.f24 14) true).wp Tryz.prog Q a w9 := by
 refine Rg.zcq (by kernel_rfl) (fun _ w' => Below w9.heap.size w9 w') (FL14 G c n DB at9 d y) (by rw [ha, za7]; kernel_rfl) (jq (Below.refl _ _)) ?_ ?_
 case refine_2 =>
  intro l b' w' hf hall hI hA
  rw [za7] at hA
  exact hend b' w' hf hI (hA 12 (by decide))
 case refine_1 =>
  clear hend
  have HS : ∀ {w w' : World}, Below w.heap.size w w' -> ∀ k9 y9, FL14 G c n DB at9 d y k9 y9 w -> FL14 G c n DB at9 d y k9 y9 w' := fun hb k9 y9 h => by
   unfold FL14 at *
   split at h <;> exact h
  intro i' hi'
  rw [za7] at hi'
  rcases (show i' = 0 ∨ i' = 1 ∨ i' = 2 ∨ i' = 3 ∨ i' = 4 ∨ i' = 5 ∨ i' = 6 ∨ i' = 7 ∨ i' = 8 ∨ i' = 9 ∨ i' = 10 ∨ i' = 11 ∨ i' = 12 by omega) with rfl | rfl | rfl | rfl | rfl | rfl | rfl | rfl | rfl | rfl | rfl | rfl | rfl
  ·intro ll bb w' hs hlf hN hO hf hI hA
   clear hi'
   have q0 := hf.kept (s := 12) (by rw [za7]; kernel_rfl) k12
   exact Rg.zf (o := ⟨some 77, Op.move (Operand.tmp 12), _, _, _, _⟩) (x := .int .i64 (at9 : Nat)) rfl rfl (by clear hA HS hN hO hD3; simp only [execOp]; go_simp) ⟨_, rfl, (fun h => by cases h), rfl, hI, fun _ _ _ _ h => h⟩
  ·intro ll bb w' hs hlf hN hO hf hI hA
   clear hi'
   have q77 : bb.tmps[77]? = some _ := hf.tmp (k := 0) rfl (by rw [ha]; decide) (hA 0 (by kernel_rfl))
   exact Rg.zf (o := ⟨some 78, Op.binOp BinOp.gtr 3 (Operand.tmp 77) (Operand.const (Value.int .i64 0)) 3, _, _, _, _⟩) (x := .bool (decide ((0 : Int) < (at9 : Int)))) rfl rfl (by clear hA HS hN hO hD3; simp only [execOp]; go_simp) ⟨_, rfl, (fun h => by cases h), rfl, hI, fun _ _ _ _ h => h⟩
  ·intro ll bb w' hs hlf hN hO hf hI hA
   clear hi'
   have q78 : bb.tmps[78]? = some _ := hf.tmp (k := 1) rfl (by rw [ha]; decide) (hA 1 (by kernel_rfl))
   exact Rg.zf (o := ⟨some 79, Op.move (Operand.tmp 78), _, _, _, _⟩) (x := .bool (decide ((0 : Int) < (at9 : Int)))) rfl rfl (by clear hA HS hN hO hD3; simp only [execOp]; go_simp) ⟨_, rfl, (fun h => by cases h), rfl, hI, fun _ _ _ _ h => h⟩
  ·intro ll bb w' hs hlf hN hO hf hI hA
   clear hi'
   have qg : bb.tmps[79]? = some (cond true (.bool (decide ((0 : Int) < (at9 : Int)))) undef) := hf.tmp (k := 2) rfl (by rw [ha]; decide) (hA 2 (by kernel_rfl))
   cases hP : (true && ((decide ((0 : Int) < (at9 : Int))) == true)) with
   | false => exact Rg.zq (o := ⟨some 80, _, _, _, _, _⟩) rfl (Rg.zy (g := 2) rfl rfl qg hP) ⟨_, rfl, (fun h => by cases h), Rg.zu hP, hI, fun _ _ _ _ h => h⟩
   | true =>
    have hw := Rg.zx (ops := (Rg.opsOf Tryz.f24 14)) (o := (Rg.opsOf Tryz.f24 14)[3]'(by rw [za7]; decide)) (g := 2) rfl rfl qg hP
    have g0 := Rg.zn hP
    have q0 := hf.kept (s := 7) (by rw [za7]; kernel_rfl) k7
    exact Rg.zf (o := ⟨some 80, Op.move (Operand.tmp 7), _, _, _, _⟩) (x := .slice (some ⟨G, 0, none⟩) n c) rfl hw (by clear hA HS hN hO hD3; simp only [execOp]; go_simp) ⟨_, rfl, (fun h => by cases h), (Rg.zk hP).symm, hI, fun _ _ _ _ h => h⟩
  ·intro ll bb w' hs hlf hN hO hf hI hA
   clear hi'
   have qg : bb.tmps[79]? = some (cond true (.bool (decide ((0 : Int) < (at9 : Int)))) undef) := hf.tmp (k := 2) rfl (by rw [ha]; decide) (hA 2 (by kernel_rfl))
   cases hP : (true && ((decide ((0 : Int) < (at9 : Int))) == true)) with
   | false => exact Rg.zq (o := ⟨some 81, _, _, _, _, _⟩) rfl (Rg.zy (g := 2) rfl rfl qg hP) ⟨_, rfl, (fun h => by cases h), Rg.zu hP, hI, fun _ _ _ _ h => h⟩
   | true =>
    have hw := Rg.zx (ops := (Rg.opsOf Tryz.f24 14)) (o := (Rg.opsOf Tryz.f24 14)[4]'(by rw [za7]; decide)) (g := 2) rfl rfl qg hP
    have g0 := Rg.zn hP
    have q0 := hf.kept (s := 12) (by rw [za7]; kernel_rfl) k12
    exact Rg.zf (o := ⟨some 81, Op.move (Operand.tmp 12), _, _, _, _⟩) (x := .int .i64 (at9 : Nat)) rfl hw (by clear hA HS hN hO hD3; simp only [execOp]; go_simp) ⟨_, rfl, (fun h => by cases h), (Rg.zk hP).symm, hI, fun _ _ _ _ h => h⟩
  ·intro ll bb w' hs hlf hN hO hf hI hA
   clear hi'
   have qg : bb.tmps[79]? = some (cond true (.bool (decide ((0 : Int) < (at9 : Int)))) undef) := hf.tmp (k := 2) rfl (by rw [ha]; decide) (hA 2 (by kernel_rfl))
   cases hP : (true && ((decide ((0 : Int) < (at9 : Int))) == true)) with
   | false => exact Rg.zq (o := ⟨some 82, _, _, _, _, _⟩) rfl (Rg.zy (g := 2) rfl rfl qg hP) ⟨_, rfl, (fun h => by cases h), Rg.zu hP, hI, fun _ _ _ _ h => h⟩
   | true =>
    have hw := Rg.zx (ops := (Rg.opsOf Tryz.f24 14)) (o := (Rg.opsOf Tryz.f24 14)[5]'(by rw [za7]; decide)) (g := 2) rfl rfl qg hP
    have g0 := Rg.zn hP
    have q81 : bb.tmps[81]? = some (.int .i64 (at9 : Nat)) := hf.tmp (k := 4) rfl (by rw [ha]; decide) (Eq.trans (hA 4 (by kernel_rfl)) (Rg.zk hP))
    have hi0 : 0 < at9 := by have := g0; simp at this; omega
    have hwr : IntKind.i64.wrap ((at9 : Int) - 1) = ((at9 - 1 : Nat) : Int) := by rw [IntKind.wrap_i64]; omega
    exact Rg.zf (o := ⟨some 82, Op.binOp BinOp.sub 3 (Operand.tmp 81) (Operand.const (Value.int .i64 1)) 3, _, _, _, _⟩) (x := .int .i64 ((at9 - 1 : Nat) : Int)) rfl hw (by clear hA HS hN hO hD3; simp only [execOp]; go_simp) ⟨_, rfl, (fun h => by cases h), (Rg.zk hP).symm, hI, fun _ _ _ _ h => h⟩
  ·intro ll bb w' hs hlf hN hO hf hI hA
   clear hi'
   have qg : bb.tmps[79]? = some (cond true (.bool (decide ((0 : Int) < (at9 : Int)))) undef) := hf.tmp (k := 2) rfl (by rw [ha]; decide) (hA 2 (by kernel_rfl))
   cases hP : (true && ((decide ((0 : Int) < (at9 : Int))) == true)) with
   | false => exact Rg.zq (o := ⟨some 83, _, _, _, _, _⟩) rfl (Rg.zy (g := 2) rfl rfl qg hP) ⟨_, rfl, (fun h => by cases h), Rg.zu hP, hI, fun _ _ _ _ h => h⟩
   | true =>
    have hw := Rg.zx (ops := (Rg.opsOf Tryz.f24 14)) (o := (Rg.opsOf Tryz.f24 14)[6]'(by rw [za7]; decide)) (g := 2) rfl rfl qg hP
    have g0 := Rg.zn hP
    have q80 : bb.tmps[80]? = some (.slice (some ⟨G, 0, none⟩) n c) := hf.tmp (k := 3) rfl (by rw [ha]; decide) (Eq.trans (hA 3 (by kernel_rfl)) (Rg.zk hP))
    have q82 : bb.tmps[82]? = some (.int .i64 ((at9 - 1 : Nat) : Int)) := hf.tmp (k := 5) rfl (by rw [ha]; decide) (Eq.trans (hA 5 (by kernel_rfl)) (Rg.zk hP))
    have hi0 : 0 < at9 := by have := g0; simp at this; omega
    have hi3 : ((at9 - 1 : Nat) : Int) < (n : Int) := by omega
    have hi4 : at9 - 1 < n := by omega
    exact Rg.zf (o := ⟨some 83, Op.indexAddr 30 (Operand.tmp 80) (Operand.tmp 82), _, _, _, _⟩) (x := .pointer (some ⟨G, (at9 - 1) * 3, none⟩)) rfl hw (by clear hA HS hN hO hD3; simp only [execOp]; go_simp) ⟨_, rfl, (fun h => by cases h), (Rg.zk hP).symm, hI, fun _ _ _ _ h => h⟩
  ·intro ll bb w' hs hlf hN hO hf hI hA
   clear hi'
   have qg : bb.tmps[79]? = some (cond true (.bool (decide ((0 : Int) < (at9 : Int)))) undef) := hf.tmp (k := 2) rfl (by rw [ha]; decide) (hA 2 (by kernel_rfl))
   cases hP : (true && ((decide ((0 : Int) < (at9 : Int))) == true)) with
   | false => exact Rg.zq (o := ⟨some 84, _, _, _, _, _⟩) rfl (Rg.zy (g := 2) rfl rfl qg hP) ⟨_, rfl, (fun h => by cases h), Rg.zu hP, hI, fun _ _ _ _ h => h⟩
   | true =>
    have hw := Rg.zx (ops := (Rg.opsOf Tryz.f24 14)) (o := (Rg.opsOf Tryz.f24 14)[7]'(by rw [za7]; decide)) (g := 2) rfl rfl qg hP
    have g0 := Rg.zn hP
    have q83 : bb.tmps[83]? = some (.pointer (some ⟨G, (at9 - 1) * 3, none⟩)) := hf.tmp (k := 6) rfl (by rw [ha]; decide) (Eq.trans (hA 6 (by kernel_rfl)) (Rg.zk hP))
    exact Rg.zf (o := ⟨some 84, Op.fieldAddr 33 (Operand.tmp 83) 2, _, _, _, _⟩) (x := .pointer (some ⟨G, (at9 - 1) * 3 + 2, none⟩)) rfl hw (by clear hA HS hN hO hD3; simp only [execOp]; go_simp) ⟨_, rfl, (fun h => by cases h), (Rg.zk hP).symm, hI, fun _ _ _ _ h => h⟩
  ·intro ll bb w' hs hlf hN hO hf hI hA
   clear hi'
   have qg : bb.tmps[79]? = some (cond true (.bool (decide ((0 : Int) < (at9 : Int)))) undef) := hf.tmp (k := 2) rfl (by rw [ha]; decide) (hA 2 (by kernel_rfl))
   cases hP : (true && ((decide ((0 : Int) < (at9 : Int))) == true)) with
   | false => exact Rg.zq (o := ⟨some 85, _, _, _, _, _⟩) rfl (Rg.zy (g := 2) rfl rfl qg hP) ⟨_, rfl, (fun h => by cases h), Rg.zu hP, hI, fun _ _ _ _ h => h⟩
   | true =>
    have hw := Rg.zx (ops := (Rg.opsOf Tryz.f24 14)) (o := (Rg.opsOf Tryz.f24 14)[8]'(by rw [za7]; decide)) (g := 2) rfl rfl qg hP
    have g0 := Rg.zn hP
    have q84 : bb.tmps[84]? = some (.pointer (some ⟨G, (at9 - 1) * 3 + 2, none⟩)) := hf.tmp (k := 7) rfl (by rw [ha]; decide) (Eq.trans (hA 7 (by kernel_rfl)) (Rg.zk hP))
    have hi0 : 0 < at9 := by have := g0; simp at this; omega
    have e9 := (hI.cell (p := ⟨G, (at9 - 1) * 3 + 2, none⟩) hgl).trans (y2 hi0)
    exact Rg.zf (o := ⟨some 85, Op.load 2 (Operand.tmp 84), _, _, _, _⟩) (x := .int .i64 y.s) rfl hw (by clear hA HS hN hO hD3; simp only [execOp]; go_simp) ⟨_, rfl, (fun h => by cases h), (Rg.zk hP).symm, hI, fun _ _ _ _ h => h⟩
  ·intro ll bb w' hs hlf hN hO hf hI hA
   clear hi'
   have qg : bb.tmps[79]? = some (cond true (.bool (decide ((0 : Int) < (at9 : Int)))) undef) := hf.tmp (k := 2) rfl (by rw [ha]; decide) (hA 2 (by kernel_rfl))
   cases hP : (true && ((decide ((0 : Int) < (at9 : Int))) == true)) with
   | false => exact Rg.zq (o := ⟨some 86, _, _, _, _, _⟩) rfl (Rg.zy (g := 2) rfl rfl qg hP) ⟨_, rfl, (fun h => by cases h), Rg.zu hP, hI, fun _ _ _ _ h => h⟩
   | true =>
    have hw := Rg.zx (ops := (Rg.opsOf Tryz.f24 14)) (o := (Rg.opsOf Tryz.f24 14)[9]'(by rw [za7]; decide)) (g := 2) rfl rfl qg hP
    have g0 := Rg.zn hP
    have q11 := hf.kept (s := 11) (by rw [za7]; kernel_rfl) k11
    exact Rg.zf (o := ⟨some 86, Op.fieldAddr 33 (Operand.tmp 11) 2, _, _, _, _⟩) (x := .pointer (some ⟨DB, 2, none⟩)) rfl hw (by clear hA HS hN hO hD3; simp only [execOp]; go_simp) ⟨_, rfl, (fun h => by cases h), (Rg.zk hP).symm, hI, fun _ _ _ _ h => h⟩
  ·intro ll bb w' hs hlf hN hO hf hI hA
   clear hi'
   have qg : bb.tmps[79]? = some (cond true (.bool (decide ((0 : Int) < (at9 : Int)))) undef) := hf.tmp (k := 2) rfl (by rw [ha]; decide) (hA 2 (by kernel_rfl))
   cases hP : (true && ((decide ((0 : Int) < (at9 : Int))) == true)) with
   | false => exact Rg.zq (o := ⟨some 87, _, _, _, _, _⟩) rfl (Rg.zy (g := 2) rfl rfl qg hP) ⟨_, rfl, (fun h => by cases h), Rg.zu hP, hI, fun _ _ _ _ h => h⟩
   | true =>
    have hw := Rg.zx (ops := (Rg.opsOf Tryz.f24 14)) (o := (Rg.opsOf Tryz.f24 14)[10]'(by rw [za7]; decide)) (g := 2) rfl rfl qg hP
    have g0 := Rg.zn hP
    have q86 : bb.tmps[86]? = some (.pointer (some ⟨DB, 2, none⟩)) := hf.tmp (k := 9) rfl (by rw [ha]; decide) (Eq.trans (hA 9 (by kernel_rfl)) (Rg.zk hP))
    obtain ⟨d0, d1, d2⟩ := (hD3.below hI).three
    exact Rg.zf (o := ⟨some 87, Op.load 2 (Operand.tmp 86), _, _, _, _⟩) (x := .int .i64 d.s) rfl hw (by clear hA HS hN hO hD3; simp only [execOp]; go_simp) ⟨_, rfl, (fun h => by cases h), (Rg.zk hP).symm, hI, fun _ _ _ _ h => h⟩
  ·intro ll bb w' hs hlf hN hO hf hI hA
   clear hi'
   have qg : bb.tmps[79]? = some (cond true (.bool (decide ((0 : Int) < (at9 : Int)))) undef) := hf.tmp (k := 2) rfl (by rw [ha]; decide) (hA 2 (by kernel_rfl))
   cases hP : (true && ((decide ((0 : Int) < (at9 : Int))) == true)) with
   | false => exact Rg.zq (o := ⟨some 88, _, _, _, _, _⟩) rfl (Rg.zy (g := 2) rfl rfl qg hP) ⟨_, rfl, (fun h => by cases h), Rg.zu hP, hI, fun _ _ _ _ h => h⟩
   | true =>
    have hw := Rg.zx (ops := (Rg.opsOf Tryz.f24 14)) (o := (Rg.opsOf Tryz.f24 14)[11]'(by rw [za7]; decide)) (g := 2) rfl rfl qg hP
    have g0 := Rg.zn hP
    have q85 : bb.tmps[85]? = some (.int .i64 y.s) := hf.tmp (k := 8) rfl (by rw [ha]; decide) (Eq.trans (hA 8 (by kernel_rfl)) (Rg.zk hP))
    have q87 : bb.tmps[87]? = some (.int .i64 d.s) := hf.tmp (k := 10) rfl (by rw [ha]; decide) (Eq.trans (hA 10 (by kernel_rfl)) (Rg.zk hP))
    exact Rg.zf (o := ⟨some 88, Op.binOp BinOp.gtr 2 (Operand.tmp 85) (Operand.tmp 87) 2, _, _, _, _⟩) (x := .bool (decide (d.s < y.s))) rfl hw (by clear hA HS hN hO hD3; simp only [execOp]; go_simp) ⟨_, rfl, (fun h => by cases h), (Rg.zk hP).symm, hI, fun _ _ _ _ h => h⟩
  ·intro ll bb w' hs hlf hN hO hf hI hA
   clear hi'
   have q79 : bb.tmps[79]? = some _ := hf.tmp (k := 2) rfl (by rw [ha]; decide) (hA 2 (by kernel_rfl))
   cases hC : (decide ((0 : Int) < (at9 : Int))) with
   | false =>
    have hval : ((.bool ((decide ((0 : Int) < (at9 : Int))) && (decide (d.s < y.s))) : Value)) = .bool false := by rw [hC]; rfl
    exact Rg.zf (o := ⟨some 89, Op.pick (Operand.tmp 79) (Operand.tmp 88) (Operand.const (Value.bool false)), _, _, _, _⟩) (x := .bool false) rfl rfl (by rw [hC] at q79; clear hA HS hN hO hD3 hval; simp only [execOp]; go_simp) ⟨_, rfl, (fun h => by cases h), (by show ((.bool false : Value)) = _; exact hval.symm), hI, fun _ _ _ _ h => h⟩
   | true =>
    have hB : (true && ((decide ((0 : Int) < (at9 : Int))) == true)) = true := by rw [hC]; rfl
    have q88 : bb.tmps[88]? = some (.bool (decide (d.s < y.s))) := hf.tmp (k := 11) rfl (by rw [ha]; decide) (Eq.trans (hA 11 (by kernel_rfl)) (Rg.zk hB))
    have hval : ((.bool ((decide ((0 : Int) < (at9 : Int))) && (decide (d.s < y.s))) : Value)) = .bool (decide (d.s < y.s)) := by rw [hC]; rfl
    exact Rg.zf (o := ⟨some 89, Op.pick (Operand.tmp 79) (Operand.tmp 88) (Operand.const (Value.bool false)), _, _, _, _⟩) (x := .bool (decide (d.s < y.s))) rfl rfl (by rw [hC] at q79; clear hA HS hN hO hD3 hval; simp only [execOp]; go_simp) ⟨_, rfl, (fun h => by cases h), (by show ((.bool (decide (d.s < y.s)) : Value)) = _; exact hval.symm), hI, fun _ _ _ _ h => h⟩
theorem ze2 {a b : Act} (hf : Rg.Fr (Rg.opsOf Tryz.f24 14) a b) : b = Rg.fl (Rg.opsOf Tryz.f24 14) b 0 [some 77, some 78, some 79, some 80, some 81, some 82, some 83, some 84, some 85, some 86, some 87, some 88, some 89] a := Rg.ql _ (by kernel_rfl) hf
theorem zfo : (Tryz.prog.info? 33).map (fun i => (i.zero, i.size, i.bytes)) = some (some (.agg #[.int .i64 0, .int .i64 0, .int .i64 0]), 3, 24) := by kernel_rfl
theorem zgj (w : World) (a b c : Value) (t : TypeId) : ∀ (j : Nat) (u : Value), [a, b, c][j]? = some u -> (w.alloc (.cells #[a, b, c] t)).cell? ((⟨w.heap.size, 0, none⟩ : Addr).add j) = some u := fun j u hu => by
 have e0 : (w.alloc (Obj.cells #[a, b, c] t)).heap[w.heap.size]? = some (Obj.cells #[a, b, c] t) := (MapKept.heap_alloc w _).1
 rw [Addr.add_lit, Nat.zero_add]
 simp only [World.cell?, e0]
 simpa using hu
theorem zf8 {w : World} {b e s n : Nat} {ad : Option Addr} {c : Nat} {xs : List Value} (h : w.ownsRow b e s (.slice ad (n + 1) c) (n + 1) xs) : ∃ G, ad = some ⟨G, 0, none⟩ := by
 obtain ⟨_, ⟨h1, _⟩ | ⟨g, cap, cur, h1, _⟩⟩ := h
 ·cases h1
 ·simp only [Value.slice.injEq] at h1
  exact ⟨g, h1.1⟩
theorem gap_at {l : List Du} {n : Nat} (x : Du) (h : n <= l.length) : (gap l n x)[n]? = some x := by
 unfold gap
 rw [List.getElem?_append_right (by rw [List.length_take]; omega), List.length_take, show n - min n l.length = 0 by omega]
 rfl
theorem zfu {x : Od} (h : odB x = true) {t : Nat} (ht : (t : Int) < x.c) : (1 <= x.id /\ x.id <= 100000) /\ (0 <= x.f /\ x.f <= 10000000) /\ (0 <= (t : Int) * x.e /\ (t : Int) * x.e <= 288000) /\ x.c <= 200 := by
 simp only [odB, zl, Bool.and_eq_true, zax] at h
 obtain ⟨h1, -, -, -, h5, h6, h7, -⟩ := h
 have p1 : 0 <= (t : Int) * x.e := Int.mul_nonneg (by omega) (by omega)
 have p2 : (t : Int) * x.e <= 200 * 1440 := Int.mul_le_mul (by omega) (by omega) (by omega) (by omega)
 omega
set_option maxRecDepth 20000 in
set_option maxHeartbeats 16000000 in
theorem zhc (ao : Option Addr) (n cap : Nat) (ad : Option Addr) (m dcap : Nat) (os : List Od) (ds : List Ds) (time id : Int) (w : World) (ho : VRw 9 jd w (.slice ao n cap) os) (hd : VRw 5 jy w (.slice ad m dcap) ds) (hn : os.length <= 100) (hm : ds.length <= 500) (hod : ∀ (i : Nat) (x : Od), os[i]? = some x -> odB x = true) (ht : zl time = true) :
  Calls Tryz.prog 24 #[.agg #[.slice ao n cap, .slice ad m dcap], .int .i64 time, .int .i64 id] w fun e w' => ∃ v, e = .returned v /\ w'.ownsRow w.heap.size 33 3 v (vg os ds time id).length (zt 3 jc (vg os ds time id)) /\ Below w.heap.size w w' := by
 obtain rfl := ho.len
 obtain rfl := hd.len
 obtain ⟨i0, hi0, hv0, hv1, hv2⟩ := zfe zfo
 have ht2 : 0 <= time /\ time <= 10000000 := zax.1 ht
 obtain ⟨ht0, ht1⟩ := ht2
 have HL2 : Hid (∀ i, i < os.length -> (os.getD i default).c <= 200) := fun i hi => by
  obtain ⟨x, hx⟩ := zaa os i hi
  have := hod i x hx
  rw [jm hx]
  simp only [odB, Bool.and_eq_true, zax] at this
  exact this.2.2.2.2.2.2.1.2
 have HOd := hidden hod
 have HO := hidden ho
 have HD := hidden hd
 have hbA : Below w.heap.size w (w.alloc (.cells #[.slice ao os.length cap, .slice ad ds.length dcap] 27)) := (Below.refl _ _).alloc (Nat.le_refl _) _
 have hbB : Below w.heap.size w ((w.alloc (.cells #[.slice ao os.length cap, .slice ad ds.length dcap] 27)).alloc (.cells #[] 33)) := hbA.alloc hbA.size _
 have HB0 := hidden hbB
 have HX0 := hidden ((PB.new w #[.slice ao os.length cap, .slice ad ds.length dcap] 27).alloc (.cells #[] 33))
 have HR0 : Hid (((w.alloc (.cells #[.slice ao os.length cap, .slice ad ds.length dcap] 27)).alloc (.cells #[] 33)).ownsRow w.heap.size 33 3 (.slice (some ⟨w.heap.size + 1, 0, none⟩) 0 0) 0 []) := by
  have h9 := zc7 (zdx (w.alloc (.cells #[.slice ao os.length cap, .slice ad ds.length dcap] 27)) 33 3) hbA.size
  have e9 : (w.alloc (.cells #[.slice ao os.length cap, .slice ad ds.length dcap] 27)).heap.size = w.heap.size + 1 := by simp
  rw [e9] at h9
  exact h9
 clear ho hd hod hbA hbB ht
 generalize hRR : vg os ds time id = RR
 have HRR := hidden hRR.symm
 clear hRR
 go_enter Tryz.func24, Tryz.ntmps24
 go_upto_region 2 with fail
 generalize (w.alloc (.cells #[.slice ao os.length cap, .slice ad ds.length dcap] 27)).alloc (.cells #[] 33) = wA at *
 generalize Value.agg #[.slice ao os.length cap, .slice ad ds.length dcap] = av
 go_wp2_with fail
 go_loopw [7, 8, 9, 10, 11, 12] (fun sv iv _ _ _ _ wr => ∃ (i : Nat) (L : List Du), i <= os.length /\ iv = .int .i64 i /\ Hid (L = zal os ds time id i) /\ (∃ ar cr, sv = .slice ar L.length cr /\ wr.ownsRow w.heap.size 33 3 (.slice ar L.length cr) L.length (zt 3 jc L)) /\ PB wr w.heap.size #[.slice ao os.length cap, .slice ad ds.length dcap] 27 /\ Below w.heap.size w wr) (fun _ iv _ _ _ _ _ => os.length - (intOf iv).toNat)
 case atStart => exact ⟨0, [], Nat.zero_le _, rfl, rfl, ⟨_, _, rfl, HR0.out⟩, HX0.out, HB0.out⟩
 case round =>
  clear HB0 HX0 HR0
  obtain ⟨i, L, hi, rfl, HL, ⟨ar, cr, rfl, hrow⟩, hX, hb⟩ := hrel
  have hll : L.length <= i * 200 := by rw [HL.out]; exact zgr ds time id HL2.out i hi
  obtain ⟨b0, b1⟩ := hX.two
  by_cases hlt : i < os.length
  ·have hlti : (i : Int) < (os.length : Int) := by omega
   obtain ⟨x, hx⟩ := zaa os i hlt
   obtain ⟨g, off, rfl, hg, hcs⟩ := (HO.out.below hb).at hx
   have HodX := hidden (HOd.out i x hx)
   have hxc : 1 <= x.c := by have := HodX.out; simp only [odB, Bool.and_eq_true, zax] at this; exact this.2.2.2.2.2.2.1.1
   have c0 : wr.cell? ⟨g, off + i * 9, none⟩ = some (.int .i64 x.id) := hcs 0 (by omega)
   have c1 : wr.cell? ⟨g, off + i * 9 + 1, none⟩ = some (.int .i64 x.p) := hcs 1 (by omega)
   have c2 : wr.cell? ⟨g, off + i * 9 + 2, none⟩ = some (.int .i64 x.d) := hcs 2 (by omega)
   have c3 : wr.cell? ⟨g, off + i * 9 + 3, none⟩ = some (.int .i64 x.n) := hcs 3 (by omega)
   have c4 : wr.cell? ⟨g, off + i * 9 + 4, none⟩ = some (.int .i64 x.f) := hcs 4 (by omega)
   have c5 : wr.cell? ⟨g, off + i * 9 + 5, none⟩ = some (.int .i64 x.e) := hcs 5 (by omega)
   have c6 : wr.cell? ⟨g, off + i * 9 + 6, none⟩ = some (.int .i64 x.c) := hcs 6 (by omega)
   have c7 : wr.cell? ⟨g, off + i * 9 + 7, none⟩ = some (.int .i64 x.s) := hcs 7 (by omega)
   have c8 : wr.cell? ⟨g, off + i * 9 + 8, none⟩ = some (.bool x.two) := hcs 8 (by omega)
   have bx : Below wr.heap.size wr (wr.alloc (.cells #[.int .i64 x.id, .int .i64 x.p, .int .i64 x.d, .int .i64 x.n, .int .i64 x.f, .int .i64 x.e, .int .i64 x.c, .int .i64 x.s, .bool x.two] 38)) := (Below.refl _ _).alloc (Nat.le_refl _) _
   have HPO := hidden (PB.new wr #[.int .i64 x.id, .int .i64 x.p, .int .i64 x.d, .int .i64 x.n, .int .i64 x.f, .int .i64 x.e, .int .i64 x.c, .int .i64 x.s, .bool x.two] 38)
   have HX := hidden (hX.below bx)
   have HRow := hidden (zam hrow bx)
   have HB := hidden (onto hb bx)
   have HXi := hidden hx
   clear hcs hx bx hb hrow
   go_upto_region 6 with fail
   clear c0 c1 c2 c3 c4 c5 c6 c7 c8 b0 b1 hX
   generalize wr.alloc (.cells #[.int .i64 x.id, .int .i64 x.p, .int .i64 x.d, .int .i64 x.n, .int .i64 x.f, .int .i64 x.e, .int .i64 x.c, .int .i64 x.s, .bool x.two] 38) = w1 at *
   generalize wr.heap.size = OB at *
   obtain ⟨o0, o1, o2, o3, o4, o5, o6, o7, o8⟩ := HPO.out.nine
   have no : ∀ (hq : zba x id = false), Hid (L = zal os ds time id (i + 1)) := fun hq => by rw [Hid, zf1 HXi.out hq]; exact HL.out
   by_cases hs2 : x.s = 2
   ·by_cases hid0 : id = 0
    ·have HQ : Hid (zba x id = true) := by rw [Hid, zba, decide_eq_true hs2, decide_eq_true hid0]; rfl
     clear no
     go_upto_region 7 with fail
     clear hs2 hid0 o0 o1 o2 o3 o4 o5 o6 o7 o8
     go_wp2_with fail
     go_loopw [7, 10, 11, 12] (fun sv tv _ _ wx => ∃ (t : Nat) (K : List Du), (t : Int) <= x.c /\ tv = .int .i64 t /\ Hid (K = yg ds time x L t) /\ (∃ ar cr, sv = .slice ar K.length cr /\ wx.ownsRow w.heap.size 33 3 (.slice ar K.length cr) K.length (zt 3 jc K)) /\ PB wx w.heap.size #[.slice (some ⟨g, off, none⟩) os.length cap, .slice ad ds.length dcap] 27 /\ PB wx OB #[.int .i64 x.id, .int .i64 x.p, .int .i64 x.d, .int .i64 x.n, .int .i64 x.f, .int .i64 x.e, .int .i64 x.c, .int .i64 x.s, .bool x.two] 38 /\ Below w.heap.size w wx) (fun _ tv _ _ _ => x.c.toNat - (intOf tv).toNat)
     case atStart => exact ⟨0, L, by omega, rfl, rfl, ⟨_, _, rfl, HRow.out⟩, HX.out, HPO.out, HB.out⟩
     case round =>
      clear HRow HX HPO HB
      obtain ⟨t, K, htc, rfl, HK, ⟨ak, ck, rfl, hrow⟩, hX, hPO, hb⟩ := hrel
      obtain ⟨o0, o1, o2, o3, o4, o5, o6, o7, o8⟩ := hPO.nine
      have hkl : K.length <= L.length + t := by rw [HK.out]; exact zfm ds time x L t
      by_cases htl : (t : Int) < x.c
      ·obtain ⟨e1, e2, e3, e4⟩ := zfu HodX.out htl
       have hsw : IntKind.i64.wrap ((t : Int) * x.e) = (t : Int) * x.e := by rw [IntKind.wrap_i64]; omega
       have hsw2 : IntKind.i64.wrap (x.f + (t : Int) * x.e) = x.f + (t : Int) * x.e := by rw [IntKind.wrap_i64]; omega
       have bx : Below wr.heap.size wr (wr.alloc (.cells #[.int .i64 x.id, .int .i64 (t : Nat), .int .i64 (x.f + (t : Int) * x.e)] 33)) := (Below.refl _ _).alloc (Nat.le_refl _) _
       have HPD := hidden (PB.new wr #[.int .i64 x.id, .int .i64 (t : Nat), .int .i64 (x.f + (t : Int) * x.e)] 33)
       have HX := hidden (hX.below bx)
       have HPO := hidden (hPO.below bx)
       have HRow := hidden (zam hrow bx)
       have HB := hidden (onto hb bx)
       have HRL := hidden (fun k hk => (zcw hrow k hk).2)
       clear bx hb hrow
       go_upto_region 11 with fail
       clear o0 o1 o2 o3 o4 o5 o6 o7 o8 hX hPO
       generalize wr.alloc (.cells #[.int .i64 x.id, .int .i64 (t : Nat), .int .i64 (x.f + (t : Int) * x.e)] 33) = w2 at *
       generalize wr.heap.size = DB at *
       have hIn := zbe (x.f + (t : Int) * x.e) (time - 60) (time + 30)
       have HGv := hidden (fun W hW => zi6 (.slice (some ⟨g, off, none⟩) os.length cap) ad ds.length dcap ds x.id (t : Int) W hW (by omega) ⟨_, _, _, rfl⟩)
       have HDB : Hid (yw ds time x t = (rng (x.f + (t : Int) * x.e) (time - 60) (time + 30) && !vw ds x.id (t : Int))) := rfl
       have HStay : Hid (yw ds time x t = false -> K = yg ds time x L (t + 1)) := fun hq => by rw [zf3 hq]; exact HK.out
       have HIns : Hid (yw ds time x t = true -> zae K (jf x t) = yg ds time x L (t + 1)) := fun hq => by rw [zgq hq, <- HK.out]
       obtain ⟨o0, o1, o2, o3, o4, o5, o6, o7, o8⟩ := HPO.out.nine
       obtain ⟨d0, d1, d2⟩ := HPD.out.three
       obtain ⟨b0, b1⟩ := HX.out.two
       generalize yw ds time x t = dq at *
       generalize rng (x.f + (t : Int) * x.e) (time - 60) (time + 30) = r1 at *
       cases r1 with
       | false =>
        have HS2 : Hid (K = yg ds time x L (t + 1)) := HStay.out (by rw [HDB.out]; rfl)
        go_wp2_with (go_at_call 38; refine (hIn _).mono ?_; rintro e w1 ⟨rfl, rfl⟩)
        go_roundw
        case rel => exact ⟨t + 1, K, by omega, rfl, HS2, ⟨_, _, rfl, HRow.out⟩, HX.out, HPO.out, HB.out⟩
        case measure => simp [intOf]; omega
       | true =>
        generalize vw ds x.id (t : Int) = gq at *
        cases gq with
        | true =>
         have HS2 : Hid (K = yg ds time x L (t + 1)) := HStay.out (by rw [HDB.out]; rfl)
         go_wp2_with (first | (go_at_call 38; refine (hIn _).mono ?_; rintro e w9 ⟨rfl, rfl⟩) | (go_at_call 41; refine (HGv.out _ (HD.out.below HB.out)).mono ?_; rintro e w3 ⟨rfl, hb3⟩))
         go_roundw
         case rel => exact ⟨t + 1, K, by omega, rfl, HS2, ⟨_, _, rfl, zam HRow.out hb3⟩, HX.out.below hb3, HPO.out.below hb3, onto HB.out hb3⟩
         case measure => simp [intOf]; omega
        | false =>
         have HI2 : Hid (zae K (jf x t) = yg ds time x L (t + 1)) := HIns.out (by rw [HDB.out]; rfl)
         clear HStay HIns HDB
         go_upto_region 12 with (first | (go_at_call 38; refine (hIn _).mono ?_; rintro e w9 ⟨rfl, rfl⟩) | (go_at_call 41; refine (HGv.out _ (HD.out.below HB.out)).mono ?_; rintro e w3 ⟨rfl, hb3⟩))
         have HX3 := hidden (HX.out.below hb3)
         have HPO3 := hidden (HPO.out.below hb3)
         have HPD3 := hidden (HPD.out.below hb3)
         have HRow3 := hidden (zam HRow.out hb3)
         have HB3 := hidden (onto HB.out hb3)
         clear o0 o1 o2 o3 o4 o5 o6 o7 o8 d0 d1 d2 b0 b1 HX HPO HPD HRow HB hIn HGv hb3
         obtain ⟨d0, d1, d2⟩ := HPD3.out.three
         have hsz3 := HB3.out.size
         go_wp2_with (at_builtin; refine wpList_append_own_at _ rfl (.tmp 73) (.tmp 75) 30 rfl w.heap.size 33 i0 (.agg #[.int .i64 0, .int .i64 0, .int .i64 0]) 3 24 Tryz.underlying30 hi0 hv0 hv1 hv2 rfl (by decide) _ K.length (zt 3 jc K) rfl (HRow3.out.alloc _) ⟨w3.heap.size, 0, none⟩ 1 1 [.int .i64 x.id, .int .i64 (t : Nat), .int .i64 (x.f + (t : Int) * x.e)] rfl rfl (zgj _ _ _ _ _) (by simp [Value.oneCell']) (by unfold maxLen; omega) (by omega) (by simp; omega) ?_; intro v5 w5 ho5 hg5 hn5 hloc5; obtain ⟨ad5, c5, rfl⟩ := zc5 ho5; obtain ⟨G, rfl⟩ := zf8 ho5)
         have HR5 : Hid (w5.ownsRow w.heap.size 33 3 (.slice (some ⟨G, 0, none⟩) (K.length + 1) c5) (K.length + 1) (zt 3 jc (gap K K.length (jf x t)))) := by rw [Hid, ziq, zb9]; exact ho5
         have HX5 := hidden ((HX3.out.alloc (.cells #[.int .i64 x.id, .int .i64 (t : Nat), .int .i64 (x.f + (t : Int) * x.e)] 33)).kept hg5 (jb HRow3.out HX3.out (by decide)))
         have HO5 := hidden ((HPO3.out.alloc (.cells #[.int .i64 x.id, .int .i64 (t : Nat), .int .i64 (x.f + (t : Int) * x.e)] 33)).kept hg5 (jb HRow3.out HPO3.out (by decide)))
         have hDBl : DB < w3.heap.size := HPD3.out.lt
         have HD5 := hidden ((HPD3.out.alloc (.cells #[.int .i64 x.id, .int .i64 (t : Nat), .int .i64 (x.f + (t : Int) * x.e)] 33)).kept hg5 (fun e => by have := HRL.out _ e; omega))
         have hb5 := (HB3.out.alloc hsz3 (.cells #[.int .i64 x.id, .int .i64 (t : Nat), .int .i64 (x.f + (t : Int) * x.e)] 33)).grown hg5 (by simp; omega) (fun k hk => (zcw HRow3.out k hk).1)
         have HB5 := hidden hb5
         have hGX : G ≠ w.heap.size := fun e => jb HR5.out HX5.out (by decide) (by rw [e]; rfl)
         have hGO : G ≠ OB := fun e => jb HR5.out HO5.out (by decide) (by rw [e]; rfl)
         have hGD : G ≠ DB := fun e => by
          subst e
          rcases hloc5 with q | q
          ·have := HRL.out G (q.symm.trans rfl); omega
          ·have : G = (w3.alloc (.cells #[.int .i64 x.id, .int .i64 (t : Nat), .int .i64 (x.f + (t : Int) * x.e)] 33)).heap.size := Option.some.inj q
           simp at this
           omega
         have hGb := (zbu HR5.out).1
         clear ho5 hg5 hn5 hloc5 hb5 d0 d1 d2 HX3 HPO3 HPD3 HRow3 HB3 HRL hsz3 hDBl
         go_loopw [12] (fun av wz => ∃ (a : Nat) (y : Du), a <= K.length /\ av = .int .i64 a /\ Hid (qy K (jf x t) a = qy K (jf x t) K.length) /\ Hid (wz.ownsRow w.heap.size 33 3 (.slice (some ⟨G, 0, none⟩) (K.length + 1) c5) (K.length + 1) (zt 3 jc (gap K a y))) /\ PB wz w.heap.size #[.slice (some ⟨g, off, none⟩) os.length cap, .slice ad ds.length dcap] 27 /\ PB wz OB #[.int .i64 x.id, .int .i64 x.p, .int .i64 x.d, .int .i64 x.n, .int .i64 x.f, .int .i64 x.e, .int .i64 x.c, .int .i64 x.s, .bool x.two] 38 /\ PB wz DB #[.int .i64 x.id, .int .i64 (t : Nat), .int .i64 (x.f + (t : Int) * x.e)] 33 /\ Below w.heap.size w wz) (fun av _ => (intOf av).toNat)
         case atStart => exact ⟨K.length, (jf x t), Nat.le_refl _, rfl, rfl, HR5, HX5.out, HO5.out, HD5.out, HB5.out⟩
         case round =>
          clear HR5 HX5 HO5 HD5 HB5
          obtain ⟨a, y, haK, rfl, HCt, HRz, hXz, hOz, hDz, hbz⟩ := hrel
          have HAt := hidden (gap_at y haK)
          have hGl := (zbu HRz.out).2
          by_cases ha0 : a = 0
          ·have HCut : Hid (qy K (jf x t) a = a) := by rw [Hid, ha0]; rfl
           go_upto_region 14 with fail
           refine zfh (d := (jf x t)) (y := y) rfl rfl rfl rfl hDz (show a < K.length + 1 by omega) (by omega) hGl (fun h => absurd h (by omega)) ?_
           intro b' w6 hf hb6 hv
           (rw [ze2 hf]; simp only [Rg.fl0, Rg.fl1, Rg.fl2, Nat.reduceAdd]; rw [hv])
           clear hv hf
           have hbn : ((decide ((0 : Int) < (a : Int))) && (decide (((jf x t)).s < y.s))) = false := by rw [decide_eq_false (by omega)]; rfl
           rw [hbn]
           clear hbn ha0
           have HRz := hidden (zam HRz.out hb6)
           have hXz := hXz.below hb6
           have hOz := hOz.below hb6
           have hDz := hDz.below hb6
           have hbz := onto hbz hb6
           clear hb6
           generalize Rg.out (Rg.opsOf Tryz.f24 14) b' 0 = y0
           generalize Rg.out (Rg.opsOf Tryz.f24 14) b' 1 = y1
           generalize Rg.out (Rg.opsOf Tryz.f24 14) b' 2 = y2
           generalize Rg.out (Rg.opsOf Tryz.f24 14) b' 3 = y3
           generalize Rg.out (Rg.opsOf Tryz.f24 14) b' 4 = y4
           generalize Rg.out (Rg.opsOf Tryz.f24 14) b' 5 = y5
           generalize Rg.out (Rg.opsOf Tryz.f24 14) b' 6 = y6
           generalize Rg.out (Rg.opsOf Tryz.f24 14) b' 7 = y7
           generalize Rg.out (Rg.opsOf Tryz.f24 14) b' 8 = y8
           generalize Rg.out (Rg.opsOf Tryz.f24 14) b' 9 = y9
           generalize Rg.out (Rg.opsOf Tryz.f24 14) b' 10 = y10
           generalize Rg.out (Rg.opsOf Tryz.f24 14) b' 11 = y11
           have HIn : Hid (gap K a (jf x t) = zae K (jf x t)) := zfa HCt.out HCut.out
           have HRn : Hid ((((w6.setCell ⟨G, a * 3, none⟩ (.int .i64 x.id)).setCell ⟨G, a * 3 + 1, none⟩ (.int .i64 (t : Nat))).setCell ⟨G, a * 3 + 2, none⟩ (.int .i64 (x.f + (t : Int) * x.e))).ownsRow w.heap.size 33 3 (.slice (some ⟨G, 0, none⟩) (K.length + 1) c5) (K.length + 1) (zt 3 jc ((gap K a y).set a (jf x t)))) := zdv HRz.out (zdn y haK) (show a < K.length + 1 by omega) (jf x t)
           rw [ze6 K y (jf x t) haK, HIn.out] at HRn
           have HBn := hidden (zd0 hbz hGb (a * 3) (.int .i64 x.id) (.int .i64 (t : Nat)) (.int .i64 (x.f + (t : Int) * x.e)))
           have HXn := hidden (hXz.zbc hGX (a * 3) (.int .i64 x.id) (.int .i64 (t : Nat)) (.int .i64 (x.f + (t : Int) * x.e)))
           have HOn := hidden (hOz.zbc hGO (a * 3) (.int .i64 x.id) (.int .i64 (t : Nat)) (.int .i64 (x.f + (t : Int) * x.e)))
           have ham : (a : Int) < ((K.length + 1 : Nat) : Int) := by omega
           have ham2 : (a : Int) < (K.length : Int) + 1 := by omega
           obtain ⟨d0, d1, d2⟩ := hDz.three
           have u0 : w6.cell? ⟨G, a * 3, none⟩ = some (.int .i64 y.o) := (jw HRz.out (jg (s := 3) (cs := jc) _ a y HAt.out 0 (by omega))).1
           have u1 : w6.cell? ⟨G, a * 3 + 1, none⟩ = some (.int .i64 y.t) := (jw HRz.out (jg (s := 3) (cs := jc) _ a y HAt.out 1 (by omega))).1
           have u2 : w6.cell? ⟨G, a * 3 + 2, none⟩ = some (.int .i64 y.s) := (jw HRz.out (jg (s := 3) (cs := jc) _ a y HAt.out 2 (by omega))).1
           have g0 : w6.frozen? ⟨G, a * 3, none⟩ = false := (jw HRz.out (jg (s := 3) (cs := jc) _ a y HAt.out 0 (by omega))).2
           have g1 : w6.frozen? ⟨G, a * 3 + 1, none⟩ = false := (jw HRz.out (jg (s := 3) (cs := jc) _ a y HAt.out 1 (by omega))).2
           have g2 : w6.frozen? ⟨G, a * 3 + 2, none⟩ = false := (jw HRz.out (jg (s := 3) (cs := jc) _ a y HAt.out 2 (by omega))).2
           clear hXz hOz hDz hbz HIn HCut
           go_frame
           go_wp2_with fail
           go_roundw
           case rel => exact ⟨t + 1, zae K (jf x t), by omega, rfl, HI2, ⟨some ⟨G, 0, none⟩, c5, by rw [zcm], by rw [zcm]; exact HRn.out⟩, HXn.out, HOn.out, HBn.out⟩
           case measure => simp [intOf]; omega
          ·obtain ⟨z, hz⟩ := zaa K (a - 1) (by omega)
           have hz2 : (gap K a y)[a - 1]? = some z := by have := zh7 (x := y) hz; rwa [show a - 1 + 1 = a by omega] at this
           have HZ := hidden hz
           have HZ2 := hidden hz2
           clear hz hz2
           go_upto_region 14 with fail
           refine zfh (d := (jf x t)) (y := z) rfl rfl rfl rfl hDz (show a < K.length + 1 by omega) (by omega) hGl (fun _ => (jw HRz.out (jg (s := 3) (cs := jc) _ (a - 1) z HZ2.out 2 (by omega))).1) ?_
           intro b' w6 hf hb6 hv
           (rw [ze2 hf]; simp only [Rg.fl0, Rg.fl1, Rg.fl2, Nat.reduceAdd]; rw [hv])
           clear hv hf
           have HRz := hidden (zam HRz.out hb6)
           have hXz := hXz.below hb6
           have hOz := hOz.below hb6
           have hDz := hDz.below hb6
           have hbz := onto hbz hb6
           clear hb6
           by_cases hsl : ((jf x t)).s < z.s
           ·have hbn : ((decide ((0 : Int) < (a : Int))) && (decide (((jf x t)).s < z.s))) = true := by rw [decide_eq_true (by omega), decide_eq_true hsl]; rfl
            rw [hbn]
            have HCt2 : Hid (qy K (jf x t) (a - 1) = qy K (jf x t) K.length) := by
             rw [Hid, <- zfw HZ.out hsl, show a - 1 + 1 = a by omega]; exact HCt.out
            have HRn : Hid ((((w6.setCell ⟨G, a * 3, none⟩ (.int .i64 z.o)).setCell ⟨G, a * 3 + 1, none⟩ (.int .i64 z.t)).setCell ⟨G, a * 3 + 2, none⟩ (.int .i64 z.s)).ownsRow w.heap.size 33 3 (.slice (some ⟨G, 0, none⟩) (K.length + 1) c5) (K.length + 1) (zt 3 jc ((gap K a y).set a z))) := zdv HRz.out (zdn y haK) (show a < K.length + 1 by omega) z
            have hst : (gap K a y).set a z = gap K (a - 1) z := by have := zhu (x := y) HZ.out; rwa [show a - 1 + 1 = a by omega] at this
            rw [hst] at HRn
            have HBn := hidden (zd0 hbz hGb (a * 3) (.int .i64 z.o) (.int .i64 z.t) (.int .i64 z.s))
            have HXn := hidden (hXz.zbc hGX (a * 3) (.int .i64 z.o) (.int .i64 z.t) (.int .i64 z.s))
            have HOn := hidden (hOz.zbc hGO (a * 3) (.int .i64 z.o) (.int .i64 z.t) (.int .i64 z.s))
            have HDn := hidden (hDz.zbc hGD (a * 3) (.int .i64 z.o) (.int .i64 z.t) (.int .i64 z.s))
            have ham : (a : Int) < ((K.length + 1 : Nat) : Int) := by omega
            have ham2 : (a : Int) < (K.length : Int) + 1 := by omega
            have hw1 : IntKind.i64.wrap ((a : Int) - 1) = ((a - 1 : Nat) : Int) := by rw [IntKind.wrap_i64]; omega
            have hw2 : ((a - 1 : Nat) : Int) < (K.length : Int) + 1 := by omega
            have hw3 : a - 1 < K.length + 1 := by omega
            have u0 : w6.cell? ⟨G, a * 3, none⟩ = some (.int .i64 y.o) := (jw HRz.out (jg (s := 3) (cs := jc) _ a y HAt.out 0 (by omega))).1
            have u1 : w6.cell? ⟨G, a * 3 + 1, none⟩ = some (.int .i64 y.t) := (jw HRz.out (jg (s := 3) (cs := jc) _ a y HAt.out 1 (by omega))).1
            have u2 : w6.cell? ⟨G, a * 3 + 2, none⟩ = some (.int .i64 y.s) := (jw HRz.out (jg (s := 3) (cs := jc) _ a y HAt.out 2 (by omega))).1
            have g0 : w6.frozen? ⟨G, a * 3, none⟩ = false := (jw HRz.out (jg (s := 3) (cs := jc) _ a y HAt.out 0 (by omega))).2
            have g1 : w6.frozen? ⟨G, a * 3 + 1, none⟩ = false := (jw HRz.out (jg (s := 3) (cs := jc) _ a y HAt.out 1 (by omega))).2
            have g2 : w6.frozen? ⟨G, a * 3 + 2, none⟩ = false := (jw HRz.out (jg (s := 3) (cs := jc) _ a y HAt.out 2 (by omega))).2
            have z0 : w6.cell? ⟨G, (a - 1) * 3, none⟩ = some (.int .i64 z.o) := (jw HRz.out (jg (s := 3) (cs := jc) _ (a - 1) z HZ2.out 0 (by omega))).1
            have z1 : w6.cell? ⟨G, (a - 1) * 3 + 1, none⟩ = some (.int .i64 z.t) := (jw HRz.out (jg (s := 3) (cs := jc) _ (a - 1) z HZ2.out 1 (by omega))).1
            have z2 : w6.cell? ⟨G, (a - 1) * 3 + 2, none⟩ = some (.int .i64 z.s) := (jw HRz.out (jg (s := 3) (cs := jc) _ (a - 1) z HZ2.out 2 (by omega))).1
            clear hXz hOz hDz hbz hbn hst hsl
            generalize Rg.out (Rg.opsOf Tryz.f24 14) b' 0 = y0
            generalize Rg.out (Rg.opsOf Tryz.f24 14) b' 1 = y1
            generalize Rg.out (Rg.opsOf Tryz.f24 14) b' 2 = y2
            generalize Rg.out (Rg.opsOf Tryz.f24 14) b' 3 = y3
            generalize Rg.out (Rg.opsOf Tryz.f24 14) b' 4 = y4
            generalize Rg.out (Rg.opsOf Tryz.f24 14) b' 5 = y5
            generalize Rg.out (Rg.opsOf Tryz.f24 14) b' 6 = y6
            generalize Rg.out (Rg.opsOf Tryz.f24 14) b' 7 = y7
            generalize Rg.out (Rg.opsOf Tryz.f24 14) b' 8 = y8
            generalize Rg.out (Rg.opsOf Tryz.f24 14) b' 9 = y9
            generalize Rg.out (Rg.opsOf Tryz.f24 14) b' 10 = y10
            generalize Rg.out (Rg.opsOf Tryz.f24 14) b' 11 = y11
            go_frame
            go_wp2_with fail
            go_roundw
            case rel => exact ⟨a - 1, z, by omega, by first | rfl | (congr 1; omega), HCt2, HRn, HXn.out, HOn.out, HDn.out, HBn.out⟩
            case measure => simp [intOf]; omega
           ·have hbn : ((decide ((0 : Int) < (a : Int))) && (decide (((jf x t)).s < z.s))) = false := by rw [decide_eq_false hsl]; simp
            rw [hbn]
            clear hbn
            have HCut : Hid (qy K (jf x t) a = a) := by rw [Hid]; have := zgn HZ.out hsl; rwa [show a - 1 + 1 = a by omega] at this
            clear hsl
            generalize Rg.out (Rg.opsOf Tryz.f24 14) b' 0 = y0
            generalize Rg.out (Rg.opsOf Tryz.f24 14) b' 1 = y1
            generalize Rg.out (Rg.opsOf Tryz.f24 14) b' 2 = y2
            generalize Rg.out (Rg.opsOf Tryz.f24 14) b' 3 = y3
            generalize Rg.out (Rg.opsOf Tryz.f24 14) b' 4 = y4
            generalize Rg.out (Rg.opsOf Tryz.f24 14) b' 5 = y5
            generalize Rg.out (Rg.opsOf Tryz.f24 14) b' 6 = y6
            generalize Rg.out (Rg.opsOf Tryz.f24 14) b' 7 = y7
            generalize Rg.out (Rg.opsOf Tryz.f24 14) b' 8 = y8
            generalize Rg.out (Rg.opsOf Tryz.f24 14) b' 9 = y9
            generalize Rg.out (Rg.opsOf Tryz.f24 14) b' 10 = y10
            generalize Rg.out (Rg.opsOf Tryz.f24 14) b' 11 = y11
            have HIn : Hid (gap K a (jf x t) = zae K (jf x t)) := zfa HCt.out HCut.out
            have HRn : Hid ((((w6.setCell ⟨G, a * 3, none⟩ (.int .i64 x.id)).setCell ⟨G, a * 3 + 1, none⟩ (.int .i64 (t : Nat))).setCell ⟨G, a * 3 + 2, none⟩ (.int .i64 (x.f + (t : Int) * x.e))).ownsRow w.heap.size 33 3 (.slice (some ⟨G, 0, none⟩) (K.length + 1) c5) (K.length + 1) (zt 3 jc ((gap K a y).set a (jf x t)))) := zdv HRz.out (zdn y haK) (show a < K.length + 1 by omega) (jf x t)
            rw [ze6 K y (jf x t) haK, HIn.out] at HRn
            have HBn := hidden (zd0 hbz hGb (a * 3) (.int .i64 x.id) (.int .i64 (t : Nat)) (.int .i64 (x.f + (t : Int) * x.e)))
            have HXn := hidden (hXz.zbc hGX (a * 3) (.int .i64 x.id) (.int .i64 (t : Nat)) (.int .i64 (x.f + (t : Int) * x.e)))
            have HOn := hidden (hOz.zbc hGO (a * 3) (.int .i64 x.id) (.int .i64 (t : Nat)) (.int .i64 (x.f + (t : Int) * x.e)))
            have ham : (a : Int) < ((K.length + 1 : Nat) : Int) := by omega
            have ham2 : (a : Int) < (K.length : Int) + 1 := by omega
            obtain ⟨d0, d1, d2⟩ := hDz.three
            have u0 : w6.cell? ⟨G, a * 3, none⟩ = some (.int .i64 y.o) := (jw HRz.out (jg (s := 3) (cs := jc) _ a y HAt.out 0 (by omega))).1
            have u1 : w6.cell? ⟨G, a * 3 + 1, none⟩ = some (.int .i64 y.t) := (jw HRz.out (jg (s := 3) (cs := jc) _ a y HAt.out 1 (by omega))).1
            have u2 : w6.cell? ⟨G, a * 3 + 2, none⟩ = some (.int .i64 y.s) := (jw HRz.out (jg (s := 3) (cs := jc) _ a y HAt.out 2 (by omega))).1
            have g0 : w6.frozen? ⟨G, a * 3, none⟩ = false := (jw HRz.out (jg (s := 3) (cs := jc) _ a y HAt.out 0 (by omega))).2
            have g1 : w6.frozen? ⟨G, a * 3 + 1, none⟩ = false := (jw HRz.out (jg (s := 3) (cs := jc) _ a y HAt.out 1 (by omega))).2
            have g2 : w6.frozen? ⟨G, a * 3 + 2, none⟩ = false := (jw HRz.out (jg (s := 3) (cs := jc) _ a y HAt.out 2 (by omega))).2
            clear hXz hOz hDz hbz HIn HCut
            go_frame
            go_wp2_with fail
            go_roundw
            case rel => exact ⟨t + 1, zae K (jf x t), by omega, rfl, HI2, ⟨some ⟨G, 0, none⟩, c5, by rw [zcm], by rw [zcm]; exact HRn.out⟩, HXn.out, HOn.out, HBn.out⟩
            case measure => simp [intOf]; omega
      ·have htl2 : ¬ (t : Int) < x.c := htl
       have HL1 : Hid (K = zal os ds time id (i + 1)) := by rw [Hid, zfg HXi.out HQ.out, <- HL.out, HK.out, show x.c.toNat = t by omega]
       go_wp2_with fail
       go_roundw
       case rel => exact ⟨i + 1, K, by omega, rfl, HL1, ⟨_, _, rfl, hrow⟩, hX, hb⟩
       case measure => simp [intOf]; omega
    ·by_cases hide : x.id = id
     ·have HQ : Hid (zba x id = true) := by rw [Hid, zba, decide_eq_true hs2, decide_eq_true hide]; simp
      clear no
      go_upto_region 7 with fail
      clear hs2 hid0 hide o0 o1 o2 o3 o4 o5 o6 o7 o8
      go_wp2_with fail
      go_loopw [7, 10, 11, 12] (fun sv tv _ _ wx => ∃ (t : Nat) (K : List Du), (t : Int) <= x.c /\ tv = .int .i64 t /\ Hid (K = yg ds time x L t) /\ (∃ ar cr, sv = .slice ar K.length cr /\ wx.ownsRow w.heap.size 33 3 (.slice ar K.length cr) K.length (zt 3 jc K)) /\ PB wx w.heap.size #[.slice (some ⟨g, off, none⟩) os.length cap, .slice ad ds.length dcap] 27 /\ PB wx OB #[.int .i64 x.id, .int .i64 x.p, .int .i64 x.d, .int .i64 x.n, .int .i64 x.f, .int .i64 x.e, .int .i64 x.c, .int .i64 x.s, .bool x.two] 38 /\ Below w.heap.size w wx) (fun _ tv _ _ _ => x.c.toNat - (intOf tv).toNat)
      case atStart => exact ⟨0, L, by omega, rfl, rfl, ⟨_, _, rfl, HRow.out⟩, HX.out, HPO.out, HB.out⟩
      case round =>
       clear HRow HX HPO HB
       obtain ⟨t, K, htc, rfl, HK, ⟨ak, ck, rfl, hrow⟩, hX, hPO, hb⟩ := hrel
       obtain ⟨o0, o1, o2, o3, o4, o5, o6, o7, o8⟩ := hPO.nine
       have hkl : K.length <= L.length + t := by rw [HK.out]; exact zfm ds time x L t
       by_cases htl : (t : Int) < x.c
       ·obtain ⟨e1, e2, e3, e4⟩ := zfu HodX.out htl
        have hsw : IntKind.i64.wrap ((t : Int) * x.e) = (t : Int) * x.e := by rw [IntKind.wrap_i64]; omega
        have hsw2 : IntKind.i64.wrap (x.f + (t : Int) * x.e) = x.f + (t : Int) * x.e := by rw [IntKind.wrap_i64]; omega
        have bx : Below wr.heap.size wr (wr.alloc (.cells #[.int .i64 x.id, .int .i64 (t : Nat), .int .i64 (x.f + (t : Int) * x.e)] 33)) := (Below.refl _ _).alloc (Nat.le_refl _) _
        have HPD := hidden (PB.new wr #[.int .i64 x.id, .int .i64 (t : Nat), .int .i64 (x.f + (t : Int) * x.e)] 33)
        have HX := hidden (hX.below bx)
        have HPO := hidden (hPO.below bx)
        have HRow := hidden (zam hrow bx)
        have HB := hidden (onto hb bx)
        have HRL := hidden (fun k hk => (zcw hrow k hk).2)
        clear bx hb hrow
        go_upto_region 11 with fail
        clear o0 o1 o2 o3 o4 o5 o6 o7 o8 hX hPO
        generalize wr.alloc (.cells #[.int .i64 x.id, .int .i64 (t : Nat), .int .i64 (x.f + (t : Int) * x.e)] 33) = w2 at *
        generalize wr.heap.size = DB at *
        have hIn := zbe (x.f + (t : Int) * x.e) (time - 60) (time + 30)
        have HGv := hidden (fun W hW => zi6 (.slice (some ⟨g, off, none⟩) os.length cap) ad ds.length dcap ds x.id (t : Int) W hW (by omega) ⟨_, _, _, rfl⟩)
        have HDB : Hid (yw ds time x t = (rng (x.f + (t : Int) * x.e) (time - 60) (time + 30) && !vw ds x.id (t : Int))) := rfl
        have HStay : Hid (yw ds time x t = false -> K = yg ds time x L (t + 1)) := fun hq => by rw [zf3 hq]; exact HK.out
        have HIns : Hid (yw ds time x t = true -> zae K (jf x t) = yg ds time x L (t + 1)) := fun hq => by rw [zgq hq, <- HK.out]
        obtain ⟨o0, o1, o2, o3, o4, o5, o6, o7, o8⟩ := HPO.out.nine
        obtain ⟨d0, d1, d2⟩ := HPD.out.three
        obtain ⟨b0, b1⟩ := HX.out.two
        generalize yw ds time x t = dq at *
        generalize rng (x.f + (t : Int) * x.e) (time - 60) (time + 30) = r1 at *
        cases r1 with
        | false =>
         have HS2 : Hid (K = yg ds time x L (t + 1)) := HStay.out (by rw [HDB.out]; rfl)
         go_wp2_with (go_at_call 38; refine (hIn _).mono ?_; rintro e w1 ⟨rfl, rfl⟩)
         go_roundw
         case rel => exact ⟨t + 1, K, by omega, rfl, HS2, ⟨_, _, rfl, HRow.out⟩, HX.out, HPO.out, HB.out⟩
         case measure => simp [intOf]; omega
        | true =>
         generalize vw ds x.id (t : Int) = gq at *
         cases gq with
         | true =>
          have HS2 : Hid (K = yg ds time x L (t + 1)) := HStay.out (by rw [HDB.out]; rfl)
          go_wp2_with (first | (go_at_call 38; refine (hIn _).mono ?_; rintro e w9 ⟨rfl, rfl⟩) | (go_at_call 41; refine (HGv.out _ (HD.out.below HB.out)).mono ?_; rintro e w3 ⟨rfl, hb3⟩))
          go_roundw
          case rel => exact ⟨t + 1, K, by omega, rfl, HS2, ⟨_, _, rfl, zam HRow.out hb3⟩, HX.out.below hb3, HPO.out.below hb3, onto HB.out hb3⟩
          case measure => simp [intOf]; omega
         | false =>
          have HI2 : Hid (zae K (jf x t) = yg ds time x L (t + 1)) := HIns.out (by rw [HDB.out]; rfl)
          clear HStay HIns HDB
          go_upto_region 12 with (first | (go_at_call 38; refine (hIn _).mono ?_; rintro e w9 ⟨rfl, rfl⟩) | (go_at_call 41; refine (HGv.out _ (HD.out.below HB.out)).mono ?_; rintro e w3 ⟨rfl, hb3⟩))
          have HX3 := hidden (HX.out.below hb3)
          have HPO3 := hidden (HPO.out.below hb3)
          have HPD3 := hidden (HPD.out.below hb3)
          have HRow3 := hidden (zam HRow.out hb3)
          have HB3 := hidden (onto HB.out hb3)
          clear o0 o1 o2 o3 o4 o5 o6 o7 o8 d0 d1 d2 b0 b1 HX HPO HPD HRow HB hIn HGv hb3
          obtain ⟨d0, d1, d2⟩ := HPD3.out.three
          have hsz3 := HB3.out.size
          go_wp2_with (at_builtin; refine wpList_append_own_at _ rfl (.tmp 73) (.tmp 75) 30 rfl w.heap.size 33 i0 (.agg #[.int .i64 0, .int .i64 0, .int .i64 0]) 3 24 Tryz.underlying30 hi0 hv0 hv1 hv2 rfl (by decide) _ K.length (zt 3 jc K) rfl (HRow3.out.alloc _) ⟨w3.heap.size, 0, none⟩ 1 1 [.int .i64 x.id, .int .i64 (t : Nat), .int .i64 (x.f + (t : Int) * x.e)] rfl rfl (zgj _ _ _ _ _) (by simp [Value.oneCell']) (by unfold maxLen; omega) (by omega) (by simp; omega) ?_; intro v5 w5 ho5 hg5 hn5 hloc5; obtain ⟨ad5, c5, rfl⟩ := zc5 ho5; obtain ⟨G, rfl⟩ := zf8 ho5)
          have HR5 : Hid (w5.ownsRow w.heap.size 33 3 (.slice (some ⟨G, 0, none⟩) (K.length + 1) c5) (K.length + 1) (zt 3 jc (gap K K.length (jf x t)))) := by rw [Hid, ziq, zb9]; exact ho5
          have HX5 := hidden ((HX3.out.alloc (.cells #[.int .i64 x.id, .int .i64 (t : Nat), .int .i64 (x.f + (t : Int) * x.e)] 33)).kept hg5 (jb HRow3.out HX3.out (by decide)))
          have HO5 := hidden ((HPO3.out.alloc (.cells #[.int .i64 x.id, .int .i64 (t : Nat), .int .i64 (x.f + (t : Int) * x.e)] 33)).kept hg5 (jb HRow3.out HPO3.out (by decide)))
          have hDBl : DB < w3.heap.size := HPD3.out.lt
          have HD5 := hidden ((HPD3.out.alloc (.cells #[.int .i64 x.id, .int .i64 (t : Nat), .int .i64 (x.f + (t : Int) * x.e)] 33)).kept hg5 (fun e => by have := HRL.out _ e; omega))
          have hb5 := (HB3.out.alloc hsz3 (.cells #[.int .i64 x.id, .int .i64 (t : Nat), .int .i64 (x.f + (t : Int) * x.e)] 33)).grown hg5 (by simp; omega) (fun k hk => (zcw HRow3.out k hk).1)
          have HB5 := hidden hb5
          have hGX : G ≠ w.heap.size := fun e => jb HR5.out HX5.out (by decide) (by rw [e]; rfl)
          have hGO : G ≠ OB := fun e => jb HR5.out HO5.out (by decide) (by rw [e]; rfl)
          have hGD : G ≠ DB := fun e => by
           subst e
           rcases hloc5 with q | q
           ·have := HRL.out G (q.symm.trans rfl); omega
           ·have : G = (w3.alloc (.cells #[.int .i64 x.id, .int .i64 (t : Nat), .int .i64 (x.f + (t : Int) * x.e)] 33)).heap.size := Option.some.inj q
            simp at this
            omega
          have hGb := (zbu HR5.out).1
          clear ho5 hg5 hn5 hloc5 hb5 d0 d1 d2 HX3 HPO3 HPD3 HRow3 HB3 HRL hsz3 hDBl
          go_loopw [12] (fun av wz => ∃ (a : Nat) (y : Du), a <= K.length /\ av = .int .i64 a /\ Hid (qy K (jf x t) a = qy K (jf x t) K.length) /\ Hid (wz.ownsRow w.heap.size 33 3 (.slice (some ⟨G, 0, none⟩) (K.length + 1) c5) (K.length + 1) (zt 3 jc (gap K a y))) /\ PB wz w.heap.size #[.slice (some ⟨g, off, none⟩) os.length cap, .slice ad ds.length dcap] 27 /\ PB wz OB #[.int .i64 x.id, .int .i64 x.p, .int .i64 x.d, .int .i64 x.n, .int .i64 x.f, .int .i64 x.e, .int .i64 x.c, .int .i64 x.s, .bool x.two] 38 /\ PB wz DB #[.int .i64 x.id, .int .i64 (t : Nat), .int .i64 (x.f + (t : Int) * x.e)] 33 /\ Below w.heap.size w wz) (fun av _ => (intOf av).toNat)
          case atStart => exact ⟨K.length, (jf x t), Nat.le_refl _, rfl, rfl, HR5, HX5.out, HO5.out, HD5.out, HB5.out⟩
          case round =>
           clear HR5 HX5 HO5 HD5 HB5
           obtain ⟨a, y, haK, rfl, HCt, HRz, hXz, hOz, hDz, hbz⟩ := hrel
           have HAt := hidden (gap_at y haK)
           have hGl := (zbu HRz.out).2
           by_cases ha0 : a = 0
           ·have HCut : Hid (qy K (jf x t) a = a) := by rw [Hid, ha0]; rfl
            go_upto_region 14 with fail
            refine zfh (d := (jf x t)) (y := y) rfl rfl rfl rfl hDz (show a < K.length + 1 by omega) (by omega) hGl (fun h => absurd h (by omega)) ?_
            intro b' w6 hf hb6 hv
            (rw [ze2 hf]; simp only [Rg.fl0, Rg.fl1, Rg.fl2, Nat.reduceAdd]; rw [hv])
            clear hv hf
            have hbn : ((decide ((0 : Int) < (a : Int))) && (decide (((jf x t)).s < y.s))) = false := by rw [decide_eq_false (by omega)]; rfl
            rw [hbn]
            clear hbn ha0
            have HRz := hidden (zam HRz.out hb6)
            have hXz := hXz.below hb6
            have hOz := hOz.below hb6
            have hDz := hDz.below hb6
            have hbz := onto hbz hb6
            clear hb6
            generalize Rg.out (Rg.opsOf Tryz.f24 14) b' 0 = y0
            generalize Rg.out (Rg.opsOf Tryz.f24 14) b' 1 = y1
            generalize Rg.out (Rg.opsOf Tryz.f24 14) b' 2 = y2
            generalize Rg.out (Rg.opsOf Tryz.f24 14) b' 3 = y3
            generalize Rg.out (Rg.opsOf Tryz.f24 14) b' 4 = y4
            generalize Rg.out (Rg.opsOf Tryz.f24 14) b' 5 = y5
            generalize Rg.out (Rg.opsOf Tryz.f24 14) b' 6 = y6
            generalize Rg.out (Rg.opsOf Tryz.f24 14) b' 7 = y7
            generalize Rg.out (Rg.opsOf Tryz.f24 14) b' 8 = y8
            generalize Rg.out (Rg.opsOf Tryz.f24 14) b' 9 = y9
            generalize Rg.out (Rg.opsOf Tryz.f24 14) b' 10 = y10
            generalize Rg.out (Rg.opsOf Tryz.f24 14) b' 11 = y11
            have HIn : Hid (gap K a (jf x t) = zae K (jf x t)) := zfa HCt.out HCut.out
            have HRn : Hid ((((w6.setCell ⟨G, a * 3, none⟩ (.int .i64 x.id)).setCell ⟨G, a * 3 + 1, none⟩ (.int .i64 (t : Nat))).setCell ⟨G, a * 3 + 2, none⟩ (.int .i64 (x.f + (t : Int) * x.e))).ownsRow w.heap.size 33 3 (.slice (some ⟨G, 0, none⟩) (K.length + 1) c5) (K.length + 1) (zt 3 jc ((gap K a y).set a (jf x t)))) := zdv HRz.out (zdn y haK) (show a < K.length + 1 by omega) (jf x t)
            rw [ze6 K y (jf x t) haK, HIn.out] at HRn
            have HBn := hidden (zd0 hbz hGb (a * 3) (.int .i64 x.id) (.int .i64 (t : Nat)) (.int .i64 (x.f + (t : Int) * x.e)))
            have HXn := hidden (hXz.zbc hGX (a * 3) (.int .i64 x.id) (.int .i64 (t : Nat)) (.int .i64 (x.f + (t : Int) * x.e)))
            have HOn := hidden (hOz.zbc hGO (a * 3) (.int .i64 x.id) (.int .i64 (t : Nat)) (.int .i64 (x.f + (t : Int) * x.e)))
            have ham : (a : Int) < ((K.length + 1 : Nat) : Int) := by omega
            have ham2 : (a : Int) < (K.length : Int) + 1 := by omega
            obtain ⟨d0, d1, d2⟩ := hDz.three
            have u0 : w6.cell? ⟨G, a * 3, none⟩ = some (.int .i64 y.o) := (jw HRz.out (jg (s := 3) (cs := jc) _ a y HAt.out 0 (by omega))).1
            have u1 : w6.cell? ⟨G, a * 3 + 1, none⟩ = some (.int .i64 y.t) := (jw HRz.out (jg (s := 3) (cs := jc) _ a y HAt.out 1 (by omega))).1
            have u2 : w6.cell? ⟨G, a * 3 + 2, none⟩ = some (.int .i64 y.s) := (jw HRz.out (jg (s := 3) (cs := jc) _ a y HAt.out 2 (by omega))).1
            have g0 : w6.frozen? ⟨G, a * 3, none⟩ = false := (jw HRz.out (jg (s := 3) (cs := jc) _ a y HAt.out 0 (by omega))).2
            have g1 : w6.frozen? ⟨G, a * 3 + 1, none⟩ = false := (jw HRz.out (jg (s := 3) (cs := jc) _ a y HAt.out 1 (by omega))).2
            have g2 : w6.frozen? ⟨G, a * 3 + 2, none⟩ = false := (jw HRz.out (jg (s := 3) (cs := jc) _ a y HAt.out 2 (by omega))).2
            clear hXz hOz hDz hbz HIn HCut
            go_frame
            go_wp2_with fail
            go_roundw
            case rel => exact ⟨t + 1, zae K (jf x t), by omega, rfl, HI2, ⟨some ⟨G, 0, none⟩, c5, by rw [zcm], by rw [zcm]; exact HRn.out⟩, HXn.out, HOn.out, HBn.out⟩
            case measure => simp [intOf]; omega
           ·obtain ⟨z, hz⟩ := zaa K (a - 1) (by omega)
            have hz2 : (gap K a y)[a - 1]? = some z := by have := zh7 (x := y) hz; rwa [show a - 1 + 1 = a by omega] at this
            have HZ := hidden hz
            have HZ2 := hidden hz2
            clear hz hz2
            go_upto_region 14 with fail
            refine zfh (d := (jf x t)) (y := z) rfl rfl rfl rfl hDz (show a < K.length + 1 by omega) (by omega) hGl (fun _ => (jw HRz.out (jg (s := 3) (cs := jc) _ (a - 1) z HZ2.out 2 (by omega))).1) ?_
            intro b' w6 hf hb6 hv
            (rw [ze2 hf]; simp only [Rg.fl0, Rg.fl1, Rg.fl2, Nat.reduceAdd]; rw [hv])
            clear hv hf
            have HRz := hidden (zam HRz.out hb6)
            have hXz := hXz.below hb6
            have hOz := hOz.below hb6
            have hDz := hDz.below hb6
            have hbz := onto hbz hb6
            clear hb6
            by_cases hsl : ((jf x t)).s < z.s
            ·have hbn : ((decide ((0 : Int) < (a : Int))) && (decide (((jf x t)).s < z.s))) = true := by rw [decide_eq_true (by omega), decide_eq_true hsl]; rfl
             rw [hbn]
             have HCt2 : Hid (qy K (jf x t) (a - 1) = qy K (jf x t) K.length) := by
              rw [Hid, <- zfw HZ.out hsl, show a - 1 + 1 = a by omega]; exact HCt.out
             have HRn : Hid ((((w6.setCell ⟨G, a * 3, none⟩ (.int .i64 z.o)).setCell ⟨G, a * 3 + 1, none⟩ (.int .i64 z.t)).setCell ⟨G, a * 3 + 2, none⟩ (.int .i64 z.s)).ownsRow w.heap.size 33 3 (.slice (some ⟨G, 0, none⟩) (K.length + 1) c5) (K.length + 1) (zt 3 jc ((gap K a y).set a z))) := zdv HRz.out (zdn y haK) (show a < K.length + 1 by omega) z
             have hst : (gap K a y).set a z = gap K (a - 1) z := by have := zhu (x := y) HZ.out; rwa [show a - 1 + 1 = a by omega] at this
             rw [hst] at HRn
             have HBn := hidden (zd0 hbz hGb (a * 3) (.int .i64 z.o) (.int .i64 z.t) (.int .i64 z.s))
             have HXn := hidden (hXz.zbc hGX (a * 3) (.int .i64 z.o) (.int .i64 z.t) (.int .i64 z.s))
             have HOn := hidden (hOz.zbc hGO (a * 3) (.int .i64 z.o) (.int .i64 z.t) (.int .i64 z.s))
             have HDn := hidden (hDz.zbc hGD (a * 3) (.int .i64 z.o) (.int .i64 z.t) (.int .i64 z.s))
             have ham : (a : Int) < ((K.length + 1 : Nat) : Int) := by omega
             have ham2 : (a : Int) < (K.length : Int) + 1 := by omega
             have hw1 : IntKind.i64.wrap ((a : Int) - 1) = ((a - 1 : Nat) : Int) := by rw [IntKind.wrap_i64]; omega
             have hw2 : ((a - 1 : Nat) : Int) < (K.length : Int) + 1 := by omega
             have hw3 : a - 1 < K.length + 1 := by omega
             have u0 : w6.cell? ⟨G, a * 3, none⟩ = some (.int .i64 y.o) := (jw HRz.out (jg (s := 3) (cs := jc) _ a y HAt.out 0 (by omega))).1
             have u1 : w6.cell? ⟨G, a * 3 + 1, none⟩ = some (.int .i64 y.t) := (jw HRz.out (jg (s := 3) (cs := jc) _ a y HAt.out 1 (by omega))).1
             have u2 : w6.cell? ⟨G, a * 3 + 2, none⟩ = some (.int .i64 y.s) := (jw HRz.out (jg (s := 3) (cs := jc) _ a y HAt.out 2 (by omega))).1
             have g0 : w6.frozen? ⟨G, a * 3, none⟩ = false := (jw HRz.out (jg (s := 3) (cs := jc) _ a y HAt.out 0 (by omega))).2
             have g1 : w6.frozen? ⟨G, a * 3 + 1, none⟩ = false := (jw HRz.out (jg (s := 3) (cs := jc) _ a y HAt.out 1 (by omega))).2
             have g2 : w6.frozen? ⟨G, a * 3 + 2, none⟩ = false := (jw HRz.out (jg (s := 3) (cs := jc) _ a y HAt.out 2 (by omega))).2
             have z0 : w6.cell? ⟨G, (a - 1) * 3, none⟩ = some (.int .i64 z.o) := (jw HRz.out (jg (s := 3) (cs := jc) _ (a - 1) z HZ2.out 0 (by omega))).1
             have z1 : w6.cell? ⟨G, (a - 1) * 3 + 1, none⟩ = some (.int .i64 z.t) := (jw HRz.out (jg (s := 3) (cs := jc) _ (a - 1) z HZ2.out 1 (by omega))).1
             have z2 : w6.cell? ⟨G, (a - 1) * 3 + 2, none⟩ = some (.int .i64 z.s) := (jw HRz.out (jg (s := 3) (cs := jc) _ (a - 1) z HZ2.out 2 (by omega))).1
             clear hXz hOz hDz hbz hbn hst hsl
             generalize Rg.out (Rg.opsOf Tryz.f24 14) b' 0 = y0
             generalize Rg.out (Rg.opsOf Tryz.f24 14) b' 1 = y1
             generalize Rg.out (Rg.opsOf Tryz.f24 14) b' 2 = y2
             generalize Rg.out (Rg.opsOf Tryz.f24 14) b' 3 = y3
             generalize Rg.out (Rg.opsOf Tryz.f24 14) b' 4 = y4
             generalize Rg.out (Rg.opsOf Tryz.f24 14) b' 5 = y5
             generalize Rg.out (Rg.opsOf Tryz.f24 14) b' 6 = y6
             generalize Rg.out (Rg.opsOf Tryz.f24 14) b' 7 = y7
             generalize Rg.out (Rg.opsOf Tryz.f24 14) b' 8 = y8
             generalize Rg.out (Rg.opsOf Tryz.f24 14) b' 9 = y9
             generalize Rg.out (Rg.opsOf Tryz.f24 14) b' 10 = y10
             generalize Rg.out (Rg.opsOf Tryz.f24 14) b' 11 = y11
             go_frame
             go_wp2_with fail
             go_roundw
             case rel => exact ⟨a - 1, z, by omega, by first | rfl | (congr 1; omega), HCt2, HRn, HXn.out, HOn.out, HDn.out, HBn.out⟩
             case measure => simp [intOf]; omega
            ·have hbn : ((decide ((0 : Int) < (a : Int))) && (decide (((jf x t)).s < z.s))) = false := by rw [decide_eq_false hsl]; simp
             rw [hbn]
             clear hbn
             have HCut : Hid (qy K (jf x t) a = a) := by rw [Hid]; have := zgn HZ.out hsl; rwa [show a - 1 + 1 = a by omega] at this
             clear hsl
             generalize Rg.out (Rg.opsOf Tryz.f24 14) b' = yF
             have HIn : Hid (gap K a (jf x t) = zae K (jf x t)) := zfa HCt.out HCut.out
             have HRn : Hid ((((w6.setCell ⟨G, a * 3, none⟩ (.int .i64 x.id)).setCell ⟨G, a * 3 + 1, none⟩ (.int .i64 (t : Nat))).setCell ⟨G, a * 3 + 2, none⟩ (.int .i64 (x.f + (t : Int) * x.e))).ownsRow w.heap.size 33 3 (.slice (some ⟨G, 0, none⟩) (K.length + 1) c5) (K.length + 1) (zt 3 jc ((gap K a y).set a (jf x t)))) := zdv HRz.out (zdn y haK) (show a < K.length + 1 by omega) (jf x t)
             rw [ze6 K y (jf x t) haK, HIn.out] at HRn
             have HBn := hidden (zd0 hbz hGb (a * 3) (.int .i64 x.id) (.int .i64 (t : Nat)) (.int .i64 (x.f + (t : Int) * x.e)))
             have HXn := hidden (hXz.zbc hGX (a * 3) (.int .i64 x.id) (.int .i64 (t : Nat)) (.int .i64 (x.f + (t : Int) * x.e)))
             have HOn := hidden (hOz.zbc hGO (a * 3) (.int .i64 x.id) (.int .i64 (t : Nat)) (.int .i64 (x.f + (t : Int) * x.e)))
             have ham : (a : Int) < ((K.length + 1 : Nat) : Int) := by omega
             have ham2 : (a : Int) < (K.length : Int) + 1 := by omega
             obtain ⟨d0, d1, d2⟩ := hDz.three
             have u0 : w6.cell? ⟨G, a * 3, none⟩ = some (.int .i64 y.o) := (jw HRz.out (jg (s := 3) (cs := jc) _ a y HAt.out 0 (by omega))).1
             have u1 : w6.cell? ⟨G, a * 3 + 1, none⟩ = some (.int .i64 y.t) := (jw HRz.out (jg (s := 3) (cs := jc) _ a y HAt.out 1 (by omega))).1
             have u2 : w6.cell? ⟨G, a * 3 + 2, none⟩ = some (.int .i64 y.s) := (jw HRz.out (jg (s := 3) (cs := jc) _ a y HAt.out 2 (by omega))).1
             have g0 : w6.frozen? ⟨G, a * 3, none⟩ = false := (jw HRz.out (jg (s := 3) (cs := jc) _ a y HAt.out 0 (by omega))).2
             have g1 : w6.frozen? ⟨G, a * 3 + 1, none⟩ = false := (jw HRz.out (jg (s := 3) (cs := jc) _ a y HAt.out 1 (by omega))).2
             have g2 : w6.frozen? ⟨G, a * 3 + 2, none⟩ = false := (jw HRz.out (jg (s := 3) (cs := jc) _ a y HAt.out 2 (by omega))).2
             clear hXz hOz hDz hbz HIn HCut
             go_frame
             go_wp2_with fail
             go_roundw
             case rel => exact ⟨t + 1, zae K (jf x t), by omega, rfl, HI2, ⟨some ⟨G, 0, none⟩, c5, by rw [zcm], by rw [zcm]; exact HRn.out⟩, HXn.out, HOn.out, HBn.out⟩
             case measure => simp [intOf]; omega
       ·have htl2 : ¬ (t : Int) < x.c := htl
        have HL1 : Hid (K = zal os ds time id (i + 1)) := by rw [Hid, zfg HXi.out HQ.out, <- HL.out, HK.out, show x.c.toNat = t by omega]
        go_wp2_with fail
        go_roundw
        case rel => exact ⟨i + 1, K, by omega, rfl, HL1, ⟨_, _, rfl, hrow⟩, hX, hb⟩
        case measure => simp [intOf]; omega
     ·have HL1 := no (by rw [zba, decide_eq_false hid0, decide_eq_false hide]; simp)
      have q1 : (id != 0) = true := by simp [hid0]
      have q2 : (x.id != id) = true := by simp [hide]
      go_wp2_with fail
      go_roundw
      case rel => exact ⟨i + 1, L, by omega, rfl, HL1, ⟨_, _, rfl, HRow.out⟩, HX.out, HB.out⟩
      case measure => simp [intOf]; omega
   ·have HL1 := no (by rw [zba, decide_eq_false hs2]; rfl)
    go_wp2_with fail
    go_roundw
    case rel => exact ⟨i + 1, L, by omega, rfl, HL1, ⟨_, _, rfl, HRow.out⟩, HX.out, HB.out⟩
    case measure => simp [intOf]; omega
  ·have hlti : ¬ (i : Int) < (os.length : Int) := by omega
   have hil : i = os.length := by omega
   have HL1 : Hid (L = RR) := by rw [Hid, HRR.out, HL.out, hil]; rfl
   go_wp2_with fail
   go_ret
   rw [<- HL1.out]
   exact ⟨_, rfl, hrow, hb⟩
end Go.Proofs.YtjlpfpigggdemaaGreatDoor
