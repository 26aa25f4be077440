/-
 Merged: U9.
-/
import Derived.Test.YtjlpfpigggdemaaGreatDoorMi3
import Derived.Test.YtjlpfpigggdemaaGreatDoorMi11
import Derived.Test.YtjlpfpigggdemaaGreatDoorMi5
namespace Go.Proofs.YtjlpfpigggdemaaGreatDoor
set_option maxRecDepth 8000
set_option maxHeartbeats 4000000
open Go.RowKit Va Uo
set_option linter.all false
def FP6 (OB g off n cap i : Nat) (x : Od) (yid : Int) (i9 : Nat) (v : Value) (w : World) : Prop :=
 match i9 with
 | 0 => v = .agg #[.int .i64 x.id, .int .i64 x.p, .int .i64 x.d, .int .i64 x.n, .int .i64 x.f, .int .i64 x.e, .int .i64 x.c, .int .i64 x.s, .bool x.two]
 | 1 => v = .bool (odB x)
 | 2 => v = .bool (!(odB x))
 | 3 => v = .bool (!(odB x))
 | 4 => v = cond (true && ((!(odB x)) == false)) (.int .i64 (i : Nat)) undef
 | 5 => v = cond (true && ((!(odB x)) == false)) (.bool (decide ((0 : Int) < (i : Int)))) undef
 | 6 => v = cond (true && ((!(odB x)) == false)) (.bool (decide ((0 : Int) < (i : Int)))) undef
 | 7 => v = cond ((true && ((!(odB x)) == false)) && ((decide ((0 : Int) < (i : Int))) == true)) (.pointer (some ⟨OB, 0, none⟩)) undef
 | 8 => v = cond ((true && ((!(odB x)) == false)) && ((decide ((0 : Int) < (i : Int))) == true)) (.int .i64 x.id) undef
 | 9 => v = cond ((true && ((!(odB x)) == false)) && ((decide ((0 : Int) < (i : Int))) == true)) (.slice (some ⟨g, off, none⟩) n cap) undef
 | 10 => v = cond ((true && ((!(odB x)) == false)) && ((decide ((0 : Int) < (i : Int))) == true)) (.int .i64 (i : Nat)) undef
 | 11 => v = cond ((true && ((!(odB x)) == false)) && ((decide ((0 : Int) < (i : Int))) == true)) (.int .i64 ((i - 1 : Nat) : Int)) undef
 | 12 => v = cond ((true && ((!(odB x)) == false)) && ((decide ((0 : Int) < (i : Int))) == true)) (.pointer (some ⟨g, off + (i - 1) * 9, none⟩)) undef
 | 13 => v = cond ((true && ((!(odB x)) == false)) && ((decide ((0 : Int) < (i : Int))) == true)) (.pointer (some ⟨g, off + (i - 1) * 9, none⟩)) undef
 | 14 => v = cond ((true && ((!(odB x)) == false)) && ((decide ((0 : Int) < (i : Int))) == true)) (.int .i64 yid) undef
 | 15 => v = cond ((true && ((!(odB x)) == false)) && ((decide ((0 : Int) < (i : Int))) == true)) (.bool (decide (x.id <= yid))) undef
 | 16 => v = cond (true && ((!(odB x)) == false)) (.bool ((decide ((0 : Int) < (i : Int))) && (decide (x.id <= yid)))) undef
 | 17 => v = .bool ((!(odB x)) || ((decide ((0 : Int) < (i : Int))) && (decide (x.id <= yid))))
 | _ => True
theorem zai : (Rg.opsOf Tryz.f31 6).size = 18 := by kernel_rfl
set_option maxRecDepth 20000 in
set_option maxHeartbeats 16000000 in
theorem regP6 {Q : Exit -> Act -> World -> Prop} {a : Act} {w9 : World} {OB g off n cap i : Nat} {x : Od} {yid : Int} (ha : a.tmps.size = 34)
  (k0 : a.tmps[0]? = some (.slice (some ⟨g, off, none⟩) n cap)) (k3 : a.tmps[3]? = some (.int .i64 (i : Nat))) (k4 : a.tmps[4]? = some (.pointer (some ⟨OB, 0, none⟩))) (hO9 : PB w9 OB #[.int .i64 x.id, .int .i64 x.p, .int .i64 x.d, .int .i64 x.n, .int .i64 x.f, .int .i64 x.e, .int .i64 x.c, .int .i64 x.s, .bool x.two] 38) (hin : i < n) (hil : i < 1000000) (hgl : g < w9.heap.size) (y0 : 0 < i -> w9.cell? ⟨g, off + (i - 1) * 9, none⟩ = some (.int .i64 yid)) (hK : ∀ W, Calls Tryz.prog 52 #[.agg #[.int .i64 x.id, .int .i64 x.p, .int .i64 x.d, .int .i64 x.n, .int .i64 x.f, .int .i64 x.e, .int .i64 x.c, .int .i64 x.s, .bool x.two]] W fun e W' => e = .returned (.bool (odB x)) /\ Below W.heap.size W W')
  (hend : ∀ b' w', Rg.Fr (Rg.opsOf Tryz.f31 6) a b' -> Below w9.heap.size w9 w' -> Rg.out (Rg.opsOf Tryz.f31 6) b' 17 = .bool ((!(odB x)) || ((decide ((0 : Int) < (i : Int))) && (decide (x.id <= yid)))) -> Q .normal b' w') :
  (Code.region 6 (Rg.opsOf Tryz.f31 6) true).wp Tryz.prog Q a w9 := by
 refine Rg.zcq (by kernel_rfl) (fun _ w' => Below w9.heap.size w9 w') (FP6 OB g off n cap i x yid) (by rw [ha, zai]; kernel_rfl) (jq (Below.refl _ _)) ?_ ?_
 case refine_2 =>
  intro l b' w' hf hall hI hA
  rw [zai] at hA
  exact hend b' w' hf hI (hA 17 (by decide))
 case refine_1 =>
  clear hend
  have HS : ∀ {w w' : World}, Below w.heap.size w w' -> ∀ k9 y9, FP6 OB g off n cap i x yid k9 y9 w -> FP6 OB g off n cap i x yid k9 y9 w' := fun hb k9 y9 h => by
   unfold FP6 at *
   split at h <;> exact h
  intro i' hi'
  rw [zai] at hi'
  rcases (show i' = 0 ∨ i' = 1 ∨ i' = 2 ∨ i' = 3 ∨ i' = 4 ∨ i' = 5 ∨ i' = 6 ∨ i' = 7 ∨ i' = 8 ∨ i' = 9 ∨ i' = 10 ∨ i' = 11 ∨ i' = 12 ∨ i' = 13 ∨ i' = 14 ∨ i' = 15 ∨ i' = 16 ∨ i' = 17 by omega) with rfl | rfl | rfl | rfl | rfl | rfl | rfl | rfl | rfl | rfl | rfl | rfl | rfl | rfl | rfl | rfl | rfl | rfl
  ·intro ll bb w' hs hlf hN hO hf hI hA
   clear hi'
   have q4 := hf.kept (s := 4) (by rw [zai]; kernel_rfl) k4
   obtain ⟨o0, o1, o2, o3, o4, o5, o6, o7, o8⟩ := (hO9.below hI).nine
   exact Rg.zf (o := ⟨some 15, Op.load 38 (Operand.tmp 4), _, _, _, _⟩) (x := .agg #[.int .i64 x.id, .int .i64 x.p, .int .i64 x.d, .int .i64 x.n, .int .i64 x.f, .int .i64 x.e, .int .i64 x.c, .int .i64 x.s, .bool x.two]) rfl rfl (by clear hA HS hN hO hO9 hK; simp only [execOp]; go_simp) ⟨_, rfl, (fun h => by cases h), rfl, hI, fun _ _ _ _ h => h⟩
  ·intro ll bb w' hs hlf hN hO hf hI hA
   clear hi'
   have q15 : bb.tmps[15]? = some _ := hf.tmp (k := 0) rfl (by rw [ha]; decide) (hA 0 (by kernel_rfl))
   refine Rg.jr (o := ⟨some 16, Op.call { callee := Callee.value (Operand.func 52), args := #[(Operand.tmp 15)], argTypes := _ }, _, _, _, _⟩) rfl rfl (by clear hA HS hN hO hO9 hK; simp only [execOp, resolve]; go_simp) (hK w') ?_
   rintro e w2 ⟨rfl, hb2⟩
   exact ⟨_, rfl, _, rfl, (fun h => by cases h), rfl, onto hI hb2, fun k9 y9 _ _ h => HS hb2 k9 y9 h⟩
  ·intro ll bb w' hs hlf hN hO hf hI hA
   clear hi'
   have q16 : bb.tmps[16]? = some _ := hf.tmp (k := 1) rfl (by rw [ha]; decide) (hA 1 (by kernel_rfl))
   exact Rg.zf (o := ⟨some 17, Op.unOp UnOp.not 4 (Operand.tmp 16), _, _, _, _⟩) (x := .bool (!(odB x))) rfl rfl (by clear hA HS hN hO hO9 hK; simp only [execOp]; go_simp) ⟨_, rfl, (fun h => by cases h), rfl, hI, fun _ _ _ _ h => h⟩
  ·intro ll bb w' hs hlf hN hO hf hI hA
   clear hi'
   have q17 : bb.tmps[17]? = some _ := hf.tmp (k := 2) rfl (by rw [ha]; decide) (hA 2 (by kernel_rfl))
   exact Rg.zf (o := ⟨some 18, Op.move (Operand.tmp 17), _, _, _, _⟩) (x := .bool (!(odB x))) rfl rfl (by clear hA HS hN hO hO9 hK; simp only [execOp]; go_simp) ⟨_, rfl, (fun h => by cases h), rfl, hI, fun _ _ _ _ h => h⟩
  ·intro ll bb w' hs hlf hN hO hf hI hA
   clear hi'
   have qg : bb.tmps[18]? = some (cond true (.bool (!(odB x))) undef) := hf.tmp (k := 3) rfl (by rw [ha]; decide) (hA 3 (by kernel_rfl))
   cases hP : (true && ((!(odB x)) == false)) with
   | false => exact Rg.zq (o := ⟨some 19, _, _, _, _, _⟩) rfl (Rg.zy (g := 3) rfl rfl qg hP) ⟨_, rfl, (fun h => by cases h), Rg.zu hP, hI, fun _ _ _ _ h => h⟩
   | true =>
    have hw := Rg.zx (ops := (Rg.opsOf Tryz.f31 6)) (o := (Rg.opsOf Tryz.f31 6)[4]'(by rw [zai]; decide)) (g := 3) rfl rfl qg hP
    have g0 := Rg.zn hP
    have q0 := hf.kept (s := 3) (by rw [zai]; kernel_rfl) k3
    exact Rg.zf (o := ⟨some 19, Op.move (Operand.tmp 3), _, _, _, _⟩) (x := .int .i64 (i : Nat)) rfl hw (by clear hA HS hN hO hO9 hK; simp only [execOp]; go_simp) ⟨_, rfl, (fun h => by cases h), (Rg.zk hP).symm, hI, fun _ _ _ _ h => h⟩
  ·intro ll bb w' hs hlf hN hO hf hI hA
   clear hi'
   have qg : bb.tmps[18]? = some (cond true (.bool (!(odB x))) undef) := hf.tmp (k := 3) rfl (by rw [ha]; decide) (hA 3 (by kernel_rfl))
   cases hP : (true && ((!(odB x)) == false)) with
   | false => exact Rg.zq (o := ⟨some 20, _, _, _, _, _⟩) rfl (Rg.zy (g := 3) rfl rfl qg hP) ⟨_, rfl, (fun h => by cases h), Rg.zu hP, hI, fun _ _ _ _ h => h⟩
   | true =>
    have hw := Rg.zx (ops := (Rg.opsOf Tryz.f31 6)) (o := (Rg.opsOf Tryz.f31 6)[5]'(by rw [zai]; decide)) (g := 3) rfl rfl qg hP
    have g0 := Rg.zn hP
    have q19 : bb.tmps[19]? = some (.int .i64 (i : Nat)) := hf.tmp (k := 4) rfl (by rw [ha]; decide) (Eq.trans (hA 4 (by kernel_rfl)) (Rg.zk hP))
    exact Rg.zf (o := ⟨some 20, Op.binOp BinOp.gtr 3 (Operand.tmp 19) (Operand.const (Value.int .i64 0)) 3, _, _, _, _⟩) (x := .bool (decide ((0 : Int) < (i : Int)))) rfl hw (by clear hA HS hN hO hO9 hK; simp only [execOp]; go_simp) ⟨_, rfl, (fun h => by cases h), (Rg.zk hP).symm, hI, fun _ _ _ _ h => h⟩
  ·intro ll bb w' hs hlf hN hO hf hI hA
   clear hi'
   have qg : bb.tmps[18]? = some (cond true (.bool (!(odB x))) undef) := hf.tmp (k := 3) rfl (by rw [ha]; decide) (hA 3 (by kernel_rfl))
   cases hP : (true && ((!(odB x)) == false)) with
   | false => exact Rg.zq (o := ⟨some 21, _, _, _, _, _⟩) rfl (Rg.zy (g := 3) rfl rfl qg hP) ⟨_, rfl, (fun h => by cases h), Rg.zu hP, hI, fun _ _ _ _ h => h⟩
   | true =>
    have hw := Rg.zx (ops := (Rg.opsOf Tryz.f31 6)) (o := (Rg.opsOf Tryz.f31 6)[6]'(by rw [zai]; decide)) (g := 3) rfl rfl qg hP
    have g0 := Rg.zn hP
    have q20 : bb.tmps[20]? = some (.bool (decide ((0 : Int) < (i : Int)))) := hf.tmp (k := 5) rfl (by rw [ha]; decide) (Eq.trans (hA 5 (by kernel_rfl)) (Rg.zk hP))
    exact Rg.zf (o := ⟨some 21, Op.move (Operand.tmp 20), _, _, _, _⟩) (x := .bool (decide ((0 : Int) < (i : Int)))) rfl hw (by clear hA HS hN hO hO9 hK; simp only [execOp]; go_simp) ⟨_, rfl, (fun h => by cases h), (Rg.zk hP).symm, hI, fun _ _ _ _ h => h⟩
  ·intro ll bb w' hs hlf hN hO hf hI hA
   clear hi'
   have qg : bb.tmps[21]? = some (cond (true && ((!(odB x)) == false)) (.bool (decide ((0 : Int) < (i : Int)))) undef) := hf.tmp (k := 6) rfl (by rw [ha]; decide) (hA 6 (by kernel_rfl))
   cases hP : ((true && ((!(odB x)) == false)) && ((decide ((0 : Int) < (i : Int))) == true)) with
   | false => exact Rg.zq (o := ⟨some 22, _, _, _, _, _⟩) rfl (Rg.zy (g := 6) rfl rfl qg hP) ⟨_, rfl, (fun h => by cases h), Rg.zu hP, hI, fun _ _ _ _ h => h⟩
   | true =>
    have hw := Rg.zx (ops := (Rg.opsOf Tryz.f31 6)) (o := (Rg.opsOf Tryz.f31 6)[7]'(by rw [zai]; decide)) (g := 6) rfl rfl qg hP
    have g1 := Rg.zn hP
    have p1 := Rg.ku hP
    have g0 := Rg.zn p1
    have q4 := hf.kept (s := 4) (by rw [zai]; kernel_rfl) k4
    exact Rg.zf (o := ⟨some 22, Op.fieldAddr 38 (Operand.tmp 4) 0, _, _, _, _⟩) (x := .pointer (some ⟨OB, 0, none⟩)) rfl hw (by clear hA HS hN hO hO9 hK; simp only [execOp]; go_simp) ⟨_, rfl, (fun h => by cases h), (Rg.zk hP).symm, hI, fun _ _ _ _ h => h⟩
  ·intro ll bb w' hs hlf hN hO hf hI hA
   clear hi'
   have qg : bb.tmps[21]? = some (cond (true && ((!(odB x)) == false)) (.bool (decide ((0 : Int) < (i : Int)))) undef) := hf.tmp (k := 6) rfl (by rw [ha]; decide) (hA 6 (by kernel_rfl))
   cases hP : ((true && ((!(odB x)) == false)) && ((decide ((0 : Int) < (i : Int))) == true)) with
   | false => exact Rg.zq (o := ⟨some 23, _, _, _, _, _⟩) rfl (Rg.zy (g := 6) rfl rfl qg hP) ⟨_, rfl, (fun h => by cases h), Rg.zu hP, hI, fun _ _ _ _ h => h⟩
   | true =>
    have hw := Rg.zx (ops := (Rg.opsOf Tryz.f31 6)) (o := (Rg.opsOf Tryz.f31 6)[8]'(by rw [zai]; decide)) (g := 6) rfl rfl qg hP
    have g1 := Rg.zn hP
    have p1 := Rg.ku hP
    have g0 := Rg.zn p1
    have q22 : bb.tmps[22]? = some (.pointer (some ⟨OB, 0, none⟩)) := hf.tmp (k := 7) rfl (by rw [ha]; decide) (Eq.trans (hA 7 (by kernel_rfl)) (Rg.zk hP))
    obtain ⟨o0, o1, o2, o3, o4, o5, o6, o7, o8⟩ := (hO9.below hI).nine
    exact Rg.zf (o := ⟨some 23, Op.load 2 (Operand.tmp 22), _, _, _, _⟩) (x := .int .i64 x.id) rfl hw (by clear hA HS hN hO hO9 hK; simp only [execOp]; go_simp) ⟨_, rfl, (fun h => by cases h), (Rg.zk hP).symm, hI, fun _ _ _ _ h => h⟩
  ·intro ll bb w' hs hlf hN hO hf hI hA
   clear hi'
   have qg : bb.tmps[21]? = some (cond (true && ((!(odB x)) == false)) (.bool (decide ((0 : Int) < (i : Int)))) undef) := hf.tmp (k := 6) rfl (by rw [ha]; decide) (hA 6 (by kernel_rfl))
   cases hP : ((true && ((!(odB x)) == false)) && ((decide ((0 : Int) < (i : Int))) == true)) with
   | false => exact Rg.zq (o := ⟨some 24, _, _, _, _, _⟩) rfl (Rg.zy (g := 6) rfl rfl qg hP) ⟨_, rfl, (fun h => by cases h), Rg.zu hP, hI, fun _ _ _ _ h => h⟩
   | true =>
    have hw := Rg.zx (ops := (Rg.opsOf Tryz.f31 6)) (o := (Rg.opsOf Tryz.f31 6)[9]'(by rw [zai]; decide)) (g := 6) rfl rfl qg hP
    have g1 := Rg.zn hP
    have p1 := Rg.ku hP
    have g0 := Rg.zn p1
    have q0 := hf.kept (s := 0) (by rw [zai]; kernel_rfl) k0
    exact Rg.zf (o := ⟨some 24, Op.move (Operand.tmp 0), _, _, _, _⟩) (x := .slice (some ⟨g, off, none⟩) n cap) rfl hw (by clear hA HS hN hO hO9 hK; simp only [execOp]; go_simp) ⟨_, rfl, (fun h => by cases h), (Rg.zk hP).symm, hI, fun _ _ _ _ h => h⟩
  ·intro ll bb w' hs hlf hN hO hf hI hA
   clear hi'
   have qg : bb.tmps[21]? = some (cond (true && ((!(odB x)) == false)) (.bool (decide ((0 : Int) < (i : Int)))) undef) := hf.tmp (k := 6) rfl (by rw [ha]; decide) (hA 6 (by kernel_rfl))
   cases hP : ((true && ((!(odB x)) == false)) && ((decide ((0 : Int) < (i : Int))) == true)) with
   | false => exact Rg.zq (o := ⟨some 25, _, _, _, _, _⟩) rfl (Rg.zy (g := 6) rfl rfl qg hP) ⟨_, rfl, (fun h => by cases h), Rg.zu hP, hI, fun _ _ _ _ h => h⟩
   | true =>
    have hw := Rg.zx (ops := (Rg.opsOf Tryz.f31 6)) (o := (Rg.opsOf Tryz.f31 6)[10]'(by rw [zai]; decide)) (g := 6) rfl rfl qg hP
    have g1 := Rg.zn hP
    have p1 := Rg.ku hP
    have g0 := Rg.zn p1
    have q0 := hf.kept (s := 3) (by rw [zai]; kernel_rfl) k3
    exact Rg.zf (o := ⟨some 25, Op.move (Operand.tmp 3), _, _, _, _⟩) (x := .int .i64 (i : Nat)) rfl hw (by clear hA HS hN hO hO9 hK; simp only [execOp]; go_simp) ⟨_, rfl, (fun h => by cases h), (Rg.zk hP).symm, hI, fun _ _ _ _ h => h⟩
  ·intro ll bb w' hs hlf hN hO hf hI hA
   clear hi'
   have qg : bb.tmps[21]? = some (cond (true && ((!(odB x)) == false)) (.bool (decide ((0 : Int) < (i : Int)))) undef) := hf.tmp (k := 6) rfl (by rw [ha]; decide) (hA 6 (by kernel_rfl))
   cases hP : ((true && ((!(odB x)) == false)) && ((decide ((0 : Int) < (i : Int))) == true)) with
   | false => exact Rg.zq (o := ⟨some 26, _, _, _, _, _⟩) rfl (Rg.zy (g := 6) rfl rfl qg hP) ⟨_, rfl, (fun h => by cases h), Rg.zu hP, hI, fun _ _ _ _ h => h⟩
   | true =>
    have hw := Rg.zx (ops := (Rg.opsOf Tryz.f31 6)) (o := (Rg.opsOf Tryz.f31 6)[11]'(by rw [zai]; decide)) (g := 6) rfl rfl qg hP
    have g1 := Rg.zn hP
    have p1 := Rg.ku hP
    have g0 := Rg.zn p1
    have q25 : bb.tmps[25]? = some (.int .i64 (i : Nat)) := hf.tmp (k := 10) rfl (by rw [ha]; decide) (Eq.trans (hA 10 (by kernel_rfl)) (Rg.zk hP))
    have hi0 : 0 < i := by have := g1; simp at this; omega
    have hwr : IntKind.i64.wrap ((i : Int) - 1) = ((i - 1 : Nat) : Int) := by rw [IntKind.wrap_i64]; omega
    exact Rg.zf (o := ⟨some 26, Op.binOp BinOp.sub 3 (Operand.tmp 25) (Operand.const (Value.int .i64 1)) 3, _, _, _, _⟩) (x := .int .i64 ((i - 1 : Nat) : Int)) rfl hw (by clear hA HS hN hO hO9 hK; simp only [execOp]; go_simp) ⟨_, rfl, (fun h => by cases h), (Rg.zk hP).symm, hI, fun _ _ _ _ h => h⟩
  ·intro ll bb w' hs hlf hN hO hf hI hA
   clear hi'
   have qg : bb.tmps[21]? = some (cond (true && ((!(odB x)) == false)) (.bool (decide ((0 : Int) < (i : Int)))) undef) := hf.tmp (k := 6) rfl (by rw [ha]; decide) (hA 6 (by kernel_rfl))
   cases hP : ((true && ((!(odB x)) == false)) && ((decide ((0 : Int) < (i : Int))) == true)) with
   | false => exact Rg.zq (o := ⟨some 27, _, _, _, _, _⟩) rfl (Rg.zy (g := 6) rfl rfl qg hP) ⟨_, rfl, (fun h => by cases h), Rg.zu hP, hI, fun _ _ _ _ h => h⟩
   | true =>
    have hw := Rg.zx (ops := (Rg.opsOf Tryz.f31 6)) (o := (Rg.opsOf Tryz.f31 6)[12]'(by rw [zai]; decide)) (g := 6) rfl rfl qg hP
    have g1 := Rg.zn hP
    have p1 := Rg.ku hP
    have g0 := Rg.zn p1
    have q24 : bb.tmps[24]? = some (.slice (some ⟨g, off, none⟩) n cap) := hf.tmp (k := 9) rfl (by rw [ha]; decide) (Eq.trans (hA 9 (by kernel_rfl)) (Rg.zk hP))
    have q26 : bb.tmps[26]? = some (.int .i64 ((i - 1 : Nat) : Int)) := hf.tmp (k := 11) rfl (by rw [ha]; decide) (Eq.trans (hA 11 (by kernel_rfl)) (Rg.zk hP))
    have hi0 : 0 < i := by have := g1; simp at this; omega
    have hi3 : ((i - 1 : Nat) : Int) < (n : Int) := by omega
    have hi4 : i - 1 < n := by omega
    exact Rg.zf (o := ⟨some 27, Op.indexAddr 24 (Operand.tmp 24) (Operand.tmp 26), _, _, _, _⟩) (x := .pointer (some ⟨g, off + (i - 1) * 9, none⟩)) rfl hw (by clear hA HS hN hO hO9 hK; simp only [execOp]; go_simp) ⟨_, rfl, (fun h => by cases h), (Rg.zk hP).symm, hI, fun _ _ _ _ h => h⟩
  ·intro ll bb w' hs hlf hN hO hf hI hA
   clear hi'
   have qg : bb.tmps[21]? = some (cond (true && ((!(odB x)) == false)) (.bool (decide ((0 : Int) < (i : Int)))) undef) := hf.tmp (k := 6) rfl (by rw [ha]; decide) (hA 6 (by kernel_rfl))
   cases hP : ((true && ((!(odB x)) == false)) && ((decide ((0 : Int) < (i : Int))) == true)) with
   | false => exact Rg.zq (o := ⟨some 28, _, _, _, _, _⟩) rfl (Rg.zy (g := 6) rfl rfl qg hP) ⟨_, rfl, (fun h => by cases h), Rg.zu hP, hI, fun _ _ _ _ h => h⟩
   | true =>
    have hw := Rg.zx (ops := (Rg.opsOf Tryz.f31 6)) (o := (Rg.opsOf Tryz.f31 6)[13]'(by rw [zai]; decide)) (g := 6) rfl rfl qg hP
    have g1 := Rg.zn hP
    have p1 := Rg.ku hP
    have g0 := Rg.zn p1
    have q27 : bb.tmps[27]? = some (.pointer (some ⟨g, off + (i - 1) * 9, none⟩)) := hf.tmp (k := 12) rfl (by rw [ha]; decide) (Eq.trans (hA 12 (by kernel_rfl)) (Rg.zk hP))
    exact Rg.zf (o := ⟨some 28, Op.fieldAddr 38 (Operand.tmp 27) 0, _, _, _, _⟩) (x := .pointer (some ⟨g, off + (i - 1) * 9, none⟩)) rfl hw (by clear hA HS hN hO hO9 hK; simp only [execOp]; go_simp) ⟨_, rfl, (fun h => by cases h), (Rg.zk hP).symm, hI, fun _ _ _ _ h => h⟩
  ·intro ll bb w' hs hlf hN hO hf hI hA
   clear hi'
   have qg : bb.tmps[21]? = some (cond (true && ((!(odB x)) == false)) (.bool (decide ((0 : Int) < (i : Int)))) undef) := hf.tmp (k := 6) rfl (by rw [ha]; decide) (hA 6 (by kernel_rfl))
   cases hP : ((true && ((!(odB x)) == false)) && ((decide ((0 : Int) < (i : Int))) == true)) with
   | false => exact Rg.zq (o := ⟨some 29, _, _, _, _, _⟩) rfl (Rg.zy (g := 6) rfl rfl qg hP) ⟨_, rfl, (fun h => by cases h), Rg.zu hP, hI, fun _ _ _ _ h => h⟩
   | true =>
    have hw := Rg.zx (ops := (Rg.opsOf Tryz.f31 6)) (o := (Rg.opsOf Tryz.f31 6)[14]'(by rw [zai]; decide)) (g := 6) rfl rfl qg hP
    have g1 := Rg.zn hP
    have p1 := Rg.ku hP
    have g0 := Rg.zn p1
    have q28 : bb.tmps[28]? = some (.pointer (some ⟨g, off + (i - 1) * 9, none⟩)) := hf.tmp (k := 13) rfl (by rw [ha]; decide) (Eq.trans (hA 13 (by kernel_rfl)) (Rg.zk hP))
    have hi0 : 0 < i := by have := g1; simp at this; omega
    have e9 := (hI.cell (p := ⟨g, off + (i - 1) * 9, none⟩) hgl).trans (y0 hi0)
    exact Rg.zf (o := ⟨some 29, Op.load 2 (Operand.tmp 28), _, _, _, _⟩) (x := .int .i64 yid) rfl hw (by clear hA HS hN hO hO9 hK; simp only [execOp]; go_simp) ⟨_, rfl, (fun h => by cases h), (Rg.zk hP).symm, hI, fun _ _ _ _ h => h⟩
  ·intro ll bb w' hs hlf hN hO hf hI hA
   clear hi'
   have qg : bb.tmps[21]? = some (cond (true && ((!(odB x)) == false)) (.bool (decide ((0 : Int) < (i : Int)))) undef) := hf.tmp (k := 6) rfl (by rw [ha]; decide) (hA 6 (by kernel_rfl))
   cases hP : ((true && ((!(odB x)) == false)) && ((decide ((0 : Int) < (i : Int))) == true)) with
   | false => exact Rg.zq (o := ⟨some 30, _, _, _, _, _⟩) rfl (Rg.zy (g := 6) rfl rfl qg hP) ⟨_, rfl, (fun h => by cases h), Rg.zu hP, hI, fun _ _ _ _ h => h⟩
   | true =>
    have hw := Rg.zx (ops := (Rg.opsOf Tryz.f31 6)) (o := (Rg.opsOf Tryz.f31 6)[15]'(by rw [zai]; decide)) (g := 6) rfl rfl qg hP
    have g1 := Rg.zn hP
    have p1 := Rg.ku hP
    have g0 := Rg.zn p1
    have q23 : bb.tmps[23]? = some (.int .i64 x.id) := hf.tmp (k := 8) rfl (by rw [ha]; decide) (Eq.trans (hA 8 (by kernel_rfl)) (Rg.zk hP))
    have q29 : bb.tmps[29]? = some (.int .i64 yid) := hf.tmp (k := 14) rfl (by rw [ha]; decide) (Eq.trans (hA 14 (by kernel_rfl)) (Rg.zk hP))
    exact Rg.zf (o := ⟨some 30, Op.binOp BinOp.leq 2 (Operand.tmp 23) (Operand.tmp 29) 2, _, _, _, _⟩) (x := .bool (decide (x.id <= yid))) rfl hw (by clear hA HS hN hO hO9 hK; simp only [execOp]; go_simp) ⟨_, rfl, (fun h => by cases h), (Rg.zk hP).symm, hI, fun _ _ _ _ h => h⟩
  ·intro ll bb w' hs hlf hN hO hf hI hA
   clear hi'
   have qg : bb.tmps[18]? = some (cond true (.bool (!(odB x))) undef) := hf.tmp (k := 3) rfl (by rw [ha]; decide) (hA 3 (by kernel_rfl))
   cases hP : (true && ((!(odB x)) == false)) with
   | false => exact Rg.zq (o := ⟨some 31, _, _, _, _, _⟩) rfl (Rg.zy (g := 3) rfl rfl qg hP) ⟨_, rfl, (fun h => by cases h), Rg.zu hP, hI, fun _ _ _ _ h => h⟩
   | true =>
    have hw := Rg.zx (ops := (Rg.opsOf Tryz.f31 6)) (o := (Rg.opsOf Tryz.f31 6)[16]'(by rw [zai]; decide)) (g := 3) rfl rfl qg hP
    have g0 := Rg.zn hP
    have q21 : bb.tmps[21]? = some (.bool (decide ((0 : Int) < (i : Int)))) := hf.tmp (k := 6) rfl (by rw [ha]; decide) (Eq.trans (hA 6 (by kernel_rfl)) (Rg.zk hP))
    cases hC : (decide ((0 : Int) < (i : Int))) with
    | false =>
     have hval : ((.bool ((decide ((0 : Int) < (i : Int))) && (decide (x.id <= yid))) : Value)) = .bool false := by rw [hC]; rfl
     exact Rg.zf (o := ⟨some 31, Op.pick (Operand.tmp 21) (Operand.tmp 30) (Operand.const (Value.bool false)), _, _, _, _⟩) (x := .bool false) rfl hw (by rw [hC] at q21; clear hA HS hN hO hO9 hK hval; simp only [execOp]; go_simp) ⟨_, rfl, (fun h => by cases h), (by show ((.bool false : Value)) = _; exact hval.symm.trans (Rg.zk hP).symm), hI, fun _ _ _ _ h => h⟩
    | true =>
     have hB : ((true && ((!(odB x)) == false)) && ((decide ((0 : Int) < (i : Int))) == true)) = true := by
      rw [hC]; first | rfl | (rw [hP]; rfl) | simp_all
     have q30 : bb.tmps[30]? = some (.bool (decide (x.id <= yid))) := hf.tmp (k := 15) rfl (by rw [ha]; decide) (Eq.trans (hA 15 (by kernel_rfl)) (Rg.zk hB))
     have hval : ((.bool ((decide ((0 : Int) < (i : Int))) && (decide (x.id <= yid))) : Value)) = .bool (decide (x.id <= yid)) := by rw [hC]; rfl
     exact Rg.zf (o := ⟨some 31, Op.pick (Operand.tmp 21) (Operand.tmp 30) (Operand.const (Value.bool false)), _, _, _, _⟩) (x := .bool (decide (x.id <= yid))) rfl hw (by rw [hC] at q21; clear hA HS hN hO hO9 hK hval; simp only [execOp]; go_simp) ⟨_, rfl, (fun h => by cases h), (by show ((.bool (decide (x.id <= yid)) : Value)) = _; exact hval.symm.trans (Rg.zk hP).symm), hI, fun _ _ _ _ h => h⟩
  ·intro ll bb w' hs hlf hN hO hf hI hA
   clear hi'
   have q18 : bb.tmps[18]? = some _ := hf.tmp (k := 3) rfl (by rw [ha]; decide) (hA 3 (by kernel_rfl))
   cases hC : (!(odB x)) with
   | false =>
    have hB : (true && ((!(odB x)) == false)) = true := by rw [hC]; rfl
    have q31 : bb.tmps[31]? = some (.bool ((decide ((0 : Int) < (i : Int))) && (decide (x.id <= yid)))) := hf.tmp (k := 16) rfl (by rw [ha]; decide) (Eq.trans (hA 16 (by kernel_rfl)) (Rg.zk hB))
    have hval : ((.bool ((!(odB x)) || ((decide ((0 : Int) < (i : Int))) && (decide (x.id <= yid)))) : Value)) = .bool ((decide ((0 : Int) < (i : Int))) && (decide (x.id <= yid))) := by rw [hC]; rfl
    exact Rg.zf (o := ⟨some 32, Op.pick (Operand.tmp 18) (Operand.const (Value.bool true)) (Operand.tmp 31), _, _, _, _⟩) (x := .bool ((decide ((0 : Int) < (i : Int))) && (decide (x.id <= yid)))) rfl rfl (by rw [hC] at q18; clear hA HS hN hO hO9 hK hval; simp only [execOp]; go_simp) ⟨_, rfl, (fun h => by cases h), (by show ((.bool ((decide ((0 : Int) < (i : Int))) && (decide (x.id <= yid))) : Value)) = _; exact hval.symm), hI, fun _ _ _ _ h => h⟩
   | true =>
    have hval : ((.bool ((!(odB x)) || ((decide ((0 : Int) < (i : Int))) && (decide (x.id <= yid)))) : Value)) = .bool true := by rw [hC]; rfl
    exact Rg.zf (o := ⟨some 32, Op.pick (Operand.tmp 18) (Operand.const (Value.bool true)) (Operand.tmp 31), _, _, _, _⟩) (x := .bool true) rfl rfl (by rw [hC] at q18; clear hA HS hN hO hO9 hK hval; simp only [execOp]; go_simp) ⟨_, rfl, (fun h => by cases h), (by show ((.bool true : Value)) = _; exact hval.symm), hI, fun _ _ _ _ h => h⟩
theorem layP6 {a b : Act} (hf : Rg.Fr (Rg.opsOf Tryz.f31 6) a b) : b = Rg.fl (Rg.opsOf Tryz.f31 6) b 0 [some 15, some 16, some 17, some 18, some 19, some 20, some 21, some 22, some 23, some 24, some 25, some 26, some 27, some 28, some 29, some 30, some 31, some 32] a := Rg.ql _ (by kernel_rfl) hf
def FP7 (CB DB g off n cap i go oo no co k : Nat) (so : Value) (th : Bool) (x : Od) (d : Ds) (ym : Int) (i9 : Nat) (v : Value) (w : World) : Prop :=
 match i9 with
 | 0 => v = .bool th
 | 1 => v = .bool (!th)
 | 2 => v = .bool (!th)
 | 3 => v = cond (true && ((!th) == false)) (.pointer (some ⟨CB, 0, none⟩)) undef
 | 4 => v = cond (true && ((!th) == false)) (so) undef
 | 5 => v = cond (true && ((!th) == false)) (.int .i64 (k : Nat)) undef
 | 6 => v = cond (true && ((!th) == false)) (.pointer (some ⟨go, oo + k * 9, none⟩)) undef
 | 7 => v = cond (true && ((!th) == false)) (.agg #[.int .i64 x.id, .int .i64 x.p, .int .i64 x.d, .int .i64 x.n, .int .i64 x.f, .int .i64 x.e, .int .i64 x.c, .int .i64 x.s, .bool x.two]) undef
 | 8 => v = cond (true && ((!th) == false)) (.agg #[.int .i64 d.o, .int .i64 d.t, .int .i64 d.m, .int .i64 d.b, .int .i64 d.a]) undef
 | 9 => v = cond (true && ((!th) == false)) (.bool (je x d)) undef
 | 10 => v = cond (true && ((!th) == false)) (.bool (!(je x d))) undef
 | 11 => v = .bool ((!th) || (!(je x d)))
 | 12 => v = .bool ((!th) || (!(je x d)))
 | 13 => v = cond (true && (((!th) || (!(je x d))) == false)) (.int .i64 (i : Nat)) undef
 | 14 => v = cond (true && (((!th) || (!(je x d))) == false)) (.bool (decide ((0 : Int) < (i : Int)))) undef
 | 15 => v = cond (true && (((!th) || (!(je x d))) == false)) (.bool (decide ((0 : Int) < (i : Int)))) undef
 | 16 => v = cond ((true && (((!th) || (!(je x d))) == false)) && ((decide ((0 : Int) < (i : Int))) == true)) (.pointer (some ⟨DB, 2, none⟩)) undef
 | 17 => v = cond ((true && (((!th) || (!(je x d))) == false)) && ((decide ((0 : Int) < (i : Int))) == true)) (.int .i64 d.m) undef
 | 18 => v = cond ((true && (((!th) || (!(je x d))) == false)) && ((decide ((0 : Int) < (i : Int))) == true)) (.pointer (some ⟨CB, 1, none⟩)) undef
 | 19 => v = cond ((true && (((!th) || (!(je x d))) == false)) && ((decide ((0 : Int) < (i : Int))) == true)) (.slice (some ⟨g, off, none⟩) n cap) undef
 | 20 => v = cond ((true && (((!th) || (!(je x d))) == false)) && ((decide ((0 : Int) < (i : Int))) == true)) (.int .i64 (i : Nat)) undef
 | 21 => v = cond ((true && (((!th) || (!(je x d))) == false)) && ((decide ((0 : Int) < (i : Int))) == true)) (.int .i64 ((i - 1 : Nat) : Int)) undef
 | 22 => v = cond ((true && (((!th) || (!(je x d))) == false)) && ((decide ((0 : Int) < (i : Int))) == true)) (.pointer (some ⟨g, off + (i - 1) * 5, none⟩)) undef
 | 23 => v = cond ((true && (((!th) || (!(je x d))) == false)) && ((decide ((0 : Int) < (i : Int))) == true)) (.pointer (some ⟨g, off + (i - 1) * 5 + 2, none⟩)) undef
 | 24 => v = cond ((true && (((!th) || (!(je x d))) == false)) && ((decide ((0 : Int) < (i : Int))) == true)) (.int .i64 ym) undef
 | 25 => v = cond ((true && (((!th) || (!(je x d))) == false)) && ((decide ((0 : Int) < (i : Int))) == true)) (.bool (decide (d.m < ym))) undef
 | 26 => v = cond (true && (((!th) || (!(je x d))) == false)) (.bool ((decide ((0 : Int) < (i : Int))) && (decide (d.m < ym)))) undef
 | 27 => v = .bool (((!th) || (!(je x d))) || ((decide ((0 : Int) < (i : Int))) && (decide (d.m < ym))))
 | _ => True
theorem vk : (Rg.opsOf Tryz.f32 7).size = 28 := by kernel_rfl
set_option maxRecDepth 20000 in
set_option maxHeartbeats 16000000 in
theorem regP7 {Q : Exit -> Act -> World -> Prop} {a : Act} {w9 : World} {CB DB g off n cap i go oo no co k : Nat} {so : Value} {th : Bool} {x : Od} {d : Ds} {ym : Int} (ha : a.tmps.size = 63)
  (k1 : a.tmps[1]? = some (.pointer (some ⟨CB, 0, none⟩))) (k3 : a.tmps[3]? = some (.int .i64 (i : Nat))) (k4 : a.tmps[4]? = some (.pointer (some ⟨DB, 0, none⟩))) (k5 : a.tmps[5]? = some (.int .i64 (k : Nat))) (k6 : a.tmps[6]? = some (.bool th)) (hX : PB w9 CB #[so, .slice (some ⟨g, off, none⟩) n cap] 27) (hD5 : PB w9 DB #[.int .i64 d.o, .int .i64 d.t, .int .i64 d.m, .int .i64 d.b, .int .i64 d.a] 35) (hin : i < n) (hil : i < 1000000) (hgl : g < w9.heap.size) (hT : th = true -> so = .slice (some ⟨go, oo, none⟩) no co /\ k < no /\ go < w9.heap.size /\ w9.cell? ⟨go, oo + k * 9, none⟩ = some (.int .i64 x.id) /\ w9.cell? ⟨go, oo + k * 9 + 1, none⟩ = some (.int .i64 x.p) /\ w9.cell? ⟨go, oo + k * 9 + 2, none⟩ = some (.int .i64 x.d) /\ w9.cell? ⟨go, oo + k * 9 + 3, none⟩ = some (.int .i64 x.n) /\ w9.cell? ⟨go, oo + k * 9 + 4, none⟩ = some (.int .i64 x.f) /\ w9.cell? ⟨go, oo + k * 9 + 5, none⟩ = some (.int .i64 x.e) /\ w9.cell? ⟨go, oo + k * 9 + 6, none⟩ = some (.int .i64 x.c) /\ w9.cell? ⟨go, oo + k * 9 + 7, none⟩ = some (.int .i64 x.s) /\ w9.cell? ⟨go, oo + k * 9 + 8, none⟩ = some (.bool x.two)) (y2 : 0 < i -> w9.cell? ⟨g, off + (i - 1) * 5 + 2, none⟩ = some (.int .i64 ym)) (hK : ∀ W, Calls Tryz.prog 54 #[.agg #[.int .i64 x.id, .int .i64 x.p, .int .i64 x.d, .int .i64 x.n, .int .i64 x.f, .int .i64 x.e, .int .i64 x.c, .int .i64 x.s, .bool x.two], .agg #[.int .i64 d.o, .int .i64 d.t, .int .i64 d.m, .int .i64 d.b, .int .i64 d.a]] W fun e W' => e = .returned (.bool (je x d)) /\ Below W.heap.size W W')
  (hend : ∀ b' w', Rg.Fr (Rg.opsOf Tryz.f32 7) a b' -> Below w9.heap.size w9 w' -> Rg.out (Rg.opsOf Tryz.f32 7) b' 27 = .bool (((!th) || (!(je x d))) || ((decide ((0 : Int) < (i : Int))) && (decide (d.m < ym)))) -> Q .normal b' w') :
  (Code.region 7 (Rg.opsOf Tryz.f32 7) true).wp Tryz.prog Q a w9 := by
 refine Rg.zcq (by kernel_rfl) (fun _ w' => Below w9.heap.size w9 w') (FP7 CB DB g off n cap i go oo no co k so th x d ym) (by rw [ha, vk]; kernel_rfl) (jq (Below.refl _ _)) ?_ ?_
 case refine_2 =>
  intro l b' w' hf hall hI hA
  rw [vk] at hA
  exact hend b' w' hf hI (hA 27 (by decide))
 case refine_1 =>
  clear hend
  have HS : ∀ {w w' : World}, Below w.heap.size w w' -> ∀ k9 y9, FP7 CB DB g off n cap i go oo no co k so th x d ym k9 y9 w -> FP7 CB DB g off n cap i go oo no co k so th x d ym k9 y9 w' := fun hb k9 y9 h => by
   unfold FP7 at *
   split at h <;> exact h
  intro i' hi'
  rw [vk] at hi'
  rcases (show i' = 0 ∨ i' = 1 ∨ i' = 2 ∨ i' = 3 ∨ i' = 4 ∨ i' = 5 ∨ i' = 6 ∨ i' = 7 ∨ i' = 8 ∨ i' = 9 ∨ i' = 10 ∨ i' = 11 ∨ i' = 12 ∨ i' = 13 ∨ i' = 14 ∨ i' = 15 ∨ i' = 16 ∨ i' = 17 ∨ i' = 18 ∨ i' = 19 ∨ i' = 20 ∨ i' = 21 ∨ i' = 22 ∨ i' = 23 ∨ i' = 24 ∨ i' = 25 ∨ i' = 26 ∨ i' = 27 by omega) with rfl | rfl | rfl | rfl | rfl | rfl | rfl | rfl | rfl | rfl | rfl | rfl | rfl | rfl | rfl | rfl | rfl | rfl | rfl | rfl | rfl | rfl | rfl | rfl | rfl | rfl | rfl | rfl
  ·intro ll bb w' hs hlf hN hO hf hI hA
   clear hi'
   have q0 := hf.kept (s := 6) (by rw [vk]; kernel_rfl) k6
   exact Rg.zf (o := ⟨some 26, Op.move (Operand.tmp 6), _, _, _, _⟩) (x := .bool th) rfl rfl (by clear hA HS hN hO hX hD5 hK hT; simp only [execOp]; go_simp) ⟨_, rfl, (fun h => by cases h), rfl, hI, fun _ _ _ _ h => h⟩
  ·intro ll bb w' hs hlf hN hO hf hI hA
   clear hi'
   have q26 : bb.tmps[26]? = some _ := hf.tmp (k := 0) rfl (by rw [ha]; decide) (hA 0 (by kernel_rfl))
   exact Rg.zf (o := ⟨some 27, Op.unOp UnOp.not 4 (Operand.tmp 26), _, _, _, _⟩) (x := .bool (!th)) rfl rfl (by clear hA HS hN hO hX hD5 hK hT; simp only [execOp]; go_simp) ⟨_, rfl, (fun h => by cases h), rfl, hI, fun _ _ _ _ h => h⟩
  ·intro ll bb w' hs hlf hN hO hf hI hA
   clear hi'
   have q27 : bb.tmps[27]? = some _ := hf.tmp (k := 1) rfl (by rw [ha]; decide) (hA 1 (by kernel_rfl))
   exact Rg.zf (o := ⟨some 28, Op.move (Operand.tmp 27), _, _, _, _⟩) (x := .bool (!th)) rfl rfl (by clear hA HS hN hO hX hD5 hK hT; simp only [execOp]; go_simp) ⟨_, rfl, (fun h => by cases h), rfl, hI, fun _ _ _ _ h => h⟩
  ·intro ll bb w' hs hlf hN hO hf hI hA
   clear hi'
   have qg : bb.tmps[28]? = some (cond true (.bool (!th)) undef) := hf.tmp (k := 2) rfl (by rw [ha]; decide) (hA 2 (by kernel_rfl))
   cases hP : (true && ((!th) == false)) with
   | false => exact Rg.zq (o := ⟨some 29, _, _, _, _, _⟩) rfl (Rg.zy (g := 2) rfl rfl qg hP) ⟨_, rfl, (fun h => by cases h), Rg.zu hP, hI, fun _ _ _ _ h => h⟩
   | true =>
    have hw := Rg.zx (ops := (Rg.opsOf Tryz.f32 7)) (o := (Rg.opsOf Tryz.f32 7)[3]'(by rw [vk]; decide)) (g := 2) rfl rfl qg hP
    have g0 := Rg.zn hP
    have q1 := hf.kept (s := 1) (by rw [vk]; kernel_rfl) k1
    exact Rg.zf (o := ⟨some 29, Op.fieldAddr 27 (Operand.tmp 1) 0, _, _, _, _⟩) (x := .pointer (some ⟨CB, 0, none⟩)) rfl hw (by clear hA HS hN hO hX hD5 hK hT; simp only [execOp]; go_simp) ⟨_, rfl, (fun h => by cases h), (Rg.zk hP).symm, hI, fun _ _ _ _ h => h⟩
  ·intro ll bb w' hs hlf hN hO hf hI hA
   clear hi'
   have qg : bb.tmps[28]? = some (cond true (.bool (!th)) undef) := hf.tmp (k := 2) rfl (by rw [ha]; decide) (hA 2 (by kernel_rfl))
   cases hP : (true && ((!th) == false)) with
   | false => exact Rg.zq (o := ⟨some 30, _, _, _, _, _⟩) rfl (Rg.zy (g := 2) rfl rfl qg hP) ⟨_, rfl, (fun h => by cases h), Rg.zu hP, hI, fun _ _ _ _ h => h⟩
   | true =>
    have hw := Rg.zx (ops := (Rg.opsOf Tryz.f32 7)) (o := (Rg.opsOf Tryz.f32 7)[4]'(by rw [vk]; decide)) (g := 2) rfl rfl qg hP
    have g0 := Rg.zn hP
    have q29 : bb.tmps[29]? = some (.pointer (some ⟨CB, 0, none⟩)) := hf.tmp (k := 3) rfl (by rw [ha]; decide) (Eq.trans (hA 3 (by kernel_rfl)) (Rg.zk hP))
    obtain ⟨b0, b1⟩ := (hX.below hI).two
    exact Rg.zf (o := ⟨some 30, Op.load 24 (Operand.tmp 29), _, _, _, _⟩) (x := so) rfl hw (by clear hA HS hN hO hX hD5 hK hT; simp only [execOp]; go_simp) ⟨_, rfl, (fun h => by cases h), (Rg.zk hP).symm, hI, fun _ _ _ _ h => h⟩
  ·intro ll bb w' hs hlf hN hO hf hI hA
   clear hi'
   have qg : bb.tmps[28]? = some (cond true (.bool (!th)) undef) := hf.tmp (k := 2) rfl (by rw [ha]; decide) (hA 2 (by kernel_rfl))
   cases hP : (true && ((!th) == false)) with
   | false => exact Rg.zq (o := ⟨some 31, _, _, _, _, _⟩) rfl (Rg.zy (g := 2) rfl rfl qg hP) ⟨_, rfl, (fun h => by cases h), Rg.zu hP, hI, fun _ _ _ _ h => h⟩
   | true =>
    have hw := Rg.zx (ops := (Rg.opsOf Tryz.f32 7)) (o := (Rg.opsOf Tryz.f32 7)[5]'(by rw [vk]; decide)) (g := 2) rfl rfl qg hP
    have g0 := Rg.zn hP
    have q0 := hf.kept (s := 5) (by rw [vk]; kernel_rfl) k5
    exact Rg.zf (o := ⟨some 31, Op.move (Operand.tmp 5), _, _, _, _⟩) (x := .int .i64 (k : Nat)) rfl hw (by clear hA HS hN hO hX hD5 hK hT; simp only [execOp]; go_simp) ⟨_, rfl, (fun h => by cases h), (Rg.zk hP).symm, hI, fun _ _ _ _ h => h⟩
  ·intro ll bb w' hs hlf hN hO hf hI hA
   clear hi'
   have qg : bb.tmps[28]? = some (cond true (.bool (!th)) undef) := hf.tmp (k := 2) rfl (by rw [ha]; decide) (hA 2 (by kernel_rfl))
   cases hP : (true && ((!th) == false)) with
   | false => exact Rg.zq (o := ⟨some 32, _, _, _, _, _⟩) rfl (Rg.zy (g := 2) rfl rfl qg hP) ⟨_, rfl, (fun h => by cases h), Rg.zu hP, hI, fun _ _ _ _ h => h⟩
   | true =>
    have hw := Rg.zx (ops := (Rg.opsOf Tryz.f32 7)) (o := (Rg.opsOf Tryz.f32 7)[6]'(by rw [vk]; decide)) (g := 2) rfl rfl qg hP
    have g0 := Rg.zn hP
    have q30 : bb.tmps[30]? = some (so) := hf.tmp (k := 4) rfl (by rw [ha]; decide) (Eq.trans (hA 4 (by kernel_rfl)) (Rg.zk hP))
    have q31 : bb.tmps[31]? = some (.int .i64 (k : Nat)) := hf.tmp (k := 5) rfl (by rw [ha]; decide) (Eq.trans (hA 5 (by kernel_rfl)) (Rg.zk hP))
    have hth : th = true := by have := g0; simpa using this
    obtain ⟨hs1, hk1, hg1, t0, t1, t2, t3, t4, t5, t6, t7, t8⟩ := hT hth
    rw [hs1] at q30
    have hk2 : (k : Int) < (no : Int) := by omega
    clear t0 t1 t2 t3 t4 t5 t6 t7 t8
    exact Rg.zf (o := ⟨some 32, Op.indexAddr 24 (Operand.tmp 30) (Operand.tmp 31), _, _, _, _⟩) (x := .pointer (some ⟨go, oo + k * 9, none⟩)) rfl hw (by clear hA HS hN hO hX hD5 hK hT; simp only [execOp]; go_simp) ⟨_, rfl, (fun h => by cases h), (Rg.zk hP).symm, hI, fun _ _ _ _ h => h⟩
  ·intro ll bb w' hs hlf hN hO hf hI hA
   clear hi'
   have qg : bb.tmps[28]? = some (cond true (.bool (!th)) undef) := hf.tmp (k := 2) rfl (by rw [ha]; decide) (hA 2 (by kernel_rfl))
   cases hP : (true && ((!th) == false)) with
   | false => exact Rg.zq (o := ⟨some 33, _, _, _, _, _⟩) rfl (Rg.zy (g := 2) rfl rfl qg hP) ⟨_, rfl, (fun h => by cases h), Rg.zu hP, hI, fun _ _ _ _ h => h⟩
   | true =>
    have hw := Rg.zx (ops := (Rg.opsOf Tryz.f32 7)) (o := (Rg.opsOf Tryz.f32 7)[7]'(by rw [vk]; decide)) (g := 2) rfl rfl qg hP
    have g0 := Rg.zn hP
    have q32 : bb.tmps[32]? = some (.pointer (some ⟨go, oo + k * 9, none⟩)) := hf.tmp (k := 6) rfl (by rw [ha]; decide) (Eq.trans (hA 6 (by kernel_rfl)) (Rg.zk hP))
    have hth : th = true := by have := g0; simpa using this
    obtain ⟨hs1, hk1, hg1, t0, t1, t2, t3, t4, t5, t6, t7, t8⟩ := hT hth
    have e0 := (hI.cell (p := ⟨go, oo + k * 9, none⟩) hg1).trans t0
    have e1 := (hI.cell (p := ⟨go, oo + k * 9 + 1, none⟩) hg1).trans t1
    have e2 := (hI.cell (p := ⟨go, oo + k * 9 + 2, none⟩) hg1).trans t2
    have e3 := (hI.cell (p := ⟨go, oo + k * 9 + 3, none⟩) hg1).trans t3
    have e4 := (hI.cell (p := ⟨go, oo + k * 9 + 4, none⟩) hg1).trans t4
    have e5 := (hI.cell (p := ⟨go, oo + k * 9 + 5, none⟩) hg1).trans t5
    have e6 := (hI.cell (p := ⟨go, oo + k * 9 + 6, none⟩) hg1).trans t6
    have e7 := (hI.cell (p := ⟨go, oo + k * 9 + 7, none⟩) hg1).trans t7
    have e8 := (hI.cell (p := ⟨go, oo + k * 9 + 8, none⟩) hg1).trans t8
    clear t0 t1 t2 t3 t4 t5 t6 t7 t8
    exact Rg.zf (o := ⟨some 33, Op.load 38 (Operand.tmp 32), _, _, _, _⟩) (x := .agg #[.int .i64 x.id, .int .i64 x.p, .int .i64 x.d, .int .i64 x.n, .int .i64 x.f, .int .i64 x.e, .int .i64 x.c, .int .i64 x.s, .bool x.two]) rfl hw (by clear hA HS hN hO hX hD5 hK hT; simp only [execOp]; go_simp) ⟨_, rfl, (fun h => by cases h), (Rg.zk hP).symm, hI, fun _ _ _ _ h => h⟩
  ·intro ll bb w' hs hlf hN hO hf hI hA
   clear hi'
   have qg : bb.tmps[28]? = some (cond true (.bool (!th)) undef) := hf.tmp (k := 2) rfl (by rw [ha]; decide) (hA 2 (by kernel_rfl))
   cases hP : (true && ((!th) == false)) with
   | false => exact Rg.zq (o := ⟨some 34, _, _, _, _, _⟩) rfl (Rg.zy (g := 2) rfl rfl qg hP) ⟨_, rfl, (fun h => by cases h), Rg.zu hP, hI, fun _ _ _ _ h => h⟩
   | true =>
    have hw := Rg.zx (ops := (Rg.opsOf Tryz.f32 7)) (o := (Rg.opsOf Tryz.f32 7)[8]'(by rw [vk]; decide)) (g := 2) rfl rfl qg hP
    have g0 := Rg.zn hP
    have q4 := hf.kept (s := 4) (by rw [vk]; kernel_rfl) k4
    obtain ⟨d0, d1, d2, d3, d4⟩ := (hD5.below hI).five
    exact Rg.zf (o := ⟨some 34, Op.load 35 (Operand.tmp 4), _, _, _, _⟩) (x := .agg #[.int .i64 d.o, .int .i64 d.t, .int .i64 d.m, .int .i64 d.b, .int .i64 d.a]) rfl hw (by clear hA HS hN hO hX hD5 hK hT; simp only [execOp]; go_simp) ⟨_, rfl, (fun h => by cases h), (Rg.zk hP).symm, hI, fun _ _ _ _ h => h⟩
  ·intro ll bb w' hs hlf hN hO hf hI hA
   clear hi'
   have qg : bb.tmps[28]? = some (cond true (.bool (!th)) undef) := hf.tmp (k := 2) rfl (by rw [ha]; decide) (hA 2 (by kernel_rfl))
   cases hP : (true && ((!th) == false)) with
   | false => exact Rg.zq (o := ⟨some 35, _, _, _, _, _⟩) rfl (Rg.zy (g := 2) rfl rfl qg hP) ⟨_, rfl, (fun h => by cases h), Rg.zu hP, hI, fun _ _ _ _ h => h⟩
   | true =>
    have hw := Rg.zx (ops := (Rg.opsOf Tryz.f32 7)) (o := (Rg.opsOf Tryz.f32 7)[9]'(by rw [vk]; decide)) (g := 2) rfl rfl qg hP
    have g0 := Rg.zn hP
    have q33 : bb.tmps[33]? = some (.agg #[.int .i64 x.id, .int .i64 x.p, .int .i64 x.d, .int .i64 x.n, .int .i64 x.f, .int .i64 x.e, .int .i64 x.c, .int .i64 x.s, .bool x.two]) := hf.tmp (k := 7) rfl (by rw [ha]; decide) (Eq.trans (hA 7 (by kernel_rfl)) (Rg.zk hP))
    have q34 : bb.tmps[34]? = some (.agg #[.int .i64 d.o, .int .i64 d.t, .int .i64 d.m, .int .i64 d.b, .int .i64 d.a]) := hf.tmp (k := 8) rfl (by rw [ha]; decide) (Eq.trans (hA 8 (by kernel_rfl)) (Rg.zk hP))
    refine Rg.jr (o := ⟨some 35, Op.call { callee := Callee.value (Operand.func 54), args := #[(Operand.tmp 33), (Operand.tmp 34)], argTypes := _ }, _, _, _, _⟩) rfl hw (by clear hA HS hN hO hX hD5 hK hT; simp only [execOp, resolve]; go_simp) (hK w') ?_
    rintro e w2 ⟨rfl, hb2⟩
    exact ⟨_, rfl, _, rfl, (fun h => by cases h), (Rg.zk hP).symm, onto hI hb2, fun k9 y9 _ _ h => HS hb2 k9 y9 h⟩
  ·intro ll bb w' hs hlf hN hO hf hI hA
   clear hi'
   have qg : bb.tmps[28]? = some (cond true (.bool (!th)) undef) := hf.tmp (k := 2) rfl (by rw [ha]; decide) (hA 2 (by kernel_rfl))
   cases hP : (true && ((!th) == false)) with
   | false => exact Rg.zq (o := ⟨some 36, _, _, _, _, _⟩) rfl (Rg.zy (g := 2) rfl rfl qg hP) ⟨_, rfl, (fun h => by cases h), Rg.zu hP, hI, fun _ _ _ _ h => h⟩
   | true =>
    have hw := Rg.zx (ops := (Rg.opsOf Tryz.f32 7)) (o := (Rg.opsOf Tryz.f32 7)[10]'(by rw [vk]; decide)) (g := 2) rfl rfl qg hP
    have g0 := Rg.zn hP
    have q35 : bb.tmps[35]? = some (.bool (je x d)) := hf.tmp (k := 9) rfl (by rw [ha]; decide) (Eq.trans (hA 9 (by kernel_rfl)) (Rg.zk hP))
    exact Rg.zf (o := ⟨some 36, Op.unOp UnOp.not 4 (Operand.tmp 35), _, _, _, _⟩) (x := .bool (!(je x d))) rfl hw (by clear hA HS hN hO hX hD5 hK hT; simp only [execOp]; go_simp) ⟨_, rfl, (fun h => by cases h), (Rg.zk hP).symm, hI, fun _ _ _ _ h => h⟩
  ·intro ll bb w' hs hlf hN hO hf hI hA
   clear hi'
   have q28 : bb.tmps[28]? = some _ := hf.tmp (k := 2) rfl (by rw [ha]; decide) (hA 2 (by kernel_rfl))
   cases hC : (!th) with
   | false =>
    have hB : (true && ((!th) == false)) = true := by rw [hC]; rfl
    have q36 : bb.tmps[36]? = some (.bool (!(je x d))) := hf.tmp (k := 10) rfl (by rw [ha]; decide) (Eq.trans (hA 10 (by kernel_rfl)) (Rg.zk hB))
    have hval : ((.bool ((!th) || (!(je x d))) : Value)) = .bool (!(je x d)) := by rw [hC]; rfl
    exact Rg.zf (o := ⟨some 37, Op.pick (Operand.tmp 28) (Operand.const (Value.bool true)) (Operand.tmp 36), _, _, _, _⟩) (x := .bool (!(je x d))) rfl rfl (by rw [hC] at q28; clear hA HS hN hO hX hD5 hK hT hval; simp only [execOp]; go_simp) ⟨_, rfl, (fun h => by cases h), (by show ((.bool (!(je x d)) : Value)) = _; exact hval.symm), hI, fun _ _ _ _ h => h⟩
   | true =>
    have hval : ((.bool ((!th) || (!(je x d))) : Value)) = .bool true := by rw [hC]; rfl
    exact Rg.zf (o := ⟨some 37, Op.pick (Operand.tmp 28) (Operand.const (Value.bool true)) (Operand.tmp 36), _, _, _, _⟩) (x := .bool true) rfl rfl (by rw [hC] at q28; clear hA HS hN hO hX hD5 hK hT hval; simp only [execOp]; go_simp) ⟨_, rfl, (fun h => by cases h), (by show ((.bool true : Value)) = _; exact hval.symm), hI, fun _ _ _ _ h => h⟩
  ·intro ll bb w' hs hlf hN hO hf hI hA
   clear hi'
   have q37 : bb.tmps[37]? = some _ := hf.tmp (k := 11) rfl (by rw [ha]; decide) (hA 11 (by kernel_rfl))
   exact Rg.zf (o := ⟨some 38, Op.move (Operand.tmp 37), _, _, _, _⟩) (x := .bool ((!th) || (!(je x d)))) rfl rfl (by clear hA HS hN hO hX hD5 hK hT; simp only [execOp]; go_simp) ⟨_, rfl, (fun h => by cases h), rfl, hI, fun _ _ _ _ h => h⟩
  ·intro ll bb w' hs hlf hN hO hf hI hA
   clear hi'
   have qg : bb.tmps[38]? = some (cond true (.bool ((!th) || (!(je x d)))) undef) := hf.tmp (k := 12) rfl (by rw [ha]; decide) (hA 12 (by kernel_rfl))
   cases hP : (true && (((!th) || (!(je x d))) == false)) with
   | false => exact Rg.zq (o := ⟨some 39, _, _, _, _, _⟩) rfl (Rg.zy (g := 12) rfl rfl qg hP) ⟨_, rfl, (fun h => by cases h), Rg.zu hP, hI, fun _ _ _ _ h => h⟩
   | true =>
    have hw := Rg.zx (ops := (Rg.opsOf Tryz.f32 7)) (o := (Rg.opsOf Tryz.f32 7)[13]'(by rw [vk]; decide)) (g := 12) rfl rfl qg hP
    have g0 := Rg.zn hP
    have q0 := hf.kept (s := 3) (by rw [vk]; kernel_rfl) k3
    exact Rg.zf (o := ⟨some 39, Op.move (Operand.tmp 3), _, _, _, _⟩) (x := .int .i64 (i : Nat)) rfl hw (by clear hA HS hN hO hX hD5 hK hT; simp only [execOp]; go_simp) ⟨_, rfl, (fun h => by cases h), (Rg.zk hP).symm, hI, fun _ _ _ _ h => h⟩
  ·intro ll bb w' hs hlf hN hO hf hI hA
   clear hi'
   have qg : bb.tmps[38]? = some (cond true (.bool ((!th) || (!(je x d)))) undef) := hf.tmp (k := 12) rfl (by rw [ha]; decide) (hA 12 (by kernel_rfl))
   cases hP : (true && (((!th) || (!(je x d))) == false)) with
   | false => exact Rg.zq (o := ⟨some 40, _, _, _, _, _⟩) rfl (Rg.zy (g := 12) rfl rfl qg hP) ⟨_, rfl, (fun h => by cases h), Rg.zu hP, hI, fun _ _ _ _ h => h⟩
   | true =>
    have hw := Rg.zx (ops := (Rg.opsOf Tryz.f32 7)) (o := (Rg.opsOf Tryz.f32 7)[14]'(by rw [vk]; decide)) (g := 12) rfl rfl qg hP
    have g0 := Rg.zn hP
    have q39 : bb.tmps[39]? = some (.int .i64 (i : Nat)) := hf.tmp (k := 13) rfl (by rw [ha]; decide) (Eq.trans (hA 13 (by kernel_rfl)) (Rg.zk hP))
    exact Rg.zf (o := ⟨some 40, Op.binOp BinOp.gtr 3 (Operand.tmp 39) (Operand.const (Value.int .i64 0)) 3, _, _, _, _⟩) (x := .bool (decide ((0 : Int) < (i : Int)))) rfl hw (by clear hA HS hN hO hX hD5 hK hT; simp only [execOp]; go_simp) ⟨_, rfl, (fun h => by cases h), (Rg.zk hP).symm, hI, fun _ _ _ _ h => h⟩
  ·intro ll bb w' hs hlf hN hO hf hI hA
   clear hi'
   have qg : bb.tmps[38]? = some (cond true (.bool ((!th) || (!(je x d)))) undef) := hf.tmp (k := 12) rfl (by rw [ha]; decide) (hA 12 (by kernel_rfl))
   cases hP : (true && (((!th) || (!(je x d))) == false)) with
   | false => exact Rg.zq (o := ⟨some 41, _, _, _, _, _⟩) rfl (Rg.zy (g := 12) rfl rfl qg hP) ⟨_, rfl, (fun h => by cases h), Rg.zu hP, hI, fun _ _ _ _ h => h⟩
   | true =>
    have hw := Rg.zx (ops := (Rg.opsOf Tryz.f32 7)) (o := (Rg.opsOf Tryz.f32 7)[15]'(by rw [vk]; decide)) (g := 12) rfl rfl qg hP
    have g0 := Rg.zn hP
    have q40 : bb.tmps[40]? = some (.bool (decide ((0 : Int) < (i : Int)))) := hf.tmp (k := 14) rfl (by rw [ha]; decide) (Eq.trans (hA 14 (by kernel_rfl)) (Rg.zk hP))
    exact Rg.zf (o := ⟨some 41, Op.move (Operand.tmp 40), _, _, _, _⟩) (x := .bool (decide ((0 : Int) < (i : Int)))) rfl hw (by clear hA HS hN hO hX hD5 hK hT; simp only [execOp]; go_simp) ⟨_, rfl, (fun h => by cases h), (Rg.zk hP).symm, hI, fun _ _ _ _ h => h⟩
  ·intro ll bb w' hs hlf hN hO hf hI hA
   clear hi'
   have qg : bb.tmps[41]? = some (cond (true && (((!th) || (!(je x d))) == false)) (.bool (decide ((0 : Int) < (i : Int)))) undef) := hf.tmp (k := 15) rfl (by rw [ha]; decide) (hA 15 (by kernel_rfl))
   cases hP : ((true && (((!th) || (!(je x d))) == false)) && ((decide ((0 : Int) < (i : Int))) == true)) with
   | false => exact Rg.zq (o := ⟨some 42, _, _, _, _, _⟩) rfl (Rg.zy (g := 15) rfl rfl qg hP) ⟨_, rfl, (fun h => by cases h), Rg.zu hP, hI, fun _ _ _ _ h => h⟩
   | true =>
    have hw := Rg.zx (ops := (Rg.opsOf Tryz.f32 7)) (o := (Rg.opsOf Tryz.f32 7)[16]'(by rw [vk]; decide)) (g := 15) rfl rfl qg hP
    have g1 := Rg.zn hP
    have p1 := Rg.ku hP
    have g0 := Rg.zn p1
    have q4 := hf.kept (s := 4) (by rw [vk]; kernel_rfl) k4
    exact Rg.zf (o := ⟨some 42, Op.fieldAddr 35 (Operand.tmp 4) 2, _, _, _, _⟩) (x := .pointer (some ⟨DB, 2, none⟩)) rfl hw (by clear hA HS hN hO hX hD5 hK hT; simp only [execOp]; go_simp) ⟨_, rfl, (fun h => by cases h), (Rg.zk hP).symm, hI, fun _ _ _ _ h => h⟩
  ·intro ll bb w' hs hlf hN hO hf hI hA
   clear hi'
   have qg : bb.tmps[41]? = some (cond (true && (((!th) || (!(je x d))) == false)) (.bool (decide ((0 : Int) < (i : Int)))) undef) := hf.tmp (k := 15) rfl (by rw [ha]; decide) (hA 15 (by kernel_rfl))
   cases hP : ((true && (((!th) || (!(je x d))) == false)) && ((decide ((0 : Int) < (i : Int))) == true)) with
   | false => exact Rg.zq (o := ⟨some 43, _, _, _, _, _⟩) rfl (Rg.zy (g := 15) rfl rfl qg hP) ⟨_, rfl, (fun h => by cases h), Rg.zu hP, hI, fun _ _ _ _ h => h⟩
   | true =>
    have hw := Rg.zx (ops := (Rg.opsOf Tryz.f32 7)) (o := (Rg.opsOf Tryz.f32 7)[17]'(by rw [vk]; decide)) (g := 15) rfl rfl qg hP
    have g1 := Rg.zn hP
    have p1 := Rg.ku hP
    have g0 := Rg.zn p1
    have q42 : bb.tmps[42]? = some (.pointer (some ⟨DB, 2, none⟩)) := hf.tmp (k := 16) rfl (by rw [ha]; decide) (Eq.trans (hA 16 (by kernel_rfl)) (Rg.zk hP))
    obtain ⟨d0, d1, d2, d3, d4⟩ := (hD5.below hI).five
    exact Rg.zf (o := ⟨some 43, Op.load 2 (Operand.tmp 42), _, _, _, _⟩) (x := .int .i64 d.m) rfl hw (by clear hA HS hN hO hX hD5 hK hT; simp only [execOp]; go_simp) ⟨_, rfl, (fun h => by cases h), (Rg.zk hP).symm, hI, fun _ _ _ _ h => h⟩
  ·intro ll bb w' hs hlf hN hO hf hI hA
   clear hi'
   have qg : bb.tmps[41]? = some (cond (true && (((!th) || (!(je x d))) == false)) (.bool (decide ((0 : Int) < (i : Int)))) undef) := hf.tmp (k := 15) rfl (by rw [ha]; decide) (hA 15 (by kernel_rfl))
   cases hP : ((true && (((!th) || (!(je x d))) == false)) && ((decide ((0 : Int) < (i : Int))) == true)) with
   | false => exact Rg.zq (o := ⟨some 44, _, _, _, _, _⟩) rfl (Rg.zy (g := 15) rfl rfl qg hP) ⟨_, rfl, (fun h => by cases h), Rg.zu hP, hI, fun _ _ _ _ h => h⟩
   | true =>
    have hw := Rg.zx (ops := (Rg.opsOf Tryz.f32 7)) (o := (Rg.opsOf Tryz.f32 7)[18]'(by rw [vk]; decide)) (g := 15) rfl rfl qg hP
    have g1 := Rg.zn hP
    have p1 := Rg.ku hP
    have g0 := Rg.zn p1
    have q1 := hf.kept (s := 1) (by rw [vk]; kernel_rfl) k1
    exact Rg.zf (o := ⟨some 44, Op.fieldAddr 27 (Operand.tmp 1) 1, _, _, _, _⟩) (x := .pointer (some ⟨CB, 1, none⟩)) rfl hw (by clear hA HS hN hO hX hD5 hK hT; simp only [execOp]; go_simp) ⟨_, rfl, (fun h => by cases h), (Rg.zk hP).symm, hI, fun _ _ _ _ h => h⟩
  ·intro ll bb w' hs hlf hN hO hf hI hA
   clear hi'
   have qg : bb.tmps[41]? = some (cond (true && (((!th) || (!(je x d))) == false)) (.bool (decide ((0 : Int) < (i : Int)))) undef) := hf.tmp (k := 15) rfl (by rw [ha]; decide) (hA 15 (by kernel_rfl))
   cases hP : ((true && (((!th) || (!(je x d))) == false)) && ((decide ((0 : Int) < (i : Int))) == true)) with
   | false => exact Rg.zq (o := ⟨some 45, _, _, _, _, _⟩) rfl (Rg.zy (g := 15) rfl rfl qg hP) ⟨_, rfl, (fun h => by cases h), Rg.zu hP, hI, fun _ _ _ _ h => h⟩
   | true =>
    have hw := Rg.zx (ops := (Rg.opsOf Tryz.f32 7)) (o := (Rg.opsOf Tryz.f32 7)[19]'(by rw [vk]; decide)) (g := 15) rfl rfl qg hP
    have g1 := Rg.zn hP
    have p1 := Rg.ku hP
    have g0 := Rg.zn p1
    have q44 : bb.tmps[44]? = some (.pointer (some ⟨CB, 1, none⟩)) := hf.tmp (k := 18) rfl (by rw [ha]; decide) (Eq.trans (hA 18 (by kernel_rfl)) (Rg.zk hP))
    obtain ⟨b0, b1⟩ := (hX.below hI).two
    exact Rg.zf (o := ⟨some 45, Op.load 25 (Operand.tmp 44), _, _, _, _⟩) (x := .slice (some ⟨g, off, none⟩) n cap) rfl hw (by clear hA HS hN hO hX hD5 hK hT; simp only [execOp]; go_simp) ⟨_, rfl, (fun h => by cases h), (Rg.zk hP).symm, hI, fun _ _ _ _ h => h⟩
  ·intro ll bb w' hs hlf hN hO hf hI hA
   clear hi'
   have qg : bb.tmps[41]? = some (cond (true && (((!th) || (!(je x d))) == false)) (.bool (decide ((0 : Int) < (i : Int)))) undef) := hf.tmp (k := 15) rfl (by rw [ha]; decide) (hA 15 (by kernel_rfl))
   cases hP : ((true && (((!th) || (!(je x d))) == false)) && ((decide ((0 : Int) < (i : Int))) == true)) with
   | false => exact Rg.zq (o := ⟨some 46, _, _, _, _, _⟩) rfl (Rg.zy (g := 15) rfl rfl qg hP) ⟨_, rfl, (fun h => by cases h), Rg.zu hP, hI, fun _ _ _ _ h => h⟩
   | true =>
    have hw := Rg.zx (ops := (Rg.opsOf Tryz.f32 7)) (o := (Rg.opsOf Tryz.f32 7)[20]'(by rw [vk]; decide)) (g := 15) rfl rfl qg hP
    have g1 := Rg.zn hP
    have p1 := Rg.ku hP
    have g0 := Rg.zn p1
    have q0 := hf.kept (s := 3) (by rw [vk]; kernel_rfl) k3
    exact Rg.zf (o := ⟨some 46, Op.move (Operand.tmp 3), _, _, _, _⟩) (x := .int .i64 (i : Nat)) rfl hw (by clear hA HS hN hO hX hD5 hK hT; simp only [execOp]; go_simp) ⟨_, rfl, (fun h => by cases h), (Rg.zk hP).symm, hI, fun _ _ _ _ h => h⟩
  ·intro ll bb w' hs hlf hN hO hf hI hA
   clear hi'
   have qg : bb.tmps[41]? = some (cond (true && (((!th) || (!(je x d))) == false)) (.bool (decide ((0 : Int) < (i : Int)))) undef) := hf.tmp (k := 15) rfl (by rw [ha]; decide) (hA 15 (by kernel_rfl))
   cases hP : ((true && (((!th) || (!(je x d))) == false)) && ((decide ((0 : Int) < (i : Int))) == true)) with
   | false => exact Rg.zq (o := ⟨some 47, _, _, _, _, _⟩) rfl (Rg.zy (g := 15) rfl rfl qg hP) ⟨_, rfl, (fun h => by cases h), Rg.zu hP, hI, fun _ _ _ _ h => h⟩
   | true =>
    have hw := Rg.zx (ops := (Rg.opsOf Tryz.f32 7)) (o := (Rg.opsOf Tryz.f32 7)[21]'(by rw [vk]; decide)) (g := 15) rfl rfl qg hP
    have g1 := Rg.zn hP
    have p1 := Rg.ku hP
    have g0 := Rg.zn p1
    have q46 : bb.tmps[46]? = some (.int .i64 (i : Nat)) := hf.tmp (k := 20) rfl (by rw [ha]; decide) (Eq.trans (hA 20 (by kernel_rfl)) (Rg.zk hP))
    have hi0 : 0 < i := by have := g1; simp at this; omega
    have hwr : IntKind.i64.wrap ((i : Int) - 1) = ((i - 1 : Nat) : Int) := by rw [IntKind.wrap_i64]; omega
    exact Rg.zf (o := ⟨some 47, Op.binOp BinOp.sub 3 (Operand.tmp 46) (Operand.const (Value.int .i64 1)) 3, _, _, _, _⟩) (x := .int .i64 ((i - 1 : Nat) : Int)) rfl hw (by clear hA HS hN hO hX hD5 hK hT; simp only [execOp]; go_simp) ⟨_, rfl, (fun h => by cases h), (Rg.zk hP).symm, hI, fun _ _ _ _ h => h⟩
  ·intro ll bb w' hs hlf hN hO hf hI hA
   clear hi'
   have qg : bb.tmps[41]? = some (cond (true && (((!th) || (!(je x d))) == false)) (.bool (decide ((0 : Int) < (i : Int)))) undef) := hf.tmp (k := 15) rfl (by rw [ha]; decide) (hA 15 (by kernel_rfl))
   cases hP : ((true && (((!th) || (!(je x d))) == false)) && ((decide ((0 : Int) < (i : Int))) == true)) with
   | false => exact Rg.zq (o := ⟨some 48, _, _, _, _, _⟩) rfl (Rg.zy (g := 15) rfl rfl qg hP) ⟨_, rfl, (fun h => by cases h), Rg.zu hP, hI, fun _ _ _ _ h => h⟩
   | true =>
    have hw := Rg.zx (ops := (Rg.opsOf Tryz.f32 7)) (o := (Rg.opsOf Tryz.f32 7)[22]'(by rw [vk]; decide)) (g := 15) rfl rfl qg hP
    have g1 := Rg.zn hP
    have p1 := Rg.ku hP
    have g0 := Rg.zn p1
    have q45 : bb.tmps[45]? = some (.slice (some ⟨g, off, none⟩) n cap) := hf.tmp (k := 19) rfl (by rw [ha]; decide) (Eq.trans (hA 19 (by kernel_rfl)) (Rg.zk hP))
    have q47 : bb.tmps[47]? = some (.int .i64 ((i - 1 : Nat) : Int)) := hf.tmp (k := 21) rfl (by rw [ha]; decide) (Eq.trans (hA 21 (by kernel_rfl)) (Rg.zk hP))
    have hi0 : 0 < i := by have := g1; simp at this; omega
    have hi3 : ((i - 1 : Nat) : Int) < (n : Int) := by omega
    have hi4 : i - 1 < n := by omega
    exact Rg.zf (o := ⟨some 48, Op.indexAddr 25 (Operand.tmp 45) (Operand.tmp 47), _, _, _, _⟩) (x := .pointer (some ⟨g, off + (i - 1) * 5, none⟩)) rfl hw (by clear hA HS hN hO hX hD5 hK hT; simp only [execOp]; go_simp) ⟨_, rfl, (fun h => by cases h), (Rg.zk hP).symm, hI, fun _ _ _ _ h => h⟩
  ·intro ll bb w' hs hlf hN hO hf hI hA
   clear hi'
   have qg : bb.tmps[41]? = some (cond (true && (((!th) || (!(je x d))) == false)) (.bool (decide ((0 : Int) < (i : Int)))) undef) := hf.tmp (k := 15) rfl (by rw [ha]; decide) (hA 15 (by kernel_rfl))
   cases hP : ((true && (((!th) || (!(je x d))) == false)) && ((decide ((0 : Int) < (i : Int))) == true)) with
   | false => exact Rg.zq (o := ⟨some 49, _, _, _, _, _⟩) rfl (Rg.zy (g := 15) rfl rfl qg hP) ⟨_, rfl, (fun h => by cases h), Rg.zu hP, hI, fun _ _ _ _ h => h⟩
   | true =>
    have hw := Rg.zx (ops := (Rg.opsOf Tryz.f32 7)) (o := (Rg.opsOf Tryz.f32 7)[23]'(by rw [vk]; decide)) (g := 15) rfl rfl qg hP
    have g1 := Rg.zn hP
    have p1 := Rg.ku hP
    have g0 := Rg.zn p1
    have q48 : bb.tmps[48]? = some (.pointer (some ⟨g, off + (i - 1) * 5, none⟩)) := hf.tmp (k := 22) rfl (by rw [ha]; decide) (Eq.trans (hA 22 (by kernel_rfl)) (Rg.zk hP))
    exact Rg.zf (o := ⟨some 49, Op.fieldAddr 35 (Operand.tmp 48) 2, _, _, _, _⟩) (x := .pointer (some ⟨g, off + (i - 1) * 5 + 2, none⟩)) rfl hw (by clear hA HS hN hO hX hD5 hK hT; simp only [execOp]; go_simp) ⟨_, rfl, (fun h => by cases h), (Rg.zk hP).symm, hI, fun _ _ _ _ h => h⟩
  ·intro ll bb w' hs hlf hN hO hf hI hA
   clear hi'
   have qg : bb.tmps[41]? = some (cond (true && (((!th) || (!(je x d))) == false)) (.bool (decide ((0 : Int) < (i : Int)))) undef) := hf.tmp (k := 15) rfl (by rw [ha]; decide) (hA 15 (by kernel_rfl))
   cases hP : ((true && (((!th) || (!(je x d))) == false)) && ((decide ((0 : Int) < (i : Int))) == true)) with
   | false => exact Rg.zq (o := ⟨some 50, _, _, _, _, _⟩) rfl (Rg.zy (g := 15) rfl rfl qg hP) ⟨_, rfl, (fun h => by cases h), Rg.zu hP, hI, fun _ _ _ _ h => h⟩
   | true =>
    have hw := Rg.zx (ops := (Rg.opsOf Tryz.f32 7)) (o := (Rg.opsOf Tryz.f32 7)[24]'(by rw [vk]; decide)) (g := 15) rfl rfl qg hP
    have g1 := Rg.zn hP
    have p1 := Rg.ku hP
    have g0 := Rg.zn p1
    have q49 : bb.tmps[49]? = some (.pointer (some ⟨g, off + (i - 1) * 5 + 2, none⟩)) := hf.tmp (k := 23) rfl (by rw [ha]; decide) (Eq.trans (hA 23 (by kernel_rfl)) (Rg.zk hP))
    have hi0 : 0 < i := by have := g1; simp at this; omega
    have e9 := (hI.cell (p := ⟨g, off + (i - 1) * 5 + 2, none⟩) hgl).trans (y2 hi0)
    exact Rg.zf (o := ⟨some 50, Op.load 2 (Operand.tmp 49), _, _, _, _⟩) (x := .int .i64 ym) rfl hw (by clear hA HS hN hO hX hD5 hK hT; simp only [execOp]; go_simp) ⟨_, rfl, (fun h => by cases h), (Rg.zk hP).symm, hI, fun _ _ _ _ h => h⟩
  ·intro ll bb w' hs hlf hN hO hf hI hA
   clear hi'
   have qg : bb.tmps[41]? = some (cond (true && (((!th) || (!(je x d))) == false)) (.bool (decide ((0 : Int) < (i : Int)))) undef) := hf.tmp (k := 15) rfl (by rw [ha]; decide) (hA 15 (by kernel_rfl))
   cases hP : ((true && (((!th) || (!(je x d))) == false)) && ((decide ((0 : Int) < (i : Int))) == true)) with
   | false => exact Rg.zq (o := ⟨some 51, _, _, _, _, _⟩) rfl (Rg.zy (g := 15) rfl rfl qg hP) ⟨_, rfl, (fun h => by cases h), Rg.zu hP, hI, fun _ _ _ _ h => h⟩
   | true =>
    have hw := Rg.zx (ops := (Rg.opsOf Tryz.f32 7)) (o := (Rg.opsOf Tryz.f32 7)[25]'(by rw [vk]; decide)) (g := 15) rfl rfl qg hP
    have g1 := Rg.zn hP
    have p1 := Rg.ku hP
    have g0 := Rg.zn p1
    have q43 : bb.tmps[43]? = some (.int .i64 d.m) := hf.tmp (k := 17) rfl (by rw [ha]; decide) (Eq.trans (hA 17 (by kernel_rfl)) (Rg.zk hP))
    have q50 : bb.tmps[50]? = some (.int .i64 ym) := hf.tmp (k := 24) rfl (by rw [ha]; decide) (Eq.trans (hA 24 (by kernel_rfl)) (Rg.zk hP))
    exact Rg.zf (o := ⟨some 51, Op.binOp BinOp.lss 2 (Operand.tmp 43) (Operand.tmp 50) 2, _, _, _, _⟩) (x := .bool (decide (d.m < ym))) rfl hw (by clear hA HS hN hO hX hD5 hK hT; simp only [execOp]; go_simp) ⟨_, rfl, (fun h => by cases h), (Rg.zk hP).symm, hI, fun _ _ _ _ h => h⟩
  ·intro ll bb w' hs hlf hN hO hf hI hA
   clear hi'
   have qg : bb.tmps[38]? = some (cond true (.bool ((!th) || (!(je x d)))) undef) := hf.tmp (k := 12) rfl (by rw [ha]; decide) (hA 12 (by kernel_rfl))
   cases hP : (true && (((!th) || (!(je x d))) == false)) with
   | false => exact Rg.zq (o := ⟨some 52, _, _, _, _, _⟩) rfl (Rg.zy (g := 12) rfl rfl qg hP) ⟨_, rfl, (fun h => by cases h), Rg.zu hP, hI, fun _ _ _ _ h => h⟩
   | true =>
    have hw := Rg.zx (ops := (Rg.opsOf Tryz.f32 7)) (o := (Rg.opsOf Tryz.f32 7)[26]'(by rw [vk]; decide)) (g := 12) rfl rfl qg hP
    have g0 := Rg.zn hP
    have q41 : bb.tmps[41]? = some (.bool (decide ((0 : Int) < (i : Int)))) := hf.tmp (k := 15) rfl (by rw [ha]; decide) (Eq.trans (hA 15 (by kernel_rfl)) (Rg.zk hP))
    cases hC : (decide ((0 : Int) < (i : Int))) with
    | false =>
     have hval : ((.bool ((decide ((0 : Int) < (i : Int))) && (decide (d.m < ym))) : Value)) = .bool false := by rw [hC]; rfl
     exact Rg.zf (o := ⟨some 52, Op.pick (Operand.tmp 41) (Operand.tmp 51) (Operand.const (Value.bool false)), _, _, _, _⟩) (x := .bool false) rfl hw (by rw [hC] at q41; clear hA HS hN hO hX hD5 hK hT hval; simp only [execOp]; go_simp) ⟨_, rfl, (fun h => by cases h), (by show ((.bool false : Value)) = _; exact hval.symm.trans (Rg.zk hP).symm), hI, fun _ _ _ _ h => h⟩
    | true =>
     have hB : ((true && (((!th) || (!(je x d))) == false)) && ((decide ((0 : Int) < (i : Int))) == true)) = true := by
      rw [hC]; first | rfl | (rw [hP]; rfl) | simp_all
     have q51 : bb.tmps[51]? = some (.bool (decide (d.m < ym))) := hf.tmp (k := 25) rfl (by rw [ha]; decide) (Eq.trans (hA 25 (by kernel_rfl)) (Rg.zk hB))
     have hval : ((.bool ((decide ((0 : Int) < (i : Int))) && (decide (d.m < ym))) : Value)) = .bool (decide (d.m < ym)) := by rw [hC]; rfl
     exact Rg.zf (o := ⟨some 52, Op.pick (Operand.tmp 41) (Operand.tmp 51) (Operand.const (Value.bool false)), _, _, _, _⟩) (x := .bool (decide (d.m < ym))) rfl hw (by rw [hC] at q41; clear hA HS hN hO hX hD5 hK hT hval; simp only [execOp]; go_simp) ⟨_, rfl, (fun h => by cases h), (by show ((.bool (decide (d.m < ym)) : Value)) = _; exact hval.symm.trans (Rg.zk hP).symm), hI, fun _ _ _ _ h => h⟩
  ·intro ll bb w' hs hlf hN hO hf hI hA
   clear hi'
   have q38 : bb.tmps[38]? = some _ := hf.tmp (k := 12) rfl (by rw [ha]; decide) (hA 12 (by kernel_rfl))
   cases hC : ((!th) || (!(je x d))) with
   | false =>
    have hB : (true && (((!th) || (!(je x d))) == false)) = true := by rw [hC]; rfl
    have q52 : bb.tmps[52]? = some (.bool ((decide ((0 : Int) < (i : Int))) && (decide (d.m < ym)))) := hf.tmp (k := 26) rfl (by rw [ha]; decide) (Eq.trans (hA 26 (by kernel_rfl)) (Rg.zk hB))
    have hval : ((.bool (((!th) || (!(je x d))) || ((decide ((0 : Int) < (i : Int))) && (decide (d.m < ym)))) : Value)) = .bool ((decide ((0 : Int) < (i : Int))) && (decide (d.m < ym))) := by rw [hC]; rfl
    exact Rg.zf (o := ⟨some 53, Op.pick (Operand.tmp 38) (Operand.const (Value.bool true)) (Operand.tmp 52), _, _, _, _⟩) (x := .bool ((decide ((0 : Int) < (i : Int))) && (decide (d.m < ym)))) rfl rfl (by rw [hC] at q38; clear hA HS hN hO hX hD5 hK hT hval; simp only [execOp]; go_simp) ⟨_, rfl, (fun h => by cases h), (by show ((.bool ((decide ((0 : Int) < (i : Int))) && (decide (d.m < ym))) : Value)) = _; exact hval.symm), hI, fun _ _ _ _ h => h⟩
   | true =>
    have hval : ((.bool (((!th) || (!(je x d))) || ((decide ((0 : Int) < (i : Int))) && (decide (d.m < ym)))) : Value)) = .bool true := by rw [hC]; rfl
    exact Rg.zf (o := ⟨some 53, Op.pick (Operand.tmp 38) (Operand.const (Value.bool true)) (Operand.tmp 52), _, _, _, _⟩) (x := .bool true) rfl rfl (by rw [hC] at q38; clear hA HS hN hO hX hD5 hK hT hval; simp only [execOp]; go_simp) ⟨_, rfl, (fun h => by cases h), (by show ((.bool true : Value)) = _; exact hval.symm), hI, fun _ _ _ _ h => h⟩
theorem layP7 {a b : Act} (hf : Rg.Fr (Rg.opsOf Tryz.f32 7) a b) : b = Rg.fl (Rg.opsOf Tryz.f32 7) b 0 [some 26, some 27, some 28, some 29, some 30, some 31, some 32, some 33, some 34, some 35, some 36, some 37, some 38, some 39, some 40, some 41, some 42, some 43, some 44, some 45, some 46, some 47, some 48, some 49, some 50, some 51, some 52, some 53] a := Rg.ql _ (by kernel_rfl) hf
end Go.Proofs.YtjlpfpigggdemaaGreatDoor
