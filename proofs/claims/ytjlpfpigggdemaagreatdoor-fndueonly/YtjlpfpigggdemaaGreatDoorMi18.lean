/-
 Merged: Uc1.
-/
import Derived.Test.YtjlpfpigggdemaaGreatDoorMi2
import Derived.Test.YtjlpfpigggdemaaGreatDoorMi11
namespace Go.Proofs.YtjlpfpigggdemaaGreatDoor
set_option maxRecDepth 8000
set_option maxHeartbeats 4000000
open Go.RowKit Va Uo
set_option linter.all false
def FC6 (CB g off n cap i : Nat) (sd : Value) (x : Od) (yid : Int) (i9 : Nat) (v : Value) (w : World) : Prop :=
 match i9 with
 | 0 => v = .pointer (some ⟨CB, 0, none⟩)
 | 1 => v = .slice (some ⟨g, off, none⟩) n cap
 | 2 => v = .int .i64 (i : Nat)
 | 3 => v = .pointer (some ⟨g, off + i * 9, none⟩)
 | 4 => v = .agg #[.int .i64 x.id, .int .i64 x.p, .int .i64 x.d, .int .i64 x.n, .int .i64 x.f, .int .i64 x.e, .int .i64 x.c, .int .i64 x.s, .bool x.two]
 | 5 => v = .bool (odB x)
 | 6 => v = .bool (!(odB x))
 | 7 => v = .bool (!(odB x))
 | 8 => v = cond (true && ((!(odB x)) == false)) (.int .i64 (i : Nat)) undef
 | 9 => v = cond (true && ((!(odB x)) == false)) (.bool (decide ((0 : Int) < (i : Int)))) undef
 | 10 => v = cond (true && ((!(odB x)) == false)) (.bool (decide ((0 : Int) < (i : Int)))) undef
 | 11 => v = cond ((true && ((!(odB x)) == false)) && ((decide ((0 : Int) < (i : Int))) == true)) (.pointer (some ⟨CB, 0, none⟩)) undef
 | 12 => v = cond ((true && ((!(odB x)) == false)) && ((decide ((0 : Int) < (i : Int))) == true)) (.slice (some ⟨g, off, none⟩) n cap) undef
 | 13 => v = cond ((true && ((!(odB x)) == false)) && ((decide ((0 : Int) < (i : Int))) == true)) (.int .i64 (i : Nat)) undef
 | 14 => v = cond ((true && ((!(odB x)) == false)) && ((decide ((0 : Int) < (i : Int))) == true)) (.pointer (some ⟨g, off + i * 9, none⟩)) undef
 | 15 => v = cond ((true && ((!(odB x)) == false)) && ((decide ((0 : Int) < (i : Int))) == true)) (.pointer (some ⟨g, off + i * 9, none⟩)) undef
 | 16 => v = cond ((true && ((!(odB x)) == false)) && ((decide ((0 : Int) < (i : Int))) == true)) (.int .i64 x.id) undef
 | 17 => v = cond ((true && ((!(odB x)) == false)) && ((decide ((0 : Int) < (i : Int))) == true)) (.pointer (some ⟨CB, 0, none⟩)) undef
 | 18 => v = cond ((true && ((!(odB x)) == false)) && ((decide ((0 : Int) < (i : Int))) == true)) (.slice (some ⟨g, off, none⟩) n cap) undef
 | 19 => v = cond ((true && ((!(odB x)) == false)) && ((decide ((0 : Int) < (i : Int))) == true)) (.int .i64 (i : Nat)) undef
 | 20 => v = cond ((true && ((!(odB x)) == false)) && ((decide ((0 : Int) < (i : Int))) == true)) (.int .i64 ((i - 1 : Nat) : Int)) undef
 | 21 => v = cond ((true && ((!(odB x)) == false)) && ((decide ((0 : Int) < (i : Int))) == true)) (.pointer (some ⟨g, off + (i - 1) * 9, none⟩)) undef
 | 22 => v = cond ((true && ((!(odB x)) == false)) && ((decide ((0 : Int) < (i : Int))) == true)) (.pointer (some ⟨g, off + (i - 1) * 9, none⟩)) undef
 | 23 => v = cond ((true && ((!(odB x)) == false)) && ((decide ((0 : Int) < (i : Int))) == true)) (.int .i64 yid) undef
 | 24 => v = cond ((true && ((!(odB x)) == false)) && ((decide ((0 : Int) < (i : Int))) == true)) (.bool (decide (x.id <= yid))) undef
 | 25 => v = cond (true && ((!(odB x)) == false)) (.bool ((decide ((0 : Int) < (i : Int))) && (decide (x.id <= yid)))) undef
 | 26 => v = .bool ((!(odB x)) || ((decide ((0 : Int) < (i : Int))) && (decide (x.id <= yid))))
 | _ => True
theorem yf : (Rg.opsOf Tryz.f22 6).size = 27 := by kernel_rfl
set_option maxRecDepth 20000 in
set_option maxHeartbeats 16000000 in
theorem regC6 {Q : Exit -> Act -> World -> Prop} {a : Act} {w9 : World} {CB g off n cap i : Nat} {sd : Value} {x : Od} {yid : Int} (ha : a.tmps.size = 162)
  (k1 : a.tmps[1]? = some (.pointer (some ⟨CB, 0, none⟩))) (k3 : a.tmps[3]? = some (.int .i64 (i : Nat))) (hX : PB w9 CB #[.slice (some ⟨g, off, none⟩) n cap, sd] 27) (hin : i < n) (hil : i < 1000000) (hgl : g < w9.heap.size) (x0 : w9.cell? ⟨g, off + i * 9, none⟩ = some (.int .i64 x.id)) (x1 : w9.cell? ⟨g, off + i * 9 + 1, none⟩ = some (.int .i64 x.p)) (x2 : w9.cell? ⟨g, off + i * 9 + 2, none⟩ = some (.int .i64 x.d)) (x3 : w9.cell? ⟨g, off + i * 9 + 3, none⟩ = some (.int .i64 x.n)) (x4 : w9.cell? ⟨g, off + i * 9 + 4, none⟩ = some (.int .i64 x.f)) (x5 : w9.cell? ⟨g, off + i * 9 + 5, none⟩ = some (.int .i64 x.e)) (x6 : w9.cell? ⟨g, off + i * 9 + 6, none⟩ = some (.int .i64 x.c)) (x7 : w9.cell? ⟨g, off + i * 9 + 7, none⟩ = some (.int .i64 x.s)) (x8 : w9.cell? ⟨g, off + i * 9 + 8, none⟩ = some (.bool x.two)) (y0 : 0 < i -> w9.cell? ⟨g, off + (i - 1) * 9, none⟩ = some (.int .i64 yid)) (hK : ∀ W, Calls Tryz.prog 36 #[.agg #[.int .i64 x.id, .int .i64 x.p, .int .i64 x.d, .int .i64 x.n, .int .i64 x.f, .int .i64 x.e, .int .i64 x.c, .int .i64 x.s, .bool x.two]] W fun e W' => e = .returned (.bool (odB x)) /\ Below W.heap.size W W')
  (hend : ∀ b' w', Rg.Fr (Rg.opsOf Tryz.f22 6) a b' -> Below w9.heap.size w9 w' -> Rg.out (Rg.opsOf Tryz.f22 6) b' 26 = .bool ((!(odB x)) || ((decide ((0 : Int) < (i : Int))) && (decide (x.id <= yid)))) -> Q .normal b' w') :
  (Code.region 6 (Rg.opsOf Tryz.f22 6) true).wp Tryz.prog Q a w9 := by
 refine Rg.zcq (by kernel_rfl) (fun _ w' => Below w9.heap.size w9 w') (FC6 CB g off n cap i sd x yid) (by rw [ha, yf]; kernel_rfl) (jq (Below.refl _ _)) ?_ ?_
 case refine_2 =>
  intro l b' w' hf hall hI hA
  rw [yf] at hA
  exact hend b' w' hf hI (hA 26 (by decide))
 case refine_1 =>
  clear hend
  have HS : ∀ {w w' : World}, Below w.heap.size w w' -> ∀ k9 y9, FC6 CB g off n cap i sd x yid k9 y9 w -> FC6 CB g off n cap i sd x yid k9 y9 w' := fun hb k9 y9 h => by
   unfold FC6 at *
   split at h <;> exact h
  intro i' hi'
  rw [yf] at hi'
  rcases (show i' = 0 ∨ i' = 1 ∨ i' = 2 ∨ i' = 3 ∨ i' = 4 ∨ i' = 5 ∨ i' = 6 ∨ i' = 7 ∨ i' = 8 ∨ i' = 9 ∨ i' = 10 ∨ i' = 11 ∨ i' = 12 ∨ i' = 13 ∨ i' = 14 ∨ i' = 15 ∨ i' = 16 ∨ i' = 17 ∨ i' = 18 ∨ i' = 19 ∨ i' = 20 ∨ i' = 21 ∨ i' = 22 ∨ i' = 23 ∨ i' = 24 ∨ i' = 25 ∨ i' = 26 by omega) with rfl | rfl | rfl | rfl | rfl | rfl | rfl | rfl | rfl | rfl | rfl | rfl | rfl | rfl | rfl | rfl | rfl | rfl | rfl | rfl | rfl | rfl | rfl | rfl | rfl | rfl | rfl
  ·intro ll bb w' hs hlf hN hO hf hI hA
   clear hi'
   have q1 := hf.kept (s := 1) (by rw [yf]; kernel_rfl) k1
   exact Rg.zf (o := ⟨some 26, Op.fieldAddr 27 (Operand.tmp 1) 0, _, _, _, _⟩) (x := .pointer (some ⟨CB, 0, none⟩)) rfl rfl (by clear hA HS hN hO hX hK; simp only [execOp]; go_simp) ⟨_, rfl, (fun h => by cases h), rfl, hI, fun _ _ _ _ h => h⟩
  ·intro ll bb w' hs hlf hN hO hf hI hA
   clear hi'
   have q26 : bb.tmps[26]? = some _ := hf.tmp (k := 0) rfl (by rw [ha]; decide) (hA 0 (by kernel_rfl))
   obtain ⟨b0, b1⟩ := (hX.below hI).two
   exact Rg.zf (o := ⟨some 27, Op.load 24 (Operand.tmp 26), _, _, _, _⟩) (x := .slice (some ⟨g, off, none⟩) n cap) rfl rfl (by clear hA HS hN hO hX hK; simp only [execOp]; go_simp) ⟨_, rfl, (fun h => by cases h), rfl, hI, fun _ _ _ _ h => h⟩
  ·intro ll bb w' hs hlf hN hO hf hI hA
   clear hi'
   have q0 := hf.kept (s := 3) (by rw [yf]; kernel_rfl) k3
   exact Rg.zf (o := ⟨some 28, Op.move (Operand.tmp 3), _, _, _, _⟩) (x := .int .i64 (i : Nat)) rfl rfl (by clear hA HS hN hO hX hK; simp only [execOp]; go_simp) ⟨_, rfl, (fun h => by cases h), rfl, hI, fun _ _ _ _ h => h⟩
  ·intro ll bb w' hs hlf hN hO hf hI hA
   clear hi'
   have q27 : bb.tmps[27]? = some _ := hf.tmp (k := 1) rfl (by rw [ha]; decide) (hA 1 (by kernel_rfl))
   have q28 : bb.tmps[28]? = some _ := hf.tmp (k := 2) rfl (by rw [ha]; decide) (hA 2 (by kernel_rfl))
   have hin2 : (i : Int) < (n : Int) := by omega
   exact Rg.zf (o := ⟨some 29, Op.indexAddr 24 (Operand.tmp 27) (Operand.tmp 28), _, _, _, _⟩) (x := .pointer (some ⟨g, off + i * 9, none⟩)) rfl rfl (by clear hA HS hN hO hX hK; simp only [execOp]; go_simp) ⟨_, rfl, (fun h => by cases h), rfl, hI, fun _ _ _ _ h => h⟩
  ·intro ll bb w' hs hlf hN hO hf hI hA
   clear hi'
   have q29 : bb.tmps[29]? = some _ := hf.tmp (k := 3) rfl (by rw [ha]; decide) (hA 3 (by kernel_rfl))
   have e0 := (hI.cell (p := ⟨g, off + i * 9, none⟩) hgl).trans x0
   have e1 := (hI.cell (p := ⟨g, off + i * 9 + 1, none⟩) hgl).trans x1
   have e2 := (hI.cell (p := ⟨g, off + i * 9 + 2, none⟩) hgl).trans x2
   have e3 := (hI.cell (p := ⟨g, off + i * 9 + 3, none⟩) hgl).trans x3
   have e4 := (hI.cell (p := ⟨g, off + i * 9 + 4, none⟩) hgl).trans x4
   have e5 := (hI.cell (p := ⟨g, off + i * 9 + 5, none⟩) hgl).trans x5
   have e6 := (hI.cell (p := ⟨g, off + i * 9 + 6, none⟩) hgl).trans x6
   have e7 := (hI.cell (p := ⟨g, off + i * 9 + 7, none⟩) hgl).trans x7
   have e8 := (hI.cell (p := ⟨g, off + i * 9 + 8, none⟩) hgl).trans x8
   exact Rg.zf (o := ⟨some 30, Op.load 38 (Operand.tmp 29), _, _, _, _⟩) (x := .agg #[.int .i64 x.id, .int .i64 x.p, .int .i64 x.d, .int .i64 x.n, .int .i64 x.f, .int .i64 x.e, .int .i64 x.c, .int .i64 x.s, .bool x.two]) rfl rfl (by clear hA HS hN hO hX hK; simp only [execOp]; go_simp) ⟨_, rfl, (fun h => by cases h), rfl, hI, fun _ _ _ _ h => h⟩
  ·intro ll bb w' hs hlf hN hO hf hI hA
   clear hi'
   have q30 : bb.tmps[30]? = some _ := hf.tmp (k := 4) rfl (by rw [ha]; decide) (hA 4 (by kernel_rfl))
   refine Rg.jr (o := ⟨some 31, Op.call { callee := Callee.value (Operand.func 36), args := #[(Operand.tmp 30)], argTypes := _ }, _, _, _, _⟩) rfl rfl (by clear hA HS hN hO hX hK; simp only [execOp, resolve]; go_simp) (hK w') ?_
   rintro e w2 ⟨rfl, hb2⟩
   exact ⟨_, rfl, _, rfl, (fun h => by cases h), rfl, onto hI hb2, fun k9 y9 _ _ h => HS hb2 k9 y9 h⟩
  ·intro ll bb w' hs hlf hN hO hf hI hA
   clear hi'
   have q31 : bb.tmps[31]? = some _ := hf.tmp (k := 5) rfl (by rw [ha]; decide) (hA 5 (by kernel_rfl))
   exact Rg.zf (o := ⟨some 32, Op.unOp UnOp.not 4 (Operand.tmp 31), _, _, _, _⟩) (x := .bool (!(odB x))) rfl rfl (by clear hA HS hN hO hX hK; simp only [execOp]; go_simp) ⟨_, rfl, (fun h => by cases h), rfl, hI, fun _ _ _ _ h => h⟩
  ·intro ll bb w' hs hlf hN hO hf hI hA
   clear hi'
   have q32 : bb.tmps[32]? = some _ := hf.tmp (k := 6) rfl (by rw [ha]; decide) (hA 6 (by kernel_rfl))
   exact Rg.zf (o := ⟨some 33, Op.move (Operand.tmp 32), _, _, _, _⟩) (x := .bool (!(odB x))) rfl rfl (by clear hA HS hN hO hX hK; simp only [execOp]; go_simp) ⟨_, rfl, (fun h => by cases h), rfl, hI, fun _ _ _ _ h => h⟩
  ·intro ll bb w' hs hlf hN hO hf hI hA
   clear hi'
   have qg : bb.tmps[33]? = some (cond true (.bool (!(odB x))) undef) := hf.tmp (k := 7) rfl (by rw [ha]; decide) (hA 7 (by kernel_rfl))
   cases hP : (true && ((!(odB x)) == false)) with
   | false => exact Rg.zq (o := ⟨some 34, _, _, _, _, _⟩) rfl (Rg.zy (g := 7) rfl rfl qg hP) ⟨_, rfl, (fun h => by cases h), Rg.zu hP, hI, fun _ _ _ _ h => h⟩
   | true =>
    have hw := Rg.zx (ops := (Rg.opsOf Tryz.f22 6)) (o := (Rg.opsOf Tryz.f22 6)[8]'(by rw [yf]; decide)) (g := 7) rfl rfl qg hP
    have g0 := Rg.zn hP
    have q0 := hf.kept (s := 3) (by rw [yf]; kernel_rfl) k3
    exact Rg.zf (o := ⟨some 34, Op.move (Operand.tmp 3), _, _, _, _⟩) (x := .int .i64 (i : Nat)) rfl hw (by clear hA HS hN hO hX hK; simp only [execOp]; go_simp) ⟨_, rfl, (fun h => by cases h), (Rg.zk hP).symm, hI, fun _ _ _ _ h => h⟩
  ·intro ll bb w' hs hlf hN hO hf hI hA
   clear hi'
   have qg : bb.tmps[33]? = some (cond true (.bool (!(odB x))) undef) := hf.tmp (k := 7) rfl (by rw [ha]; decide) (hA 7 (by kernel_rfl))
   cases hP : (true && ((!(odB x)) == false)) with
   | false => exact Rg.zq (o := ⟨some 35, _, _, _, _, _⟩) rfl (Rg.zy (g := 7) rfl rfl qg hP) ⟨_, rfl, (fun h => by cases h), Rg.zu hP, hI, fun _ _ _ _ h => h⟩
   | true =>
    have hw := Rg.zx (ops := (Rg.opsOf Tryz.f22 6)) (o := (Rg.opsOf Tryz.f22 6)[9]'(by rw [yf]; decide)) (g := 7) rfl rfl qg hP
    have g0 := Rg.zn hP
    have q34 : bb.tmps[34]? = some (.int .i64 (i : Nat)) := hf.tmp (k := 8) rfl (by rw [ha]; decide) (Eq.trans (hA 8 (by kernel_rfl)) (Rg.zk hP))
    exact Rg.zf (o := ⟨some 35, Op.binOp BinOp.gtr 3 (Operand.tmp 34) (Operand.const (Value.int .i64 0)) 3, _, _, _, _⟩) (x := .bool (decide ((0 : Int) < (i : Int)))) rfl hw (by clear hA HS hN hO hX hK; simp only [execOp]; go_simp) ⟨_, rfl, (fun h => by cases h), (Rg.zk hP).symm, hI, fun _ _ _ _ h => h⟩
  ·intro ll bb w' hs hlf hN hO hf hI hA
   clear hi'
   have qg : bb.tmps[33]? = some (cond true (.bool (!(odB x))) undef) := hf.tmp (k := 7) rfl (by rw [ha]; decide) (hA 7 (by kernel_rfl))
   cases hP : (true && ((!(odB x)) == false)) with
   | false => exact Rg.zq (o := ⟨some 36, _, _, _, _, _⟩) rfl (Rg.zy (g := 7) rfl rfl qg hP) ⟨_, rfl, (fun h => by cases h), Rg.zu hP, hI, fun _ _ _ _ h => h⟩
   | true =>
    have hw := Rg.zx (ops := (Rg.opsOf Tryz.f22 6)) (o := (Rg.opsOf Tryz.f22 6)[10]'(by rw [yf]; decide)) (g := 7) rfl rfl qg hP
    have g0 := Rg.zn hP
    have q35 : bb.tmps[35]? = some (.bool (decide ((0 : Int) < (i : Int)))) := hf.tmp (k := 9) rfl (by rw [ha]; decide) (Eq.trans (hA 9 (by kernel_rfl)) (Rg.zk hP))
    exact Rg.zf (o := ⟨some 36, Op.move (Operand.tmp 35), _, _, _, _⟩) (x := .bool (decide ((0 : Int) < (i : Int)))) rfl hw (by clear hA HS hN hO hX hK; simp only [execOp]; go_simp) ⟨_, rfl, (fun h => by cases h), (Rg.zk hP).symm, hI, fun _ _ _ _ h => h⟩
  ·intro ll bb w' hs hlf hN hO hf hI hA
   clear hi'
   have qg : bb.tmps[36]? = some (cond (true && ((!(odB x)) == false)) (.bool (decide ((0 : Int) < (i : Int)))) undef) := hf.tmp (k := 10) rfl (by rw [ha]; decide) (hA 10 (by kernel_rfl))
   cases hP : ((true && ((!(odB x)) == false)) && ((decide ((0 : Int) < (i : Int))) == true)) with
   | false => exact Rg.zq (o := ⟨some 37, _, _, _, _, _⟩) rfl (Rg.zy (g := 10) rfl rfl qg hP) ⟨_, rfl, (fun h => by cases h), Rg.zu hP, hI, fun _ _ _ _ h => h⟩
   | true =>
    have hw := Rg.zx (ops := (Rg.opsOf Tryz.f22 6)) (o := (Rg.opsOf Tryz.f22 6)[11]'(by rw [yf]; decide)) (g := 10) rfl rfl qg hP
    have g1 := Rg.zn hP
    have p1 := Rg.ku hP
    have g0 := Rg.zn p1
    have q1 := hf.kept (s := 1) (by rw [yf]; kernel_rfl) k1
    exact Rg.zf (o := ⟨some 37, Op.fieldAddr 27 (Operand.tmp 1) 0, _, _, _, _⟩) (x := .pointer (some ⟨CB, 0, none⟩)) rfl hw (by clear hA HS hN hO hX hK; simp only [execOp]; go_simp) ⟨_, rfl, (fun h => by cases h), (Rg.zk hP).symm, hI, fun _ _ _ _ h => h⟩
  ·intro ll bb w' hs hlf hN hO hf hI hA
   clear hi'
   have qg : bb.tmps[36]? = some (cond (true && ((!(odB x)) == false)) (.bool (decide ((0 : Int) < (i : Int)))) undef) := hf.tmp (k := 10) rfl (by rw [ha]; decide) (hA 10 (by kernel_rfl))
   cases hP : ((true && ((!(odB x)) == false)) && ((decide ((0 : Int) < (i : Int))) == true)) with
   | false => exact Rg.zq (o := ⟨some 38, _, _, _, _, _⟩) rfl (Rg.zy (g := 10) rfl rfl qg hP) ⟨_, rfl, (fun h => by cases h), Rg.zu hP, hI, fun _ _ _ _ h => h⟩
   | true =>
    have hw := Rg.zx (ops := (Rg.opsOf Tryz.f22 6)) (o := (Rg.opsOf Tryz.f22 6)[12]'(by rw [yf]; decide)) (g := 10) rfl rfl qg hP
    have g1 := Rg.zn hP
    have p1 := Rg.ku hP
    have g0 := Rg.zn p1
    have q37 : bb.tmps[37]? = some (.pointer (some ⟨CB, 0, none⟩)) := hf.tmp (k := 11) rfl (by rw [ha]; decide) (Eq.trans (hA 11 (by kernel_rfl)) (Rg.zk hP))
    obtain ⟨b0, b1⟩ := (hX.below hI).two
    exact Rg.zf (o := ⟨some 38, Op.load 24 (Operand.tmp 37), _, _, _, _⟩) (x := .slice (some ⟨g, off, none⟩) n cap) rfl hw (by clear hA HS hN hO hX hK; simp only [execOp]; go_simp) ⟨_, rfl, (fun h => by cases h), (Rg.zk hP).symm, hI, fun _ _ _ _ h => h⟩
  ·intro ll bb w' hs hlf hN hO hf hI hA
   clear hi'
   have qg : bb.tmps[36]? = some (cond (true && ((!(odB x)) == false)) (.bool (decide ((0 : Int) < (i : Int)))) undef) := hf.tmp (k := 10) rfl (by rw [ha]; decide) (hA 10 (by kernel_rfl))
   cases hP : ((true && ((!(odB x)) == false)) && ((decide ((0 : Int) < (i : Int))) == true)) with
   | false => exact Rg.zq (o := ⟨some 39, _, _, _, _, _⟩) rfl (Rg.zy (g := 10) rfl rfl qg hP) ⟨_, rfl, (fun h => by cases h), Rg.zu hP, hI, fun _ _ _ _ h => h⟩
   | true =>
    have hw := Rg.zx (ops := (Rg.opsOf Tryz.f22 6)) (o := (Rg.opsOf Tryz.f22 6)[13]'(by rw [yf]; decide)) (g := 10) rfl rfl qg hP
    have g1 := Rg.zn hP
    have p1 := Rg.ku hP
    have g0 := Rg.zn p1
    have q0 := hf.kept (s := 3) (by rw [yf]; kernel_rfl) k3
    exact Rg.zf (o := ⟨some 39, Op.move (Operand.tmp 3), _, _, _, _⟩) (x := .int .i64 (i : Nat)) rfl hw (by clear hA HS hN hO hX hK; simp only [execOp]; go_simp) ⟨_, rfl, (fun h => by cases h), (Rg.zk hP).symm, hI, fun _ _ _ _ h => h⟩
  ·intro ll bb w' hs hlf hN hO hf hI hA
   clear hi'
   have qg : bb.tmps[36]? = some (cond (true && ((!(odB x)) == false)) (.bool (decide ((0 : Int) < (i : Int)))) undef) := hf.tmp (k := 10) rfl (by rw [ha]; decide) (hA 10 (by kernel_rfl))
   cases hP : ((true && ((!(odB x)) == false)) && ((decide ((0 : Int) < (i : Int))) == true)) with
   | false => exact Rg.zq (o := ⟨some 40, _, _, _, _, _⟩) rfl (Rg.zy (g := 10) rfl rfl qg hP) ⟨_, rfl, (fun h => by cases h), Rg.zu hP, hI, fun _ _ _ _ h => h⟩
   | true =>
    have hw := Rg.zx (ops := (Rg.opsOf Tryz.f22 6)) (o := (Rg.opsOf Tryz.f22 6)[14]'(by rw [yf]; decide)) (g := 10) rfl rfl qg hP
    have g1 := Rg.zn hP
    have p1 := Rg.ku hP
    have g0 := Rg.zn p1
    have q38 : bb.tmps[38]? = some (.slice (some ⟨g, off, none⟩) n cap) := hf.tmp (k := 12) rfl (by rw [ha]; decide) (Eq.trans (hA 12 (by kernel_rfl)) (Rg.zk hP))
    have q39 : bb.tmps[39]? = some (.int .i64 (i : Nat)) := hf.tmp (k := 13) rfl (by rw [ha]; decide) (Eq.trans (hA 13 (by kernel_rfl)) (Rg.zk hP))
    have hin2 : (i : Int) < (n : Int) := by omega
    exact Rg.zf (o := ⟨some 40, Op.indexAddr 24 (Operand.tmp 38) (Operand.tmp 39), _, _, _, _⟩) (x := .pointer (some ⟨g, off + i * 9, none⟩)) rfl hw (by clear hA HS hN hO hX hK; simp only [execOp]; go_simp) ⟨_, rfl, (fun h => by cases h), (Rg.zk hP).symm, hI, fun _ _ _ _ h => h⟩
  ·intro ll bb w' hs hlf hN hO hf hI hA
   clear hi'
   have qg : bb.tmps[36]? = some (cond (true && ((!(odB x)) == false)) (.bool (decide ((0 : Int) < (i : Int)))) undef) := hf.tmp (k := 10) rfl (by rw [ha]; decide) (hA 10 (by kernel_rfl))
   cases hP : ((true && ((!(odB x)) == false)) && ((decide ((0 : Int) < (i : Int))) == true)) with
   | false => exact Rg.zq (o := ⟨some 41, _, _, _, _, _⟩) rfl (Rg.zy (g := 10) rfl rfl qg hP) ⟨_, rfl, (fun h => by cases h), Rg.zu hP, hI, fun _ _ _ _ h => h⟩
   | true =>
    have hw := Rg.zx (ops := (Rg.opsOf Tryz.f22 6)) (o := (Rg.opsOf Tryz.f22 6)[15]'(by rw [yf]; decide)) (g := 10) rfl rfl qg hP
    have g1 := Rg.zn hP
    have p1 := Rg.ku hP
    have g0 := Rg.zn p1
    have q40 : bb.tmps[40]? = some (.pointer (some ⟨g, off + i * 9, none⟩)) := hf.tmp (k := 14) rfl (by rw [ha]; decide) (Eq.trans (hA 14 (by kernel_rfl)) (Rg.zk hP))
    exact Rg.zf (o := ⟨some 41, Op.fieldAddr 38 (Operand.tmp 40) 0, _, _, _, _⟩) (x := .pointer (some ⟨g, off + i * 9, none⟩)) rfl hw (by clear hA HS hN hO hX hK; simp only [execOp]; go_simp) ⟨_, rfl, (fun h => by cases h), (Rg.zk hP).symm, hI, fun _ _ _ _ h => h⟩
  ·intro ll bb w' hs hlf hN hO hf hI hA
   clear hi'
   have qg : bb.tmps[36]? = some (cond (true && ((!(odB x)) == false)) (.bool (decide ((0 : Int) < (i : Int)))) undef) := hf.tmp (k := 10) rfl (by rw [ha]; decide) (hA 10 (by kernel_rfl))
   cases hP : ((true && ((!(odB x)) == false)) && ((decide ((0 : Int) < (i : Int))) == true)) with
   | false => exact Rg.zq (o := ⟨some 42, _, _, _, _, _⟩) rfl (Rg.zy (g := 10) rfl rfl qg hP) ⟨_, rfl, (fun h => by cases h), Rg.zu hP, hI, fun _ _ _ _ h => h⟩
   | true =>
    have hw := Rg.zx (ops := (Rg.opsOf Tryz.f22 6)) (o := (Rg.opsOf Tryz.f22 6)[16]'(by rw [yf]; decide)) (g := 10) rfl rfl qg hP
    have g1 := Rg.zn hP
    have p1 := Rg.ku hP
    have g0 := Rg.zn p1
    have q41 : bb.tmps[41]? = some (.pointer (some ⟨g, off + i * 9, none⟩)) := hf.tmp (k := 15) rfl (by rw [ha]; decide) (Eq.trans (hA 15 (by kernel_rfl)) (Rg.zk hP))
    have e9 := (hI.cell (p := ⟨g, off + i * 9, none⟩) hgl).trans x0
    exact Rg.zf (o := ⟨some 42, Op.load 2 (Operand.tmp 41), _, _, _, _⟩) (x := .int .i64 x.id) rfl hw (by clear hA HS hN hO hX hK; simp only [execOp]; go_simp) ⟨_, rfl, (fun h => by cases h), (Rg.zk hP).symm, hI, fun _ _ _ _ h => h⟩
  ·intro ll bb w' hs hlf hN hO hf hI hA
   clear hi'
   have qg : bb.tmps[36]? = some (cond (true && ((!(odB x)) == false)) (.bool (decide ((0 : Int) < (i : Int)))) undef) := hf.tmp (k := 10) rfl (by rw [ha]; decide) (hA 10 (by kernel_rfl))
   cases hP : ((true && ((!(odB x)) == false)) && ((decide ((0 : Int) < (i : Int))) == true)) with
   | false => exact Rg.zq (o := ⟨some 43, _, _, _, _, _⟩) rfl (Rg.zy (g := 10) rfl rfl qg hP) ⟨_, rfl, (fun h => by cases h), Rg.zu hP, hI, fun _ _ _ _ h => h⟩
   | true =>
    have hw := Rg.zx (ops := (Rg.opsOf Tryz.f22 6)) (o := (Rg.opsOf Tryz.f22 6)[17]'(by rw [yf]; decide)) (g := 10) rfl rfl qg hP
    have g1 := Rg.zn hP
    have p1 := Rg.ku hP
    have g0 := Rg.zn p1
    have q1 := hf.kept (s := 1) (by rw [yf]; kernel_rfl) k1
    exact Rg.zf (o := ⟨some 43, Op.fieldAddr 27 (Operand.tmp 1) 0, _, _, _, _⟩) (x := .pointer (some ⟨CB, 0, none⟩)) rfl hw (by clear hA HS hN hO hX hK; simp only [execOp]; go_simp) ⟨_, rfl, (fun h => by cases h), (Rg.zk hP).symm, hI, fun _ _ _ _ h => h⟩
  ·intro ll bb w' hs hlf hN hO hf hI hA
   clear hi'
   have qg : bb.tmps[36]? = some (cond (true && ((!(odB x)) == false)) (.bool (decide ((0 : Int) < (i : Int)))) undef) := hf.tmp (k := 10) rfl (by rw [ha]; decide) (hA 10 (by kernel_rfl))
   cases hP : ((true && ((!(odB x)) == false)) && ((decide ((0 : Int) < (i : Int))) == true)) with
   | false => exact Rg.zq (o := ⟨some 44, _, _, _, _, _⟩) rfl (Rg.zy (g := 10) rfl rfl qg hP) ⟨_, rfl, (fun h => by cases h), Rg.zu hP, hI, fun _ _ _ _ h => h⟩
   | true =>
    have hw := Rg.zx (ops := (Rg.opsOf Tryz.f22 6)) (o := (Rg.opsOf Tryz.f22 6)[18]'(by rw [yf]; decide)) (g := 10) rfl rfl qg hP
    have g1 := Rg.zn hP
    have p1 := Rg.ku hP
    have g0 := Rg.zn p1
    have q43 : bb.tmps[43]? = some (.pointer (some ⟨CB, 0, none⟩)) := hf.tmp (k := 17) rfl (by rw [ha]; decide) (Eq.trans (hA 17 (by kernel_rfl)) (Rg.zk hP))
    obtain ⟨b0, b1⟩ := (hX.below hI).two
    exact Rg.zf (o := ⟨some 44, Op.load 24 (Operand.tmp 43), _, _, _, _⟩) (x := .slice (some ⟨g, off, none⟩) n cap) rfl hw (by clear hA HS hN hO hX hK; simp only [execOp]; go_simp) ⟨_, rfl, (fun h => by cases h), (Rg.zk hP).symm, hI, fun _ _ _ _ h => h⟩
  ·intro ll bb w' hs hlf hN hO hf hI hA
   clear hi'
   have qg : bb.tmps[36]? = some (cond (true && ((!(odB x)) == false)) (.bool (decide ((0 : Int) < (i : Int)))) undef) := hf.tmp (k := 10) rfl (by rw [ha]; decide) (hA 10 (by kernel_rfl))
   cases hP : ((true && ((!(odB x)) == false)) && ((decide ((0 : Int) < (i : Int))) == true)) with
   | false => exact Rg.zq (o := ⟨some 45, _, _, _, _, _⟩) rfl (Rg.zy (g := 10) rfl rfl qg hP) ⟨_, rfl, (fun h => by cases h), Rg.zu hP, hI, fun _ _ _ _ h => h⟩
   | true =>
    have hw := Rg.zx (ops := (Rg.opsOf Tryz.f22 6)) (o := (Rg.opsOf Tryz.f22 6)[19]'(by rw [yf]; decide)) (g := 10) rfl rfl qg hP
    have g1 := Rg.zn hP
    have p1 := Rg.ku hP
    have g0 := Rg.zn p1
    have q0 := hf.kept (s := 3) (by rw [yf]; kernel_rfl) k3
    exact Rg.zf (o := ⟨some 45, Op.move (Operand.tmp 3), _, _, _, _⟩) (x := .int .i64 (i : Nat)) rfl hw (by clear hA HS hN hO hX hK; simp only [execOp]; go_simp) ⟨_, rfl, (fun h => by cases h), (Rg.zk hP).symm, hI, fun _ _ _ _ h => h⟩
  ·intro ll bb w' hs hlf hN hO hf hI hA
   clear hi'
   have qg : bb.tmps[36]? = some (cond (true && ((!(odB x)) == false)) (.bool (decide ((0 : Int) < (i : Int)))) undef) := hf.tmp (k := 10) rfl (by rw [ha]; decide) (hA 10 (by kernel_rfl))
   cases hP : ((true && ((!(odB x)) == false)) && ((decide ((0 : Int) < (i : Int))) == true)) with
   | false => exact Rg.zq (o := ⟨some 46, _, _, _, _, _⟩) rfl (Rg.zy (g := 10) rfl rfl qg hP) ⟨_, rfl, (fun h => by cases h), Rg.zu hP, hI, fun _ _ _ _ h => h⟩
   | true =>
    have hw := Rg.zx (ops := (Rg.opsOf Tryz.f22 6)) (o := (Rg.opsOf Tryz.f22 6)[20]'(by rw [yf]; decide)) (g := 10) rfl rfl qg hP
    have g1 := Rg.zn hP
    have p1 := Rg.ku hP
    have g0 := Rg.zn p1
    have q45 : bb.tmps[45]? = some (.int .i64 (i : Nat)) := hf.tmp (k := 19) rfl (by rw [ha]; decide) (Eq.trans (hA 19 (by kernel_rfl)) (Rg.zk hP))
    have hi0 : 0 < i := by have := g1; simp at this; omega
    have hwr : IntKind.i64.wrap ((i : Int) - 1) = ((i - 1 : Nat) : Int) := by rw [IntKind.wrap_i64]; omega
    exact Rg.zf (o := ⟨some 46, Op.binOp BinOp.sub 3 (Operand.tmp 45) (Operand.const (Value.int .i64 1)) 3, _, _, _, _⟩) (x := .int .i64 ((i - 1 : Nat) : Int)) rfl hw (by clear hA HS hN hO hX hK; simp only [execOp]; go_simp) ⟨_, rfl, (fun h => by cases h), (Rg.zk hP).symm, hI, fun _ _ _ _ h => h⟩
  ·intro ll bb w' hs hlf hN hO hf hI hA
   clear hi'
   have qg : bb.tmps[36]? = some (cond (true && ((!(odB x)) == false)) (.bool (decide ((0 : Int) < (i : Int)))) undef) := hf.tmp (k := 10) rfl (by rw [ha]; decide) (hA 10 (by kernel_rfl))
   cases hP : ((true && ((!(odB x)) == false)) && ((decide ((0 : Int) < (i : Int))) == true)) with
   | false => exact Rg.zq (o := ⟨some 47, _, _, _, _, _⟩) rfl (Rg.zy (g := 10) rfl rfl qg hP) ⟨_, rfl, (fun h => by cases h), Rg.zu hP, hI, fun _ _ _ _ h => h⟩
   | true =>
    have hw := Rg.zx (ops := (Rg.opsOf Tryz.f22 6)) (o := (Rg.opsOf Tryz.f22 6)[21]'(by rw [yf]; decide)) (g := 10) rfl rfl qg hP
    have g1 := Rg.zn hP
    have p1 := Rg.ku hP
    have g0 := Rg.zn p1
    have q44 : bb.tmps[44]? = some (.slice (some ⟨g, off, none⟩) n cap) := hf.tmp (k := 18) rfl (by rw [ha]; decide) (Eq.trans (hA 18 (by kernel_rfl)) (Rg.zk hP))
    have q46 : bb.tmps[46]? = some (.int .i64 ((i - 1 : Nat) : Int)) := hf.tmp (k := 20) rfl (by rw [ha]; decide) (Eq.trans (hA 20 (by kernel_rfl)) (Rg.zk hP))
    have hi0 : 0 < i := by have := g1; simp at this; omega
    have hi3 : ((i - 1 : Nat) : Int) < (n : Int) := by omega
    have hi4 : i - 1 < n := by omega
    exact Rg.zf (o := ⟨some 47, Op.indexAddr 24 (Operand.tmp 44) (Operand.tmp 46), _, _, _, _⟩) (x := .pointer (some ⟨g, off + (i - 1) * 9, none⟩)) rfl hw (by clear hA HS hN hO hX hK; simp only [execOp]; go_simp) ⟨_, rfl, (fun h => by cases h), (Rg.zk hP).symm, hI, fun _ _ _ _ h => h⟩
  ·intro ll bb w' hs hlf hN hO hf hI hA
   clear hi'
   have qg : bb.tmps[36]? = some (cond (true && ((!(odB x)) == false)) (.bool (decide ((0 : Int) < (i : Int)))) undef) := hf.tmp (k := 10) rfl (by rw [ha]; decide) (hA 10 (by kernel_rfl))
   cases hP : ((true && ((!(odB x)) == false)) && ((decide ((0 : Int) < (i : Int))) == true)) with
   | false => exact Rg.zq (o := ⟨some 48, _, _, _, _, _⟩) rfl (Rg.zy (g := 10) rfl rfl qg hP) ⟨_, rfl, (fun h => by cases h), Rg.zu hP, hI, fun _ _ _ _ h => h⟩
   | true =>
    have hw := Rg.zx (ops := (Rg.opsOf Tryz.f22 6)) (o := (Rg.opsOf Tryz.f22 6)[22]'(by rw [yf]; decide)) (g := 10) rfl rfl qg hP
    have g1 := Rg.zn hP
    have p1 := Rg.ku hP
    have g0 := Rg.zn p1
    have q47 : bb.tmps[47]? = some (.pointer (some ⟨g, off + (i - 1) * 9, none⟩)) := hf.tmp (k := 21) rfl (by rw [ha]; decide) (Eq.trans (hA 21 (by kernel_rfl)) (Rg.zk hP))
    exact Rg.zf (o := ⟨some 48, Op.fieldAddr 38 (Operand.tmp 47) 0, _, _, _, _⟩) (x := .pointer (some ⟨g, off + (i - 1) * 9, none⟩)) rfl hw (by clear hA HS hN hO hX hK; simp only [execOp]; go_simp) ⟨_, rfl, (fun h => by cases h), (Rg.zk hP).symm, hI, fun _ _ _ _ h => h⟩
  ·intro ll bb w' hs hlf hN hO hf hI hA
   clear hi'
   have qg : bb.tmps[36]? = some (cond (true && ((!(odB x)) == false)) (.bool (decide ((0 : Int) < (i : Int)))) undef) := hf.tmp (k := 10) rfl (by rw [ha]; decide) (hA 10 (by kernel_rfl))
   cases hP : ((true && ((!(odB x)) == false)) && ((decide ((0 : Int) < (i : Int))) == true)) with
   | false => exact Rg.zq (o := ⟨some 49, _, _, _, _, _⟩) rfl (Rg.zy (g := 10) rfl rfl qg hP) ⟨_, rfl, (fun h => by cases h), Rg.zu hP, hI, fun _ _ _ _ h => h⟩
   | true =>
    have hw := Rg.zx (ops := (Rg.opsOf Tryz.f22 6)) (o := (Rg.opsOf Tryz.f22 6)[23]'(by rw [yf]; decide)) (g := 10) rfl rfl qg hP
    have g1 := Rg.zn hP
    have p1 := Rg.ku hP
    have g0 := Rg.zn p1
    have q48 : bb.tmps[48]? = some (.pointer (some ⟨g, off + (i - 1) * 9, none⟩)) := hf.tmp (k := 22) rfl (by rw [ha]; decide) (Eq.trans (hA 22 (by kernel_rfl)) (Rg.zk hP))
    have hi0 : 0 < i := by have := g1; simp at this; omega
    have e9 := (hI.cell (p := ⟨g, off + (i - 1) * 9, none⟩) hgl).trans (y0 hi0)
    exact Rg.zf (o := ⟨some 49, Op.load 2 (Operand.tmp 48), _, _, _, _⟩) (x := .int .i64 yid) rfl hw (by clear hA HS hN hO hX hK; simp only [execOp]; go_simp) ⟨_, rfl, (fun h => by cases h), (Rg.zk hP).symm, hI, fun _ _ _ _ h => h⟩
  ·intro ll bb w' hs hlf hN hO hf hI hA
   clear hi'
   have qg : bb.tmps[36]? = some (cond (true && ((!(odB x)) == false)) (.bool (decide ((0 : Int) < (i : Int)))) undef) := hf.tmp (k := 10) rfl (by rw [ha]; decide) (hA 10 (by kernel_rfl))
   cases hP : ((true && ((!(odB x)) == false)) && ((decide ((0 : Int) < (i : Int))) == true)) with
   | false => exact Rg.zq (o := ⟨some 50, _, _, _, _, _⟩) rfl (Rg.zy (g := 10) rfl rfl qg hP) ⟨_, rfl, (fun h => by cases h), Rg.zu hP, hI, fun _ _ _ _ h => h⟩
   | true =>
    have hw := Rg.zx (ops := (Rg.opsOf Tryz.f22 6)) (o := (Rg.opsOf Tryz.f22 6)[24]'(by rw [yf]; decide)) (g := 10) rfl rfl qg hP
    have g1 := Rg.zn hP
    have p1 := Rg.ku hP
    have g0 := Rg.zn p1
    have q42 : bb.tmps[42]? = some (.int .i64 x.id) := hf.tmp (k := 16) rfl (by rw [ha]; decide) (Eq.trans (hA 16 (by kernel_rfl)) (Rg.zk hP))
    have q49 : bb.tmps[49]? = some (.int .i64 yid) := hf.tmp (k := 23) rfl (by rw [ha]; decide) (Eq.trans (hA 23 (by kernel_rfl)) (Rg.zk hP))
    exact Rg.zf (o := ⟨some 50, Op.binOp BinOp.leq 2 (Operand.tmp 42) (Operand.tmp 49) 2, _, _, _, _⟩) (x := .bool (decide (x.id <= yid))) rfl hw (by clear hA HS hN hO hX hK; simp only [execOp]; go_simp) ⟨_, rfl, (fun h => by cases h), (Rg.zk hP).symm, hI, fun _ _ _ _ h => h⟩
  ·intro ll bb w' hs hlf hN hO hf hI hA
   clear hi'
   have qg : bb.tmps[33]? = some (cond true (.bool (!(odB x))) undef) := hf.tmp (k := 7) rfl (by rw [ha]; decide) (hA 7 (by kernel_rfl))
   cases hP : (true && ((!(odB x)) == false)) with
   | false => exact Rg.zq (o := ⟨some 51, _, _, _, _, _⟩) rfl (Rg.zy (g := 7) rfl rfl qg hP) ⟨_, rfl, (fun h => by cases h), Rg.zu hP, hI, fun _ _ _ _ h => h⟩
   | true =>
    have hw := Rg.zx (ops := (Rg.opsOf Tryz.f22 6)) (o := (Rg.opsOf Tryz.f22 6)[25]'(by rw [yf]; decide)) (g := 7) rfl rfl qg hP
    have g0 := Rg.zn hP
    have q36 : bb.tmps[36]? = some (.bool (decide ((0 : Int) < (i : Int)))) := hf.tmp (k := 10) rfl (by rw [ha]; decide) (Eq.trans (hA 10 (by kernel_rfl)) (Rg.zk hP))
    cases hC : (decide ((0 : Int) < (i : Int))) with
    | false =>
     have hval : ((.bool ((decide ((0 : Int) < (i : Int))) && (decide (x.id <= yid))) : Value)) = .bool false := by rw [hC]; rfl
     exact Rg.zf (o := ⟨some 51, Op.pick (Operand.tmp 36) (Operand.tmp 50) (Operand.const (Value.bool false)), _, _, _, _⟩) (x := .bool false) rfl hw (by rw [hC] at q36; clear hA HS hN hO hX hK hval; simp only [execOp]; go_simp) ⟨_, rfl, (fun h => by cases h), (by show ((.bool false : Value)) = _; exact hval.symm.trans (Rg.zk hP).symm), hI, fun _ _ _ _ h => h⟩
    | true =>
     have hB : ((true && ((!(odB x)) == false)) && ((decide ((0 : Int) < (i : Int))) == true)) = true := by
      rw [hC]; first | rfl | (rw [hP]; rfl) | simp_all
     have q50 : bb.tmps[50]? = some (.bool (decide (x.id <= yid))) := hf.tmp (k := 24) rfl (by rw [ha]; decide) (Eq.trans (hA 24 (by kernel_rfl)) (Rg.zk hB))
     have hval : ((.bool ((decide ((0 : Int) < (i : Int))) && (decide (x.id <= yid))) : Value)) = .bool (decide (x.id <= yid)) := by rw [hC]; rfl
     exact Rg.zf (o := ⟨some 51, Op.pick (Operand.tmp 36) (Operand.tmp 50) (Operand.const (Value.bool false)), _, _, _, _⟩) (x := .bool (decide (x.id <= yid))) rfl hw (by rw [hC] at q36; clear hA HS hN hO hX hK hval; simp only [execOp]; go_simp) ⟨_, rfl, (fun h => by cases h), (by show ((.bool (decide (x.id <= yid)) : Value)) = _; exact hval.symm.trans (Rg.zk hP).symm), hI, fun _ _ _ _ h => h⟩
  ·intro ll bb w' hs hlf hN hO hf hI hA
   clear hi'
   have q33 : bb.tmps[33]? = some _ := hf.tmp (k := 7) rfl (by rw [ha]; decide) (hA 7 (by kernel_rfl))
   cases hC : (!(odB x)) with
   | false =>
    have hB : (true && ((!(odB x)) == false)) = true := by rw [hC]; rfl
    have q51 : bb.tmps[51]? = some (.bool ((decide ((0 : Int) < (i : Int))) && (decide (x.id <= yid)))) := hf.tmp (k := 25) rfl (by rw [ha]; decide) (Eq.trans (hA 25 (by kernel_rfl)) (Rg.zk hB))
    have hval : ((.bool ((!(odB x)) || ((decide ((0 : Int) < (i : Int))) && (decide (x.id <= yid)))) : Value)) = .bool ((decide ((0 : Int) < (i : Int))) && (decide (x.id <= yid))) := by rw [hC]; rfl
    exact Rg.zf (o := ⟨some 52, Op.pick (Operand.tmp 33) (Operand.const (Value.bool true)) (Operand.tmp 51), _, _, _, _⟩) (x := .bool ((decide ((0 : Int) < (i : Int))) && (decide (x.id <= yid)))) rfl rfl (by rw [hC] at q33; clear hA HS hN hO hX hK hval; simp only [execOp]; go_simp) ⟨_, rfl, (fun h => by cases h), (by show ((.bool ((decide ((0 : Int) < (i : Int))) && (decide (x.id <= yid))) : Value)) = _; exact hval.symm), hI, fun _ _ _ _ h => h⟩
   | true =>
    have hval : ((.bool ((!(odB x)) || ((decide ((0 : Int) < (i : Int))) && (decide (x.id <= yid)))) : Value)) = .bool true := by rw [hC]; rfl
    exact Rg.zf (o := ⟨some 52, Op.pick (Operand.tmp 33) (Operand.const (Value.bool true)) (Operand.tmp 51), _, _, _, _⟩) (x := .bool true) rfl rfl (by rw [hC] at q33; clear hA HS hN hO hX hK hval; simp only [execOp]; go_simp) ⟨_, rfl, (fun h => by cases h), (by show ((.bool true : Value)) = _; exact hval.symm), hI, fun _ _ _ _ h => h⟩
theorem layC6 {a b : Act} (hf : Rg.Fr (Rg.opsOf Tryz.f22 6) a b) : b = Rg.fl (Rg.opsOf Tryz.f22 6) b 0 [some 26, some 27, some 28, some 29, some 30, some 31, some 32, some 33, some 34, some 35, some 36, some 37, some 38, some 39, some 40, some 41, some 42, some 43, some 44, some 45, some 46, some 47, some 48, some 49, some 50, some 51, some 52] a := Rg.ql _ (by kernel_rfl) hf
end Go.Proofs.YtjlpfpigggdemaaGreatDoor
