/-
 Merged: U26.
-/
import Derived.Test.YtjlpfpigggdemaaGreatDoorMi9
namespace Go.Proofs.YtjlpfpigggdemaaGreatDoor
set_option maxRecDepth 8000
set_option maxHeartbeats 4000000
open Go.RowKit Va Uo
set_option linter.all false
def FO49 (B2 B3 gd od n1 dcap : Nat) (x : Dd) (l : Int) (i9 : Nat) (v : Value) (w : World) : Prop :=
 match i9 with
 | 0 => v = .int .i64 ((n1 + 1 : Nat) : Int)
 | 1 => v = .bool true
 | 2 => v = .bool true
 | 3 => v = .pointer (some ⟨B3, 14, none⟩)
 | 4 => v = .int .i64 x.m
 | 5 => v = .pointer (some ⟨B2, 1, none⟩)
 | 6 => v = .slice (some ⟨gd, od, none⟩) (n1 + 1) dcap
 | 7 => v = .int .i64 ((n1 + 1 : Nat) : Int)
 | 8 => v = .int .i64 (n1 : Nat)
 | 9 => v = .pointer (some ⟨gd, od + n1 * 5, none⟩)
 | 10 => v = .pointer (some ⟨gd, od + n1 * 5 + 2, none⟩)
 | 11 => v = .int .i64 l
 | 12 => v = .bool (decide (x.m < l))
 | 13 => v = .bool (decide (x.m < l))
 | 14 => v = .bool (decide (x.m < l))
 | _ => True
theorem zc8 : (Rg.opsOf Tryz.f50 49).size = 15 := by kernel_rfl
set_option maxRecDepth 20000 in
set_option maxHeartbeats 16000000 in
theorem regO49 {Q : Exit -> Act -> World -> Prop} {a : Act} {w9 : World} {B2 B3 gd od n1 dcap : Nat} {x : Dd} {l : Int} (ha : a.tmps.size = 214)
  (k12 : a.tmps[12]? = some (.int .i64 ((n1 + 1 : Nat) : Int))) (k3 : a.tmps[3]? = some (.pointer (some ⟨B3, 0, none⟩))) (k2 : a.tmps[2]? = some (.pointer (some ⟨B2, 0, none⟩))) (hn1 : n1 < 1000000) (e3 : w9.cell? ⟨B3, 14, none⟩ = some (.int .i64 x.m)) (e2 : w9.cell? ⟨B2, 1, none⟩ = some (.slice (some ⟨gd, od, none⟩) (n1 + 1) dcap)) (el : w9.cell? ⟨gd, od + n1 * 5 + 2, none⟩ = some (.int .i64 l)) (z3 : B3 < w9.heap.size) (z2 : B2 < w9.heap.size) (zd : gd < w9.heap.size)
  (hend : ∀ b' w', Rg.Fr (Rg.opsOf Tryz.f50 49) a b' -> Below w9.heap.size w9 w' -> Rg.out (Rg.opsOf Tryz.f50 49) b' 14 = .bool (decide (x.m < l)) -> Q .normal b' w') :
  (Code.region 49 (Rg.opsOf Tryz.f50 49) true).wp Tryz.prog Q a w9 := by
 refine Rg.zas (by kernel_rfl) (fun w' => Below w9.heap.size w9 w') (FO49 B2 B3 gd od n1 dcap x l) (fun _ => none) (by rw [ha, zc8]; kernel_rfl) (jq (Below.refl _ _)) ?_ ?_
 case refine_2 =>
  intro b' w' hf hI hA
  rw [zc8] at hA
  exact hend b' w' hf hI (hA 14 (by decide) rfl)
 case refine_1 =>
  clear hend
  have HS : ∀ {w w' : World}, Below w.heap.size w w' -> ∀ k9 y9, FO49 B2 B3 gd od n1 dcap x l k9 y9 w -> FO49 B2 B3 gd od n1 dcap x l k9 y9 w' := fun hb k9 y9 h => by
   unfold FO49 at *
   split at h <;> exact h
  intro i' hi'
  rw [zc8] at hi'
  rcases (show i' = 0 ∨ i' = 1 ∨ i' = 2 ∨ i' = 3 ∨ i' = 4 ∨ i' = 5 ∨ i' = 6 ∨ i' = 7 ∨ i' = 8 ∨ i' = 9 ∨ i' = 10 ∨ i' = 11 ∨ i' = 12 ∨ i' = 13 ∨ i' = 14 by omega) with rfl | rfl | rfl | rfl | rfl | rfl | rfl | rfl | rfl | rfl | rfl | rfl | rfl | rfl | rfl
  ·intro bb w' hf hI hA
   clear hi'
   have q0 := hf.kept (s := 12) (by rw [zc8]; kernel_rfl) k12
   exact Rg.zf (o := ⟨some 176, Op.move (Operand.tmp 12), _, _, _, _⟩) rfl rfl rfl ⟨_, rfl, (fun h => by cases h), (by show Act.eval bb _ = _; simp [Act.eval, q0]), hI, fun _ _ _ h => h⟩
  ·intro bb w' hf hI hA
   clear hi'
   have q176 : bb.tmps[176]? = some _ := hf.tmp (k := 0) rfl (by rw [ha]; decide) (hA 0 (by kernel_rfl) (.inl rfl))
   have hp : (0 : Int) < ((n1 + 1 : Nat) : Int) := by omega
   clear hA HS 
   exact Rg.zf (o := ⟨some 177, Op.binOp BinOp.gtr 3 (Operand.tmp 176) (Operand.const (Value.int .i64 0)) 3, _, _, _, _⟩) (x := .bool true) rfl rfl (by simp only [execOp]; go_simp) ⟨_, rfl, (fun h => by cases h), rfl, hI, fun _ _ _ h => h⟩
  ·intro bb w' hf hI hA
   clear hi'
   have q177 : bb.tmps[177]? = some _ := hf.tmp (k := 1) rfl (by rw [ha]; decide) (hA 1 (by kernel_rfl) (.inl rfl))
   clear hA HS 
   exact Rg.zf (o := ⟨some 178, Op.move (Operand.tmp 177), _, _, _, _⟩) (x := .bool true) rfl rfl (by simp only [execOp]; go_simp) ⟨_, rfl, (fun h => by cases h), rfl, hI, fun _ _ _ h => h⟩
  ·intro bb w' hf hI hA
   clear hi'
   have qg : bb.tmps[178]? = some _ := hf.tmp (k := 2) rfl (by rw [ha]; decide) (hA 2 (by kernel_rfl) (.inl rfl))
   have q3 := hf.kept (s := 3) (by rw [zc8]; kernel_rfl) k3
   clear hA HS 
   exact Rg.zf (o := ⟨some 179, Op.fieldAddr 40 (Operand.tmp 3) 6, _, _, _, _⟩) (x := .pointer (some ⟨B3, 14, none⟩)) rfl (Rg.zah (g := 2) rfl rfl qg) (by simp only [execOp]; go_simp) ⟨_, rfl, (fun h => by cases h), rfl, hI, fun _ _ _ h => h⟩
  ·intro bb w' hf hI hA
   clear hi'
   have qg : bb.tmps[178]? = some _ := hf.tmp (k := 2) rfl (by rw [ha]; decide) (hA 2 (by kernel_rfl) (.inl rfl))
   have q179 : bb.tmps[179]? = some _ := hf.tmp (k := 3) rfl (by rw [ha]; decide) (hA 3 (by kernel_rfl) (.inl rfl))
   have e := (hI.cell (p := ⟨B3, 14, none⟩) z3).trans e3
   clear e3 e2 el
   clear hA HS 
   exact Rg.zf (o := ⟨some 180, Op.load 2 (Operand.tmp 179), _, _, _, _⟩) (x := .int .i64 x.m) rfl (Rg.zah (g := 2) rfl rfl qg) (by simp only [execOp]; go_simp) ⟨_, rfl, (fun h => by cases h), rfl, hI, fun _ _ _ h => h⟩
  ·intro bb w' hf hI hA
   clear hi'
   have qg : bb.tmps[178]? = some _ := hf.tmp (k := 2) rfl (by rw [ha]; decide) (hA 2 (by kernel_rfl) (.inl rfl))
   have q2 := hf.kept (s := 2) (by rw [zc8]; kernel_rfl) k2
   clear hA HS 
   exact Rg.zf (o := ⟨some 181, Op.fieldAddr 27 (Operand.tmp 2) 1, _, _, _, _⟩) (x := .pointer (some ⟨B2, 1, none⟩)) rfl (Rg.zah (g := 2) rfl rfl qg) (by simp only [execOp]; go_simp) ⟨_, rfl, (fun h => by cases h), rfl, hI, fun _ _ _ h => h⟩
  ·intro bb w' hf hI hA
   clear hi'
   have qg : bb.tmps[178]? = some _ := hf.tmp (k := 2) rfl (by rw [ha]; decide) (hA 2 (by kernel_rfl) (.inl rfl))
   have q181 : bb.tmps[181]? = some _ := hf.tmp (k := 5) rfl (by rw [ha]; decide) (hA 5 (by kernel_rfl) (.inl rfl))
   have e := (hI.cell (p := ⟨B2, 1, none⟩) z2).trans e2
   clear e3 e2 el
   clear hA HS 
   exact Rg.zf (o := ⟨some 182, Op.load 25 (Operand.tmp 181), _, _, _, _⟩) (x := .slice (some ⟨gd, od, none⟩) (n1 + 1) dcap) rfl (Rg.zah (g := 2) rfl rfl qg) (by simp only [execOp]; go_simp) ⟨_, rfl, (fun h => by cases h), rfl, hI, fun _ _ _ h => h⟩
  ·intro bb w' hf hI hA
   clear hi'
   have qg : bb.tmps[178]? = some _ := hf.tmp (k := 2) rfl (by rw [ha]; decide) (hA 2 (by kernel_rfl) (.inl rfl))
   have q0 := hf.kept (s := 12) (by rw [zc8]; kernel_rfl) k12
   exact Rg.zf (o := ⟨some 183, Op.move (Operand.tmp 12), _, _, _, _⟩) rfl (Rg.zah (g := 2) rfl rfl qg) rfl ⟨_, rfl, (fun h => by cases h), (by show Act.eval bb _ = _; simp [Act.eval, q0]), hI, fun _ _ _ h => h⟩
  ·intro bb w' hf hI hA
   clear hi'
   have qg : bb.tmps[178]? = some _ := hf.tmp (k := 2) rfl (by rw [ha]; decide) (hA 2 (by kernel_rfl) (.inl rfl))
   have q183 : bb.tmps[183]? = some _ := hf.tmp (k := 7) rfl (by rw [ha]; decide) (hA 7 (by kernel_rfl) (.inl rfl))
   have hw : IntKind.i64.wrap (n1 : Int) = (n1 : Int) := by rw [IntKind.wrap_i64]; omega
   clear hA HS 
   exact Rg.zf (o := ⟨some 184, Op.binOp BinOp.sub 3 (Operand.tmp 183) (Operand.const (Value.int .i64 1)) 3, _, _, _, _⟩) (x := .int .i64 (n1 : Nat)) rfl (Rg.zah (g := 2) rfl rfl qg) (by simp only [execOp]; go_simp) ⟨_, rfl, (fun h => by cases h), rfl, hI, fun _ _ _ h => h⟩
  ·intro bb w' hf hI hA
   clear hi'
   have qg : bb.tmps[178]? = some _ := hf.tmp (k := 2) rfl (by rw [ha]; decide) (hA 2 (by kernel_rfl) (.inl rfl))
   have q182 : bb.tmps[182]? = some _ := hf.tmp (k := 6) rfl (by rw [ha]; decide) (hA 6 (by kernel_rfl) (.inl rfl))
   have q184 : bb.tmps[184]? = some _ := hf.tmp (k := 8) rfl (by rw [ha]; decide) (hA 8 (by kernel_rfl) (.inl rfl))
   have h0 : (0 : Int) <= (n1 : Int) := by omega
   have h1 : (n1 : Int) < ((n1 + 1 : Nat) : Int) := by omega
   clear hA HS 
   exact Rg.zf (o := ⟨some 185, Op.indexAddr 25 (Operand.tmp 182) (Operand.tmp 184), _, _, _, _⟩) (x := .pointer (some ⟨gd, od + n1 * 5, none⟩)) rfl (Rg.zah (g := 2) rfl rfl qg) (by simp only [execOp]; go_simp; intro h; omega) ⟨_, rfl, (fun h => by cases h), rfl, hI, fun _ _ _ h => h⟩
  ·intro bb w' hf hI hA
   clear hi'
   have qg : bb.tmps[178]? = some _ := hf.tmp (k := 2) rfl (by rw [ha]; decide) (hA 2 (by kernel_rfl) (.inl rfl))
   have q185 : bb.tmps[185]? = some _ := hf.tmp (k := 9) rfl (by rw [ha]; decide) (hA 9 (by kernel_rfl) (.inl rfl))
   clear hA HS 
   exact Rg.zf (o := ⟨some 186, Op.fieldAddr 35 (Operand.tmp 185) 2, _, _, _, _⟩) (x := .pointer (some ⟨gd, od + n1 * 5 + 2, none⟩)) rfl (Rg.zah (g := 2) rfl rfl qg) (by simp only [execOp]; go_simp) ⟨_, rfl, (fun h => by cases h), rfl, hI, fun _ _ _ h => h⟩
  ·intro bb w' hf hI hA
   clear hi'
   have qg : bb.tmps[178]? = some _ := hf.tmp (k := 2) rfl (by rw [ha]; decide) (hA 2 (by kernel_rfl) (.inl rfl))
   have q186 : bb.tmps[186]? = some _ := hf.tmp (k := 10) rfl (by rw [ha]; decide) (hA 10 (by kernel_rfl) (.inl rfl))
   have e := (hI.cell (p := ⟨gd, od + n1 * 5 + 2, none⟩) zd).trans el
   clear e3 e2 el
   clear hA HS 
   exact Rg.zf (o := ⟨some 187, Op.load 2 (Operand.tmp 186), _, _, _, _⟩) (x := .int .i64 l) rfl (Rg.zah (g := 2) rfl rfl qg) (by simp only [execOp]; go_simp) ⟨_, rfl, (fun h => by cases h), rfl, hI, fun _ _ _ h => h⟩
  ·intro bb w' hf hI hA
   clear hi'
   have qg : bb.tmps[178]? = some _ := hf.tmp (k := 2) rfl (by rw [ha]; decide) (hA 2 (by kernel_rfl) (.inl rfl))
   have q180 : bb.tmps[180]? = some _ := hf.tmp (k := 4) rfl (by rw [ha]; decide) (hA 4 (by kernel_rfl) (.inl rfl))
   have q187 : bb.tmps[187]? = some _ := hf.tmp (k := 11) rfl (by rw [ha]; decide) (hA 11 (by kernel_rfl) (.inl rfl))
   clear hA HS 
   exact Rg.zf (o := ⟨some 188, Op.binOp BinOp.lss 2 (Operand.tmp 180) (Operand.tmp 187) 2, _, _, _, _⟩) (x := .bool (decide (x.m < l))) rfl (Rg.zah (g := 2) rfl rfl qg) (by simp only [execOp]; go_simp) ⟨_, rfl, (fun h => by cases h), rfl, hI, fun _ _ _ h => h⟩
  ·intro bb w' hf hI hA
   clear hi'
   have q178 : bb.tmps[178]? = some _ := hf.tmp (k := 2) rfl (by rw [ha]; decide) (hA 2 (by kernel_rfl) (.inl rfl))
   have q188 : bb.tmps[188]? = some _ := hf.tmp (k := 12) rfl (by rw [ha]; decide) (hA 12 (by kernel_rfl) (.inl rfl))
   clear hA HS 
   exact Rg.zf (o := ⟨some 189, Op.pick (Operand.tmp 178) (Operand.tmp 188) (Operand.const (Value.bool false)), _, _, _, _⟩) (x := .bool (decide (x.m < l))) rfl rfl (by simp only [execOp]; go_simp) ⟨_, rfl, (fun h => by cases h), rfl, hI, fun _ _ _ h => h⟩
  ·intro bb w' hf hI hA
   clear hi'
   have q189 : bb.tmps[189]? = some _ := hf.tmp (k := 13) rfl (by rw [ha]; decide) (hA 13 (by kernel_rfl) (.inl rfl))
   clear hA HS 
   exact Rg.zf (o := ⟨some 175, Op.assign (Operand.tmp 189), _, _, _, _⟩) (x := .bool (decide (x.m < l))) rfl rfl (by simp only [execOp]; go_simp) ⟨_, rfl, (fun h => by cases h), rfl, hI, fun _ _ _ h => h⟩
theorem layO49 {a b : Act} (hf : Rg.Fr (Rg.opsOf Tryz.f50 49) a b) : b = Rg.fl (Rg.opsOf Tryz.f50 49) b 0 [some 176, some 177, some 178, some 179, some 180, some 181, some 182, some 183, some 184, some 185, some 186, some 187, some 188, some 189, some 175] a := Rg.ql _ (by kernel_rfl) hf
def FO49n (B2 B3 : Nat) (i9 : Nat) (v : Value) (w : World) : Prop :=
 match i9 with
 | 0 => v = .int .i64 0
 | 1 => v = .bool false
 | 2 => v = .bool false
 | 3 => v = undef
 | 4 => v = undef
 | 5 => v = undef
 | 6 => v = undef
 | 7 => v = undef
 | 8 => v = undef
 | 9 => v = undef
 | 10 => v = undef
 | 11 => v = undef
 | 12 => v = undef
 | 13 => v = .bool false
 | 14 => v = .bool false
 | _ => True
theorem zfj : (Rg.opsOf Tryz.f50 49).size = 15 := by kernel_rfl
set_option maxRecDepth 20000 in
set_option maxHeartbeats 16000000 in
theorem regO49n {Q : Exit -> Act -> World -> Prop} {a : Act} {w9 : World} {B2 B3 : Nat} (ha : a.tmps.size = 214)
  (k12 : a.tmps[12]? = some (.int .i64 0)) (k3 : a.tmps[3]? = some (.pointer (some ⟨B3, 0, none⟩))) (k2 : a.tmps[2]? = some (.pointer (some ⟨B2, 0, none⟩))) 
  (hend : ∀ b' w', Rg.Fr (Rg.opsOf Tryz.f50 49) a b' -> Below w9.heap.size w9 w' -> Rg.out (Rg.opsOf Tryz.f50 49) b' 14 = .bool false -> Q .normal b' w') :
  (Code.region 49 (Rg.opsOf Tryz.f50 49) true).wp Tryz.prog Q a w9 := by
 refine Rg.zas (by kernel_rfl) (fun w' => Below w9.heap.size w9 w') (FO49n B2 B3) (fun _ => none) (by rw [ha, zfj]; kernel_rfl) (jq (Below.refl _ _)) ?_ ?_
 case refine_2 =>
  intro b' w' hf hI hA
  rw [zfj] at hA
  exact hend b' w' hf hI (hA 14 (by decide) rfl)
 case refine_1 =>
  clear hend
  have HS : ∀ {w w' : World}, Below w.heap.size w w' -> ∀ k9 y9, FO49n B2 B3 k9 y9 w -> FO49n B2 B3 k9 y9 w' := fun hb k9 y9 h => by
   unfold FO49n at *
   split at h <;> exact h
  intro i' hi'
  rw [zfj] at hi'
  rcases (show i' = 0 ∨ i' = 1 ∨ i' = 2 ∨ i' = 3 ∨ i' = 4 ∨ i' = 5 ∨ i' = 6 ∨ i' = 7 ∨ i' = 8 ∨ i' = 9 ∨ i' = 10 ∨ i' = 11 ∨ i' = 12 ∨ i' = 13 ∨ i' = 14 by omega) with rfl | rfl | rfl | rfl | rfl | rfl | rfl | rfl | rfl | rfl | rfl | rfl | rfl | rfl | rfl
  ·intro bb w' hf hI hA
   clear hi'
   have q0 := hf.kept (s := 12) (by rw [zfj]; kernel_rfl) k12
   exact Rg.zf (o := ⟨some 176, Op.move (Operand.tmp 12), _, _, _, _⟩) rfl rfl rfl ⟨_, rfl, (fun h => by cases h), (by show Act.eval bb _ = _; simp [Act.eval, q0]), hI, fun _ _ _ h => h⟩
  ·intro bb w' hf hI hA
   clear hi'
   have q176 : bb.tmps[176]? = some _ := hf.tmp (k := 0) rfl (by rw [ha]; decide) (hA 0 (by kernel_rfl) (.inl rfl))
   clear hA HS 
   exact Rg.zf (o := ⟨some 177, Op.binOp BinOp.gtr 3 (Operand.tmp 176) (Operand.const (Value.int .i64 0)) 3, _, _, _, _⟩) (x := .bool false) rfl rfl (by simp only [execOp]; go_simp) ⟨_, rfl, (fun h => by cases h), rfl, hI, fun _ _ _ h => h⟩
  ·intro bb w' hf hI hA
   clear hi'
   have q177 : bb.tmps[177]? = some _ := hf.tmp (k := 1) rfl (by rw [ha]; decide) (hA 1 (by kernel_rfl) (.inl rfl))
   clear hA HS 
   exact Rg.zf (o := ⟨some 178, Op.move (Operand.tmp 177), _, _, _, _⟩) (x := .bool false) rfl rfl (by simp only [execOp]; go_simp) ⟨_, rfl, (fun h => by cases h), rfl, hI, fun _ _ _ h => h⟩
  ·intro bb w' hf hI hA
   clear hi'
   have qg : bb.tmps[178]? = some _ := hf.tmp (k := 2) rfl (by rw [ha]; decide) (hA 2 (by kernel_rfl) (.inl rfl))
   exact Rg.zq (o := ⟨some 179, _, _, _, _, _⟩) rfl (Rg.zan (g := 2) (want := true) rfl rfl qg) ⟨_, rfl, (fun h => by cases h), rfl, hI, fun _ _ _ h => h⟩
  ·intro bb w' hf hI hA
   clear hi'
   have qg : bb.tmps[178]? = some _ := hf.tmp (k := 2) rfl (by rw [ha]; decide) (hA 2 (by kernel_rfl) (.inl rfl))
   exact Rg.zq (o := ⟨some 180, _, _, _, _, _⟩) rfl (Rg.zan (g := 2) (want := true) rfl rfl qg) ⟨_, rfl, (fun h => by cases h), rfl, hI, fun _ _ _ h => h⟩
  ·intro bb w' hf hI hA
   clear hi'
   have qg : bb.tmps[178]? = some _ := hf.tmp (k := 2) rfl (by rw [ha]; decide) (hA 2 (by kernel_rfl) (.inl rfl))
   exact Rg.zq (o := ⟨some 181, _, _, _, _, _⟩) rfl (Rg.zan (g := 2) (want := true) rfl rfl qg) ⟨_, rfl, (fun h => by cases h), rfl, hI, fun _ _ _ h => h⟩
  ·intro bb w' hf hI hA
   clear hi'
   have qg : bb.tmps[178]? = some _ := hf.tmp (k := 2) rfl (by rw [ha]; decide) (hA 2 (by kernel_rfl) (.inl rfl))
   exact Rg.zq (o := ⟨some 182, _, _, _, _, _⟩) rfl (Rg.zan (g := 2) (want := true) rfl rfl qg) ⟨_, rfl, (fun h => by cases h), rfl, hI, fun _ _ _ h => h⟩
  ·intro bb w' hf hI hA
   clear hi'
   have qg : bb.tmps[178]? = some _ := hf.tmp (k := 2) rfl (by rw [ha]; decide) (hA 2 (by kernel_rfl) (.inl rfl))
   exact Rg.zq (o := ⟨some 183, _, _, _, _, _⟩) rfl (Rg.zan (g := 2) (want := true) rfl rfl qg) ⟨_, rfl, (fun h => by cases h), rfl, hI, fun _ _ _ h => h⟩
  ·intro bb w' hf hI hA
   clear hi'
   have qg : bb.tmps[178]? = some _ := hf.tmp (k := 2) rfl (by rw [ha]; decide) (hA 2 (by kernel_rfl) (.inl rfl))
   exact Rg.zq (o := ⟨some 184, _, _, _, _, _⟩) rfl (Rg.zan (g := 2) (want := true) rfl rfl qg) ⟨_, rfl, (fun h => by cases h), rfl, hI, fun _ _ _ h => h⟩
  ·intro bb w' hf hI hA
   clear hi'
   have qg : bb.tmps[178]? = some _ := hf.tmp (k := 2) rfl (by rw [ha]; decide) (hA 2 (by kernel_rfl) (.inl rfl))
   exact Rg.zq (o := ⟨some 185, _, _, _, _, _⟩) rfl (Rg.zan (g := 2) (want := true) rfl rfl qg) ⟨_, rfl, (fun h => by cases h), rfl, hI, fun _ _ _ h => h⟩
  ·intro bb w' hf hI hA
   clear hi'
   have qg : bb.tmps[178]? = some _ := hf.tmp (k := 2) rfl (by rw [ha]; decide) (hA 2 (by kernel_rfl) (.inl rfl))
   exact Rg.zq (o := ⟨some 186, _, _, _, _, _⟩) rfl (Rg.zan (g := 2) (want := true) rfl rfl qg) ⟨_, rfl, (fun h => by cases h), rfl, hI, fun _ _ _ h => h⟩
  ·intro bb w' hf hI hA
   clear hi'
   have qg : bb.tmps[178]? = some _ := hf.tmp (k := 2) rfl (by rw [ha]; decide) (hA 2 (by kernel_rfl) (.inl rfl))
   exact Rg.zq (o := ⟨some 187, _, _, _, _, _⟩) rfl (Rg.zan (g := 2) (want := true) rfl rfl qg) ⟨_, rfl, (fun h => by cases h), rfl, hI, fun _ _ _ h => h⟩
  ·intro bb w' hf hI hA
   clear hi'
   have qg : bb.tmps[178]? = some _ := hf.tmp (k := 2) rfl (by rw [ha]; decide) (hA 2 (by kernel_rfl) (.inl rfl))
   exact Rg.zq (o := ⟨some 188, _, _, _, _, _⟩) rfl (Rg.zan (g := 2) (want := true) rfl rfl qg) ⟨_, rfl, (fun h => by cases h), rfl, hI, fun _ _ _ h => h⟩
  ·intro bb w' hf hI hA
   clear hi'
   have q178 : bb.tmps[178]? = some _ := hf.tmp (k := 2) rfl (by rw [ha]; decide) (hA 2 (by kernel_rfl) (.inl rfl))
   clear hA HS 
   exact Rg.zf (o := ⟨some 189, Op.pick (Operand.tmp 178) (Operand.tmp 188) (Operand.const (Value.bool false)), _, _, _, _⟩) (x := .bool false) rfl rfl (by simp only [execOp]; go_simp) ⟨_, rfl, (fun h => by cases h), rfl, hI, fun _ _ _ h => h⟩
  ·intro bb w' hf hI hA
   clear hi'
   have q189 : bb.tmps[189]? = some _ := hf.tmp (k := 13) rfl (by rw [ha]; decide) (hA 13 (by kernel_rfl) (.inl rfl))
   clear hA HS 
   exact Rg.zf (o := ⟨some 175, Op.assign (Operand.tmp 189), _, _, _, _⟩) (x := .bool false) rfl rfl (by simp only [execOp]; go_simp) ⟨_, rfl, (fun h => by cases h), rfl, hI, fun _ _ _ h => h⟩
theorem layO49n {a b : Act} (hf : Rg.Fr (Rg.opsOf Tryz.f50 49) a b) : b = Rg.fl (Rg.opsOf Tryz.f50 49) b 0 [some 176, some 177, some 178, some 179, some 180, some 181, some 182, some 183, some 184, some 185, some 186, some 187, some 188, some 189, some 175] a := Rg.ql _ (by kernel_rfl) hf
end Go.Proofs.YtjlpfpigggdemaaGreatDoor
