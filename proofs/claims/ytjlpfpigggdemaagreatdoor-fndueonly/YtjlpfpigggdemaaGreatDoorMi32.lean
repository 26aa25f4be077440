/-
 Merged: U30.
-/
import Derived.Test.YtjlpfpigggdemaaGreatDoorMi9
namespace Go.Proofs.YtjlpfpigggdemaaGreatDoor
set_option maxRecDepth 8000
set_option maxHeartbeats 4000000
open Go.RowKit Va Uo
set_option linter.all false
def FO14f (B2 B3 g off N cap i : Nat) (zi yi : Int) (i9 : Nat) (v : Value) (w : World) : Prop :=
 match i9 with
 | 0 => v = .bool false
 | 1 => v = .bool true
 | 2 => v = .bool true
 | 3 => v = .pointer (some ⟨B3, 1, none⟩)
 | 4 => v = .pointer (some ⟨B3, 1, none⟩)
 | 5 => v = .int .i64 zi
 | 6 => v = .pointer (some ⟨B2, 0, none⟩)
 | 7 => v = .slice (some ⟨g, off, none⟩) N cap
 | 8 => v = .int .i64 (i : Nat)
 | 9 => v = .pointer (some ⟨g, off + i * 9, none⟩)
 | 10 => v = .pointer (some ⟨g, off + i * 9, none⟩)
 | 11 => v = .int .i64 yi
 | 12 => v = .bool (decide (zi < yi))
 | 13 => v = .bool (decide (zi < yi))
 | _ => True
theorem zdb : (Rg.opsOf Tryz.f50 14).size = 14 := by kernel_rfl
set_option maxRecDepth 20000 in
set_option maxHeartbeats 16000000 in
theorem regO14f {Q : Exit -> Act -> World -> Prop} {a : Act} {w9 : World} {B2 B3 g off N cap i : Nat} {zi yi : Int} (ha : a.tmps.size = 214)
  (k7 : a.tmps[7]? = some (.bool false)) (k3 : a.tmps[3]? = some (.pointer (some ⟨B3, 0, none⟩))) (k2 : a.tmps[2]? = some (.pointer (some ⟨B2, 0, none⟩))) (k8 : a.tmps[8]? = some (.int .i64 (i : Nat))) (hi : (i : Int) < (N : Int)) (e3 : w9.cell? ⟨B3, 1, none⟩ = some (.int .i64 zi)) (e2 : w9.cell? ⟨B2, 0, none⟩ = some (.slice (some ⟨g, off, none⟩) N cap)) (el : w9.cell? ⟨g, off + i * 9, none⟩ = some (.int .i64 yi)) (z3 : B3 < w9.heap.size) (z2 : B2 < w9.heap.size) (zd : g < w9.heap.size)
  (hend : ∀ b' w', Rg.Fr (Rg.opsOf Tryz.f50 14) a b' -> Below w9.heap.size w9 w' -> Rg.out (Rg.opsOf Tryz.f50 14) b' 13 = .bool (decide (zi < yi)) -> Q .normal b' w') :
  (Code.region 14 (Rg.opsOf Tryz.f50 14) true).wp Tryz.prog Q a w9 := by
 refine Rg.zas (by kernel_rfl) (fun w' => Below w9.heap.size w9 w') (FO14f B2 B3 g off N cap i zi yi) (fun _ => none) (by rw [ha, zdb]; kernel_rfl) (jq (Below.refl _ _)) ?_ ?_
 case refine_2 =>
  intro b' w' hf hI hA
  rw [zdb] at hA
  exact hend b' w' hf hI (hA 13 (by decide) rfl)
 case refine_1 =>
  clear hend
  have HS : ∀ {w w' : World}, Below w.heap.size w w' -> ∀ k9 y9, FO14f B2 B3 g off N cap i zi yi k9 y9 w -> FO14f B2 B3 g off N cap i zi yi k9 y9 w' := fun hb k9 y9 h => by
   unfold FO14f at *
   split at h <;> exact h
  intro i' hi'
  rw [zdb] at hi'
  rcases (show i' = 0 ∨ i' = 1 ∨ i' = 2 ∨ i' = 3 ∨ i' = 4 ∨ i' = 5 ∨ i' = 6 ∨ i' = 7 ∨ i' = 8 ∨ i' = 9 ∨ i' = 10 ∨ i' = 11 ∨ i' = 12 ∨ i' = 13 by omega) with rfl | rfl | rfl | rfl | rfl | rfl | rfl | rfl | rfl | rfl | rfl | rfl | rfl | rfl
  ·intro bb w' hf hI hA
   clear hi'
   have q0 := hf.kept (s := 7) (by rw [zdb]; kernel_rfl) k7
   exact Rg.zf (o := ⟨some 44, Op.move (Operand.tmp 7), _, _, _, _⟩) rfl rfl rfl ⟨_, rfl, (fun h => by cases h), (by show Act.eval bb _ = _; simp [Act.eval, q0]), hI, fun _ _ _ h => h⟩
  ·intro bb w' hf hI hA
   clear hi'
   have q44 : bb.tmps[44]? = some _ := hf.tmp (k := 0) rfl (by rw [ha]; decide) (hA 0 (by kernel_rfl) (.inl rfl))
   clear hA HS 
   exact Rg.zf (o := ⟨some 45, Op.unOp UnOp.not 4 (Operand.tmp 44), _, _, _, _⟩) (x := .bool true) rfl rfl (by simp only [execOp]; go_simp) ⟨_, rfl, (fun h => by cases h), rfl, hI, fun _ _ _ h => h⟩
  ·intro bb w' hf hI hA
   clear hi'
   have q45 : bb.tmps[45]? = some _ := hf.tmp (k := 1) rfl (by rw [ha]; decide) (hA 1 (by kernel_rfl) (.inl rfl))
   clear hA HS 
   exact Rg.zf (o := ⟨some 46, Op.move (Operand.tmp 45), _, _, _, _⟩) (x := .bool true) rfl rfl (by simp only [execOp]; go_simp) ⟨_, rfl, (fun h => by cases h), rfl, hI, fun _ _ _ h => h⟩
  ·intro bb w' hf hI hA
   clear hi'
   have qg : bb.tmps[46]? = some _ := hf.tmp (k := 2) rfl (by rw [ha]; decide) (hA 2 (by kernel_rfl) (.inl rfl))
   have q3 := hf.kept (s := 3) (by rw [zdb]; kernel_rfl) k3
   clear hA HS 
   exact Rg.zf (o := ⟨some 47, Op.fieldAddr 40 (Operand.tmp 3) 1, _, _, _, _⟩) (x := .pointer (some ⟨B3, 1, none⟩)) rfl (Rg.zah (g := 2) rfl rfl qg) (by simp only [execOp]; go_simp) ⟨_, rfl, (fun h => by cases h), rfl, hI, fun _ _ _ h => h⟩
  ·intro bb w' hf hI hA
   clear hi'
   have qg : bb.tmps[46]? = some _ := hf.tmp (k := 2) rfl (by rw [ha]; decide) (hA 2 (by kernel_rfl) (.inl rfl))
   have q47 : bb.tmps[47]? = some _ := hf.tmp (k := 3) rfl (by rw [ha]; decide) (hA 3 (by kernel_rfl) (.inl rfl))
   clear hA HS 
   exact Rg.zf (o := ⟨some 48, Op.fieldAddr 38 (Operand.tmp 47) 0, _, _, _, _⟩) (x := .pointer (some ⟨B3, 1, none⟩)) rfl (Rg.zah (g := 2) rfl rfl qg) (by simp only [execOp]; go_simp) ⟨_, rfl, (fun h => by cases h), rfl, hI, fun _ _ _ h => h⟩
  ·intro bb w' hf hI hA
   clear hi'
   have qg : bb.tmps[46]? = some _ := hf.tmp (k := 2) rfl (by rw [ha]; decide) (hA 2 (by kernel_rfl) (.inl rfl))
   have q48 : bb.tmps[48]? = some _ := hf.tmp (k := 4) rfl (by rw [ha]; decide) (hA 4 (by kernel_rfl) (.inl rfl))
   have e := (hI.cell (p := ⟨B3, 1, none⟩) z3).trans e3
   clear e3 e2 el
   clear hA HS 
   exact Rg.zf (o := ⟨some 49, Op.load 2 (Operand.tmp 48), _, _, _, _⟩) (x := .int .i64 zi) rfl (Rg.zah (g := 2) rfl rfl qg) (by simp only [execOp]; go_simp) ⟨_, rfl, (fun h => by cases h), rfl, hI, fun _ _ _ h => h⟩
  ·intro bb w' hf hI hA
   clear hi'
   have qg : bb.tmps[46]? = some _ := hf.tmp (k := 2) rfl (by rw [ha]; decide) (hA 2 (by kernel_rfl) (.inl rfl))
   have q2 := hf.kept (s := 2) (by rw [zdb]; kernel_rfl) k2
   clear hA HS 
   exact Rg.zf (o := ⟨some 50, Op.fieldAddr 27 (Operand.tmp 2) 0, _, _, _, _⟩) (x := .pointer (some ⟨B2, 0, none⟩)) rfl (Rg.zah (g := 2) rfl rfl qg) (by simp only [execOp]; go_simp) ⟨_, rfl, (fun h => by cases h), rfl, hI, fun _ _ _ h => h⟩
  ·intro bb w' hf hI hA
   clear hi'
   have qg : bb.tmps[46]? = some _ := hf.tmp (k := 2) rfl (by rw [ha]; decide) (hA 2 (by kernel_rfl) (.inl rfl))
   have q50 : bb.tmps[50]? = some _ := hf.tmp (k := 6) rfl (by rw [ha]; decide) (hA 6 (by kernel_rfl) (.inl rfl))
   have e := (hI.cell (p := ⟨B2, 0, none⟩) z2).trans e2
   clear e3 e2 el
   clear hA HS 
   exact Rg.zf (o := ⟨some 51, Op.load 24 (Operand.tmp 50), _, _, _, _⟩) (x := .slice (some ⟨g, off, none⟩) N cap) rfl (Rg.zah (g := 2) rfl rfl qg) (by simp only [execOp]; go_simp) ⟨_, rfl, (fun h => by cases h), rfl, hI, fun _ _ _ h => h⟩
  ·intro bb w' hf hI hA
   clear hi'
   have qg : bb.tmps[46]? = some _ := hf.tmp (k := 2) rfl (by rw [ha]; decide) (hA 2 (by kernel_rfl) (.inl rfl))
   have q0 := hf.kept (s := 8) (by rw [zdb]; kernel_rfl) k8
   exact Rg.zf (o := ⟨some 52, Op.move (Operand.tmp 8), _, _, _, _⟩) rfl (Rg.zah (g := 2) rfl rfl qg) rfl ⟨_, rfl, (fun h => by cases h), (by show Act.eval bb _ = _; simp [Act.eval, q0]), hI, fun _ _ _ h => h⟩
  ·intro bb w' hf hI hA
   clear hi'
   have qg : bb.tmps[46]? = some _ := hf.tmp (k := 2) rfl (by rw [ha]; decide) (hA 2 (by kernel_rfl) (.inl rfl))
   have q51 : bb.tmps[51]? = some _ := hf.tmp (k := 7) rfl (by rw [ha]; decide) (hA 7 (by kernel_rfl) (.inl rfl))
   have q52 : bb.tmps[52]? = some _ := hf.tmp (k := 8) rfl (by rw [ha]; decide) (hA 8 (by kernel_rfl) (.inl rfl))
   have h0 : (0 : Int) <= (i : Int) := by omega
   clear hA HS 
   exact Rg.zf (o := ⟨some 53, Op.indexAddr 24 (Operand.tmp 51) (Operand.tmp 52), _, _, _, _⟩) (x := .pointer (some ⟨g, off + i * 9, none⟩)) rfl (Rg.zah (g := 2) rfl rfl qg) (by simp only [execOp]; go_simp) ⟨_, rfl, (fun h => by cases h), rfl, hI, fun _ _ _ h => h⟩
  ·intro bb w' hf hI hA
   clear hi'
   have qg : bb.tmps[46]? = some _ := hf.tmp (k := 2) rfl (by rw [ha]; decide) (hA 2 (by kernel_rfl) (.inl rfl))
   have q53 : bb.tmps[53]? = some _ := hf.tmp (k := 9) rfl (by rw [ha]; decide) (hA 9 (by kernel_rfl) (.inl rfl))
   clear hA HS 
   exact Rg.zf (o := ⟨some 54, Op.fieldAddr 38 (Operand.tmp 53) 0, _, _, _, _⟩) (x := .pointer (some ⟨g, off + i * 9, none⟩)) rfl (Rg.zah (g := 2) rfl rfl qg) (by simp only [execOp]; go_simp) ⟨_, rfl, (fun h => by cases h), rfl, hI, fun _ _ _ h => h⟩
  ·intro bb w' hf hI hA
   clear hi'
   have qg : bb.tmps[46]? = some _ := hf.tmp (k := 2) rfl (by rw [ha]; decide) (hA 2 (by kernel_rfl) (.inl rfl))
   have q54 : bb.tmps[54]? = some _ := hf.tmp (k := 10) rfl (by rw [ha]; decide) (hA 10 (by kernel_rfl) (.inl rfl))
   have e := (hI.cell (p := ⟨g, off + i * 9, none⟩) zd).trans el
   clear e3 e2 el
   clear hA HS 
   exact Rg.zf (o := ⟨some 55, Op.load 2 (Operand.tmp 54), _, _, _, _⟩) (x := .int .i64 yi) rfl (Rg.zah (g := 2) rfl rfl qg) (by simp only [execOp]; go_simp) ⟨_, rfl, (fun h => by cases h), rfl, hI, fun _ _ _ h => h⟩
  ·intro bb w' hf hI hA
   clear hi'
   have qg : bb.tmps[46]? = some _ := hf.tmp (k := 2) rfl (by rw [ha]; decide) (hA 2 (by kernel_rfl) (.inl rfl))
   have q49 : bb.tmps[49]? = some _ := hf.tmp (k := 5) rfl (by rw [ha]; decide) (hA 5 (by kernel_rfl) (.inl rfl))
   have q55 : bb.tmps[55]? = some _ := hf.tmp (k := 11) rfl (by rw [ha]; decide) (hA 11 (by kernel_rfl) (.inl rfl))
   clear hA HS 
   exact Rg.zf (o := ⟨some 56, Op.binOp BinOp.lss 2 (Operand.tmp 49) (Operand.tmp 55) 2, _, _, _, _⟩) (x := .bool (decide (zi < yi))) rfl (Rg.zah (g := 2) rfl rfl qg) (by simp only [execOp]; go_simp) ⟨_, rfl, (fun h => by cases h), rfl, hI, fun _ _ _ h => h⟩
  ·intro bb w' hf hI hA
   clear hi'
   have q46 : bb.tmps[46]? = some _ := hf.tmp (k := 2) rfl (by rw [ha]; decide) (hA 2 (by kernel_rfl) (.inl rfl))
   have q56 : bb.tmps[56]? = some _ := hf.tmp (k := 12) rfl (by rw [ha]; decide) (hA 12 (by kernel_rfl) (.inl rfl))
   clear hA HS 
   exact Rg.zf (o := ⟨some 57, Op.pick (Operand.tmp 46) (Operand.tmp 56) (Operand.const (Value.bool false)), _, _, _, _⟩) (x := .bool (decide (zi < yi))) rfl rfl (by simp only [execOp]; go_simp) ⟨_, rfl, (fun h => by cases h), rfl, hI, fun _ _ _ h => h⟩
theorem layO14f {a b : Act} (hf : Rg.Fr (Rg.opsOf Tryz.f50 14) a b) : b = Rg.fl (Rg.opsOf Tryz.f50 14) b 0 [some 44, some 45, some 46, some 47, some 48, some 49, some 50, some 51, some 52, some 53, some 54, some 55, some 56, some 57] a := Rg.ql _ (by kernel_rfl) hf
def FO14t (B2 B3 : Nat) (i9 : Nat) (v : Value) (w : World) : Prop :=
 match i9 with
 | 0 => v = .bool true
 | 1 => v = .bool false
 | 2 => v = .bool false
 | 3 => v = undef
 | 4 => v = undef
 | 5 => v = undef
 | 6 => v = undef
 | 7 => v = undef
 | 8 => v = undef
 | 9 => v = undef
 | 10 => v = undef
 | 11 => v = undef
 | 12 => v = undef
 | 13 => v = .bool false
 | _ => True
theorem zez : (Rg.opsOf Tryz.f50 14).size = 14 := by kernel_rfl
set_option maxRecDepth 20000 in
set_option maxHeartbeats 16000000 in
theorem regO14t {Q : Exit -> Act -> World -> Prop} {a : Act} {w9 : World} {B2 B3 : Nat} (ha : a.tmps.size = 214)
  (k7 : a.tmps[7]? = some (.bool true)) (k3 : a.tmps[3]? = some (.pointer (some ⟨B3, 0, none⟩))) (k2 : a.tmps[2]? = some (.pointer (some ⟨B2, 0, none⟩))) 
  (hend : ∀ b' w', Rg.Fr (Rg.opsOf Tryz.f50 14) a b' -> Below w9.heap.size w9 w' -> Rg.out (Rg.opsOf Tryz.f50 14) b' 13 = .bool false -> Q .normal b' w') :
  (Code.region 14 (Rg.opsOf Tryz.f50 14) true).wp Tryz.prog Q a w9 := by
 refine Rg.zas (by kernel_rfl) (fun w' => Below w9.heap.size w9 w') (FO14t B2 B3) (fun _ => none) (by rw [ha, zez]; kernel_rfl) (jq (Below.refl _ _)) ?_ ?_
 case refine_2 =>
  intro b' w' hf hI hA
  rw [zez] at hA
  exact hend b' w' hf hI (hA 13 (by decide) rfl)
 case refine_1 =>
  clear hend
  have HS : ∀ {w w' : World}, Below w.heap.size w w' -> ∀ k9 y9, FO14t B2 B3 k9 y9 w -> FO14t B2 B3 k9 y9 w' := fun hb k9 y9 h => by
   unfold FO14t at *
   split at h <;> exact h
  intro i' hi'
  rw [zez] at hi'
  rcases (show i' = 0 ∨ i' = 1 ∨ i' = 2 ∨ i' = 3 ∨ i' = 4 ∨ i' = 5 ∨ i' = 6 ∨ i' = 7 ∨ i' = 8 ∨ i' = 9 ∨ i' = 10 ∨ i' = 11 ∨ i' = 12 ∨ i' = 13 by omega) with rfl | rfl | rfl | rfl | rfl | rfl | rfl | rfl | rfl | rfl | rfl | rfl | rfl | rfl
  ·intro bb w' hf hI hA
   clear hi'
   have q0 := hf.kept (s := 7) (by rw [zez]; kernel_rfl) k7
   exact Rg.zf (o := ⟨some 44, Op.move (Operand.tmp 7), _, _, _, _⟩) rfl rfl rfl ⟨_, rfl, (fun h => by cases h), (by show Act.eval bb _ = _; simp [Act.eval, q0]), hI, fun _ _ _ h => h⟩
  ·intro bb w' hf hI hA
   clear hi'
   have q44 : bb.tmps[44]? = some _ := hf.tmp (k := 0) rfl (by rw [ha]; decide) (hA 0 (by kernel_rfl) (.inl rfl))
   clear hA HS 
   exact Rg.zf (o := ⟨some 45, Op.unOp UnOp.not 4 (Operand.tmp 44), _, _, _, _⟩) (x := .bool false) rfl rfl (by simp only [execOp]; go_simp) ⟨_, rfl, (fun h => by cases h), rfl, hI, fun _ _ _ h => h⟩
  ·intro bb w' hf hI hA
   clear hi'
   have q45 : bb.tmps[45]? = some _ := hf.tmp (k := 1) rfl (by rw [ha]; decide) (hA 1 (by kernel_rfl) (.inl rfl))
   clear hA HS 
   exact Rg.zf (o := ⟨some 46, Op.move (Operand.tmp 45), _, _, _, _⟩) (x := .bool false) rfl rfl (by simp only [execOp]; go_simp) ⟨_, rfl, (fun h => by cases h), rfl, hI, fun _ _ _ h => h⟩
  ·intro bb w' hf hI hA
   clear hi'
   have qg : bb.tmps[46]? = some _ := hf.tmp (k := 2) rfl (by rw [ha]; decide) (hA 2 (by kernel_rfl) (.inl rfl))
   exact Rg.zq (o := ⟨some 47, _, _, _, _, _⟩) rfl (Rg.zan (g := 2) (want := true) rfl rfl qg) ⟨_, rfl, (fun h => by cases h), rfl, hI, fun _ _ _ h => h⟩
  ·intro bb w' hf hI hA
   clear hi'
   have qg : bb.tmps[46]? = some _ := hf.tmp (k := 2) rfl (by rw [ha]; decide) (hA 2 (by kernel_rfl) (.inl rfl))
   exact Rg.zq (o := ⟨some 48, _, _, _, _, _⟩) rfl (Rg.zan (g := 2) (want := true) rfl rfl qg) ⟨_, rfl, (fun h => by cases h), rfl, hI, fun _ _ _ h => h⟩
  ·intro bb w' hf hI hA
   clear hi'
   have qg : bb.tmps[46]? = some _ := hf.tmp (k := 2) rfl (by rw [ha]; decide) (hA 2 (by kernel_rfl) (.inl rfl))
   exact Rg.zq (o := ⟨some 49, _, _, _, _, _⟩) rfl (Rg.zan (g := 2) (want := true) rfl rfl qg) ⟨_, rfl, (fun h => by cases h), rfl, hI, fun _ _ _ h => h⟩
  ·intro bb w' hf hI hA
   clear hi'
   have qg : bb.tmps[46]? = some _ := hf.tmp (k := 2) rfl (by rw [ha]; decide) (hA 2 (by kernel_rfl) (.inl rfl))
   exact Rg.zq (o := ⟨some 50, _, _, _, _, _⟩) rfl (Rg.zan (g := 2) (want := true) rfl rfl qg) ⟨_, rfl, (fun h => by cases h), rfl, hI, fun _ _ _ h => h⟩
  ·intro bb w' hf hI hA
   clear hi'
   have qg : bb.tmps[46]? = some _ := hf.tmp (k := 2) rfl (by rw [ha]; decide) (hA 2 (by kernel_rfl) (.inl rfl))
   exact Rg.zq (o := ⟨some 51, _, _, _, _, _⟩) rfl (Rg.zan (g := 2) (want := true) rfl rfl qg) ⟨_, rfl, (fun h => by cases h), rfl, hI, fun _ _ _ h => h⟩
  ·intro bb w' hf hI hA
   clear hi'
   have qg : bb.tmps[46]? = some _ := hf.tmp (k := 2) rfl (by rw [ha]; decide) (hA 2 (by kernel_rfl) (.inl rfl))
   exact Rg.zq (o := ⟨some 52, _, _, _, _, _⟩) rfl (Rg.zan (g := 2) (want := true) rfl rfl qg) ⟨_, rfl, (fun h => by cases h), rfl, hI, fun _ _ _ h => h⟩
  ·intro bb w' hf hI hA
   clear hi'
   have qg : bb.tmps[46]? = some _ := hf.tmp (k := 2) rfl (by rw [ha]; decide) (hA 2 (by kernel_rfl) (.inl rfl))
   exact Rg.zq (o := ⟨some 53, _, _, _, _, _⟩) rfl (Rg.zan (g := 2) (want := true) rfl rfl qg) ⟨_, rfl, (fun h => by cases h), rfl, hI, fun _ _ _ h => h⟩
  ·intro bb w' hf hI hA
   clear hi'
   have qg : bb.tmps[46]? = some _ := hf.tmp (k := 2) rfl (by rw [ha]; decide) (hA 2 (by kernel_rfl) (.inl rfl))
   exact Rg.zq (o := ⟨some 54, _, _, _, _, _⟩) rfl (Rg.zan (g := 2) (want := true) rfl rfl qg) ⟨_, rfl, (fun h => by cases h), rfl, hI, fun _ _ _ h => h⟩
  ·intro bb w' hf hI hA
   clear hi'
   have qg : bb.tmps[46]? = some _ := hf.tmp (k := 2) rfl (by rw [ha]; decide) (hA 2 (by kernel_rfl) (.inl rfl))
   exact Rg.zq (o := ⟨some 55, _, _, _, _, _⟩) rfl (Rg.zan (g := 2) (want := true) rfl rfl qg) ⟨_, rfl, (fun h => by cases h), rfl, hI, fun _ _ _ h => h⟩
  ·intro bb w' hf hI hA
   clear hi'
   have qg : bb.tmps[46]? = some _ := hf.tmp (k := 2) rfl (by rw [ha]; decide) (hA 2 (by kernel_rfl) (.inl rfl))
   exact Rg.zq (o := ⟨some 56, _, _, _, _, _⟩) rfl (Rg.zan (g := 2) (want := true) rfl rfl qg) ⟨_, rfl, (fun h => by cases h), rfl, hI, fun _ _ _ h => h⟩
  ·intro bb w' hf hI hA
   clear hi'
   have q46 : bb.tmps[46]? = some _ := hf.tmp (k := 2) rfl (by rw [ha]; decide) (hA 2 (by kernel_rfl) (.inl rfl))
   clear hA HS 
   exact Rg.zf (o := ⟨some 57, Op.pick (Operand.tmp 46) (Operand.tmp 56) (Operand.const (Value.bool false)), _, _, _, _⟩) (x := .bool false) rfl rfl (by simp only [execOp]; go_simp) ⟨_, rfl, (fun h => by cases h), rfl, hI, fun _ _ _ h => h⟩
theorem layO14t {a b : Act} (hf : Rg.Fr (Rg.opsOf Tryz.f50 14) a b) : b = Rg.fl (Rg.opsOf Tryz.f50 14) b 0 [some 44, some 45, some 46, some 47, some 48, some 49, some 50, some 51, some 52, some 53, some 54, some 55, some 56, some 57] a := Rg.ql _ (by kernel_rfl) hf
end Go.Proofs.YtjlpfpigggdemaaGreatDoor
