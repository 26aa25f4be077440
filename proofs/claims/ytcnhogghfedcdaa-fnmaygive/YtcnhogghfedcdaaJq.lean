/-
  What may be given breaks no day: the walk of the law.
-/
import Derived.Test.YtcnhogghfedcdaaJo
import Derived.Test.YtcnhogghfedcdaaMp
import Derived.Test.YtcnhogghfedcdaaMl
import Derived.Test.YtcnhogghfedcdaaRm
namespace Go.Proofs.Ytcnhogghfedcdaa
open Go.RowKit Va Ga
set_option linter.unusedVariables false

def FY17a (g off n cap i V : Nat) (s : Int) (x : Dg) (y : Gv) (ad : Option Addr) (c : Nat) (i9 : Nat) (v : Value) (w : World) : Prop :=
  match i9 with
  | 0 => v = .slice (some ⟨g, off, none⟩) n cap
  | 1 => v = .int .i64 (i : Nat)
  | 2 => v = .pointer (some ⟨g, off + i * 3, none⟩)
  | 3 => v = .pointer (some ⟨g, off + i * 3, none⟩)
  | 4 => v = .int .i64 y.d
  | 5 => v = .pointer (some ⟨V, 0, none⟩)
  | 6 => v = .int .i64 x.id
  | 7 => v = .bool false
  | 8 => v = .bool false
  | 9 => v = undef
  | 10 => v = undef
  | 11 => v = undef
  | 12 => v = undef
  | 13 => v = undef
  | 14 => v = undef
  | 15 => v = undef
  | 16 => v = .bool false
  | 17 => v = .bool false
  | 18 => v = undef
  | 19 => v = undef
  | 20 => v = undef
  | 21 => v = undef
  | 22 => v = undef
  | 23 => v = undef
  | 24 => v = undef
  | 25 => v = undef
  | 26 => v = .bool false
  | _ => True
theorem sizeY17a : (Rg.opsOf Try.f5 17).size = 27 := by kernel_rfl

set_option maxRecDepth 20000 in
set_option maxHeartbeats 8000000 in
theorem regY17a {Q : Exit → Act → World → Prop} {a : Act} {w9 : World} {g off n cap i V : Nat} {s : Int} {x : Dg} {y : Gv} {ad : Option Addr} {c : Nat} (ha : a.tmps.size = 114)
    (k4 : a.tmps[4]? = some (.slice (some ⟨g, off, none⟩) n cap)) (k13 : a.tmps[13]? = some (.int .i64 (i : Nat))) (k3 : a.tmps[3]? = some (.pointer (some ⟨V, 0, none⟩))) (k11 : a.tmps[11]? = some (.int .i64 s)) (hin : i < n) (hgl : g < w9.heap.size) (h0 : w9.cell? ⟨g, off + i * 3, none⟩ = some (.int .i64 y.d)) (h1 : w9.cell? ⟨g, off + i * 3 + 1, none⟩ = some (.int .i64 y.t)) (hV : PB w9 V #[.int .i64 x.id, .slice ad x.cls.length c, .int .i64 x.pk, .int .i64 x.most, .int .i64 x.day, .int .i64 x.kid] 26) (hs : -2000 ≤ s ∧ s ≤ 20000000) (hq : ¬ y.d = x.id)
    (hend : ∀ b' w', Rg.Fr (Rg.opsOf Try.f5 17) a b' → Below w9.heap.size w9 w' → Rg.out (Rg.opsOf Try.f5 17) b' 26 = .bool false → Q .normal b' w') :
    (Code.region 17 (Rg.opsOf Try.f5 17) true).wp Try.prog Q a w9 := by
  refine Rg.region_dead (by kernel_rfl) (fun w' => Below w9.heap.size w9 w') (FY17a g off n cap i V s x y ad c) (fun _ => none) (by rw [ha, sizeY17a]; kernel_rfl) (st_drew (Below.refl _ _)) ?_ ?_
  case refine_2 =>
    intro b' w' hf hI hA
    rw [sizeY17a] at hA
    exact hend b' w' hf hI (hA 26 (by decide) rfl)
  case refine_1 =>
    clear hend
    have HS : ∀ {w w' : World}, Below w.heap.size w w' → ∀ k9 y9, FY17a g off n cap i V s x y ad c k9 y9 w → FY17a g off n cap i V s x y ad c k9 y9 w' := fun hb k9 y9 h => by
      unfold FY17a at *
      split at h <;> exact h
    intro i' hi'
    rw [sizeY17a] at hi'
    rcases (show i' = 0 ∨ i' = 1 ∨ i' = 2 ∨ i' = 3 ∨ i' = 4 ∨ i' = 5 ∨ i' = 6 ∨ i' = 7 ∨ i' = 8 ∨ i' = 9 ∨ i' = 10 ∨ i' = 11 ∨ i' = 12 ∨ i' = 13 ∨ i' = 14 ∨ i' = 15 ∨ i' = 16 ∨ i' = 17 ∨ i' = 18 ∨ i' = 19 ∨ i' = 20 ∨ i' = 21 ∨ i' = 22 ∨ i' = 23 ∨ i' = 24 ∨ i' = 25 ∨ i' = 26 by omega) with rfl | rfl | rfl | rfl | rfl | rfl | rfl | rfl | rfl | rfl | rfl | rfl | rfl | rfl | rfl | rfl | rfl | rfl | rfl | rfl | rfl | rfl | rfl | rfl | rfl | rfl | rfl
    · intro bb w' hf hI hA
      clear hi'
      have q0 := hf.kept (s := 4) (by rw [sizeY17a]; kernel_rfl) k4
      exact Rg.op_value (o := ⟨some 74, Op.move (Operand.tmp 4), _, _, _, _⟩) rfl rfl rfl ⟨_, rfl, (fun h => by cases h), (by show Act.eval bb _ = _; simp [Act.eval, q0]), hI, fun _ _ _ h => h⟩
    · intro bb w' hf hI hA
      clear hi'
      have q0 := hf.kept (s := 13) (by rw [sizeY17a]; kernel_rfl) k13
      exact Rg.op_value (o := ⟨some 75, Op.move (Operand.tmp 13), _, _, _, _⟩) rfl rfl rfl ⟨_, rfl, (fun h => by cases h), (by show Act.eval bb _ = _; simp [Act.eval, q0]), hI, fun _ _ _ h => h⟩
    · intro bb w' hf hI hA
      clear hi'
      have q74 : bb.tmps[74]? = some _ := hf.tmp (k := 0) rfl (by rw [ha]; decide) (hA 0 (by kernel_rfl) (.inl rfl))
      have q75 : bb.tmps[75]? = some _ := hf.tmp (k := 1) rfl (by rw [ha]; decide) (hA 1 (by kernel_rfl) (.inl rfl))
      have hin2 : (i : Int) < (n : Int) := by omega
      clear hA HS hV
      exact Rg.op_value (o := ⟨some 76, Op.indexAddr 42 (Operand.tmp 74) (Operand.tmp 75), _, _, _, _⟩) (x := .pointer (some ⟨g, off + i * 3, none⟩)) rfl rfl (by simp only [execOp]; go_simp) ⟨_, rfl, (fun h => by cases h), rfl, hI, fun _ _ _ h => h⟩
    · intro bb w' hf hI hA
      clear hi'
      have q76 : bb.tmps[76]? = some _ := hf.tmp (k := 2) rfl (by rw [ha]; decide) (hA 2 (by kernel_rfl) (.inl rfl))
      clear hA HS hV
      exact Rg.op_value (o := ⟨some 77, Op.fieldAddr 49 (Operand.tmp 76) 0, _, _, _, _⟩) (x := .pointer (some ⟨g, off + i * 3, none⟩)) rfl rfl (by simp only [execOp]; go_simp) ⟨_, rfl, (fun h => by cases h), rfl, hI, fun _ _ _ h => h⟩
    · intro bb w' hf hI hA
      clear hi'
      have q77 : bb.tmps[77]? = some _ := hf.tmp (k := 3) rfl (by rw [ha]; decide) (hA 3 (by kernel_rfl) (.inl rfl))
      have e9 := (hI.cell (p := ⟨g, off + i * 3, none⟩) hgl).trans h0
      clear hA HS hV
      exact Rg.op_value (o := ⟨some 78, Op.load 2 (Operand.tmp 77), _, _, _, _⟩) (x := .int .i64 y.d) rfl rfl (by simp only [execOp]; go_simp) ⟨_, rfl, (fun h => by cases h), rfl, hI, fun _ _ _ h => h⟩
    · intro bb w' hf hI hA
      clear hi'
      have q3 := hf.kept (s := 3) (by rw [sizeY17a]; kernel_rfl) k3
      clear hA HS hV
      exact Rg.op_value (o := ⟨some 79, Op.fieldAddr 26 (Operand.tmp 3) 0, _, _, _, _⟩) (x := .pointer (some ⟨V, 0, none⟩)) rfl rfl (by simp only [execOp]; go_simp) ⟨_, rfl, (fun h => by cases h), rfl, hI, fun _ _ _ h => h⟩
    · intro bb w' hf hI hA
      clear hi'
      have q79 : bb.tmps[79]? = some _ := hf.tmp (k := 5) rfl (by rw [ha]; decide) (hA 5 (by kernel_rfl) (.inl rfl))
      obtain ⟨e0, e1, e2, e3, e4, e5⟩ := (hV.below hI).six
      clear hA HS hV
      exact Rg.op_value (o := ⟨some 80, Op.load 2 (Operand.tmp 79), _, _, _, _⟩) (x := .int .i64 x.id) rfl rfl (by simp only [execOp]; go_simp) ⟨_, rfl, (fun h => by cases h), rfl, hI, fun _ _ _ h => h⟩
    · intro bb w' hf hI hA
      clear hi'
      have q78 : bb.tmps[78]? = some _ := hf.tmp (k := 4) rfl (by rw [ha]; decide) (hA 4 (by kernel_rfl) (.inl rfl))
      have q80 : bb.tmps[80]? = some _ := hf.tmp (k := 6) rfl (by rw [ha]; decide) (hA 6 (by kernel_rfl) (.inl rfl))
      clear hA HS hV
      exact Rg.op_value (o := ⟨some 81, Op.binOp BinOp.eql 2 (Operand.tmp 78) (Operand.tmp 80) 2, _, _, _, _⟩) (x := .bool false) rfl rfl (by simp only [execOp]; go_simp) ⟨_, rfl, (fun h => by cases h), rfl, hI, fun _ _ _ h => h⟩
    · intro bb w' hf hI hA
      clear hi'
      have q81 : bb.tmps[81]? = some _ := hf.tmp (k := 7) rfl (by rw [ha]; decide) (hA 7 (by kernel_rfl) (.inl rfl))
      clear hA HS hV
      exact Rg.op_value (o := ⟨some 82, Op.move (Operand.tmp 81), _, _, _, _⟩) (x := .bool false) rfl rfl (by simp only [execOp]; go_simp) ⟨_, rfl, (fun h => by cases h), rfl, hI, fun _ _ _ h => h⟩
    · intro bb w' hf hI hA
      clear hi'
      have qg : bb.tmps[82]? = some _ := hf.tmp (k := 8) rfl (by rw [ha]; decide) (hA 8 (by kernel_rfl) (.inl rfl))
      exact Rg.op_none (o := ⟨some 83, _, _, _, _, _⟩) rfl (Rg.unwanted_of (g := 8) (want := true) rfl rfl qg) ⟨_, rfl, (fun h => by cases h), rfl, hI, fun _ _ _ h => h⟩
    · intro bb w' hf hI hA
      clear hi'
      have qg : bb.tmps[82]? = some _ := hf.tmp (k := 8) rfl (by rw [ha]; decide) (hA 8 (by kernel_rfl) (.inl rfl))
      exact Rg.op_none (o := ⟨some 84, _, _, _, _, _⟩) rfl (Rg.unwanted_of (g := 8) (want := true) rfl rfl qg) ⟨_, rfl, (fun h => by cases h), rfl, hI, fun _ _ _ h => h⟩
    · intro bb w' hf hI hA
      clear hi'
      have qg : bb.tmps[82]? = some _ := hf.tmp (k := 8) rfl (by rw [ha]; decide) (hA 8 (by kernel_rfl) (.inl rfl))
      exact Rg.op_none (o := ⟨some 85, _, _, _, _, _⟩) rfl (Rg.unwanted_of (g := 8) (want := true) rfl rfl qg) ⟨_, rfl, (fun h => by cases h), rfl, hI, fun _ _ _ h => h⟩
    · intro bb w' hf hI hA
      clear hi'
      have qg : bb.tmps[82]? = some _ := hf.tmp (k := 8) rfl (by rw [ha]; decide) (hA 8 (by kernel_rfl) (.inl rfl))
      exact Rg.op_none (o := ⟨some 86, _, _, _, _, _⟩) rfl (Rg.unwanted_of (g := 8) (want := true) rfl rfl qg) ⟨_, rfl, (fun h => by cases h), rfl, hI, fun _ _ _ h => h⟩
    · intro bb w' hf hI hA
      clear hi'
      have qg : bb.tmps[82]? = some _ := hf.tmp (k := 8) rfl (by rw [ha]; decide) (hA 8 (by kernel_rfl) (.inl rfl))
      exact Rg.op_none (o := ⟨some 87, _, _, _, _, _⟩) rfl (Rg.unwanted_of (g := 8) (want := true) rfl rfl qg) ⟨_, rfl, (fun h => by cases h), rfl, hI, fun _ _ _ h => h⟩
    · intro bb w' hf hI hA
      clear hi'
      have qg : bb.tmps[82]? = some _ := hf.tmp (k := 8) rfl (by rw [ha]; decide) (hA 8 (by kernel_rfl) (.inl rfl))
      exact Rg.op_none (o := ⟨some 88, _, _, _, _, _⟩) rfl (Rg.unwanted_of (g := 8) (want := true) rfl rfl qg) ⟨_, rfl, (fun h => by cases h), rfl, hI, fun _ _ _ h => h⟩
    · intro bb w' hf hI hA
      clear hi'
      have qg : bb.tmps[82]? = some _ := hf.tmp (k := 8) rfl (by rw [ha]; decide) (hA 8 (by kernel_rfl) (.inl rfl))
      exact Rg.op_none (o := ⟨some 89, _, _, _, _, _⟩) rfl (Rg.unwanted_of (g := 8) (want := true) rfl rfl qg) ⟨_, rfl, (fun h => by cases h), rfl, hI, fun _ _ _ h => h⟩
    · intro bb w' hf hI hA
      clear hi'
      have q82 : bb.tmps[82]? = some _ := hf.tmp (k := 8) rfl (by rw [ha]; decide) (hA 8 (by kernel_rfl) (.inl rfl))
      clear hA HS hV
      exact Rg.op_value (o := ⟨some 90, Op.pick (Operand.tmp 82) (Operand.tmp 89) (Operand.const (Value.bool false)), _, _, _, _⟩) (x := .bool false) rfl rfl (by simp only [execOp]; go_simp) ⟨_, rfl, (fun h => by cases h), rfl, hI, fun _ _ _ h => h⟩
    · intro bb w' hf hI hA
      clear hi'
      have q90 : bb.tmps[90]? = some _ := hf.tmp (k := 16) rfl (by rw [ha]; decide) (hA 16 (by kernel_rfl) (.inl rfl))
      clear hA HS hV
      exact Rg.op_value (o := ⟨some 91, Op.move (Operand.tmp 90), _, _, _, _⟩) (x := .bool false) rfl rfl (by simp only [execOp]; go_simp) ⟨_, rfl, (fun h => by cases h), rfl, hI, fun _ _ _ h => h⟩
    · intro bb w' hf hI hA
      clear hi'
      have qg : bb.tmps[91]? = some _ := hf.tmp (k := 17) rfl (by rw [ha]; decide) (hA 17 (by kernel_rfl) (.inl rfl))
      exact Rg.op_none (o := ⟨some 92, _, _, _, _, _⟩) rfl (Rg.unwanted_of (g := 17) (want := true) rfl rfl qg) ⟨_, rfl, (fun h => by cases h), rfl, hI, fun _ _ _ h => h⟩
    · intro bb w' hf hI hA
      clear hi'
      have qg : bb.tmps[91]? = some _ := hf.tmp (k := 17) rfl (by rw [ha]; decide) (hA 17 (by kernel_rfl) (.inl rfl))
      exact Rg.op_none (o := ⟨some 93, _, _, _, _, _⟩) rfl (Rg.unwanted_of (g := 17) (want := true) rfl rfl qg) ⟨_, rfl, (fun h => by cases h), rfl, hI, fun _ _ _ h => h⟩
    · intro bb w' hf hI hA
      clear hi'
      have qg : bb.tmps[91]? = some _ := hf.tmp (k := 17) rfl (by rw [ha]; decide) (hA 17 (by kernel_rfl) (.inl rfl))
      exact Rg.op_none (o := ⟨some 94, _, _, _, _, _⟩) rfl (Rg.unwanted_of (g := 17) (want := true) rfl rfl qg) ⟨_, rfl, (fun h => by cases h), rfl, hI, fun _ _ _ h => h⟩
    · intro bb w' hf hI hA
      clear hi'
      have qg : bb.tmps[91]? = some _ := hf.tmp (k := 17) rfl (by rw [ha]; decide) (hA 17 (by kernel_rfl) (.inl rfl))
      exact Rg.op_none (o := ⟨some 95, _, _, _, _, _⟩) rfl (Rg.unwanted_of (g := 17) (want := true) rfl rfl qg) ⟨_, rfl, (fun h => by cases h), rfl, hI, fun _ _ _ h => h⟩
    · intro bb w' hf hI hA
      clear hi'
      have qg : bb.tmps[91]? = some _ := hf.tmp (k := 17) rfl (by rw [ha]; decide) (hA 17 (by kernel_rfl) (.inl rfl))
      exact Rg.op_none (o := ⟨some 96, _, _, _, _, _⟩) rfl (Rg.unwanted_of (g := 17) (want := true) rfl rfl qg) ⟨_, rfl, (fun h => by cases h), rfl, hI, fun _ _ _ h => h⟩
    · intro bb w' hf hI hA
      clear hi'
      have qg : bb.tmps[91]? = some _ := hf.tmp (k := 17) rfl (by rw [ha]; decide) (hA 17 (by kernel_rfl) (.inl rfl))
      exact Rg.op_none (o := ⟨some 97, _, _, _, _, _⟩) rfl (Rg.unwanted_of (g := 17) (want := true) rfl rfl qg) ⟨_, rfl, (fun h => by cases h), rfl, hI, fun _ _ _ h => h⟩
    · intro bb w' hf hI hA
      clear hi'
      have qg : bb.tmps[91]? = some _ := hf.tmp (k := 17) rfl (by rw [ha]; decide) (hA 17 (by kernel_rfl) (.inl rfl))
      exact Rg.op_none (o := ⟨some 98, _, _, _, _, _⟩) rfl (Rg.unwanted_of (g := 17) (want := true) rfl rfl qg) ⟨_, rfl, (fun h => by cases h), rfl, hI, fun _ _ _ h => h⟩
    · intro bb w' hf hI hA
      clear hi'
      have qg : bb.tmps[91]? = some _ := hf.tmp (k := 17) rfl (by rw [ha]; decide) (hA 17 (by kernel_rfl) (.inl rfl))
      exact Rg.op_none (o := ⟨some 99, _, _, _, _, _⟩) rfl (Rg.unwanted_of (g := 17) (want := true) rfl rfl qg) ⟨_, rfl, (fun h => by cases h), rfl, hI, fun _ _ _ h => h⟩
    · intro bb w' hf hI hA
      clear hi'
      have q91 : bb.tmps[91]? = some _ := hf.tmp (k := 17) rfl (by rw [ha]; decide) (hA 17 (by kernel_rfl) (.inl rfl))
      clear hA HS hV
      exact Rg.op_value (o := ⟨some 100, Op.pick (Operand.tmp 91) (Operand.tmp 99) (Operand.const (Value.bool false)), _, _, _, _⟩) (x := .bool false) rfl rfl (by simp only [execOp]; go_simp) ⟨_, rfl, (fun h => by cases h), rfl, hI, fun _ _ _ h => h⟩

theorem dY17a_0 : Rg.dstAt (Rg.opsOf Try.f5 17) 0 = some 74 := by kernel_rfl
theorem dY17a_1 : Rg.dstAt (Rg.opsOf Try.f5 17) 1 = some 75 := by kernel_rfl
theorem dY17a_2 : Rg.dstAt (Rg.opsOf Try.f5 17) 2 = some 76 := by kernel_rfl
theorem dY17a_3 : Rg.dstAt (Rg.opsOf Try.f5 17) 3 = some 77 := by kernel_rfl
theorem dY17a_4 : Rg.dstAt (Rg.opsOf Try.f5 17) 4 = some 78 := by kernel_rfl
theorem dY17a_5 : Rg.dstAt (Rg.opsOf Try.f5 17) 5 = some 79 := by kernel_rfl
theorem dY17a_6 : Rg.dstAt (Rg.opsOf Try.f5 17) 6 = some 80 := by kernel_rfl
theorem dY17a_7 : Rg.dstAt (Rg.opsOf Try.f5 17) 7 = some 81 := by kernel_rfl
theorem dY17a_8 : Rg.dstAt (Rg.opsOf Try.f5 17) 8 = some 82 := by kernel_rfl
theorem dY17a_9 : Rg.dstAt (Rg.opsOf Try.f5 17) 9 = some 83 := by kernel_rfl
theorem dY17a_10 : Rg.dstAt (Rg.opsOf Try.f5 17) 10 = some 84 := by kernel_rfl
theorem dY17a_11 : Rg.dstAt (Rg.opsOf Try.f5 17) 11 = some 85 := by kernel_rfl
theorem dY17a_12 : Rg.dstAt (Rg.opsOf Try.f5 17) 12 = some 86 := by kernel_rfl
theorem dY17a_13 : Rg.dstAt (Rg.opsOf Try.f5 17) 13 = some 87 := by kernel_rfl
theorem dY17a_14 : Rg.dstAt (Rg.opsOf Try.f5 17) 14 = some 88 := by kernel_rfl
theorem dY17a_15 : Rg.dstAt (Rg.opsOf Try.f5 17) 15 = some 89 := by kernel_rfl
theorem dY17a_16 : Rg.dstAt (Rg.opsOf Try.f5 17) 16 = some 90 := by kernel_rfl
theorem dY17a_17 : Rg.dstAt (Rg.opsOf Try.f5 17) 17 = some 91 := by kernel_rfl
theorem dY17a_18 : Rg.dstAt (Rg.opsOf Try.f5 17) 18 = some 92 := by kernel_rfl
theorem dY17a_19 : Rg.dstAt (Rg.opsOf Try.f5 17) 19 = some 93 := by kernel_rfl
theorem dY17a_20 : Rg.dstAt (Rg.opsOf Try.f5 17) 20 = some 94 := by kernel_rfl
theorem dY17a_21 : Rg.dstAt (Rg.opsOf Try.f5 17) 21 = some 95 := by kernel_rfl
theorem dY17a_22 : Rg.dstAt (Rg.opsOf Try.f5 17) 22 = some 96 := by kernel_rfl
theorem dY17a_23 : Rg.dstAt (Rg.opsOf Try.f5 17) 23 = some 97 := by kernel_rfl
theorem dY17a_24 : Rg.dstAt (Rg.opsOf Try.f5 17) 24 = some 98 := by kernel_rfl
theorem dY17a_25 : Rg.dstAt (Rg.opsOf Try.f5 17) 25 = some 99 := by kernel_rfl
theorem dY17a_26 : Rg.dstAt (Rg.opsOf Try.f5 17) 26 = some 100 := by kernel_rfl
theorem layY17a {a b : Act} (hf : Rg.Fr (Rg.opsOf Try.f5 17) a b) : b = (((((((((((((((((((((((((((a.put (some 74) (Rg.out (Rg.opsOf Try.f5 17) b 0)).put (some 75) (Rg.out (Rg.opsOf Try.f5 17) b 1)).put (some 76) (Rg.out (Rg.opsOf Try.f5 17) b 2)).put (some 77) (Rg.out (Rg.opsOf Try.f5 17) b 3)).put (some 78) (Rg.out (Rg.opsOf Try.f5 17) b 4)).put (some 79) (Rg.out (Rg.opsOf Try.f5 17) b 5)).put (some 80) (Rg.out (Rg.opsOf Try.f5 17) b 6)).put (some 81) (Rg.out (Rg.opsOf Try.f5 17) b 7)).put (some 82) (Rg.out (Rg.opsOf Try.f5 17) b 8)).put (some 83) (Rg.out (Rg.opsOf Try.f5 17) b 9)).put (some 84) (Rg.out (Rg.opsOf Try.f5 17) b 10)).put (some 85) (Rg.out (Rg.opsOf Try.f5 17) b 11)).put (some 86) (Rg.out (Rg.opsOf Try.f5 17) b 12)).put (some 87) (Rg.out (Rg.opsOf Try.f5 17) b 13)).put (some 88) (Rg.out (Rg.opsOf Try.f5 17) b 14)).put (some 89) (Rg.out (Rg.opsOf Try.f5 17) b 15)).put (some 90) (Rg.out (Rg.opsOf Try.f5 17) b 16)).put (some 91) (Rg.out (Rg.opsOf Try.f5 17) b 17)).put (some 92) (Rg.out (Rg.opsOf Try.f5 17) b 18)).put (some 93) (Rg.out (Rg.opsOf Try.f5 17) b 19)).put (some 94) (Rg.out (Rg.opsOf Try.f5 17) b 20)).put (some 95) (Rg.out (Rg.opsOf Try.f5 17) b 21)).put (some 96) (Rg.out (Rg.opsOf Try.f5 17) b 22)).put (some 97) (Rg.out (Rg.opsOf Try.f5 17) b 23)).put (some 98) (Rg.out (Rg.opsOf Try.f5 17) b 24)).put (some 99) (Rg.out (Rg.opsOf Try.f5 17) b 25)).put (some 100) (Rg.out (Rg.opsOf Try.f5 17) b 26)) := by
  have h := hf.chain
  rw [sizeY17a, show List.range 27 = [0, 1, 2, 3, 4, 5, 6, 7, 8, 9, 10, 11, 12, 13, 14, 15, 16, 17, 18, 19, 20, 21, 22, 23, 24, 25, 26] from by decide] at h
  simp only [List.foldl_cons, List.foldl_nil, dY17a_0, dY17a_1, dY17a_2, dY17a_3, dY17a_4, dY17a_5, dY17a_6, dY17a_7, dY17a_8, dY17a_9, dY17a_10, dY17a_11, dY17a_12, dY17a_13, dY17a_14, dY17a_15, dY17a_16, dY17a_17, dY17a_18, dY17a_19, dY17a_20, dY17a_21, dY17a_22, dY17a_23, dY17a_24, dY17a_25, dY17a_26] at h
  exact h

def FY17b (g off n cap i V : Nat) (s : Int) (x : Dg) (y : Gv) (ad : Option Addr) (c : Nat) (i9 : Nat) (v : Value) (w : World) : Prop :=
  match i9 with
  | 0 => v = .slice (some ⟨g, off, none⟩) n cap
  | 1 => v = .int .i64 (i : Nat)
  | 2 => v = .pointer (some ⟨g, off + i * 3, none⟩)
  | 3 => v = .pointer (some ⟨g, off + i * 3, none⟩)
  | 4 => v = .int .i64 y.d
  | 5 => v = .pointer (some ⟨V, 0, none⟩)
  | 6 => v = .int .i64 x.id
  | 7 => v = .bool true
  | 8 => v = .bool true
  | 9 => v = .slice (some ⟨g, off, none⟩) n cap
  | 10 => v = .int .i64 (i : Nat)
  | 11 => v = .pointer (some ⟨g, off + i * 3, none⟩)
  | 12 => v = .pointer (some ⟨g, off + i * 3 + 1, none⟩)
  | 13 => v = .int .i64 y.t
  | 14 => v = .int .i64 s
  | 15 => v = .bool false
  | 16 => v = .bool false
  | 17 => v = .bool false
  | 18 => v = undef
  | 19 => v = undef
  | 20 => v = undef
  | 21 => v = undef
  | 22 => v = undef
  | 23 => v = undef
  | 24 => v = undef
  | 25 => v = undef
  | 26 => v = .bool false
  | _ => True
theorem sizeY17b : (Rg.opsOf Try.f5 17).size = 27 := by kernel_rfl

set_option maxRecDepth 20000 in
set_option maxHeartbeats 8000000 in
theorem regY17b {Q : Exit → Act → World → Prop} {a : Act} {w9 : World} {g off n cap i V : Nat} {s : Int} {x : Dg} {y : Gv} {ad : Option Addr} {c : Nat} (ha : a.tmps.size = 114)
    (k4 : a.tmps[4]? = some (.slice (some ⟨g, off, none⟩) n cap)) (k13 : a.tmps[13]? = some (.int .i64 (i : Nat))) (k3 : a.tmps[3]? = some (.pointer (some ⟨V, 0, none⟩))) (k11 : a.tmps[11]? = some (.int .i64 s)) (hin : i < n) (hgl : g < w9.heap.size) (h0 : w9.cell? ⟨g, off + i * 3, none⟩ = some (.int .i64 y.d)) (h1 : w9.cell? ⟨g, off + i * 3 + 1, none⟩ = some (.int .i64 y.t)) (hV : PB w9 V #[.int .i64 x.id, .slice ad x.cls.length c, .int .i64 x.pk, .int .i64 x.most, .int .i64 x.day, .int .i64 x.kid] 26) (hs : -2000 ≤ s ∧ s ≤ 20000000) (hq : y.d = x.id) (hr : ¬ s ≤ y.t)
    (hend : ∀ b' w', Rg.Fr (Rg.opsOf Try.f5 17) a b' → Below w9.heap.size w9 w' → Rg.out (Rg.opsOf Try.f5 17) b' 26 = .bool false → Q .normal b' w') :
    (Code.region 17 (Rg.opsOf Try.f5 17) true).wp Try.prog Q a w9 := by
  refine Rg.region_dead (by kernel_rfl) (fun w' => Below w9.heap.size w9 w') (FY17b g off n cap i V s x y ad c) (fun _ => none) (by rw [ha, sizeY17b]; kernel_rfl) (st_drew (Below.refl _ _)) ?_ ?_
  case refine_2 =>
    intro b' w' hf hI hA
    rw [sizeY17b] at hA
    exact hend b' w' hf hI (hA 26 (by decide) rfl)
  case refine_1 =>
    clear hend
    have HS : ∀ {w w' : World}, Below w.heap.size w w' → ∀ k9 y9, FY17b g off n cap i V s x y ad c k9 y9 w → FY17b g off n cap i V s x y ad c k9 y9 w' := fun hb k9 y9 h => by
      unfold FY17b at *
      split at h <;> exact h
    intro i' hi'
    rw [sizeY17b] at hi'
    rcases (show i' = 0 ∨ i' = 1 ∨ i' = 2 ∨ i' = 3 ∨ i' = 4 ∨ i' = 5 ∨ i' = 6 ∨ i' = 7 ∨ i' = 8 ∨ i' = 9 ∨ i' = 10 ∨ i' = 11 ∨ i' = 12 ∨ i' = 13 ∨ i' = 14 ∨ i' = 15 ∨ i' = 16 ∨ i' = 17 ∨ i' = 18 ∨ i' = 19 ∨ i' = 20 ∨ i' = 21 ∨ i' = 22 ∨ i' = 23 ∨ i' = 24 ∨ i' = 25 ∨ i' = 26 by omega) with rfl | rfl | rfl | rfl | rfl | rfl | rfl | rfl | rfl | rfl | rfl | rfl | rfl | rfl | rfl | rfl | rfl | rfl | rfl | rfl | rfl | rfl | rfl | rfl | rfl | rfl | rfl
    · intro bb w' hf hI hA
      clear hi'
      have q0 := hf.kept (s := 4) (by rw [sizeY17b]; kernel_rfl) k4
      exact Rg.op_value (o := ⟨some 74, Op.move (Operand.tmp 4), _, _, _, _⟩) rfl rfl rfl ⟨_, rfl, (fun h => by cases h), (by show Act.eval bb _ = _; simp [Act.eval, q0]), hI, fun _ _ _ h => h⟩
    · intro bb w' hf hI hA
      clear hi'
      have q0 := hf.kept (s := 13) (by rw [sizeY17b]; kernel_rfl) k13
      exact Rg.op_value (o := ⟨some 75, Op.move (Operand.tmp 13), _, _, _, _⟩) rfl rfl rfl ⟨_, rfl, (fun h => by cases h), (by show Act.eval bb _ = _; simp [Act.eval, q0]), hI, fun _ _ _ h => h⟩
    · intro bb w' hf hI hA
      clear hi'
      have q74 : bb.tmps[74]? = some _ := hf.tmp (k := 0) rfl (by rw [ha]; decide) (hA 0 (by kernel_rfl) (.inl rfl))
      have q75 : bb.tmps[75]? = some _ := hf.tmp (k := 1) rfl (by rw [ha]; decide) (hA 1 (by kernel_rfl) (.inl rfl))
      have hin2 : (i : Int) < (n : Int) := by omega
      clear hA HS hV
      exact Rg.op_value (o := ⟨some 76, Op.indexAddr 42 (Operand.tmp 74) (Operand.tmp 75), _, _, _, _⟩) (x := .pointer (some ⟨g, off + i * 3, none⟩)) rfl rfl (by simp only [execOp]; go_simp) ⟨_, rfl, (fun h => by cases h), rfl, hI, fun _ _ _ h => h⟩
    · intro bb w' hf hI hA
      clear hi'
      have q76 : bb.tmps[76]? = some _ := hf.tmp (k := 2) rfl (by rw [ha]; decide) (hA 2 (by kernel_rfl) (.inl rfl))
      clear hA HS hV
      exact Rg.op_value (o := ⟨some 77, Op.fieldAddr 49 (Operand.tmp 76) 0, _, _, _, _⟩) (x := .pointer (some ⟨g, off + i * 3, none⟩)) rfl rfl (by simp only [execOp]; go_simp) ⟨_, rfl, (fun h => by cases h), rfl, hI, fun _ _ _ h => h⟩
    · intro bb w' hf hI hA
      clear hi'
      have q77 : bb.tmps[77]? = some _ := hf.tmp (k := 3) rfl (by rw [ha]; decide) (hA 3 (by kernel_rfl) (.inl rfl))
      have e9 := (hI.cell (p := ⟨g, off + i * 3, none⟩) hgl).trans h0
      clear hA HS hV
      exact Rg.op_value (o := ⟨some 78, Op.load 2 (Operand.tmp 77), _, _, _, _⟩) (x := .int .i64 y.d) rfl rfl (by simp only [execOp]; go_simp) ⟨_, rfl, (fun h => by cases h), rfl, hI, fun _ _ _ h => h⟩
    · intro bb w' hf hI hA
      clear hi'
      have q3 := hf.kept (s := 3) (by rw [sizeY17b]; kernel_rfl) k3
      clear hA HS hV
      exact Rg.op_value (o := ⟨some 79, Op.fieldAddr 26 (Operand.tmp 3) 0, _, _, _, _⟩) (x := .pointer (some ⟨V, 0, none⟩)) rfl rfl (by simp only [execOp]; go_simp) ⟨_, rfl, (fun h => by cases h), rfl, hI, fun _ _ _ h => h⟩
    · intro bb w' hf hI hA
      clear hi'
      have q79 : bb.tmps[79]? = some _ := hf.tmp (k := 5) rfl (by rw [ha]; decide) (hA 5 (by kernel_rfl) (.inl rfl))
      obtain ⟨e0, e1, e2, e3, e4, e5⟩ := (hV.below hI).six
      clear hA HS hV
      exact Rg.op_value (o := ⟨some 80, Op.load 2 (Operand.tmp 79), _, _, _, _⟩) (x := .int .i64 x.id) rfl rfl (by simp only [execOp]; go_simp) ⟨_, rfl, (fun h => by cases h), rfl, hI, fun _ _ _ h => h⟩
    · intro bb w' hf hI hA
      clear hi'
      have q78 : bb.tmps[78]? = some _ := hf.tmp (k := 4) rfl (by rw [ha]; decide) (hA 4 (by kernel_rfl) (.inl rfl))
      have q80 : bb.tmps[80]? = some _ := hf.tmp (k := 6) rfl (by rw [ha]; decide) (hA 6 (by kernel_rfl) (.inl rfl))
      clear hA HS hV
      exact Rg.op_value (o := ⟨some 81, Op.binOp BinOp.eql 2 (Operand.tmp 78) (Operand.tmp 80) 2, _, _, _, _⟩) (x := .bool true) rfl rfl (by simp only [execOp]; go_simp) ⟨_, rfl, (fun h => by cases h), rfl, hI, fun _ _ _ h => h⟩
    · intro bb w' hf hI hA
      clear hi'
      have q81 : bb.tmps[81]? = some _ := hf.tmp (k := 7) rfl (by rw [ha]; decide) (hA 7 (by kernel_rfl) (.inl rfl))
      clear hA HS hV
      exact Rg.op_value (o := ⟨some 82, Op.move (Operand.tmp 81), _, _, _, _⟩) (x := .bool true) rfl rfl (by simp only [execOp]; go_simp) ⟨_, rfl, (fun h => by cases h), rfl, hI, fun _ _ _ h => h⟩
    · intro bb w' hf hI hA
      clear hi'
      have qg : bb.tmps[82]? = some _ := hf.tmp (k := 8) rfl (by rw [ha]; decide) (hA 8 (by kernel_rfl) (.inl rfl))
      have q0 := hf.kept (s := 4) (by rw [sizeY17b]; kernel_rfl) k4
      exact Rg.op_value (o := ⟨some 83, Op.move (Operand.tmp 4), _, _, _, _⟩) rfl (Rg.wanted_of (g := 8) rfl rfl qg) rfl ⟨_, rfl, (fun h => by cases h), (by show Act.eval bb _ = _; simp [Act.eval, q0]), hI, fun _ _ _ h => h⟩
    · intro bb w' hf hI hA
      clear hi'
      have qg : bb.tmps[82]? = some _ := hf.tmp (k := 8) rfl (by rw [ha]; decide) (hA 8 (by kernel_rfl) (.inl rfl))
      have q0 := hf.kept (s := 13) (by rw [sizeY17b]; kernel_rfl) k13
      exact Rg.op_value (o := ⟨some 84, Op.move (Operand.tmp 13), _, _, _, _⟩) rfl (Rg.wanted_of (g := 8) rfl rfl qg) rfl ⟨_, rfl, (fun h => by cases h), (by show Act.eval bb _ = _; simp [Act.eval, q0]), hI, fun _ _ _ h => h⟩
    · intro bb w' hf hI hA
      clear hi'
      have qg : bb.tmps[82]? = some _ := hf.tmp (k := 8) rfl (by rw [ha]; decide) (hA 8 (by kernel_rfl) (.inl rfl))
      have q83 : bb.tmps[83]? = some _ := hf.tmp (k := 9) rfl (by rw [ha]; decide) (hA 9 (by kernel_rfl) (.inl rfl))
      have q84 : bb.tmps[84]? = some _ := hf.tmp (k := 10) rfl (by rw [ha]; decide) (hA 10 (by kernel_rfl) (.inl rfl))
      have hin2 : (i : Int) < (n : Int) := by omega
      clear hA HS hV
      exact Rg.op_value (o := ⟨some 85, Op.indexAddr 42 (Operand.tmp 83) (Operand.tmp 84), _, _, _, _⟩) (x := .pointer (some ⟨g, off + i * 3, none⟩)) rfl (Rg.wanted_of (g := 8) rfl rfl qg) (by simp only [execOp]; go_simp) ⟨_, rfl, (fun h => by cases h), rfl, hI, fun _ _ _ h => h⟩
    · intro bb w' hf hI hA
      clear hi'
      have qg : bb.tmps[82]? = some _ := hf.tmp (k := 8) rfl (by rw [ha]; decide) (hA 8 (by kernel_rfl) (.inl rfl))
      have q85 : bb.tmps[85]? = some _ := hf.tmp (k := 11) rfl (by rw [ha]; decide) (hA 11 (by kernel_rfl) (.inl rfl))
      clear hA HS hV
      exact Rg.op_value (o := ⟨some 86, Op.fieldAddr 49 (Operand.tmp 85) 1, _, _, _, _⟩) (x := .pointer (some ⟨g, off + i * 3 + 1, none⟩)) rfl (Rg.wanted_of (g := 8) rfl rfl qg) (by simp only [execOp]; go_simp) ⟨_, rfl, (fun h => by cases h), rfl, hI, fun _ _ _ h => h⟩
    · intro bb w' hf hI hA
      clear hi'
      have qg : bb.tmps[82]? = some _ := hf.tmp (k := 8) rfl (by rw [ha]; decide) (hA 8 (by kernel_rfl) (.inl rfl))
      have q86 : bb.tmps[86]? = some _ := hf.tmp (k := 12) rfl (by rw [ha]; decide) (hA 12 (by kernel_rfl) (.inl rfl))
      have e9 := (hI.cell (p := ⟨g, off + i * 3 + 1, none⟩) hgl).trans h1
      clear hA HS hV
      exact Rg.op_value (o := ⟨some 87, Op.load 2 (Operand.tmp 86), _, _, _, _⟩) (x := .int .i64 y.t) rfl (Rg.wanted_of (g := 8) rfl rfl qg) (by simp only [execOp]; go_simp) ⟨_, rfl, (fun h => by cases h), rfl, hI, fun _ _ _ h => h⟩
    · intro bb w' hf hI hA
      clear hi'
      have qg : bb.tmps[82]? = some _ := hf.tmp (k := 8) rfl (by rw [ha]; decide) (hA 8 (by kernel_rfl) (.inl rfl))
      have q0 := hf.kept (s := 11) (by rw [sizeY17b]; kernel_rfl) k11
      exact Rg.op_value (o := ⟨some 88, Op.move (Operand.tmp 11), _, _, _, _⟩) rfl (Rg.wanted_of (g := 8) rfl rfl qg) rfl ⟨_, rfl, (fun h => by cases h), (by show Act.eval bb _ = _; simp [Act.eval, q0]), hI, fun _ _ _ h => h⟩
    · intro bb w' hf hI hA
      clear hi'
      have qg : bb.tmps[82]? = some _ := hf.tmp (k := 8) rfl (by rw [ha]; decide) (hA 8 (by kernel_rfl) (.inl rfl))
      have q87 : bb.tmps[87]? = some _ := hf.tmp (k := 13) rfl (by rw [ha]; decide) (hA 13 (by kernel_rfl) (.inl rfl))
      have q88 : bb.tmps[88]? = some _ := hf.tmp (k := 14) rfl (by rw [ha]; decide) (hA 14 (by kernel_rfl) (.inl rfl))
      clear hA HS hV
      exact Rg.op_value (o := ⟨some 89, Op.binOp BinOp.geq 2 (Operand.tmp 87) (Operand.tmp 88) 2, _, _, _, _⟩) (x := .bool false) rfl (Rg.wanted_of (g := 8) rfl rfl qg) (by simp only [execOp]; go_simp) ⟨_, rfl, (fun h => by cases h), rfl, hI, fun _ _ _ h => h⟩
    · intro bb w' hf hI hA
      clear hi'
      have q82 : bb.tmps[82]? = some _ := hf.tmp (k := 8) rfl (by rw [ha]; decide) (hA 8 (by kernel_rfl) (.inl rfl))
      have q89 : bb.tmps[89]? = some _ := hf.tmp (k := 15) rfl (by rw [ha]; decide) (hA 15 (by kernel_rfl) (.inl rfl))
      clear hA HS hV
      exact Rg.op_value (o := ⟨some 90, Op.pick (Operand.tmp 82) (Operand.tmp 89) (Operand.const (Value.bool false)), _, _, _, _⟩) (x := .bool false) rfl rfl (by simp only [execOp]; go_simp) ⟨_, rfl, (fun h => by cases h), rfl, hI, fun _ _ _ h => h⟩
    · intro bb w' hf hI hA
      clear hi'
      have q90 : bb.tmps[90]? = some _ := hf.tmp (k := 16) rfl (by rw [ha]; decide) (hA 16 (by kernel_rfl) (.inl rfl))
      clear hA HS hV
      exact Rg.op_value (o := ⟨some 91, Op.move (Operand.tmp 90), _, _, _, _⟩) (x := .bool false) rfl rfl (by simp only [execOp]; go_simp) ⟨_, rfl, (fun h => by cases h), rfl, hI, fun _ _ _ h => h⟩
    · intro bb w' hf hI hA
      clear hi'
      have qg : bb.tmps[91]? = some _ := hf.tmp (k := 17) rfl (by rw [ha]; decide) (hA 17 (by kernel_rfl) (.inl rfl))
      exact Rg.op_none (o := ⟨some 92, _, _, _, _, _⟩) rfl (Rg.unwanted_of (g := 17) (want := true) rfl rfl qg) ⟨_, rfl, (fun h => by cases h), rfl, hI, fun _ _ _ h => h⟩
    · intro bb w' hf hI hA
      clear hi'
      have qg : bb.tmps[91]? = some _ := hf.tmp (k := 17) rfl (by rw [ha]; decide) (hA 17 (by kernel_rfl) (.inl rfl))
      exact Rg.op_none (o := ⟨some 93, _, _, _, _, _⟩) rfl (Rg.unwanted_of (g := 17) (want := true) rfl rfl qg) ⟨_, rfl, (fun h => by cases h), rfl, hI, fun _ _ _ h => h⟩
    · intro bb w' hf hI hA
      clear hi'
      have qg : bb.tmps[91]? = some _ := hf.tmp (k := 17) rfl (by rw [ha]; decide) (hA 17 (by kernel_rfl) (.inl rfl))
      exact Rg.op_none (o := ⟨some 94, _, _, _, _, _⟩) rfl (Rg.unwanted_of (g := 17) (want := true) rfl rfl qg) ⟨_, rfl, (fun h => by cases h), rfl, hI, fun _ _ _ h => h⟩
    · intro bb w' hf hI hA
      clear hi'
      have qg : bb.tmps[91]? = some _ := hf.tmp (k := 17) rfl (by rw [ha]; decide) (hA 17 (by kernel_rfl) (.inl rfl))
      exact Rg.op_none (o := ⟨some 95, _, _, _, _, _⟩) rfl (Rg.unwanted_of (g := 17) (want := true) rfl rfl qg) ⟨_, rfl, (fun h => by cases h), rfl, hI, fun _ _ _ h => h⟩
    · intro bb w' hf hI hA
      clear hi'
      have qg : bb.tmps[91]? = some _ := hf.tmp (k := 17) rfl (by rw [ha]; decide) (hA 17 (by kernel_rfl) (.inl rfl))
      exact Rg.op_none (o := ⟨some 96, _, _, _, _, _⟩) rfl (Rg.unwanted_of (g := 17) (want := true) rfl rfl qg) ⟨_, rfl, (fun h => by cases h), rfl, hI, fun _ _ _ h => h⟩
    · intro bb w' hf hI hA
      clear hi'
      have qg : bb.tmps[91]? = some _ := hf.tmp (k := 17) rfl (by rw [ha]; decide) (hA 17 (by kernel_rfl) (.inl rfl))
      exact Rg.op_none (o := ⟨some 97, _, _, _, _, _⟩) rfl (Rg.unwanted_of (g := 17) (want := true) rfl rfl qg) ⟨_, rfl, (fun h => by cases h), rfl, hI, fun _ _ _ h => h⟩
    · intro bb w' hf hI hA
      clear hi'
      have qg : bb.tmps[91]? = some _ := hf.tmp (k := 17) rfl (by rw [ha]; decide) (hA 17 (by kernel_rfl) (.inl rfl))
      exact Rg.op_none (o := ⟨some 98, _, _, _, _, _⟩) rfl (Rg.unwanted_of (g := 17) (want := true) rfl rfl qg) ⟨_, rfl, (fun h => by cases h), rfl, hI, fun _ _ _ h => h⟩
    · intro bb w' hf hI hA
      clear hi'
      have qg : bb.tmps[91]? = some _ := hf.tmp (k := 17) rfl (by rw [ha]; decide) (hA 17 (by kernel_rfl) (.inl rfl))
      exact Rg.op_none (o := ⟨some 99, _, _, _, _, _⟩) rfl (Rg.unwanted_of (g := 17) (want := true) rfl rfl qg) ⟨_, rfl, (fun h => by cases h), rfl, hI, fun _ _ _ h => h⟩
    · intro bb w' hf hI hA
      clear hi'
      have q91 : bb.tmps[91]? = some _ := hf.tmp (k := 17) rfl (by rw [ha]; decide) (hA 17 (by kernel_rfl) (.inl rfl))
      clear hA HS hV
      exact Rg.op_value (o := ⟨some 100, Op.pick (Operand.tmp 91) (Operand.tmp 99) (Operand.const (Value.bool false)), _, _, _, _⟩) (x := .bool false) rfl rfl (by simp only [execOp]; go_simp) ⟨_, rfl, (fun h => by cases h), rfl, hI, fun _ _ _ h => h⟩

def FY17c (g off n cap i V : Nat) (s : Int) (x : Dg) (y : Gv) (ad : Option Addr) (c : Nat) (i9 : Nat) (v : Value) (w : World) : Prop :=
  match i9 with
  | 0 => v = .slice (some ⟨g, off, none⟩) n cap
  | 1 => v = .int .i64 (i : Nat)
  | 2 => v = .pointer (some ⟨g, off + i * 3, none⟩)
  | 3 => v = .pointer (some ⟨g, off + i * 3, none⟩)
  | 4 => v = .int .i64 y.d
  | 5 => v = .pointer (some ⟨V, 0, none⟩)
  | 6 => v = .int .i64 x.id
  | 7 => v = .bool true
  | 8 => v = .bool true
  | 9 => v = .slice (some ⟨g, off, none⟩) n cap
  | 10 => v = .int .i64 (i : Nat)
  | 11 => v = .pointer (some ⟨g, off + i * 3, none⟩)
  | 12 => v = .pointer (some ⟨g, off + i * 3 + 1, none⟩)
  | 13 => v = .int .i64 y.t
  | 14 => v = .int .i64 s
  | 15 => v = .bool true
  | 16 => v = .bool true
  | 17 => v = .bool true
  | 18 => v = .slice (some ⟨g, off, none⟩) n cap
  | 19 => v = .int .i64 (i : Nat)
  | 20 => v = .pointer (some ⟨g, off + i * 3, none⟩)
  | 21 => v = .pointer (some ⟨g, off + i * 3 + 1, none⟩)
  | 22 => v = .int .i64 y.t
  | 23 => v = .int .i64 s
  | 24 => v = .int .i64 (s + 1439)
  | 25 => v = .bool false
  | 26 => v = .bool false
  | _ => True
theorem sizeY17c : (Rg.opsOf Try.f5 17).size = 27 := by kernel_rfl

set_option maxRecDepth 20000 in
set_option maxHeartbeats 8000000 in
theorem regY17c {Q : Exit → Act → World → Prop} {a : Act} {w9 : World} {g off n cap i V : Nat} {s : Int} {x : Dg} {y : Gv} {ad : Option Addr} {c : Nat} (ha : a.tmps.size = 114)
    (k4 : a.tmps[4]? = some (.slice (some ⟨g, off, none⟩) n cap)) (k13 : a.tmps[13]? = some (.int .i64 (i : Nat))) (k3 : a.tmps[3]? = some (.pointer (some ⟨V, 0, none⟩))) (k11 : a.tmps[11]? = some (.int .i64 s)) (hin : i < n) (hgl : g < w9.heap.size) (h0 : w9.cell? ⟨g, off + i * 3, none⟩ = some (.int .i64 y.d)) (h1 : w9.cell? ⟨g, off + i * 3 + 1, none⟩ = some (.int .i64 y.t)) (hV : PB w9 V #[.int .i64 x.id, .slice ad x.cls.length c, .int .i64 x.pk, .int .i64 x.most, .int .i64 x.day, .int .i64 x.kid] 26) (hs : -2000 ≤ s ∧ s ≤ 20000000) (hq : y.d = x.id) (hr : s ≤ y.t) (hu : ¬ y.t ≤ s + 1439)
    (hend : ∀ b' w', Rg.Fr (Rg.opsOf Try.f5 17) a b' → Below w9.heap.size w9 w' → Rg.out (Rg.opsOf Try.f5 17) b' 26 = .bool false → Q .normal b' w') :
    (Code.region 17 (Rg.opsOf Try.f5 17) true).wp Try.prog Q a w9 := by
  refine Rg.region_dead (by kernel_rfl) (fun w' => Below w9.heap.size w9 w') (FY17c g off n cap i V s x y ad c) (fun _ => none) (by rw [ha, sizeY17c]; kernel_rfl) (st_drew (Below.refl _ _)) ?_ ?_
  case refine_2 =>
    intro b' w' hf hI hA
    rw [sizeY17c] at hA
    exact hend b' w' hf hI (hA 26 (by decide) rfl)
  case refine_1 =>
    clear hend
    have HS : ∀ {w w' : World}, Below w.heap.size w w' → ∀ k9 y9, FY17c g off n cap i V s x y ad c k9 y9 w → FY17c g off n cap i V s x y ad c k9 y9 w' := fun hb k9 y9 h => by
      unfold FY17c at *
      split at h <;> exact h
    intro i' hi'
    rw [sizeY17c] at hi'
    rcases (show i' = 0 ∨ i' = 1 ∨ i' = 2 ∨ i' = 3 ∨ i' = 4 ∨ i' = 5 ∨ i' = 6 ∨ i' = 7 ∨ i' = 8 ∨ i' = 9 ∨ i' = 10 ∨ i' = 11 ∨ i' = 12 ∨ i' = 13 ∨ i' = 14 ∨ i' = 15 ∨ i' = 16 ∨ i' = 17 ∨ i' = 18 ∨ i' = 19 ∨ i' = 20 ∨ i' = 21 ∨ i' = 22 ∨ i' = 23 ∨ i' = 24 ∨ i' = 25 ∨ i' = 26 by omega) with rfl | rfl | rfl | rfl | rfl | rfl | rfl | rfl | rfl | rfl | rfl | rfl | rfl | rfl | rfl | rfl | rfl | rfl | rfl | rfl | rfl | rfl | rfl | rfl | rfl | rfl | rfl
    · intro bb w' hf hI hA
      clear hi'
      have q0 := hf.kept (s := 4) (by rw [sizeY17c]; kernel_rfl) k4
      exact Rg.op_value (o := ⟨some 74, Op.move (Operand.tmp 4), _, _, _, _⟩) rfl rfl rfl ⟨_, rfl, (fun h => by cases h), (by show Act.eval bb _ = _; simp [Act.eval, q0]), hI, fun _ _ _ h => h⟩
    · intro bb w' hf hI hA
      clear hi'
      have q0 := hf.kept (s := 13) (by rw [sizeY17c]; kernel_rfl) k13
      exact Rg.op_value (o := ⟨some 75, Op.move (Operand.tmp 13), _, _, _, _⟩) rfl rfl rfl ⟨_, rfl, (fun h => by cases h), (by show Act.eval bb _ = _; simp [Act.eval, q0]), hI, fun _ _ _ h => h⟩
    · intro bb w' hf hI hA
      clear hi'
      have q74 : bb.tmps[74]? = some _ := hf.tmp (k := 0) rfl (by rw [ha]; decide) (hA 0 (by kernel_rfl) (.inl rfl))
      have q75 : bb.tmps[75]? = some _ := hf.tmp (k := 1) rfl (by rw [ha]; decide) (hA 1 (by kernel_rfl) (.inl rfl))
      have hin2 : (i : Int) < (n : Int) := by omega
      clear hA HS hV
      exact Rg.op_value (o := ⟨some 76, Op.indexAddr 42 (Operand.tmp 74) (Operand.tmp 75), _, _, _, _⟩) (x := .pointer (some ⟨g, off + i * 3, none⟩)) rfl rfl (by simp only [execOp]; go_simp) ⟨_, rfl, (fun h => by cases h), rfl, hI, fun _ _ _ h => h⟩
    · intro bb w' hf hI hA
      clear hi'
      have q76 : bb.tmps[76]? = some _ := hf.tmp (k := 2) rfl (by rw [ha]; decide) (hA 2 (by kernel_rfl) (.inl rfl))
      clear hA HS hV
      exact Rg.op_value (o := ⟨some 77, Op.fieldAddr 49 (Operand.tmp 76) 0, _, _, _, _⟩) (x := .pointer (some ⟨g, off + i * 3, none⟩)) rfl rfl (by simp only [execOp]; go_simp) ⟨_, rfl, (fun h => by cases h), rfl, hI, fun _ _ _ h => h⟩
    · intro bb w' hf hI hA
      clear hi'
      have q77 : bb.tmps[77]? = some _ := hf.tmp (k := 3) rfl (by rw [ha]; decide) (hA 3 (by kernel_rfl) (.inl rfl))
      have e9 := (hI.cell (p := ⟨g, off + i * 3, none⟩) hgl).trans h0
      clear hA HS hV
      exact Rg.op_value (o := ⟨some 78, Op.load 2 (Operand.tmp 77), _, _, _, _⟩) (x := .int .i64 y.d) rfl rfl (by simp only [execOp]; go_simp) ⟨_, rfl, (fun h => by cases h), rfl, hI, fun _ _ _ h => h⟩
    · intro bb w' hf hI hA
      clear hi'
      have q3 := hf.kept (s := 3) (by rw [sizeY17c]; kernel_rfl) k3
      clear hA HS hV
      exact Rg.op_value (o := ⟨some 79, Op.fieldAddr 26 (Operand.tmp 3) 0, _, _, _, _⟩) (x := .pointer (some ⟨V, 0, none⟩)) rfl rfl (by simp only [execOp]; go_simp) ⟨_, rfl, (fun h => by cases h), rfl, hI, fun _ _ _ h => h⟩
    · intro bb w' hf hI hA
      clear hi'
      have q79 : bb.tmps[79]? = some _ := hf.tmp (k := 5) rfl (by rw [ha]; decide) (hA 5 (by kernel_rfl) (.inl rfl))
      obtain ⟨e0, e1, e2, e3, e4, e5⟩ := (hV.below hI).six
      clear hA HS hV
      exact Rg.op_value (o := ⟨some 80, Op.load 2 (Operand.tmp 79), _, _, _, _⟩) (x := .int .i64 x.id) rfl rfl (by simp only [execOp]; go_simp) ⟨_, rfl, (fun h => by cases h), rfl, hI, fun _ _ _ h => h⟩
    · intro bb w' hf hI hA
      clear hi'
      have q78 : bb.tmps[78]? = some _ := hf.tmp (k := 4) rfl (by rw [ha]; decide) (hA 4 (by kernel_rfl) (.inl rfl))
      have q80 : bb.tmps[80]? = some _ := hf.tmp (k := 6) rfl (by rw [ha]; decide) (hA 6 (by kernel_rfl) (.inl rfl))
      clear hA HS hV
      exact Rg.op_value (o := ⟨some 81, Op.binOp BinOp.eql 2 (Operand.tmp 78) (Operand.tmp 80) 2, _, _, _, _⟩) (x := .bool true) rfl rfl (by simp only [execOp]; go_simp) ⟨_, rfl, (fun h => by cases h), rfl, hI, fun _ _ _ h => h⟩
    · intro bb w' hf hI hA
      clear hi'
      have q81 : bb.tmps[81]? = some _ := hf.tmp (k := 7) rfl (by rw [ha]; decide) (hA 7 (by kernel_rfl) (.inl rfl))
      clear hA HS hV
      exact Rg.op_value (o := ⟨some 82, Op.move (Operand.tmp 81), _, _, _, _⟩) (x := .bool true) rfl rfl (by simp only [execOp]; go_simp) ⟨_, rfl, (fun h => by cases h), rfl, hI, fun _ _ _ h => h⟩
    · intro bb w' hf hI hA
      clear hi'
      have qg : bb.tmps[82]? = some _ := hf.tmp (k := 8) rfl (by rw [ha]; decide) (hA 8 (by kernel_rfl) (.inl rfl))
      have q0 := hf.kept (s := 4) (by rw [sizeY17c]; kernel_rfl) k4
      exact Rg.op_value (o := ⟨some 83, Op.move (Operand.tmp 4), _, _, _, _⟩) rfl (Rg.wanted_of (g := 8) rfl rfl qg) rfl ⟨_, rfl, (fun h => by cases h), (by show Act.eval bb _ = _; simp [Act.eval, q0]), hI, fun _ _ _ h => h⟩
    · intro bb w' hf hI hA
      clear hi'
      have qg : bb.tmps[82]? = some _ := hf.tmp (k := 8) rfl (by rw [ha]; decide) (hA 8 (by kernel_rfl) (.inl rfl))
      have q0 := hf.kept (s := 13) (by rw [sizeY17c]; kernel_rfl) k13
      exact Rg.op_value (o := ⟨some 84, Op.move (Operand.tmp 13), _, _, _, _⟩) rfl (Rg.wanted_of (g := 8) rfl rfl qg) rfl ⟨_, rfl, (fun h => by cases h), (by show Act.eval bb _ = _; simp [Act.eval, q0]), hI, fun _ _ _ h => h⟩
    · intro bb w' hf hI hA
      clear hi'
      have qg : bb.tmps[82]? = some _ := hf.tmp (k := 8) rfl (by rw [ha]; decide) (hA 8 (by kernel_rfl) (.inl rfl))
      have q83 : bb.tmps[83]? = some _ := hf.tmp (k := 9) rfl (by rw [ha]; decide) (hA 9 (by kernel_rfl) (.inl rfl))
      have q84 : bb.tmps[84]? = some _ := hf.tmp (k := 10) rfl (by rw [ha]; decide) (hA 10 (by kernel_rfl) (.inl rfl))
      have hin2 : (i : Int) < (n : Int) := by omega
      clear hA HS hV
      exact Rg.op_value (o := ⟨some 85, Op.indexAddr 42 (Operand.tmp 83) (Operand.tmp 84), _, _, _, _⟩) (x := .pointer (some ⟨g, off + i * 3, none⟩)) rfl (Rg.wanted_of (g := 8) rfl rfl qg) (by simp only [execOp]; go_simp) ⟨_, rfl, (fun h => by cases h), rfl, hI, fun _ _ _ h => h⟩
    · intro bb w' hf hI hA
      clear hi'
      have qg : bb.tmps[82]? = some _ := hf.tmp (k := 8) rfl (by rw [ha]; decide) (hA 8 (by kernel_rfl) (.inl rfl))
      have q85 : bb.tmps[85]? = some _ := hf.tmp (k := 11) rfl (by rw [ha]; decide) (hA 11 (by kernel_rfl) (.inl rfl))
      clear hA HS hV
      exact Rg.op_value (o := ⟨some 86, Op.fieldAddr 49 (Operand.tmp 85) 1, _, _, _, _⟩) (x := .pointer (some ⟨g, off + i * 3 + 1, none⟩)) rfl (Rg.wanted_of (g := 8) rfl rfl qg) (by simp only [execOp]; go_simp) ⟨_, rfl, (fun h => by cases h), rfl, hI, fun _ _ _ h => h⟩
    · intro bb w' hf hI hA
      clear hi'
      have qg : bb.tmps[82]? = some _ := hf.tmp (k := 8) rfl (by rw [ha]; decide) (hA 8 (by kernel_rfl) (.inl rfl))
      have q86 : bb.tmps[86]? = some _ := hf.tmp (k := 12) rfl (by rw [ha]; decide) (hA 12 (by kernel_rfl) (.inl rfl))
      have e9 := (hI.cell (p := ⟨g, off + i * 3 + 1, none⟩) hgl).trans h1
      clear hA HS hV
      exact Rg.op_value (o := ⟨some 87, Op.load 2 (Operand.tmp 86), _, _, _, _⟩) (x := .int .i64 y.t) rfl (Rg.wanted_of (g := 8) rfl rfl qg) (by simp only [execOp]; go_simp) ⟨_, rfl, (fun h => by cases h), rfl, hI, fun _ _ _ h => h⟩
    · intro bb w' hf hI hA
      clear hi'
      have qg : bb.tmps[82]? = some _ := hf.tmp (k := 8) rfl (by rw [ha]; decide) (hA 8 (by kernel_rfl) (.inl rfl))
      have q0 := hf.kept (s := 11) (by rw [sizeY17c]; kernel_rfl) k11
      exact Rg.op_value (o := ⟨some 88, Op.move (Operand.tmp 11), _, _, _, _⟩) rfl (Rg.wanted_of (g := 8) rfl rfl qg) rfl ⟨_, rfl, (fun h => by cases h), (by show Act.eval bb _ = _; simp [Act.eval, q0]), hI, fun _ _ _ h => h⟩
    · intro bb w' hf hI hA
      clear hi'
      have qg : bb.tmps[82]? = some _ := hf.tmp (k := 8) rfl (by rw [ha]; decide) (hA 8 (by kernel_rfl) (.inl rfl))
      have q87 : bb.tmps[87]? = some _ := hf.tmp (k := 13) rfl (by rw [ha]; decide) (hA 13 (by kernel_rfl) (.inl rfl))
      have q88 : bb.tmps[88]? = some _ := hf.tmp (k := 14) rfl (by rw [ha]; decide) (hA 14 (by kernel_rfl) (.inl rfl))
      clear hA HS hV
      exact Rg.op_value (o := ⟨some 89, Op.binOp BinOp.geq 2 (Operand.tmp 87) (Operand.tmp 88) 2, _, _, _, _⟩) (x := .bool true) rfl (Rg.wanted_of (g := 8) rfl rfl qg) (by simp only [execOp]; go_simp) ⟨_, rfl, (fun h => by cases h), rfl, hI, fun _ _ _ h => h⟩
    · intro bb w' hf hI hA
      clear hi'
      have q82 : bb.tmps[82]? = some _ := hf.tmp (k := 8) rfl (by rw [ha]; decide) (hA 8 (by kernel_rfl) (.inl rfl))
      have q89 : bb.tmps[89]? = some _ := hf.tmp (k := 15) rfl (by rw [ha]; decide) (hA 15 (by kernel_rfl) (.inl rfl))
      clear hA HS hV
      exact Rg.op_value (o := ⟨some 90, Op.pick (Operand.tmp 82) (Operand.tmp 89) (Operand.const (Value.bool false)), _, _, _, _⟩) (x := .bool true) rfl rfl (by simp only [execOp]; go_simp) ⟨_, rfl, (fun h => by cases h), rfl, hI, fun _ _ _ h => h⟩
    · intro bb w' hf hI hA
      clear hi'
      have q90 : bb.tmps[90]? = some _ := hf.tmp (k := 16) rfl (by rw [ha]; decide) (hA 16 (by kernel_rfl) (.inl rfl))
      clear hA HS hV
      exact Rg.op_value (o := ⟨some 91, Op.move (Operand.tmp 90), _, _, _, _⟩) (x := .bool true) rfl rfl (by simp only [execOp]; go_simp) ⟨_, rfl, (fun h => by cases h), rfl, hI, fun _ _ _ h => h⟩
    · intro bb w' hf hI hA
      clear hi'
      have qg : bb.tmps[91]? = some _ := hf.tmp (k := 17) rfl (by rw [ha]; decide) (hA 17 (by kernel_rfl) (.inl rfl))
      have q0 := hf.kept (s := 4) (by rw [sizeY17c]; kernel_rfl) k4
      exact Rg.op_value (o := ⟨some 92, Op.move (Operand.tmp 4), _, _, _, _⟩) rfl (Rg.wanted_of (g := 17) rfl rfl qg) rfl ⟨_, rfl, (fun h => by cases h), (by show Act.eval bb _ = _; simp [Act.eval, q0]), hI, fun _ _ _ h => h⟩
    · intro bb w' hf hI hA
      clear hi'
      have qg : bb.tmps[91]? = some _ := hf.tmp (k := 17) rfl (by rw [ha]; decide) (hA 17 (by kernel_rfl) (.inl rfl))
      have q0 := hf.kept (s := 13) (by rw [sizeY17c]; kernel_rfl) k13
      exact Rg.op_value (o := ⟨some 93, Op.move (Operand.tmp 13), _, _, _, _⟩) rfl (Rg.wanted_of (g := 17) rfl rfl qg) rfl ⟨_, rfl, (fun h => by cases h), (by show Act.eval bb _ = _; simp [Act.eval, q0]), hI, fun _ _ _ h => h⟩
    · intro bb w' hf hI hA
      clear hi'
      have qg : bb.tmps[91]? = some _ := hf.tmp (k := 17) rfl (by rw [ha]; decide) (hA 17 (by kernel_rfl) (.inl rfl))
      have q92 : bb.tmps[92]? = some _ := hf.tmp (k := 18) rfl (by rw [ha]; decide) (hA 18 (by kernel_rfl) (.inl rfl))
      have q93 : bb.tmps[93]? = some _ := hf.tmp (k := 19) rfl (by rw [ha]; decide) (hA 19 (by kernel_rfl) (.inl rfl))
      have hin2 : (i : Int) < (n : Int) := by omega
      clear hA HS hV
      exact Rg.op_value (o := ⟨some 94, Op.indexAddr 42 (Operand.tmp 92) (Operand.tmp 93), _, _, _, _⟩) (x := .pointer (some ⟨g, off + i * 3, none⟩)) rfl (Rg.wanted_of (g := 17) rfl rfl qg) (by simp only [execOp]; go_simp) ⟨_, rfl, (fun h => by cases h), rfl, hI, fun _ _ _ h => h⟩
    · intro bb w' hf hI hA
      clear hi'
      have qg : bb.tmps[91]? = some _ := hf.tmp (k := 17) rfl (by rw [ha]; decide) (hA 17 (by kernel_rfl) (.inl rfl))
      have q94 : bb.tmps[94]? = some _ := hf.tmp (k := 20) rfl (by rw [ha]; decide) (hA 20 (by kernel_rfl) (.inl rfl))
      clear hA HS hV
      exact Rg.op_value (o := ⟨some 95, Op.fieldAddr 49 (Operand.tmp 94) 1, _, _, _, _⟩) (x := .pointer (some ⟨g, off + i * 3 + 1, none⟩)) rfl (Rg.wanted_of (g := 17) rfl rfl qg) (by simp only [execOp]; go_simp) ⟨_, rfl, (fun h => by cases h), rfl, hI, fun _ _ _ h => h⟩
    · intro bb w' hf hI hA
      clear hi'
      have qg : bb.tmps[91]? = some _ := hf.tmp (k := 17) rfl (by rw [ha]; decide) (hA 17 (by kernel_rfl) (.inl rfl))
      have q95 : bb.tmps[95]? = some _ := hf.tmp (k := 21) rfl (by rw [ha]; decide) (hA 21 (by kernel_rfl) (.inl rfl))
      have e9 := (hI.cell (p := ⟨g, off + i * 3 + 1, none⟩) hgl).trans h1
      clear hA HS hV
      exact Rg.op_value (o := ⟨some 96, Op.load 2 (Operand.tmp 95), _, _, _, _⟩) (x := .int .i64 y.t) rfl (Rg.wanted_of (g := 17) rfl rfl qg) (by simp only [execOp]; go_simp) ⟨_, rfl, (fun h => by cases h), rfl, hI, fun _ _ _ h => h⟩
    · intro bb w' hf hI hA
      clear hi'
      have qg : bb.tmps[91]? = some _ := hf.tmp (k := 17) rfl (by rw [ha]; decide) (hA 17 (by kernel_rfl) (.inl rfl))
      have q0 := hf.kept (s := 11) (by rw [sizeY17c]; kernel_rfl) k11
      exact Rg.op_value (o := ⟨some 97, Op.move (Operand.tmp 11), _, _, _, _⟩) rfl (Rg.wanted_of (g := 17) rfl rfl qg) rfl ⟨_, rfl, (fun h => by cases h), (by show Act.eval bb _ = _; simp [Act.eval, q0]), hI, fun _ _ _ h => h⟩
    · intro bb w' hf hI hA
      clear hi'
      have qg : bb.tmps[91]? = some _ := hf.tmp (k := 17) rfl (by rw [ha]; decide) (hA 17 (by kernel_rfl) (.inl rfl))
      have q97 : bb.tmps[97]? = some _ := hf.tmp (k := 23) rfl (by rw [ha]; decide) (hA 23 (by kernel_rfl) (.inl rfl))
      have hwr : IntKind.i64.wrap (s + 1439) = s + 1439 := by rw [IntKind.wrap_i64]; omega
      clear hA HS hV
      exact Rg.op_value (o := ⟨some 98, Op.binOp BinOp.add 2 (Operand.tmp 97) (Operand.const (Value.int .i64 1439)) 2, _, _, _, _⟩) (x := .int .i64 (s + 1439)) rfl (Rg.wanted_of (g := 17) rfl rfl qg) (by simp only [execOp]; go_simp) ⟨_, rfl, (fun h => by cases h), rfl, hI, fun _ _ _ h => h⟩
    · intro bb w' hf hI hA
      clear hi'
      have qg : bb.tmps[91]? = some _ := hf.tmp (k := 17) rfl (by rw [ha]; decide) (hA 17 (by kernel_rfl) (.inl rfl))
      have q96 : bb.tmps[96]? = some _ := hf.tmp (k := 22) rfl (by rw [ha]; decide) (hA 22 (by kernel_rfl) (.inl rfl))
      have q98 : bb.tmps[98]? = some _ := hf.tmp (k := 24) rfl (by rw [ha]; decide) (hA 24 (by kernel_rfl) (.inl rfl))
      clear hA HS hV
      exact Rg.op_value (o := ⟨some 99, Op.binOp BinOp.leq 2 (Operand.tmp 96) (Operand.tmp 98) 2, _, _, _, _⟩) (x := .bool false) rfl (Rg.wanted_of (g := 17) rfl rfl qg) (by simp only [execOp]; go_simp) ⟨_, rfl, (fun h => by cases h), rfl, hI, fun _ _ _ h => h⟩
    · intro bb w' hf hI hA
      clear hi'
      have q91 : bb.tmps[91]? = some _ := hf.tmp (k := 17) rfl (by rw [ha]; decide) (hA 17 (by kernel_rfl) (.inl rfl))
      have q99 : bb.tmps[99]? = some _ := hf.tmp (k := 25) rfl (by rw [ha]; decide) (hA 25 (by kernel_rfl) (.inl rfl))
      clear hA HS hV
      exact Rg.op_value (o := ⟨some 100, Op.pick (Operand.tmp 91) (Operand.tmp 99) (Operand.const (Value.bool false)), _, _, _, _⟩) (x := .bool false) rfl rfl (by simp only [execOp]; go_simp) ⟨_, rfl, (fun h => by cases h), rfl, hI, fun _ _ _ h => h⟩

def FY17d (g off n cap i V : Nat) (s : Int) (x : Dg) (y : Gv) (ad : Option Addr) (c : Nat) (i9 : Nat) (v : Value) (w : World) : Prop :=
  match i9 with
  | 0 => v = .slice (some ⟨g, off, none⟩) n cap
  | 1 => v = .int .i64 (i : Nat)
  | 2 => v = .pointer (some ⟨g, off + i * 3, none⟩)
  | 3 => v = .pointer (some ⟨g, off + i * 3, none⟩)
  | 4 => v = .int .i64 y.d
  | 5 => v = .pointer (some ⟨V, 0, none⟩)
  | 6 => v = .int .i64 x.id
  | 7 => v = .bool true
  | 8 => v = .bool true
  | 9 => v = .slice (some ⟨g, off, none⟩) n cap
  | 10 => v = .int .i64 (i : Nat)
  | 11 => v = .pointer (some ⟨g, off + i * 3, none⟩)
  | 12 => v = .pointer (some ⟨g, off + i * 3 + 1, none⟩)
  | 13 => v = .int .i64 y.t
  | 14 => v = .int .i64 s
  | 15 => v = .bool true
  | 16 => v = .bool true
  | 17 => v = .bool true
  | 18 => v = .slice (some ⟨g, off, none⟩) n cap
  | 19 => v = .int .i64 (i : Nat)
  | 20 => v = .pointer (some ⟨g, off + i * 3, none⟩)
  | 21 => v = .pointer (some ⟨g, off + i * 3 + 1, none⟩)
  | 22 => v = .int .i64 y.t
  | 23 => v = .int .i64 s
  | 24 => v = .int .i64 (s + 1439)
  | 25 => v = .bool true
  | 26 => v = .bool true
  | _ => True
theorem sizeY17d : (Rg.opsOf Try.f5 17).size = 27 := by kernel_rfl

set_option maxRecDepth 20000 in
set_option maxHeartbeats 8000000 in
theorem regY17d {Q : Exit → Act → World → Prop} {a : Act} {w9 : World} {g off n cap i V : Nat} {s : Int} {x : Dg} {y : Gv} {ad : Option Addr} {c : Nat} (ha : a.tmps.size = 114)
    (k4 : a.tmps[4]? = some (.slice (some ⟨g, off, none⟩) n cap)) (k13 : a.tmps[13]? = some (.int .i64 (i : Nat))) (k3 : a.tmps[3]? = some (.pointer (some ⟨V, 0, none⟩))) (k11 : a.tmps[11]? = some (.int .i64 s)) (hin : i < n) (hgl : g < w9.heap.size) (h0 : w9.cell? ⟨g, off + i * 3, none⟩ = some (.int .i64 y.d)) (h1 : w9.cell? ⟨g, off + i * 3 + 1, none⟩ = some (.int .i64 y.t)) (hV : PB w9 V #[.int .i64 x.id, .slice ad x.cls.length c, .int .i64 x.pk, .int .i64 x.most, .int .i64 x.day, .int .i64 x.kid] 26) (hs : -2000 ≤ s ∧ s ≤ 20000000) (hq : y.d = x.id) (hr : s ≤ y.t) (hu : y.t ≤ s + 1439)
    (hend : ∀ b' w', Rg.Fr (Rg.opsOf Try.f5 17) a b' → Below w9.heap.size w9 w' → Rg.out (Rg.opsOf Try.f5 17) b' 26 = .bool true → Q .normal b' w') :
    (Code.region 17 (Rg.opsOf Try.f5 17) true).wp Try.prog Q a w9 := by
  refine Rg.region_dead (by kernel_rfl) (fun w' => Below w9.heap.size w9 w') (FY17d g off n cap i V s x y ad c) (fun _ => none) (by rw [ha, sizeY17d]; kernel_rfl) (st_drew (Below.refl _ _)) ?_ ?_
  case refine_2 =>
    intro b' w' hf hI hA
    rw [sizeY17d] at hA
    exact hend b' w' hf hI (hA 26 (by decide) rfl)
  case refine_1 =>
    clear hend
    have HS : ∀ {w w' : World}, Below w.heap.size w w' → ∀ k9 y9, FY17d g off n cap i V s x y ad c k9 y9 w → FY17d g off n cap i V s x y ad c k9 y9 w' := fun hb k9 y9 h => by
      unfold FY17d at *
      split at h <;> exact h
    intro i' hi'
    rw [sizeY17d] at hi'
    rcases (show i' = 0 ∨ i' = 1 ∨ i' = 2 ∨ i' = 3 ∨ i' = 4 ∨ i' = 5 ∨ i' = 6 ∨ i' = 7 ∨ i' = 8 ∨ i' = 9 ∨ i' = 10 ∨ i' = 11 ∨ i' = 12 ∨ i' = 13 ∨ i' = 14 ∨ i' = 15 ∨ i' = 16 ∨ i' = 17 ∨ i' = 18 ∨ i' = 19 ∨ i' = 20 ∨ i' = 21 ∨ i' = 22 ∨ i' = 23 ∨ i' = 24 ∨ i' = 25 ∨ i' = 26 by omega) with rfl | rfl | rfl | rfl | rfl | rfl | rfl | rfl | rfl | rfl | rfl | rfl | rfl | rfl | rfl | rfl | rfl | rfl | rfl | rfl | rfl | rfl | rfl | rfl | rfl | rfl | rfl
    · intro bb w' hf hI hA
      clear hi'
      have q0 := hf.kept (s := 4) (by rw [sizeY17d]; kernel_rfl) k4
      exact Rg.op_value (o := ⟨some 74, Op.move (Operand.tmp 4), _, _, _, _⟩) rfl rfl rfl ⟨_, rfl, (fun h => by cases h), (by show Act.eval bb _ = _; simp [Act.eval, q0]), hI, fun _ _ _ h => h⟩
    · intro bb w' hf hI hA
      clear hi'
      have q0 := hf.kept (s := 13) (by rw [sizeY17d]; kernel_rfl) k13
      exact Rg.op_value (o := ⟨some 75, Op.move (Operand.tmp 13), _, _, _, _⟩) rfl rfl rfl ⟨_, rfl, (fun h => by cases h), (by show Act.eval bb _ = _; simp [Act.eval, q0]), hI, fun _ _ _ h => h⟩
    · intro bb w' hf hI hA
      clear hi'
      have q74 : bb.tmps[74]? = some _ := hf.tmp (k := 0) rfl (by rw [ha]; decide) (hA 0 (by kernel_rfl) (.inl rfl))
      have q75 : bb.tmps[75]? = some _ := hf.tmp (k := 1) rfl (by rw [ha]; decide) (hA 1 (by kernel_rfl) (.inl rfl))
      have hin2 : (i : Int) < (n : Int) := by omega
      clear hA HS hV
      exact Rg.op_value (o := ⟨some 76, Op.indexAddr 42 (Operand.tmp 74) (Operand.tmp 75), _, _, _, _⟩) (x := .pointer (some ⟨g, off + i * 3, none⟩)) rfl rfl (by simp only [execOp]; go_simp) ⟨_, rfl, (fun h => by cases h), rfl, hI, fun _ _ _ h => h⟩
    · intro bb w' hf hI hA
      clear hi'
      have q76 : bb.tmps[76]? = some _ := hf.tmp (k := 2) rfl (by rw [ha]; decide) (hA 2 (by kernel_rfl) (.inl rfl))
      clear hA HS hV
      exact Rg.op_value (o := ⟨some 77, Op.fieldAddr 49 (Operand.tmp 76) 0, _, _, _, _⟩) (x := .pointer (some ⟨g, off + i * 3, none⟩)) rfl rfl (by simp only [execOp]; go_simp) ⟨_, rfl, (fun h => by cases h), rfl, hI, fun _ _ _ h => h⟩
    · intro bb w' hf hI hA
      clear hi'
      have q77 : bb.tmps[77]? = some _ := hf.tmp (k := 3) rfl (by rw [ha]; decide) (hA 3 (by kernel_rfl) (.inl rfl))
      have e9 := (hI.cell (p := ⟨g, off + i * 3, none⟩) hgl).trans h0
      clear hA HS hV
      exact Rg.op_value (o := ⟨some 78, Op.load 2 (Operand.tmp 77), _, _, _, _⟩) (x := .int .i64 y.d) rfl rfl (by simp only [execOp]; go_simp) ⟨_, rfl, (fun h => by cases h), rfl, hI, fun _ _ _ h => h⟩
    · intro bb w' hf hI hA
      clear hi'
      have q3 := hf.kept (s := 3) (by rw [sizeY17d]; kernel_rfl) k3
      clear hA HS hV
      exact Rg.op_value (o := ⟨some 79, Op.fieldAddr 26 (Operand.tmp 3) 0, _, _, _, _⟩) (x := .pointer (some ⟨V, 0, none⟩)) rfl rfl (by simp only [execOp]; go_simp) ⟨_, rfl, (fun h => by cases h), rfl, hI, fun _ _ _ h => h⟩
    · intro bb w' hf hI hA
      clear hi'
      have q79 : bb.tmps[79]? = some _ := hf.tmp (k := 5) rfl (by rw [ha]; decide) (hA 5 (by kernel_rfl) (.inl rfl))
      obtain ⟨e0, e1, e2, e3, e4, e5⟩ := (hV.below hI).six
      clear hA HS hV
      exact Rg.op_value (o := ⟨some 80, Op.load 2 (Operand.tmp 79), _, _, _, _⟩) (x := .int .i64 x.id) rfl rfl (by simp only [execOp]; go_simp) ⟨_, rfl, (fun h => by cases h), rfl, hI, fun _ _ _ h => h⟩
    · intro bb w' hf hI hA
      clear hi'
      have q78 : bb.tmps[78]? = some _ := hf.tmp (k := 4) rfl (by rw [ha]; decide) (hA 4 (by kernel_rfl) (.inl rfl))
      have q80 : bb.tmps[80]? = some _ := hf.tmp (k := 6) rfl (by rw [ha]; decide) (hA 6 (by kernel_rfl) (.inl rfl))
      clear hA HS hV
      exact Rg.op_value (o := ⟨some 81, Op.binOp BinOp.eql 2 (Operand.tmp 78) (Operand.tmp 80) 2, _, _, _, _⟩) (x := .bool true) rfl rfl (by simp only [execOp]; go_simp) ⟨_, rfl, (fun h => by cases h), rfl, hI, fun _ _ _ h => h⟩
    · intro bb w' hf hI hA
      clear hi'
      have q81 : bb.tmps[81]? = some _ := hf.tmp (k := 7) rfl (by rw [ha]; decide) (hA 7 (by kernel_rfl) (.inl rfl))
      clear hA HS hV
      exact Rg.op_value (o := ⟨some 82, Op.move (Operand.tmp 81), _, _, _, _⟩) (x := .bool true) rfl rfl (by simp only [execOp]; go_simp) ⟨_, rfl, (fun h => by cases h), rfl, hI, fun _ _ _ h => h⟩
    · intro bb w' hf hI hA
      clear hi'
      have qg : bb.tmps[82]? = some _ := hf.tmp (k := 8) rfl (by rw [ha]; decide) (hA 8 (by kernel_rfl) (.inl rfl))
      have q0 := hf.kept (s := 4) (by rw [sizeY17d]; kernel_rfl) k4
      exact Rg.op_value (o := ⟨some 83, Op.move (Operand.tmp 4), _, _, _, _⟩) rfl (Rg.wanted_of (g := 8) rfl rfl qg) rfl ⟨_, rfl, (fun h => by cases h), (by show Act.eval bb _ = _; simp [Act.eval, q0]), hI, fun _ _ _ h => h⟩
    · intro bb w' hf hI hA
      clear hi'
      have qg : bb.tmps[82]? = some _ := hf.tmp (k := 8) rfl (by rw [ha]; decide) (hA 8 (by kernel_rfl) (.inl rfl))
      have q0 := hf.kept (s := 13) (by rw [sizeY17d]; kernel_rfl) k13
      exact Rg.op_value (o := ⟨some 84, Op.move (Operand.tmp 13), _, _, _, _⟩) rfl (Rg.wanted_of (g := 8) rfl rfl qg) rfl ⟨_, rfl, (fun h => by cases h), (by show Act.eval bb _ = _; simp [Act.eval, q0]), hI, fun _ _ _ h => h⟩
    · intro bb w' hf hI hA
      clear hi'
      have qg : bb.tmps[82]? = some _ := hf.tmp (k := 8) rfl (by rw [ha]; decide) (hA 8 (by kernel_rfl) (.inl rfl))
      have q83 : bb.tmps[83]? = some _ := hf.tmp (k := 9) rfl (by rw [ha]; decide) (hA 9 (by kernel_rfl) (.inl rfl))
      have q84 : bb.tmps[84]? = some _ := hf.tmp (k := 10) rfl (by rw [ha]; decide) (hA 10 (by kernel_rfl) (.inl rfl))
      have hin2 : (i : Int) < (n : Int) := by omega
      clear hA HS hV
      exact Rg.op_value (o := ⟨some 85, Op.indexAddr 42 (Operand.tmp 83) (Operand.tmp 84), _, _, _, _⟩) (x := .pointer (some ⟨g, off + i * 3, none⟩)) rfl (Rg.wanted_of (g := 8) rfl rfl qg) (by simp only [execOp]; go_simp) ⟨_, rfl, (fun h => by cases h), rfl, hI, fun _ _ _ h => h⟩
    · intro bb w' hf hI hA
      clear hi'
      have qg : bb.tmps[82]? = some _ := hf.tmp (k := 8) rfl (by rw [ha]; decide) (hA 8 (by kernel_rfl) (.inl rfl))
      have q85 : bb.tmps[85]? = some _ := hf.tmp (k := 11) rfl (by rw [ha]; decide) (hA 11 (by kernel_rfl) (.inl rfl))
      clear hA HS hV
      exact Rg.op_value (o := ⟨some 86, Op.fieldAddr 49 (Operand.tmp 85) 1, _, _, _, _⟩) (x := .pointer (some ⟨g, off + i * 3 + 1, none⟩)) rfl (Rg.wanted_of (g := 8) rfl rfl qg) (by simp only [execOp]; go_simp) ⟨_, rfl, (fun h => by cases h), rfl, hI, fun _ _ _ h => h⟩
    · intro bb w' hf hI hA
      clear hi'
      have qg : bb.tmps[82]? = some _ := hf.tmp (k := 8) rfl (by rw [ha]; decide) (hA 8 (by kernel_rfl) (.inl rfl))
      have q86 : bb.tmps[86]? = some _ := hf.tmp (k := 12) rfl (by rw [ha]; decide) (hA 12 (by kernel_rfl) (.inl rfl))
      have e9 := (hI.cell (p := ⟨g, off + i * 3 + 1, none⟩) hgl).trans h1
      clear hA HS hV
      exact Rg.op_value (o := ⟨some 87, Op.load 2 (Operand.tmp 86), _, _, _, _⟩) (x := .int .i64 y.t) rfl (Rg.wanted_of (g := 8) rfl rfl qg) (by simp only [execOp]; go_simp) ⟨_, rfl, (fun h => by cases h), rfl, hI, fun _ _ _ h => h⟩
    · intro bb w' hf hI hA
      clear hi'
      have qg : bb.tmps[82]? = some _ := hf.tmp (k := 8) rfl (by rw [ha]; decide) (hA 8 (by kernel_rfl) (.inl rfl))
      have q0 := hf.kept (s := 11) (by rw [sizeY17d]; kernel_rfl) k11
      exact Rg.op_value (o := ⟨some 88, Op.move (Operand.tmp 11), _, _, _, _⟩) rfl (Rg.wanted_of (g := 8) rfl rfl qg) rfl ⟨_, rfl, (fun h => by cases h), (by show Act.eval bb _ = _; simp [Act.eval, q0]), hI, fun _ _ _ h => h⟩
    · intro bb w' hf hI hA
      clear hi'
      have qg : bb.tmps[82]? = some _ := hf.tmp (k := 8) rfl (by rw [ha]; decide) (hA 8 (by kernel_rfl) (.inl rfl))
      have q87 : bb.tmps[87]? = some _ := hf.tmp (k := 13) rfl (by rw [ha]; decide) (hA 13 (by kernel_rfl) (.inl rfl))
      have q88 : bb.tmps[88]? = some _ := hf.tmp (k := 14) rfl (by rw [ha]; decide) (hA 14 (by kernel_rfl) (.inl rfl))
      clear hA HS hV
      exact Rg.op_value (o := ⟨some 89, Op.binOp BinOp.geq 2 (Operand.tmp 87) (Operand.tmp 88) 2, _, _, _, _⟩) (x := .bool true) rfl (Rg.wanted_of (g := 8) rfl rfl qg) (by simp only [execOp]; go_simp) ⟨_, rfl, (fun h => by cases h), rfl, hI, fun _ _ _ h => h⟩
    · intro bb w' hf hI hA
      clear hi'
      have q82 : bb.tmps[82]? = some _ := hf.tmp (k := 8) rfl (by rw [ha]; decide) (hA 8 (by kernel_rfl) (.inl rfl))
      have q89 : bb.tmps[89]? = some _ := hf.tmp (k := 15) rfl (by rw [ha]; decide) (hA 15 (by kernel_rfl) (.inl rfl))
      clear hA HS hV
      exact Rg.op_value (o := ⟨some 90, Op.pick (Operand.tmp 82) (Operand.tmp 89) (Operand.const (Value.bool false)), _, _, _, _⟩) (x := .bool true) rfl rfl (by simp only [execOp]; go_simp) ⟨_, rfl, (fun h => by cases h), rfl, hI, fun _ _ _ h => h⟩
    · intro bb w' hf hI hA
      clear hi'
      have q90 : bb.tmps[90]? = some _ := hf.tmp (k := 16) rfl (by rw [ha]; decide) (hA 16 (by kernel_rfl) (.inl rfl))
      clear hA HS hV
      exact Rg.op_value (o := ⟨some 91, Op.move (Operand.tmp 90), _, _, _, _⟩) (x := .bool true) rfl rfl (by simp only [execOp]; go_simp) ⟨_, rfl, (fun h => by cases h), rfl, hI, fun _ _ _ h => h⟩
    · intro bb w' hf hI hA
      clear hi'
      have qg : bb.tmps[91]? = some _ := hf.tmp (k := 17) rfl (by rw [ha]; decide) (hA 17 (by kernel_rfl) (.inl rfl))
      have q0 := hf.kept (s := 4) (by rw [sizeY17d]; kernel_rfl) k4
      exact Rg.op_value (o := ⟨some 92, Op.move (Operand.tmp 4), _, _, _, _⟩) rfl (Rg.wanted_of (g := 17) rfl rfl qg) rfl ⟨_, rfl, (fun h => by cases h), (by show Act.eval bb _ = _; simp [Act.eval, q0]), hI, fun _ _ _ h => h⟩
    · intro bb w' hf hI hA
      clear hi'
      have qg : bb.tmps[91]? = some _ := hf.tmp (k := 17) rfl (by rw [ha]; decide) (hA 17 (by kernel_rfl) (.inl rfl))
      have q0 := hf.kept (s := 13) (by rw [sizeY17d]; kernel_rfl) k13
      exact Rg.op_value (o := ⟨some 93, Op.move (Operand.tmp 13), _, _, _, _⟩) rfl (Rg.wanted_of (g := 17) rfl rfl qg) rfl ⟨_, rfl, (fun h => by cases h), (by show Act.eval bb _ = _; simp [Act.eval, q0]), hI, fun _ _ _ h => h⟩
    · intro bb w' hf hI hA
      clear hi'
      have qg : bb.tmps[91]? = some _ := hf.tmp (k := 17) rfl (by rw [ha]; decide) (hA 17 (by kernel_rfl) (.inl rfl))
      have q92 : bb.tmps[92]? = some _ := hf.tmp (k := 18) rfl (by rw [ha]; decide) (hA 18 (by kernel_rfl) (.inl rfl))
      have q93 : bb.tmps[93]? = some _ := hf.tmp (k := 19) rfl (by rw [ha]; decide) (hA 19 (by kernel_rfl) (.inl rfl))
      have hin2 : (i : Int) < (n : Int) := by omega
      clear hA HS hV
      exact Rg.op_value (o := ⟨some 94, Op.indexAddr 42 (Operand.tmp 92) (Operand.tmp 93), _, _, _, _⟩) (x := .pointer (some ⟨g, off + i * 3, none⟩)) rfl (Rg.wanted_of (g := 17) rfl rfl qg) (by simp only [execOp]; go_simp) ⟨_, rfl, (fun h => by cases h), rfl, hI, fun _ _ _ h => h⟩
    · intro bb w' hf hI hA
      clear hi'
      have qg : bb.tmps[91]? = some _ := hf.tmp (k := 17) rfl (by rw [ha]; decide) (hA 17 (by kernel_rfl) (.inl rfl))
      have q94 : bb.tmps[94]? = some _ := hf.tmp (k := 20) rfl (by rw [ha]; decide) (hA 20 (by kernel_rfl) (.inl rfl))
      clear hA HS hV
      exact Rg.op_value (o := ⟨some 95, Op.fieldAddr 49 (Operand.tmp 94) 1, _, _, _, _⟩) (x := .pointer (some ⟨g, off + i * 3 + 1, none⟩)) rfl (Rg.wanted_of (g := 17) rfl rfl qg) (by simp only [execOp]; go_simp) ⟨_, rfl, (fun h => by cases h), rfl, hI, fun _ _ _ h => h⟩
    · intro bb w' hf hI hA
      clear hi'
      have qg : bb.tmps[91]? = some _ := hf.tmp (k := 17) rfl (by rw [ha]; decide) (hA 17 (by kernel_rfl) (.inl rfl))
      have q95 : bb.tmps[95]? = some _ := hf.tmp (k := 21) rfl (by rw [ha]; decide) (hA 21 (by kernel_rfl) (.inl rfl))
      have e9 := (hI.cell (p := ⟨g, off + i * 3 + 1, none⟩) hgl).trans h1
      clear hA HS hV
      exact Rg.op_value (o := ⟨some 96, Op.load 2 (Operand.tmp 95), _, _, _, _⟩) (x := .int .i64 y.t) rfl (Rg.wanted_of (g := 17) rfl rfl qg) (by simp only [execOp]; go_simp) ⟨_, rfl, (fun h => by cases h), rfl, hI, fun _ _ _ h => h⟩
    · intro bb w' hf hI hA
      clear hi'
      have qg : bb.tmps[91]? = some _ := hf.tmp (k := 17) rfl (by rw [ha]; decide) (hA 17 (by kernel_rfl) (.inl rfl))
      have q0 := hf.kept (s := 11) (by rw [sizeY17d]; kernel_rfl) k11
      exact Rg.op_value (o := ⟨some 97, Op.move (Operand.tmp 11), _, _, _, _⟩) rfl (Rg.wanted_of (g := 17) rfl rfl qg) rfl ⟨_, rfl, (fun h => by cases h), (by show Act.eval bb _ = _; simp [Act.eval, q0]), hI, fun _ _ _ h => h⟩
    · intro bb w' hf hI hA
      clear hi'
      have qg : bb.tmps[91]? = some _ := hf.tmp (k := 17) rfl (by rw [ha]; decide) (hA 17 (by kernel_rfl) (.inl rfl))
      have q97 : bb.tmps[97]? = some _ := hf.tmp (k := 23) rfl (by rw [ha]; decide) (hA 23 (by kernel_rfl) (.inl rfl))
      have hwr : IntKind.i64.wrap (s + 1439) = s + 1439 := by rw [IntKind.wrap_i64]; omega
      clear hA HS hV
      exact Rg.op_value (o := ⟨some 98, Op.binOp BinOp.add 2 (Operand.tmp 97) (Operand.const (Value.int .i64 1439)) 2, _, _, _, _⟩) (x := .int .i64 (s + 1439)) rfl (Rg.wanted_of (g := 17) rfl rfl qg) (by simp only [execOp]; go_simp) ⟨_, rfl, (fun h => by cases h), rfl, hI, fun _ _ _ h => h⟩
    · intro bb w' hf hI hA
      clear hi'
      have qg : bb.tmps[91]? = some _ := hf.tmp (k := 17) rfl (by rw [ha]; decide) (hA 17 (by kernel_rfl) (.inl rfl))
      have q96 : bb.tmps[96]? = some _ := hf.tmp (k := 22) rfl (by rw [ha]; decide) (hA 22 (by kernel_rfl) (.inl rfl))
      have q98 : bb.tmps[98]? = some _ := hf.tmp (k := 24) rfl (by rw [ha]; decide) (hA 24 (by kernel_rfl) (.inl rfl))
      clear hA HS hV
      exact Rg.op_value (o := ⟨some 99, Op.binOp BinOp.leq 2 (Operand.tmp 96) (Operand.tmp 98) 2, _, _, _, _⟩) (x := .bool true) rfl (Rg.wanted_of (g := 17) rfl rfl qg) (by simp only [execOp]; go_simp) ⟨_, rfl, (fun h => by cases h), rfl, hI, fun _ _ _ h => h⟩
    · intro bb w' hf hI hA
      clear hi'
      have q91 : bb.tmps[91]? = some _ := hf.tmp (k := 17) rfl (by rw [ha]; decide) (hA 17 (by kernel_rfl) (.inl rfl))
      have q99 : bb.tmps[99]? = some _ := hf.tmp (k := 25) rfl (by rw [ha]; decide) (hA 25 (by kernel_rfl) (.inl rfl))
      clear hA HS hV
      exact Rg.op_value (o := ⟨some 100, Op.pick (Operand.tmp 91) (Operand.tmp 99) (Operand.const (Value.bool false)), _, _, _, _⟩) (x := .bool true) rfl rfl (by simp only [execOp]; go_simp) ⟨_, rfl, (fun h => by cases h), rfl, hI, fun _ _ _ h => h⟩

set_option maxRecDepth 20000 in
set_option maxHeartbeats 16000000 in
theorem fmg_walk (ao : Option Addr) (cap : Nat) (bs : List Int) (w : World) (hb : Bytes w w.heap.size ao bs) :
    Calls Try.prog 5 #[.slice ao bs.length cap] w fun e w' => e = .returned (.bool true) ∧ Below w.heap.size w w' := by
  have hB := big_any ao cap bs.length
  have HBY := hidden hb
  clear hb
  by_cases hbig : (4096 : Int) < (bs.length : Int)
  · rw [decide_eq_true hbig] at hB
    go_enter Try.func5, Try.ntmps5
    go_wp2_with fail
    refine (hB _).mono ?_
    rintro e w1 ⟨rfl, rfl⟩
    go_wp2_with fail
    go_ret
    exact ⟨rfl, Below.refl _ _⟩
  rw [decide_eq_false hbig] at hB
  have hl : bs.length ≤ 4096 := by omega
  go_enter Try.func5, Try.ntmps5
  go_wp2_with fail
  refine (hB w).mono ?_
  rintro e w1 ⟨rfl, hw1⟩
  subst hw1
  clear hB
  have hDD := dmay_any ao cap bs w1 HBY.out (by omega)
  unfold aD at hDD
  go_wp2_with fail
  refine hDD.mono ?_
  rintro e w2 ⟨x, ad, c, v, L, t, a, rfl, hlen, hL, hrow, hgv, b2⟩
  obtain ⟨a2, c2, rfl⟩ := hgv.form
  clear hDD
  go_upto_region 4 with fail
  have i1 := fun W hW hW2 => imay_any x ad x.cls.length c a2 L.length c2 L t a W hW (by omega) hW2 (by omega)
  have s1 := fun W hW hW2 => smay_any x ad x.cls.length c a2 L.length c2 L t a W hW (by omega) hW2 (by omega)
  unfold aD at i1 s1
  have PX := hidden (PB.new w2 #[.int .i64 x.id, .slice ad x.cls.length c, .int .i64 x.pk, .int .i64 x.most, .int .i64 x.day, .int .i64 x.kid] 26)
  have bx : Below w2.heap.size w2 (w2.alloc (.cells #[.int .i64 x.id, .slice ad x.cls.length c, .int .i64 x.pk, .int .i64 x.most, .int .i64 x.day, .int .i64 x.kid] 26)) := (Below.refl _ _).alloc (Nat.le_refl _) _
  have RX := hidden (hrow.below bx)
  have GX := hidden (hgv.below bx)
  have BX := hidden (onto b2 bx)
  clear hrow hgv bx b2
  generalize w2.alloc (.cells #[.int .i64 x.id, .slice ad x.cls.length c, .int .i64 x.pk, .int .i64 x.most, .int .i64 x.day, .int .i64 x.kid] 26) = wX at *
  generalize w2.heap.size = V at *
  have HF1 : Hid ((mayG x L t a).1 = true → (mayG x L t a).2 = 0 ∧ okG x L t a = true ∧ ∀ s, t - 1439 ≤ s → s ≤ t → day x.id a L (s + 1439) ≤ x.day) := fun h => ⟨may_zero h, may_ok h, fun s h1 h2 => may_all h h1 h2⟩
  have HF2 : Hid ((mayG x L t a).1 = false → (mayG x L t a).2 = 0 ∨ x.day < (mayG x L t a).2) := may_no
  generalize mayG x L t a = M at *
  obtain ⟨r1, r2⟩ := M
  dsimp only at HF1 HF2 i1 s1
  obtain ⟨d0, d1, d2, d3, d4, d5⟩ := PX.out.six
  go_wp2_with fail
  refine (i1 _ RX.out GX.out).mono ?_
  rintro e w3 ⟨rfl, b3⟩
  clear d0 d1 d2 d3 d4 d5 i1
  obtain ⟨d0, d1, d2, d3, d4, d5⟩ := (PX.out.below b3).six
  go_wp2_with fail
  refine (s1 _ (RX.out.below b3) (GX.out.below b3)).mono ?_
  rintro e w4 ⟨rfl, b4⟩
  have B4 := hidden (b3.trans (b4.mono b3.size))
  clear d0 d1 d2 d3 d4 d5 s1 b3 b4
  rcases r1 with _ | _
  · have hq := HF2.out rfl
    have PX4 := hidden (PX.out.below B4.out)
    by_cases q : r2 = 0
    · subst q
      go_wp2_with fail
      go_ret
      exact ⟨rfl, onto BX.out B4.out⟩
    · have q2 : x.day < r2 := hq.resolve_left q
      obtain ⟨d0, d1, d2, d3, d4, d5⟩ := PX4.out.six
      clear hq
      go_wp2_with fail
      go_ret
      exact ⟨by first | rfl | simp [q, q2], onto BX.out B4.out⟩
  obtain ⟨hr2, hok, hall⟩ := HF1.out rfl
  subst hr2
  obtain ⟨hgs, ⟨ht0, ht1⟩, ha0, ha1⟩ := okG_gs hok
  have HG := hidden hgs
  have HA := hidden hall
  clear HF1 HF2 hok hgs hall RX
  go_wp2_with fail
  go_loopw [11, 12, 13] (fun sv _ _ wr => ∃ s : Int, sv = .int .i64 s ∧ t - 1439 ≤ s ∧ s ≤ t + 97 ∧ Below wX.heap.size wX wr) (fun sv _ _ _ => (t + 98 - intOf sv).toNat)
  case atStart => exact ⟨t - 1439, rfl, by omega, by omega, B4.out⟩
  case round =>
    clear B4
    obtain ⟨s, rfl, hs0, hs1, hb⟩ := hrel
    by_cases hst : s ≤ t
    · have HD0 := hidden hb
      clear hb
      go_wp2_with fail
      go_loopw [12, 13] (fun av iv wz => ∃ i : Nat, i ≤ L.length ∧ iv = .int .i64 i ∧ av = .int .i64 (day x.id a (L.take i) (s + 1439)) ∧ Below wX.heap.size wX wz) (fun _ iv _ => L.length - (intOf iv).toNat)
      case atStart => exact ⟨0, Nat.zero_le _, rfl, by simp [day, mine, sumN], HD0.out⟩
      case round =>
        clear HD0
        obtain ⟨i, hi, rfl, rfl, hb⟩ := hrel
        by_cases hlt : i < L.length
        · have hlti2 : i < L.length := hlt
          have hlti : (i : Int) < (L.length : Int) := by omega
          obtain ⟨y, hy⟩ := some_of L i hlt
          obtain ⟨g, off, rfl, hgl, hcs⟩ := (GX.out.below hb).at hy
          have c0 : wr.cell? ⟨g, off + i * 3, none⟩ = some (.int .i64 y.d) := hcs 0 (by omega)
          have c1 : wr.cell? ⟨g, off + i * 3 + 1, none⟩ = some (.int .i64 y.t) := hcs 1 (by omega)
          have c2 : wr.cell? ⟨g, off + i * 3 + 2, none⟩ = some (.int .i64 y.n) := hcs 2 (by omega)
          have PXr := PX.out.below hb
          have hdb := day_bd (x := x.id) (a := a) (e := s + 1439) HG.out i
          have hyn := gvB_n (gsB_all HG.out y (List.mem_of_getElem? hy))
          have HYes : Hid ((y.d == x.id) = true → rng y.t (s + 1439 - 1439) (s + 1439) = true → day x.id a (L.take (i + 1)) (s + 1439) = day x.id a (L.take i) (s + 1439) + y.n) := fun h1 h2 => day_yes hy h1 h2
          have HNo : Hid ((y.d == x.id) = false ∨ rng y.t (s + 1439 - 1439) (s + 1439) = false → day x.id a (L.take (i + 1)) (s + 1439) = day x.id a (L.take i) (s + 1439)) := fun h1 => day_no hy h1
          generalize day x.id a (L.take i) (s + 1439) = Dv at *
          clear hcs hy
          by_cases q : y.d = x.id
          · by_cases r : s ≤ y.t
            · by_cases u : y.t ≤ s + 1439
              · have HF : Hid (day x.id a (L.take (i + 1)) (s + 1439) = Dv + y.n) := HYes.out (by simp [q]) (by rw [rng_iff]; omega)
                clear HYes HNo
                go_upto_region 17 with fail
                refine regY17d (x := x) (y := y) rfl rfl rfl rfl rfl hlti2 hgl c0 c1 PXr (by omega) q r u ?_
                intro b' w7 hf hb7 hv
                rw [layY17a hf, hv]
                clear hv hf
                generalize Rg.out (Rg.opsOf Try.f5 17) b' 0 = y0
                generalize Rg.out (Rg.opsOf Try.f5 17) b' 1 = y1
                generalize Rg.out (Rg.opsOf Try.f5 17) b' 2 = y2
                generalize Rg.out (Rg.opsOf Try.f5 17) b' 3 = y3
                generalize Rg.out (Rg.opsOf Try.f5 17) b' 4 = y4
                generalize Rg.out (Rg.opsOf Try.f5 17) b' 5 = y5
                generalize Rg.out (Rg.opsOf Try.f5 17) b' 6 = y6
                generalize Rg.out (Rg.opsOf Try.f5 17) b' 7 = y7
                generalize Rg.out (Rg.opsOf Try.f5 17) b' 8 = y8
                generalize Rg.out (Rg.opsOf Try.f5 17) b' 9 = y9
                generalize Rg.out (Rg.opsOf Try.f5 17) b' 10 = y10
                generalize Rg.out (Rg.opsOf Try.f5 17) b' 11 = y11
                generalize Rg.out (Rg.opsOf Try.f5 17) b' 12 = y12
                generalize Rg.out (Rg.opsOf Try.f5 17) b' 13 = y13
                generalize Rg.out (Rg.opsOf Try.f5 17) b' 14 = y14
                generalize Rg.out (Rg.opsOf Try.f5 17) b' 15 = y15
                generalize Rg.out (Rg.opsOf Try.f5 17) b' 16 = y16
                generalize Rg.out (Rg.opsOf Try.f5 17) b' 17 = y17
                generalize Rg.out (Rg.opsOf Try.f5 17) b' 18 = y18
                generalize Rg.out (Rg.opsOf Try.f5 17) b' 19 = y19
                generalize Rg.out (Rg.opsOf Try.f5 17) b' 20 = y20
                generalize Rg.out (Rg.opsOf Try.f5 17) b' 21 = y21
                generalize Rg.out (Rg.opsOf Try.f5 17) b' 22 = y22
                generalize Rg.out (Rg.opsOf Try.f5 17) b' 23 = y23
                generalize Rg.out (Rg.opsOf Try.f5 17) b' 24 = y24
                generalize Rg.out (Rg.opsOf Try.f5 17) b' 25 = y25
                have HB7 := hidden (hb.trans (hb7.mono hb.size))
                have c27 := (hb7.cell (p := ⟨g, off + i * 3 + 2, none⟩) hgl).trans c2
                clear hb7 PXr c0 c1 c2
                go_frame
                go_wp2_with fail
                go_roundw
                case rel => exact ⟨i + 1, by omega, rfl, by rw [HF.out], HB7.out⟩
                case measure => simp [intOf]; omega
              · have HF : Hid (day x.id a (L.take (i + 1)) (s + 1439) = Dv) := HNo.out (.inr (by rw [Bool.eq_false_iff]; intro h; rw [rng_iff] at h; omega))
                clear HYes HNo
                go_upto_region 17 with fail
                refine regY17c (x := x) (y := y) rfl rfl rfl rfl rfl hlti2 hgl c0 c1 PXr (by omega) q r u ?_
                intro b' w7 hf hb7 hv
                rw [layY17a hf, hv]
                clear hv hf
                generalize Rg.out (Rg.opsOf Try.f5 17) b' 0 = y0
                generalize Rg.out (Rg.opsOf Try.f5 17) b' 1 = y1
                generalize Rg.out (Rg.opsOf Try.f5 17) b' 2 = y2
                generalize Rg.out (Rg.opsOf Try.f5 17) b' 3 = y3
                generalize Rg.out (Rg.opsOf Try.f5 17) b' 4 = y4
                generalize Rg.out (Rg.opsOf Try.f5 17) b' 5 = y5
                generalize Rg.out (Rg.opsOf Try.f5 17) b' 6 = y6
                generalize Rg.out (Rg.opsOf Try.f5 17) b' 7 = y7
                generalize Rg.out (Rg.opsOf Try.f5 17) b' 8 = y8
                generalize Rg.out (Rg.opsOf Try.f5 17) b' 9 = y9
                generalize Rg.out (Rg.opsOf Try.f5 17) b' 10 = y10
                generalize Rg.out (Rg.opsOf Try.f5 17) b' 11 = y11
                generalize Rg.out (Rg.opsOf Try.f5 17) b' 12 = y12
                generalize Rg.out (Rg.opsOf Try.f5 17) b' 13 = y13
                generalize Rg.out (Rg.opsOf Try.f5 17) b' 14 = y14
                generalize Rg.out (Rg.opsOf Try.f5 17) b' 15 = y15
                generalize Rg.out (Rg.opsOf Try.f5 17) b' 16 = y16
                generalize Rg.out (Rg.opsOf Try.f5 17) b' 17 = y17
                generalize Rg.out (Rg.opsOf Try.f5 17) b' 18 = y18
                generalize Rg.out (Rg.opsOf Try.f5 17) b' 19 = y19
                generalize Rg.out (Rg.opsOf Try.f5 17) b' 20 = y20
                generalize Rg.out (Rg.opsOf Try.f5 17) b' 21 = y21
                generalize Rg.out (Rg.opsOf Try.f5 17) b' 22 = y22
                generalize Rg.out (Rg.opsOf Try.f5 17) b' 23 = y23
                generalize Rg.out (Rg.opsOf Try.f5 17) b' 24 = y24
                generalize Rg.out (Rg.opsOf Try.f5 17) b' 25 = y25
                have HB7 := hidden (hb.trans (hb7.mono hb.size))
                have c27 := (hb7.cell (p := ⟨g, off + i * 3 + 2, none⟩) hgl).trans c2
                clear hb7 PXr c0 c1 c2
                go_frame
                go_wp2_with fail
                go_roundw
                case rel => exact ⟨i + 1, by omega, rfl, by rw [HF.out], HB7.out⟩
                case measure => simp [intOf]; omega
            · have HF : Hid (day x.id a (L.take (i + 1)) (s + 1439) = Dv) := HNo.out (.inr (by rw [Bool.eq_false_iff]; intro h; rw [rng_iff] at h; omega))
              clear HYes HNo
              go_upto_region 17 with fail
              refine regY17b (x := x) (y := y) rfl rfl rfl rfl rfl hlti2 hgl c0 c1 PXr (by omega) q r ?_
              intro b' w7 hf hb7 hv
              rw [layY17a hf, hv]
              clear hv hf
              generalize Rg.out (Rg.opsOf Try.f5 17) b' 0 = y0
              generalize Rg.out (Rg.opsOf Try.f5 17) b' 1 = y1
              generalize Rg.out (Rg.opsOf Try.f5 17) b' 2 = y2
              generalize Rg.out (Rg.opsOf Try.f5 17) b' 3 = y3
              generalize Rg.out (Rg.opsOf Try.f5 17) b' 4 = y4
              generalize Rg.out (Rg.opsOf Try.f5 17) b' 5 = y5
              generalize Rg.out (Rg.opsOf Try.f5 17) b' 6 = y6
              generalize Rg.out (Rg.opsOf Try.f5 17) b' 7 = y7
              generalize Rg.out (Rg.opsOf Try.f5 17) b' 8 = y8
              generalize Rg.out (Rg.opsOf Try.f5 17) b' 9 = y9
              generalize Rg.out (Rg.opsOf Try.f5 17) b' 10 = y10
              generalize Rg.out (Rg.opsOf Try.f5 17) b' 11 = y11
              generalize Rg.out (Rg.opsOf Try.f5 17) b' 12 = y12
              generalize Rg.out (Rg.opsOf Try.f5 17) b' 13 = y13
              generalize Rg.out (Rg.opsOf Try.f5 17) b' 14 = y14
              generalize Rg.out (Rg.opsOf Try.f5 17) b' 15 = y15
              generalize Rg.out (Rg.opsOf Try.f5 17) b' 16 = y16
              generalize Rg.out (Rg.opsOf Try.f5 17) b' 17 = y17
              generalize Rg.out (Rg.opsOf Try.f5 17) b' 18 = y18
              generalize Rg.out (Rg.opsOf Try.f5 17) b' 19 = y19
              generalize Rg.out (Rg.opsOf Try.f5 17) b' 20 = y20
              generalize Rg.out (Rg.opsOf Try.f5 17) b' 21 = y21
              generalize Rg.out (Rg.opsOf Try.f5 17) b' 22 = y22
              generalize Rg.out (Rg.opsOf Try.f5 17) b' 23 = y23
              generalize Rg.out (Rg.opsOf Try.f5 17) b' 24 = y24
              generalize Rg.out (Rg.opsOf Try.f5 17) b' 25 = y25
              have HB7 := hidden (hb.trans (hb7.mono hb.size))
              have c27 := (hb7.cell (p := ⟨g, off + i * 3 + 2, none⟩) hgl).trans c2
              clear hb7 PXr c0 c1 c2
              go_frame
              go_wp2_with fail
              go_roundw
              case rel => exact ⟨i + 1, by omega, rfl, by rw [HF.out], HB7.out⟩
              case measure => simp [intOf]; omega
          · have HF : Hid (day x.id a (L.take (i + 1)) (s + 1439) = Dv) := HNo.out (.inl (by simp [q]))
            clear HYes HNo
            go_upto_region 17 with fail
            refine regY17a (x := x) (y := y) rfl rfl rfl rfl rfl hlti2 hgl c0 c1 PXr (by omega) q ?_
            intro b' w7 hf hb7 hv
            rw [layY17a hf, hv]
            clear hv hf
            generalize Rg.out (Rg.opsOf Try.f5 17) b' 0 = y0
            generalize Rg.out (Rg.opsOf Try.f5 17) b' 1 = y1
            generalize Rg.out (Rg.opsOf Try.f5 17) b' 2 = y2
            generalize Rg.out (Rg.opsOf Try.f5 17) b' 3 = y3
            generalize Rg.out (Rg.opsOf Try.f5 17) b' 4 = y4
            generalize Rg.out (Rg.opsOf Try.f5 17) b' 5 = y5
            generalize Rg.out (Rg.opsOf Try.f5 17) b' 6 = y6
            generalize Rg.out (Rg.opsOf Try.f5 17) b' 7 = y7
            generalize Rg.out (Rg.opsOf Try.f5 17) b' 8 = y8
            generalize Rg.out (Rg.opsOf Try.f5 17) b' 9 = y9
            generalize Rg.out (Rg.opsOf Try.f5 17) b' 10 = y10
            generalize Rg.out (Rg.opsOf Try.f5 17) b' 11 = y11
            generalize Rg.out (Rg.opsOf Try.f5 17) b' 12 = y12
            generalize Rg.out (Rg.opsOf Try.f5 17) b' 13 = y13
            generalize Rg.out (Rg.opsOf Try.f5 17) b' 14 = y14
            generalize Rg.out (Rg.opsOf Try.f5 17) b' 15 = y15
            generalize Rg.out (Rg.opsOf Try.f5 17) b' 16 = y16
            generalize Rg.out (Rg.opsOf Try.f5 17) b' 17 = y17
            generalize Rg.out (Rg.opsOf Try.f5 17) b' 18 = y18
            generalize Rg.out (Rg.opsOf Try.f5 17) b' 19 = y19
            generalize Rg.out (Rg.opsOf Try.f5 17) b' 20 = y20
            generalize Rg.out (Rg.opsOf Try.f5 17) b' 21 = y21
            generalize Rg.out (Rg.opsOf Try.f5 17) b' 22 = y22
            generalize Rg.out (Rg.opsOf Try.f5 17) b' 23 = y23
            generalize Rg.out (Rg.opsOf Try.f5 17) b' 24 = y24
            generalize Rg.out (Rg.opsOf Try.f5 17) b' 25 = y25
            have HB7 := hidden (hb.trans (hb7.mono hb.size))
            have c27 := (hb7.cell (p := ⟨g, off + i * 3 + 2, none⟩) hgl).trans c2
            clear hb7 PXr c0 c1 c2
            go_frame
            go_wp2_with fail
            go_roundw
            case rel => exact ⟨i + 1, by omega, rfl, by rw [HF.out], HB7.out⟩
            case measure => simp [intOf]; omega
        · have hlti : ¬ (i : Int) < (L.length : Int) := by omega
          have hil : i = L.length := by omega
          subst hil
          have hle := HA.out s hs0 hst
          rw [List.take_length]
          generalize day x.id a L (s + 1439) = Dv at *
          have hle2 : ¬ x.day < Dv := by omega
          obtain ⟨d0, d1, d2, d3, d4, d5⟩ := (PX.out.below hb).six
          have hBy := bytes_upY HBY.out (onto BX.out hb)
          have HB := hidden hb
          clear hb
          go_wp2_with fail
          refine (pick_any ao cap bs 97 _ hBy (by omega) (by omega) (by omega)).mono ?_
          rintro e w8 ⟨⟨m, rfl, hm⟩, rfl⟩
          clear d0 d1 d2 d3 d4 d5
          go_wp2_with fail
          go_roundw
          case rel => exact ⟨s + 1 + m, rfl, by omega, by omega, HB.out⟩
          case measure => simp [intOf]; omega
    · go_wp2_with fail
      go_ret
      exact ⟨rfl, onto BX.out hb⟩
end Go.Proofs.Ytcnhogghfedcdaa
