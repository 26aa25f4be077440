/-
  The worst rule: the program.
-/
import Derived.Test.YtcnhogghfedcdaaNb
import Derived.Test.YtcnhogghfedcdaaRm
import Derived.Test.YtcnhogghfedcdaaGx
namespace Go.Proofs.Ytcnhogghfedcdaa
open Go.RowKit Va Ga
set_option linter.unusedVariables false

def FW5a (g off n cap BX k : Nat) (s u : Nat) (B : Int) (r q : Ru) (i9 : Nat) (v : Value) (w : World) : Prop :=
  match i9 with
  | 0 => v = .agg #[.int .i64 r.a, .int .i64 r.b, .int .i64 r.g]
  | 1 => v = .int .u64 s
  | 2 => v = .int .u64 u
  | 3 => v = .bool false
  | 4 => v = .bool false
  | 5 => v = undef
  | 6 => v = undef
  | 7 => v = undef
  | 8 => v = undef
  | 9 => v = undef
  | 10 => v = undef
  | 11 => v = undef
  | 12 => v = undef
  | 13 => v = undef
  | 14 => v = undef
  | 15 => v = undef
  | 16 => v = undef
  | 17 => v = .bool false
  | _ => True
theorem sizeW5a : (Rg.opsOf Try.f40 5).size = 18 := by kernel_rfl

set_option maxRecDepth 20000 in
set_option maxHeartbeats 8000000 in
theorem regW5a {Q : Exit → Act → World → Prop} {a : Act} {w9 : World} {g off n cap BX k : Nat} {s u : Nat} {B : Int} {r q : Ru} (ha : a.tmps.size = 38)
    (k0 : a.tmps[0]? = some (.slice (some ⟨g, off, none⟩) n cap)) (k1 : a.tmps[1]? = some (.int .u64 s)) (k2 : a.tmps[2]? = some (.int .u64 u)) (k7 : a.tmps[7]? = some (.int .i64 B)) (k9 : a.tmps[9]? = some (.pointer (some ⟨BX, 0, none⟩))) (hX : PB w9 BX #[.int .i64 r.a, .int .i64 r.b, .int .i64 r.g] 41) (hK : ∀ W, Calls Try.prog 61 #[.agg #[.int .i64 r.a, .int .i64 r.b, .int .i64 r.g], .int .u64 s, .int .u64 u] W fun e W' => e = .returned (.bool false) ∧ Below W.heap.size W W') 
    (hend : ∀ b' w', Rg.Fr (Rg.opsOf Try.f40 5) a b' → Below w9.heap.size w9 w' → Rg.out (Rg.opsOf Try.f40 5) b' 17 = .bool false → Q .normal b' w') :
    (Code.region 5 (Rg.opsOf Try.f40 5) true).wp Try.prog Q a w9 := by
  refine Rg.region_dead (by kernel_rfl) (fun w' => Below w9.heap.size w9 w') (FW5a g off n cap BX k s u B r q) (fun _ => none) (by rw [ha, sizeW5a]; kernel_rfl) (st_drew (Below.refl _ _)) ?_ ?_
  case refine_2 =>
    intro b' w' hf hI hA
    rw [sizeW5a] at hA
    exact hend b' w' hf hI (hA 17 (by decide) rfl)
  case refine_1 =>
    clear hend
    have HS : ∀ {w w' : World}, Below w.heap.size w w' → ∀ k9 y9, FW5a g off n cap BX k s u B r q k9 y9 w → FW5a g off n cap BX k s u B r q k9 y9 w' := fun hb k9 y9 h => by
      unfold FW5a at *
      split at h <;> exact h
    intro i' hi'
    rw [sizeW5a] at hi'
    rcases (show i' = 0 ∨ i' = 1 ∨ i' = 2 ∨ i' = 3 ∨ i' = 4 ∨ i' = 5 ∨ i' = 6 ∨ i' = 7 ∨ i' = 8 ∨ i' = 9 ∨ i' = 10 ∨ i' = 11 ∨ i' = 12 ∨ i' = 13 ∨ i' = 14 ∨ i' = 15 ∨ i' = 16 ∨ i' = 17 by omega) with rfl | rfl | rfl | rfl | rfl | rfl | rfl | rfl | rfl | rfl | rfl | rfl | rfl | rfl | rfl | rfl | rfl | rfl
    · intro bb w' hf hI hA
      clear hi'
      have q9 := hf.kept (s := 9) (by rw [sizeW5a]; kernel_rfl) k9
      obtain ⟨e0, e1, e2⟩ := (hX.below hI).three
      clear hA HS hK hX
      exact Rg.op_value (o := ⟨some 17, Op.load 41 (Operand.tmp 9), _, _, _, _⟩) (x := .agg #[.int .i64 r.a, .int .i64 r.b, .int .i64 r.g]) rfl rfl (by simp only [execOp]; go_simp) ⟨_, rfl, (fun h => by cases h), rfl, hI, fun _ _ _ h => h⟩
    · intro bb w' hf hI hA
      clear hi'
      have q0 := hf.kept (s := 1) (by rw [sizeW5a]; kernel_rfl) k1
      exact Rg.op_value (o := ⟨some 18, Op.move (Operand.tmp 1), _, _, _, _⟩) rfl rfl rfl ⟨_, rfl, (fun h => by cases h), (by show Act.eval bb _ = _; simp [Act.eval, q0]), hI, fun _ _ _ h => h⟩
    · intro bb w' hf hI hA
      clear hi'
      have q0 := hf.kept (s := 2) (by rw [sizeW5a]; kernel_rfl) k2
      exact Rg.op_value (o := ⟨some 19, Op.move (Operand.tmp 2), _, _, _, _⟩) rfl rfl rfl ⟨_, rfl, (fun h => by cases h), (by show Act.eval bb _ = _; simp [Act.eval, q0]), hI, fun _ _ _ h => h⟩
    · intro bb w' hf hI hA
      clear hi'
      have q17 : bb.tmps[17]? = some _ := hf.tmp (k := 0) rfl (by rw [ha]; decide) (hA 0 (by kernel_rfl) (.inl rfl))
      have q18 : bb.tmps[18]? = some _ := hf.tmp (k := 1) rfl (by rw [ha]; decide) (hA 1 (by kernel_rfl) (.inl rfl))
      have q19 : bb.tmps[19]? = some _ := hf.tmp (k := 2) rfl (by rw [ha]; decide) (hA 2 (by kernel_rfl) (.inl rfl))
      refine Rg.op_call (o := ⟨some 20, Op.call { callee := Callee.value (Operand.func 61), args := #[(Operand.tmp 17), (Operand.tmp 18), (Operand.tmp 19)], argTypes := _ }, _, _, _, _⟩) rfl rfl (by clear hA HS hK hX; simp only [execOp, resolve]; go_simp) (hK w') ?_
      rintro e w2 ⟨rfl, hb2⟩
      exact ⟨_, rfl, _, rfl, (fun h => by cases h), rfl, onto hI hb2, fun k9 y9 _ h => HS hb2 k9 y9 h⟩
    · intro bb w' hf hI hA
      clear hi'
      have q20 : bb.tmps[20]? = some _ := hf.tmp (k := 3) rfl (by rw [ha]; decide) (hA 3 (by kernel_rfl) (.inl rfl))
      clear hA HS hK hX
      exact Rg.op_value (o := ⟨some 21, Op.move (Operand.tmp 20), _, _, _, _⟩) (x := .bool false) rfl rfl (by simp only [execOp]; go_simp) ⟨_, rfl, (fun h => by cases h), rfl, hI, fun _ _ _ h => h⟩
    · intro bb w' hf hI hA
      clear hi'
      have qg : bb.tmps[21]? = some _ := hf.tmp (k := 4) rfl (by rw [ha]; decide) (hA 4 (by kernel_rfl) (.inl rfl))
      exact Rg.op_none (o := ⟨some 22, _, _, _, _, _⟩) rfl (Rg.unwanted_of (g := 4) (want := true) rfl rfl qg) ⟨_, rfl, (fun h => by cases h), rfl, hI, fun _ _ _ h => h⟩
    · intro bb w' hf hI hA
      clear hi'
      have qg : bb.tmps[21]? = some _ := hf.tmp (k := 4) rfl (by rw [ha]; decide) (hA 4 (by kernel_rfl) (.inl rfl))
      exact Rg.op_none (o := ⟨some 23, _, _, _, _, _⟩) rfl (Rg.unwanted_of (g := 4) (want := true) rfl rfl qg) ⟨_, rfl, (fun h => by cases h), rfl, hI, fun _ _ _ h => h⟩
    · intro bb w' hf hI hA
      clear hi'
      have qg : bb.tmps[21]? = some _ := hf.tmp (k := 4) rfl (by rw [ha]; decide) (hA 4 (by kernel_rfl) (.inl rfl))
      exact Rg.op_none (o := ⟨some 24, _, _, _, _, _⟩) rfl (Rg.unwanted_of (g := 4) (want := true) rfl rfl qg) ⟨_, rfl, (fun h => by cases h), rfl, hI, fun _ _ _ h => h⟩
    · intro bb w' hf hI hA
      clear hi'
      have qg : bb.tmps[24]? = some _ := hf.tmp (k := 7) rfl (by rw [ha]; decide) (hA 7 (by kernel_rfl) (.inl rfl))
      exact Rg.op_none (o := ⟨some 25, _, _, _, _, _⟩) rfl (Rg.unwanted_un (g := 7) (want := false) rfl rfl qg) ⟨_, rfl, (fun h => by cases h), rfl, hI, fun _ _ _ h => h⟩
    · intro bb w' hf hI hA
      clear hi'
      have qg : bb.tmps[24]? = some _ := hf.tmp (k := 7) rfl (by rw [ha]; decide) (hA 7 (by kernel_rfl) (.inl rfl))
      exact Rg.op_none (o := ⟨some 26, _, _, _, _, _⟩) rfl (Rg.unwanted_un (g := 7) (want := false) rfl rfl qg) ⟨_, rfl, (fun h => by cases h), rfl, hI, fun _ _ _ h => h⟩
    · intro bb w' hf hI hA
      clear hi'
      have qg : bb.tmps[24]? = some _ := hf.tmp (k := 7) rfl (by rw [ha]; decide) (hA 7 (by kernel_rfl) (.inl rfl))
      exact Rg.op_none (o := ⟨some 27, _, _, _, _, _⟩) rfl (Rg.unwanted_un (g := 7) (want := false) rfl rfl qg) ⟨_, rfl, (fun h => by cases h), rfl, hI, fun _ _ _ h => h⟩
    · intro bb w' hf hI hA
      clear hi'
      have qg : bb.tmps[24]? = some _ := hf.tmp (k := 7) rfl (by rw [ha]; decide) (hA 7 (by kernel_rfl) (.inl rfl))
      exact Rg.op_none (o := ⟨some 28, _, _, _, _, _⟩) rfl (Rg.unwanted_un (g := 7) (want := false) rfl rfl qg) ⟨_, rfl, (fun h => by cases h), rfl, hI, fun _ _ _ h => h⟩
    · intro bb w' hf hI hA
      clear hi'
      have qg : bb.tmps[24]? = some _ := hf.tmp (k := 7) rfl (by rw [ha]; decide) (hA 7 (by kernel_rfl) (.inl rfl))
      exact Rg.op_none (o := ⟨some 29, _, _, _, _, _⟩) rfl (Rg.unwanted_un (g := 7) (want := false) rfl rfl qg) ⟨_, rfl, (fun h => by cases h), rfl, hI, fun _ _ _ h => h⟩
    · intro bb w' hf hI hA
      clear hi'
      have qg : bb.tmps[24]? = some _ := hf.tmp (k := 7) rfl (by rw [ha]; decide) (hA 7 (by kernel_rfl) (.inl rfl))
      exact Rg.op_none (o := ⟨some 30, _, _, _, _, _⟩) rfl (Rg.unwanted_un (g := 7) (want := false) rfl rfl qg) ⟨_, rfl, (fun h => by cases h), rfl, hI, fun _ _ _ h => h⟩
    · intro bb w' hf hI hA
      clear hi'
      have qg : bb.tmps[24]? = some _ := hf.tmp (k := 7) rfl (by rw [ha]; decide) (hA 7 (by kernel_rfl) (.inl rfl))
      exact Rg.op_none (o := ⟨some 31, _, _, _, _, _⟩) rfl (Rg.unwanted_un (g := 7) (want := false) rfl rfl qg) ⟨_, rfl, (fun h => by cases h), rfl, hI, fun _ _ _ h => h⟩
    · intro bb w' hf hI hA
      clear hi'
      have qg : bb.tmps[24]? = some _ := hf.tmp (k := 7) rfl (by rw [ha]; decide) (hA 7 (by kernel_rfl) (.inl rfl))
      exact Rg.op_none (o := ⟨some 32, _, _, _, _, _⟩) rfl (Rg.unwanted_un (g := 7) (want := false) rfl rfl qg) ⟨_, rfl, (fun h => by cases h), rfl, hI, fun _ _ _ h => h⟩
    · intro bb w' hf hI hA
      clear hi'
      have qg : bb.tmps[21]? = some _ := hf.tmp (k := 4) rfl (by rw [ha]; decide) (hA 4 (by kernel_rfl) (.inl rfl))
      exact Rg.op_none (o := ⟨some 33, _, _, _, _, _⟩) rfl (Rg.unwanted_of (g := 4) (want := true) rfl rfl qg) ⟨_, rfl, (fun h => by cases h), rfl, hI, fun _ _ _ h => h⟩
    · intro bb w' hf hI hA
      clear hi'
      have q21 : bb.tmps[21]? = some _ := hf.tmp (k := 4) rfl (by rw [ha]; decide) (hA 4 (by kernel_rfl) (.inl rfl))
      clear hA HS hK hX
      exact Rg.op_value (o := ⟨some 34, Op.pick (Operand.tmp 21) (Operand.tmp 33) (Operand.const (Value.bool false)), _, _, _, _⟩) (x := .bool false) rfl rfl (by simp only [execOp]; go_simp) ⟨_, rfl, (fun h => by cases h), rfl, hI, fun _ _ _ h => h⟩

theorem dW5a_0 : Rg.dstAt (Rg.opsOf Try.f40 5) 0 = some 17 := by kernel_rfl
theorem dW5a_1 : Rg.dstAt (Rg.opsOf Try.f40 5) 1 = some 18 := by kernel_rfl
theorem dW5a_2 : Rg.dstAt (Rg.opsOf Try.f40 5) 2 = some 19 := by kernel_rfl
theorem dW5a_3 : Rg.dstAt (Rg.opsOf Try.f40 5) 3 = some 20 := by kernel_rfl
theorem dW5a_4 : Rg.dstAt (Rg.opsOf Try.f40 5) 4 = some 21 := by kernel_rfl
theorem dW5a_5 : Rg.dstAt (Rg.opsOf Try.f40 5) 5 = some 22 := by kernel_rfl
theorem dW5a_6 : Rg.dstAt (Rg.opsOf Try.f40 5) 6 = some 23 := by kernel_rfl
theorem dW5a_7 : Rg.dstAt (Rg.opsOf Try.f40 5) 7 = some 24 := by kernel_rfl
theorem dW5a_8 : Rg.dstAt (Rg.opsOf Try.f40 5) 8 = some 25 := by kernel_rfl
theorem dW5a_9 : Rg.dstAt (Rg.opsOf Try.f40 5) 9 = some 26 := by kernel_rfl
theorem dW5a_10 : Rg.dstAt (Rg.opsOf Try.f40 5) 10 = some 27 := by kernel_rfl
theorem dW5a_11 : Rg.dstAt (Rg.opsOf Try.f40 5) 11 = some 28 := by kernel_rfl
theorem dW5a_12 : Rg.dstAt (Rg.opsOf Try.f40 5) 12 = some 29 := by kernel_rfl
theorem dW5a_13 : Rg.dstAt (Rg.opsOf Try.f40 5) 13 = some 30 := by kernel_rfl
theorem dW5a_14 : Rg.dstAt (Rg.opsOf Try.f40 5) 14 = some 31 := by kernel_rfl
theorem dW5a_15 : Rg.dstAt (Rg.opsOf Try.f40 5) 15 = some 32 := by kernel_rfl
theorem dW5a_16 : Rg.dstAt (Rg.opsOf Try.f40 5) 16 = some 33 := by kernel_rfl
theorem dW5a_17 : Rg.dstAt (Rg.opsOf Try.f40 5) 17 = some 34 := by kernel_rfl
theorem layW5a {a b : Act} (hf : Rg.Fr (Rg.opsOf Try.f40 5) a b) : b = ((((((((((((((((((a.put (some 17) (Rg.out (Rg.opsOf Try.f40 5) b 0)).put (some 18) (Rg.out (Rg.opsOf Try.f40 5) b 1)).put (some 19) (Rg.out (Rg.opsOf Try.f40 5) b 2)).put (some 20) (Rg.out (Rg.opsOf Try.f40 5) b 3)).put (some 21) (Rg.out (Rg.opsOf Try.f40 5) b 4)).put (some 22) (Rg.out (Rg.opsOf Try.f40 5) b 5)).put (some 23) (Rg.out (Rg.opsOf Try.f40 5) b 6)).put (some 24) (Rg.out (Rg.opsOf Try.f40 5) b 7)).put (some 25) (Rg.out (Rg.opsOf Try.f40 5) b 8)).put (some 26) (Rg.out (Rg.opsOf Try.f40 5) b 9)).put (some 27) (Rg.out (Rg.opsOf Try.f40 5) b 10)).put (some 28) (Rg.out (Rg.opsOf Try.f40 5) b 11)).put (some 29) (Rg.out (Rg.opsOf Try.f40 5) b 12)).put (some 30) (Rg.out (Rg.opsOf Try.f40 5) b 13)).put (some 31) (Rg.out (Rg.opsOf Try.f40 5) b 14)).put (some 32) (Rg.out (Rg.opsOf Try.f40 5) b 15)).put (some 33) (Rg.out (Rg.opsOf Try.f40 5) b 16)).put (some 34) (Rg.out (Rg.opsOf Try.f40 5) b 17)) := by
  have h := hf.chain
  rw [sizeW5a, show List.range 18 = [0, 1, 2, 3, 4, 5, 6, 7, 8, 9, 10, 11, 12, 13, 14, 15, 16, 17] from by decide] at h
  simp only [List.foldl_cons, List.foldl_nil, dW5a_0, dW5a_1, dW5a_2, dW5a_3, dW5a_4, dW5a_5, dW5a_6, dW5a_7, dW5a_8, dW5a_9, dW5a_10, dW5a_11, dW5a_12, dW5a_13, dW5a_14, dW5a_15, dW5a_16, dW5a_17] at h
  exact h

def FW5b (g off n cap BX k : Nat) (s u : Nat) (B : Int) (r q : Ru) (i9 : Nat) (v : Value) (w : World) : Prop :=
  match i9 with
  | 0 => v = .agg #[.int .i64 r.a, .int .i64 r.b, .int .i64 r.g]
  | 1 => v = .int .u64 s
  | 2 => v = .int .u64 u
  | 3 => v = .bool true
  | 4 => v = .bool true
  | 5 => v = .int .i64 B
  | 6 => v = .bool true
  | 7 => v = .bool true
  | 8 => v = undef
  | 9 => v = undef
  | 10 => v = undef
  | 11 => v = undef
  | 12 => v = undef
  | 13 => v = undef
  | 14 => v = undef
  | 15 => v = undef
  | 16 => v = .bool true
  | 17 => v = .bool true
  | _ => True
theorem sizeW5b : (Rg.opsOf Try.f40 5).size = 18 := by kernel_rfl

set_option maxRecDepth 20000 in
set_option maxHeartbeats 8000000 in
theorem regW5b {Q : Exit → Act → World → Prop} {a : Act} {w9 : World} {g off n cap BX k : Nat} {s u : Nat} {B : Int} {r q : Ru} (ha : a.tmps.size = 38)
    (k0 : a.tmps[0]? = some (.slice (some ⟨g, off, none⟩) n cap)) (k1 : a.tmps[1]? = some (.int .u64 s)) (k2 : a.tmps[2]? = some (.int .u64 u)) (k7 : a.tmps[7]? = some (.int .i64 B)) (k9 : a.tmps[9]? = some (.pointer (some ⟨BX, 0, none⟩))) (hX : PB w9 BX #[.int .i64 r.a, .int .i64 r.b, .int .i64 r.g] 41) (hK : ∀ W, Calls Try.prog 61 #[.agg #[.int .i64 r.a, .int .i64 r.b, .int .i64 r.g], .int .u64 s, .int .u64 u] W fun e W' => e = .returned (.bool true) ∧ Below W.heap.size W W') (hB : B < 0)
    (hend : ∀ b' w', Rg.Fr (Rg.opsOf Try.f40 5) a b' → Below w9.heap.size w9 w' → Rg.out (Rg.opsOf Try.f40 5) b' 17 = .bool true → Q .normal b' w') :
    (Code.region 5 (Rg.opsOf Try.f40 5) true).wp Try.prog Q a w9 := by
  refine Rg.region_dead (by kernel_rfl) (fun w' => Below w9.heap.size w9 w') (FW5b g off n cap BX k s u B r q) (fun _ => none) (by rw [ha, sizeW5b]; kernel_rfl) (st_drew (Below.refl _ _)) ?_ ?_
  case refine_2 =>
    intro b' w' hf hI hA
    rw [sizeW5b] at hA
    exact hend b' w' hf hI (hA 17 (by decide) rfl)
  case refine_1 =>
    clear hend
    have HS : ∀ {w w' : World}, Below w.heap.size w w' → ∀ k9 y9, FW5b g off n cap BX k s u B r q k9 y9 w → FW5b g off n cap BX k s u B r q k9 y9 w' := fun hb k9 y9 h => by
      unfold FW5b at *
      split at h <;> exact h
    intro i' hi'
    rw [sizeW5b] at hi'
    rcases (show i' = 0 ∨ i' = 1 ∨ i' = 2 ∨ i' = 3 ∨ i' = 4 ∨ i' = 5 ∨ i' = 6 ∨ i' = 7 ∨ i' = 8 ∨ i' = 9 ∨ i' = 10 ∨ i' = 11 ∨ i' = 12 ∨ i' = 13 ∨ i' = 14 ∨ i' = 15 ∨ i' = 16 ∨ i' = 17 by omega) with rfl | rfl | rfl | rfl | rfl | rfl | rfl | rfl | rfl | rfl | rfl | rfl | rfl | rfl | rfl | rfl | rfl | rfl
    · intro bb w' hf hI hA
      clear hi'
      have q9 := hf.kept (s := 9) (by rw [sizeW5b]; kernel_rfl) k9
      obtain ⟨e0, e1, e2⟩ := (hX.below hI).three
      clear hA HS hK hX
      exact Rg.op_value (o := ⟨some 17, Op.load 41 (Operand.tmp 9), _, _, _, _⟩) (x := .agg #[.int .i64 r.a, .int .i64 r.b, .int .i64 r.g]) rfl rfl (by simp only [execOp]; go_simp) ⟨_, rfl, (fun h => by cases h), rfl, hI, fun _ _ _ h => h⟩
    · intro bb w' hf hI hA
      clear hi'
      have q0 := hf.kept (s := 1) (by rw [sizeW5b]; kernel_rfl) k1
      exact Rg.op_value (o := ⟨some 18, Op.move (Operand.tmp 1), _, _, _, _⟩) rfl rfl rfl ⟨_, rfl, (fun h => by cases h), (by show Act.eval bb _ = _; simp [Act.eval, q0]), hI, fun _ _ _ h => h⟩
    · intro bb w' hf hI hA
      clear hi'
      have q0 := hf.kept (s := 2) (by rw [sizeW5b]; kernel_rfl) k2
      exact Rg.op_value (o := ⟨some 19, Op.move (Operand.tmp 2), _, _, _, _⟩) rfl rfl rfl ⟨_, rfl, (fun h => by cases h), (by show Act.eval bb _ = _; simp [Act.eval, q0]), hI, fun _ _ _ h => h⟩
    · intro bb w' hf hI hA
      clear hi'
      have q17 : bb.tmps[17]? = some _ := hf.tmp (k := 0) rfl (by rw [ha]; decide) (hA 0 (by kernel_rfl) (.inl rfl))
      have q18 : bb.tmps[18]? = some _ := hf.tmp (k := 1) rfl (by rw [ha]; decide) (hA 1 (by kernel_rfl) (.inl rfl))
      have q19 : bb.tmps[19]? = some _ := hf.tmp (k := 2) rfl (by rw [ha]; decide) (hA 2 (by kernel_rfl) (.inl rfl))
      refine Rg.op_call (o := ⟨some 20, Op.call { callee := Callee.value (Operand.func 61), args := #[(Operand.tmp 17), (Operand.tmp 18), (Operand.tmp 19)], argTypes := _ }, _, _, _, _⟩) rfl rfl (by clear hA HS hK hX; simp only [execOp, resolve]; go_simp) (hK w') ?_
      rintro e w2 ⟨rfl, hb2⟩
      exact ⟨_, rfl, _, rfl, (fun h => by cases h), rfl, onto hI hb2, fun k9 y9 _ h => HS hb2 k9 y9 h⟩
    · intro bb w' hf hI hA
      clear hi'
      have q20 : bb.tmps[20]? = some _ := hf.tmp (k := 3) rfl (by rw [ha]; decide) (hA 3 (by kernel_rfl) (.inl rfl))
      clear hA HS hK hX
      exact Rg.op_value (o := ⟨some 21, Op.move (Operand.tmp 20), _, _, _, _⟩) (x := .bool true) rfl rfl (by simp only [execOp]; go_simp) ⟨_, rfl, (fun h => by cases h), rfl, hI, fun _ _ _ h => h⟩
    · intro bb w' hf hI hA
      clear hi'
      have qg : bb.tmps[21]? = some _ := hf.tmp (k := 4) rfl (by rw [ha]; decide) (hA 4 (by kernel_rfl) (.inl rfl))
      have q0 := hf.kept (s := 7) (by rw [sizeW5b]; kernel_rfl) k7
      exact Rg.op_value (o := ⟨some 22, Op.move (Operand.tmp 7), _, _, _, _⟩) rfl (Rg.wanted_of (g := 4) rfl rfl qg) rfl ⟨_, rfl, (fun h => by cases h), (by show Act.eval bb _ = _; simp [Act.eval, q0]), hI, fun _ _ _ h => h⟩
    · intro bb w' hf hI hA
      clear hi'
      have qg : bb.tmps[21]? = some _ := hf.tmp (k := 4) rfl (by rw [ha]; decide) (hA 4 (by kernel_rfl) (.inl rfl))
      have q22 : bb.tmps[22]? = some _ := hf.tmp (k := 5) rfl (by rw [ha]; decide) (hA 5 (by kernel_rfl) (.inl rfl))
      clear hA HS hK hX
      exact Rg.op_value (o := ⟨some 23, Op.binOp BinOp.lss 3 (Operand.tmp 22) (Operand.const (Value.int .i64 0)) 3, _, _, _, _⟩) (x := .bool true) rfl (Rg.wanted_of (g := 4) rfl rfl qg) (by simp only [execOp]; go_simp) ⟨_, rfl, (fun h => by cases h), rfl, hI, fun _ _ _ h => h⟩
    · intro bb w' hf hI hA
      clear hi'
      have qg : bb.tmps[21]? = some _ := hf.tmp (k := 4) rfl (by rw [ha]; decide) (hA 4 (by kernel_rfl) (.inl rfl))
      have q23 : bb.tmps[23]? = some _ := hf.tmp (k := 6) rfl (by rw [ha]; decide) (hA 6 (by kernel_rfl) (.inl rfl))
      clear hA HS hK hX
      exact Rg.op_value (o := ⟨some 24, Op.move (Operand.tmp 23), _, _, _, _⟩) (x := .bool true) rfl (Rg.wanted_of (g := 4) rfl rfl qg) (by simp only [execOp]; go_simp) ⟨_, rfl, (fun h => by cases h), rfl, hI, fun _ _ _ h => h⟩
    · intro bb w' hf hI hA
      clear hi'
      have qg : bb.tmps[24]? = some _ := hf.tmp (k := 7) rfl (by rw [ha]; decide) (hA 7 (by kernel_rfl) (.inl rfl))
      exact Rg.op_none (o := ⟨some 25, _, _, _, _, _⟩) rfl (Rg.unwanted_of (g := 7) (want := false) rfl rfl qg) ⟨_, rfl, (fun h => by cases h), rfl, hI, fun _ _ _ h => h⟩
    · intro bb w' hf hI hA
      clear hi'
      have qg : bb.tmps[24]? = some _ := hf.tmp (k := 7) rfl (by rw [ha]; decide) (hA 7 (by kernel_rfl) (.inl rfl))
      exact Rg.op_none (o := ⟨some 26, _, _, _, _, _⟩) rfl (Rg.unwanted_of (g := 7) (want := false) rfl rfl qg) ⟨_, rfl, (fun h => by cases h), rfl, hI, fun _ _ _ h => h⟩
    · intro bb w' hf hI hA
      clear hi'
      have qg : bb.tmps[24]? = some _ := hf.tmp (k := 7) rfl (by rw [ha]; decide) (hA 7 (by kernel_rfl) (.inl rfl))
      exact Rg.op_none (o := ⟨some 27, _, _, _, _, _⟩) rfl (Rg.unwanted_of (g := 7) (want := false) rfl rfl qg) ⟨_, rfl, (fun h => by cases h), rfl, hI, fun _ _ _ h => h⟩
    · intro bb w' hf hI hA
      clear hi'
      have qg : bb.tmps[24]? = some _ := hf.tmp (k := 7) rfl (by rw [ha]; decide) (hA 7 (by kernel_rfl) (.inl rfl))
      exact Rg.op_none (o := ⟨some 28, _, _, _, _, _⟩) rfl (Rg.unwanted_of (g := 7) (want := false) rfl rfl qg) ⟨_, rfl, (fun h => by cases h), rfl, hI, fun _ _ _ h => h⟩
    · intro bb w' hf hI hA
      clear hi'
      have qg : bb.tmps[24]? = some _ := hf.tmp (k := 7) rfl (by rw [ha]; decide) (hA 7 (by kernel_rfl) (.inl rfl))
      exact Rg.op_none (o := ⟨some 29, _, _, _, _, _⟩) rfl (Rg.unwanted_of (g := 7) (want := false) rfl rfl qg) ⟨_, rfl, (fun h => by cases h), rfl, hI, fun _ _ _ h => h⟩
    · intro bb w' hf hI hA
      clear hi'
      have qg : bb.tmps[24]? = some _ := hf.tmp (k := 7) rfl (by rw [ha]; decide) (hA 7 (by kernel_rfl) (.inl rfl))
      exact Rg.op_none (o := ⟨some 30, _, _, _, _, _⟩) rfl (Rg.unwanted_of (g := 7) (want := false) rfl rfl qg) ⟨_, rfl, (fun h => by cases h), rfl, hI, fun _ _ _ h => h⟩
    · intro bb w' hf hI hA
      clear hi'
      have qg : bb.tmps[24]? = some _ := hf.tmp (k := 7) rfl (by rw [ha]; decide) (hA 7 (by kernel_rfl) (.inl rfl))
      exact Rg.op_none (o := ⟨some 31, _, _, _, _, _⟩) rfl (Rg.unwanted_of (g := 7) (want := false) rfl rfl qg) ⟨_, rfl, (fun h => by cases h), rfl, hI, fun _ _ _ h => h⟩
    · intro bb w' hf hI hA
      clear hi'
      have qg : bb.tmps[24]? = some _ := hf.tmp (k := 7) rfl (by rw [ha]; decide) (hA 7 (by kernel_rfl) (.inl rfl))
      exact Rg.op_none (o := ⟨some 32, _, _, _, _, _⟩) rfl (Rg.unwanted_of (g := 7) (want := false) rfl rfl qg) ⟨_, rfl, (fun h => by cases h), rfl, hI, fun _ _ _ h => h⟩
    · intro bb w' hf hI hA
      clear hi'
      have qg : bb.tmps[21]? = some _ := hf.tmp (k := 4) rfl (by rw [ha]; decide) (hA 4 (by kernel_rfl) (.inl rfl))
      have q24 : bb.tmps[24]? = some _ := hf.tmp (k := 7) rfl (by rw [ha]; decide) (hA 7 (by kernel_rfl) (.inl rfl))
      clear hA HS hK hX
      exact Rg.op_value (o := ⟨some 33, Op.pick (Operand.tmp 24) (Operand.const (Value.bool true)) (Operand.tmp 32), _, _, _, _⟩) (x := .bool true) rfl (Rg.wanted_of (g := 4) rfl rfl qg) (by simp only [execOp]; go_simp) ⟨_, rfl, (fun h => by cases h), rfl, hI, fun _ _ _ h => h⟩
    · intro bb w' hf hI hA
      clear hi'
      have q21 : bb.tmps[21]? = some _ := hf.tmp (k := 4) rfl (by rw [ha]; decide) (hA 4 (by kernel_rfl) (.inl rfl))
      have q33 : bb.tmps[33]? = some _ := hf.tmp (k := 16) rfl (by rw [ha]; decide) (hA 16 (by kernel_rfl) (.inl rfl))
      clear hA HS hK hX
      exact Rg.op_value (o := ⟨some 34, Op.pick (Operand.tmp 21) (Operand.tmp 33) (Operand.const (Value.bool false)), _, _, _, _⟩) (x := .bool true) rfl rfl (by simp only [execOp]; go_simp) ⟨_, rfl, (fun h => by cases h), rfl, hI, fun _ _ _ h => h⟩

def FW5c (g off n cap BX k : Nat) (s u : Nat) (B : Int) (r q : Ru) (i9 : Nat) (v : Value) (w : World) : Prop :=
  match i9 with
  | 0 => v = .agg #[.int .i64 r.a, .int .i64 r.b, .int .i64 r.g]
  | 1 => v = .int .u64 s
  | 2 => v = .int .u64 u
  | 3 => v = .bool true
  | 4 => v = .bool true
  | 5 => v = .int .i64 (k : Nat)
  | 6 => v = .bool false
  | 7 => v = .bool false
  | 8 => v = .pointer (some ⟨BX, 2, none⟩)
  | 9 => v = .int .i64 r.g
  | 10 => v = .slice (some ⟨g, off, none⟩) n cap
  | 11 => v = .int .i64 (k : Nat)
  | 12 => v = .pointer (some ⟨g, off + k * 3, none⟩)
  | 13 => v = .pointer (some ⟨g, off + k * 3 + 2, none⟩)
  | 14 => v = .int .i64 q.g
  | 15 => v = .bool (decide (q.g < r.g))
  | 16 => v = .bool (decide (q.g < r.g))
  | 17 => v = .bool (decide (q.g < r.g))
  | _ => True
theorem sizeW5c : (Rg.opsOf Try.f40 5).size = 18 := by kernel_rfl

set_option maxRecDepth 20000 in
set_option maxHeartbeats 8000000 in
theorem regW5c {Q : Exit → Act → World → Prop} {a : Act} {w9 : World} {g off n cap BX k : Nat} {s u : Nat} {B : Int} {r q : Ru} (ha : a.tmps.size = 38)
    (k0 : a.tmps[0]? = some (.slice (some ⟨g, off, none⟩) n cap)) (k1 : a.tmps[1]? = some (.int .u64 s)) (k2 : a.tmps[2]? = some (.int .u64 u)) (k7 : a.tmps[7]? = some (.int .i64 (k : Nat))) (k9 : a.tmps[9]? = some (.pointer (some ⟨BX, 0, none⟩))) (hX : PB w9 BX #[.int .i64 r.a, .int .i64 r.b, .int .i64 r.g] 41) (hK : ∀ W, Calls Try.prog 61 #[.agg #[.int .i64 r.a, .int .i64 r.b, .int .i64 r.g], .int .u64 s, .int .u64 u] W fun e W' => e = .returned (.bool true) ∧ Below W.heap.size W W') (hkn : k < n) (hgl : g < w9.heap.size) (hc : w9.cell? ⟨g, off + k * 3 + 2, none⟩ = some (.int .i64 q.g))
    (hend : ∀ b' w', Rg.Fr (Rg.opsOf Try.f40 5) a b' → Below w9.heap.size w9 w' → Rg.out (Rg.opsOf Try.f40 5) b' 17 = .bool (decide (q.g < r.g)) → Q .normal b' w') :
    (Code.region 5 (Rg.opsOf Try.f40 5) true).wp Try.prog Q a w9 := by
  refine Rg.region_dead (by kernel_rfl) (fun w' => Below w9.heap.size w9 w') (FW5c g off n cap BX k s u B r q) (fun _ => none) (by rw [ha, sizeW5c]; kernel_rfl) (st_drew (Below.refl _ _)) ?_ ?_
  case refine_2 =>
    intro b' w' hf hI hA
    rw [sizeW5c] at hA
    exact hend b' w' hf hI (hA 17 (by decide) rfl)
  case refine_1 =>
    clear hend
    have HS : ∀ {w w' : World}, Below w.heap.size w w' → ∀ k9 y9, FW5c g off n cap BX k s u B r q k9 y9 w → FW5c g off n cap BX k s u B r q k9 y9 w' := fun hb k9 y9 h => by
      unfold FW5c at *
      split at h <;> exact h
    intro i' hi'
    rw [sizeW5c] at hi'
    rcases (show i' = 0 ∨ i' = 1 ∨ i' = 2 ∨ i' = 3 ∨ i' = 4 ∨ i' = 5 ∨ i' = 6 ∨ i' = 7 ∨ i' = 8 ∨ i' = 9 ∨ i' = 10 ∨ i' = 11 ∨ i' = 12 ∨ i' = 13 ∨ i' = 14 ∨ i' = 15 ∨ i' = 16 ∨ i' = 17 by omega) with rfl | rfl | rfl | rfl | rfl | rfl | rfl | rfl | rfl | rfl | rfl | rfl | rfl | rfl | rfl | rfl | rfl | rfl
    · intro bb w' hf hI hA
      clear hi'
      have q9 := hf.kept (s := 9) (by rw [sizeW5c]; kernel_rfl) k9
      obtain ⟨e0, e1, e2⟩ := (hX.below hI).three
      clear hA HS hK hX
      exact Rg.op_value (o := ⟨some 17, Op.load 41 (Operand.tmp 9), _, _, _, _⟩) (x := .agg #[.int .i64 r.a, .int .i64 r.b, .int .i64 r.g]) rfl rfl (by simp only [execOp]; go_simp) ⟨_, rfl, (fun h => by cases h), rfl, hI, fun _ _ _ h => h⟩
    · intro bb w' hf hI hA
      clear hi'
      have q0 := hf.kept (s := 1) (by rw [sizeW5c]; kernel_rfl) k1
      exact Rg.op_value (o := ⟨some 18, Op.move (Operand.tmp 1), _, _, _, _⟩) rfl rfl rfl ⟨_, rfl, (fun h => by cases h), (by show Act.eval bb _ = _; simp [Act.eval, q0]), hI, fun _ _ _ h => h⟩
    · intro bb w' hf hI hA
      clear hi'
      have q0 := hf.kept (s := 2) (by rw [sizeW5c]; kernel_rfl) k2
      exact Rg.op_value (o := ⟨some 19, Op.move (Operand.tmp 2), _, _, _, _⟩) rfl rfl rfl ⟨_, rfl, (fun h => by cases h), (by show Act.eval bb _ = _; simp [Act.eval, q0]), hI, fun _ _ _ h => h⟩
    · intro bb w' hf hI hA
      clear hi'
      have q17 : bb.tmps[17]? = some _ := hf.tmp (k := 0) rfl (by rw [ha]; decide) (hA 0 (by kernel_rfl) (.inl rfl))
      have q18 : bb.tmps[18]? = some _ := hf.tmp (k := 1) rfl (by rw [ha]; decide) (hA 1 (by kernel_rfl) (.inl rfl))
      have q19 : bb.tmps[19]? = some _ := hf.tmp (k := 2) rfl (by rw [ha]; decide) (hA 2 (by kernel_rfl) (.inl rfl))
      refine Rg.op_call (o := ⟨some 20, Op.call { callee := Callee.value (Operand.func 61), args := #[(Operand.tmp 17), (Operand.tmp 18), (Operand.tmp 19)], argTypes := _ }, _, _, _, _⟩) rfl rfl (by clear hA HS hK hX; simp only [execOp, resolve]; go_simp) (hK w') ?_
      rintro e w2 ⟨rfl, hb2⟩
      exact ⟨_, rfl, _, rfl, (fun h => by cases h), rfl, onto hI hb2, fun k9 y9 _ h => HS hb2 k9 y9 h⟩
    · intro bb w' hf hI hA
      clear hi'
      have q20 : bb.tmps[20]? = some _ := hf.tmp (k := 3) rfl (by rw [ha]; decide) (hA 3 (by kernel_rfl) (.inl rfl))
      clear hA HS hK hX
      exact Rg.op_value (o := ⟨some 21, Op.move (Operand.tmp 20), _, _, _, _⟩) (x := .bool true) rfl rfl (by simp only [execOp]; go_simp) ⟨_, rfl, (fun h => by cases h), rfl, hI, fun _ _ _ h => h⟩
    · intro bb w' hf hI hA
      clear hi'
      have qg : bb.tmps[21]? = some _ := hf.tmp (k := 4) rfl (by rw [ha]; decide) (hA 4 (by kernel_rfl) (.inl rfl))
      have q0 := hf.kept (s := 7) (by rw [sizeW5c]; kernel_rfl) k7
      exact Rg.op_value (o := ⟨some 22, Op.move (Operand.tmp 7), _, _, _, _⟩) rfl (Rg.wanted_of (g := 4) rfl rfl qg) rfl ⟨_, rfl, (fun h => by cases h), (by show Act.eval bb _ = _; simp [Act.eval, q0]), hI, fun _ _ _ h => h⟩
    · intro bb w' hf hI hA
      clear hi'
      have qg : bb.tmps[21]? = some _ := hf.tmp (k := 4) rfl (by rw [ha]; decide) (hA 4 (by kernel_rfl) (.inl rfl))
      have q22 : bb.tmps[22]? = some _ := hf.tmp (k := 5) rfl (by rw [ha]; decide) (hA 5 (by kernel_rfl) (.inl rfl))
      clear hA HS hK hX
      exact Rg.op_value (o := ⟨some 23, Op.binOp BinOp.lss 3 (Operand.tmp 22) (Operand.const (Value.int .i64 0)) 3, _, _, _, _⟩) (x := .bool false) rfl (Rg.wanted_of (g := 4) rfl rfl qg) (by simp only [execOp]; go_simp) ⟨_, rfl, (fun h => by cases h), rfl, hI, fun _ _ _ h => h⟩
    · intro bb w' hf hI hA
      clear hi'
      have qg : bb.tmps[21]? = some _ := hf.tmp (k := 4) rfl (by rw [ha]; decide) (hA 4 (by kernel_rfl) (.inl rfl))
      have q23 : bb.tmps[23]? = some _ := hf.tmp (k := 6) rfl (by rw [ha]; decide) (hA 6 (by kernel_rfl) (.inl rfl))
      clear hA HS hK hX
      exact Rg.op_value (o := ⟨some 24, Op.move (Operand.tmp 23), _, _, _, _⟩) (x := .bool false) rfl (Rg.wanted_of (g := 4) rfl rfl qg) (by simp only [execOp]; go_simp) ⟨_, rfl, (fun h => by cases h), rfl, hI, fun _ _ _ h => h⟩
    · intro bb w' hf hI hA
      clear hi'
      have qg : bb.tmps[24]? = some _ := hf.tmp (k := 7) rfl (by rw [ha]; decide) (hA 7 (by kernel_rfl) (.inl rfl))
      have q9 := hf.kept (s := 9) (by rw [sizeW5c]; kernel_rfl) k9
      clear hA HS hK hX
      exact Rg.op_value (o := ⟨some 25, Op.fieldAddr 41 (Operand.tmp 9) 2, _, _, _, _⟩) (x := .pointer (some ⟨BX, 2, none⟩)) rfl (Rg.wanted_of (g := 7) rfl rfl qg) (by simp only [execOp]; go_simp) ⟨_, rfl, (fun h => by cases h), rfl, hI, fun _ _ _ h => h⟩
    · intro bb w' hf hI hA
      clear hi'
      have qg : bb.tmps[24]? = some _ := hf.tmp (k := 7) rfl (by rw [ha]; decide) (hA 7 (by kernel_rfl) (.inl rfl))
      have q25 : bb.tmps[25]? = some _ := hf.tmp (k := 8) rfl (by rw [ha]; decide) (hA 8 (by kernel_rfl) (.inl rfl))
      obtain ⟨e0, e1, e2⟩ := (hX.below hI).three
      clear hA HS hK hX
      exact Rg.op_value (o := ⟨some 26, Op.load 2 (Operand.tmp 25), _, _, _, _⟩) (x := .int .i64 r.g) rfl (Rg.wanted_of (g := 7) rfl rfl qg) (by simp only [execOp]; go_simp) ⟨_, rfl, (fun h => by cases h), rfl, hI, fun _ _ _ h => h⟩
    · intro bb w' hf hI hA
      clear hi'
      have qg : bb.tmps[24]? = some _ := hf.tmp (k := 7) rfl (by rw [ha]; decide) (hA 7 (by kernel_rfl) (.inl rfl))
      have q0 := hf.kept (s := 0) (by rw [sizeW5c]; kernel_rfl) k0
      exact Rg.op_value (o := ⟨some 27, Op.move (Operand.tmp 0), _, _, _, _⟩) rfl (Rg.wanted_of (g := 7) rfl rfl qg) rfl ⟨_, rfl, (fun h => by cases h), (by show Act.eval bb _ = _; simp [Act.eval, q0]), hI, fun _ _ _ h => h⟩
    · intro bb w' hf hI hA
      clear hi'
      have qg : bb.tmps[24]? = some _ := hf.tmp (k := 7) rfl (by rw [ha]; decide) (hA 7 (by kernel_rfl) (.inl rfl))
      have q0 := hf.kept (s := 7) (by rw [sizeW5c]; kernel_rfl) k7
      exact Rg.op_value (o := ⟨some 28, Op.move (Operand.tmp 7), _, _, _, _⟩) rfl (Rg.wanted_of (g := 7) rfl rfl qg) rfl ⟨_, rfl, (fun h => by cases h), (by show Act.eval bb _ = _; simp [Act.eval, q0]), hI, fun _ _ _ h => h⟩
    · intro bb w' hf hI hA
      clear hi'
      have qg : bb.tmps[24]? = some _ := hf.tmp (k := 7) rfl (by rw [ha]; decide) (hA 7 (by kernel_rfl) (.inl rfl))
      have q27 : bb.tmps[27]? = some _ := hf.tmp (k := 10) rfl (by rw [ha]; decide) (hA 10 (by kernel_rfl) (.inl rfl))
      have q28 : bb.tmps[28]? = some _ := hf.tmp (k := 11) rfl (by rw [ha]; decide) (hA 11 (by kernel_rfl) (.inl rfl))
      have hkn2 : (k : Int) < (n : Int) := by omega
      clear hA HS hK hX
      exact Rg.op_value (o := ⟨some 29, Op.indexAddr 32 (Operand.tmp 27) (Operand.tmp 28), _, _, _, _⟩) (x := .pointer (some ⟨g, off + k * 3, none⟩)) rfl (Rg.wanted_of (g := 7) rfl rfl qg) (by simp only [execOp]; go_simp) ⟨_, rfl, (fun h => by cases h), rfl, hI, fun _ _ _ h => h⟩
    · intro bb w' hf hI hA
      clear hi'
      have qg : bb.tmps[24]? = some _ := hf.tmp (k := 7) rfl (by rw [ha]; decide) (hA 7 (by kernel_rfl) (.inl rfl))
      have q29 : bb.tmps[29]? = some _ := hf.tmp (k := 12) rfl (by rw [ha]; decide) (hA 12 (by kernel_rfl) (.inl rfl))
      clear hA HS hK hX
      exact Rg.op_value (o := ⟨some 30, Op.fieldAddr 41 (Operand.tmp 29) 2, _, _, _, _⟩) (x := .pointer (some ⟨g, off + k * 3 + 2, none⟩)) rfl (Rg.wanted_of (g := 7) rfl rfl qg) (by simp only [execOp]; go_simp) ⟨_, rfl, (fun h => by cases h), rfl, hI, fun _ _ _ h => h⟩
    · intro bb w' hf hI hA
      clear hi'
      have qg : bb.tmps[24]? = some _ := hf.tmp (k := 7) rfl (by rw [ha]; decide) (hA 7 (by kernel_rfl) (.inl rfl))
      have q30 : bb.tmps[30]? = some _ := hf.tmp (k := 13) rfl (by rw [ha]; decide) (hA 13 (by kernel_rfl) (.inl rfl))
      have e9 := (hI.cell (p := ⟨g, off + k * 3 + 2, none⟩) hgl).trans hc
      clear hA HS hK hX
      exact Rg.op_value (o := ⟨some 31, Op.load 2 (Operand.tmp 30), _, _, _, _⟩) (x := .int .i64 q.g) rfl (Rg.wanted_of (g := 7) rfl rfl qg) (by simp only [execOp]; go_simp) ⟨_, rfl, (fun h => by cases h), rfl, hI, fun _ _ _ h => h⟩
    · intro bb w' hf hI hA
      clear hi'
      have qg : bb.tmps[24]? = some _ := hf.tmp (k := 7) rfl (by rw [ha]; decide) (hA 7 (by kernel_rfl) (.inl rfl))
      have q26 : bb.tmps[26]? = some _ := hf.tmp (k := 9) rfl (by rw [ha]; decide) (hA 9 (by kernel_rfl) (.inl rfl))
      have q31 : bb.tmps[31]? = some _ := hf.tmp (k := 14) rfl (by rw [ha]; decide) (hA 14 (by kernel_rfl) (.inl rfl))
      clear hA HS hK hX
      exact Rg.op_value (o := ⟨some 32, Op.binOp BinOp.gtr 2 (Operand.tmp 26) (Operand.tmp 31) 2, _, _, _, _⟩) (x := .bool (decide (q.g < r.g))) rfl (Rg.wanted_of (g := 7) rfl rfl qg) (by simp only [execOp]; go_simp) ⟨_, rfl, (fun h => by cases h), rfl, hI, fun _ _ _ h => h⟩
    · intro bb w' hf hI hA
      clear hi'
      have qg : bb.tmps[21]? = some _ := hf.tmp (k := 4) rfl (by rw [ha]; decide) (hA 4 (by kernel_rfl) (.inl rfl))
      have q24 : bb.tmps[24]? = some _ := hf.tmp (k := 7) rfl (by rw [ha]; decide) (hA 7 (by kernel_rfl) (.inl rfl))
      have q32 : bb.tmps[32]? = some _ := hf.tmp (k := 15) rfl (by rw [ha]; decide) (hA 15 (by kernel_rfl) (.inl rfl))
      clear hA HS hK hX
      exact Rg.op_value (o := ⟨some 33, Op.pick (Operand.tmp 24) (Operand.const (Value.bool true)) (Operand.tmp 32), _, _, _, _⟩) (x := .bool (decide (q.g < r.g))) rfl (Rg.wanted_of (g := 4) rfl rfl qg) (by simp only [execOp]; go_simp) ⟨_, rfl, (fun h => by cases h), rfl, hI, fun _ _ _ h => h⟩
    · intro bb w' hf hI hA
      clear hi'
      have q21 : bb.tmps[21]? = some _ := hf.tmp (k := 4) rfl (by rw [ha]; decide) (hA 4 (by kernel_rfl) (.inl rfl))
      have q33 : bb.tmps[33]? = some _ := hf.tmp (k := 16) rfl (by rw [ha]; decide) (hA 16 (by kernel_rfl) (.inl rfl))
      clear hA HS hK hX
      exact Rg.op_value (o := ⟨some 34, Op.pick (Operand.tmp 21) (Operand.tmp 33) (Operand.const (Value.bool false)), _, _, _, _⟩) (x := .bool (decide (q.g < r.g))) rfl rfl (by simp only [execOp]; go_simp) ⟨_, rfl, (fun h => by cases h), rfl, hI, fun _ _ _ h => h⟩

set_option maxRecDepth 20000 in
set_option maxHeartbeats 8000000 in
theorem iworst_any (ao : Option Addr) (n cap : Nat) (rs : List Ru) (s u : Nat) (l m : List Int) (w : World) (h : Rw 3 csRu w (.slice ao n cap) rs) (hn : rs.length ≤ 200) (hr : ∀ r ∈ rs, ruB r = true) (hs : Bts s l) (hu : Bts u m) :
    Calls Try.prog 40 #[.slice ao n cap, .int .u64 s, .int .u64 u] w fun e w' => e = .returned (.int .i64 (bestTo rs l m rs.length)) ∧ Below w.heap.size w w' := by
  obtain rfl := h.len
  have HH := hidden h
  have HFo := hidden (fun r hr W => iforb_any r s u l m hr hs hu W)
  have HR := hidden hr
  clear h hs hu hr
  go_enter Try.func40, Try.ntmps40
  go_wp2_with fail
  go_loopw [7, 8, 9, 12] (fun bv _ _ iv wr => ∃ i : Nat, i ≤ rs.length ∧ iv = .int .i64 i ∧ bv = .int .i64 (bestTo rs l m i) ∧ Below w.heap.size w wr) (fun _ _ _ iv _ => rs.length - (intOf iv).toNat)
  case atStart => exact ⟨0, Nat.zero_le _, rfl, rfl, Below.refl _ _⟩
  case round =>
    obtain ⟨i, hi, rfl, rfl, hb⟩ := hrel
    have hsz := hb.size
    have hbd := bestTo_bd rs l m i
    by_cases hlt : i < rs.length
    · have hlti : (i : Int) < (rs.length : Int) := by omega
      obtain ⟨r, hr⟩ := some_of rs i hlt
      obtain ⟨g, off, rfl, hg, hcs⟩ := (HH.out.below hb).at hr
      have c0 : wr.cell? ⟨g, off + i * 3, none⟩ = some (.int .i64 r.a) := hcs 0 (by omega)
      have c1 : wr.cell? ⟨g, off + i * 3 + 1, none⟩ = some (.int .i64 r.b) := hcs 1 (by omega)
      have c2 : wr.cell? ⟨g, off + i * 3 + 2, none⟩ = some (.int .i64 r.g) := hcs 2 (by omega)
      have hK := HFo.out r (HR.out r (List.mem_of_getElem? hr))
      unfold aRu at hK
      have bx : Below wr.heap.size wr (wr.alloc (.cells #[.int .i64 r.a, .int .i64 r.b, .int .i64 r.g] 41)) := (Below.refl _ _).alloc (Nat.le_refl _) _
      have HPX := hidden (PB.new wr #[.int .i64 r.a, .int .i64 r.b, .int .i64 r.g] 41)
      have HBX := hidden (onto hb bx)
      have HI := hidden hr
      have HB0 := hidden hb
      clear hr hcs bx hb
      have hgX : g < (wr.alloc (.cells #[.int .i64 r.a, .int .i64 r.b, .int .i64 r.g] 41)).heap.size := by simp; omega
      cases hp : rfit r l m with
      | false =>
        rw [hp] at hK
        have HF : Hid (bestTo rs l m (i + 1) = bestTo rs l m i) := best_no HI.out hp
        generalize bestTo rs l m i = B at *
        clear HB0
        go_upto_region 5 with fail
        generalize wr.alloc (.cells #[.int .i64 r.a, .int .i64 r.b, .int .i64 r.g] 41) = wX at *
        generalize wr.heap.size = BX at *
        refine regW5a (q := r) (k := 0) (r := r) rfl rfl rfl rfl rfl rfl HPX.out hK  ?_
        intro b' w3 hf hb3 hv
        rw [layW5a hf, hv]
        clear hv hf
        generalize Rg.out (Rg.opsOf Try.f40 5) b' 0 = y0
        generalize Rg.out (Rg.opsOf Try.f40 5) b' 1 = y1
        generalize Rg.out (Rg.opsOf Try.f40 5) b' 2 = y2
        generalize Rg.out (Rg.opsOf Try.f40 5) b' 3 = y3
        generalize Rg.out (Rg.opsOf Try.f40 5) b' 4 = y4
        generalize Rg.out (Rg.opsOf Try.f40 5) b' 5 = y5
        generalize Rg.out (Rg.opsOf Try.f40 5) b' 6 = y6
        generalize Rg.out (Rg.opsOf Try.f40 5) b' 7 = y7
        generalize Rg.out (Rg.opsOf Try.f40 5) b' 8 = y8
        generalize Rg.out (Rg.opsOf Try.f40 5) b' 9 = y9
        generalize Rg.out (Rg.opsOf Try.f40 5) b' 10 = y10
        generalize Rg.out (Rg.opsOf Try.f40 5) b' 11 = y11
        generalize Rg.out (Rg.opsOf Try.f40 5) b' 12 = y12
        generalize Rg.out (Rg.opsOf Try.f40 5) b' 13 = y13
        generalize Rg.out (Rg.opsOf Try.f40 5) b' 14 = y14
        generalize Rg.out (Rg.opsOf Try.f40 5) b' 15 = y15
        generalize Rg.out (Rg.opsOf Try.f40 5) b' 16 = y16
        have HB3 := hidden (HBX.out.trans (hb3.mono HBX.out.size))
        clear hb3 HPX HBX hK
        go_frame
        go_wp2_with fail
        go_roundw
        case rel => exact ⟨i + 1, by omega, rfl, by rw [HF.out], HB3.out⟩
        case measure => simp [intOf]; omega
      | true =>
        rw [hp] at hK
        by_cases h0 : bestTo rs l m i < 0
        · have HF : Hid (bestTo rs l m (i + 1) = (i : Int)) := best_new HI.out hp h0
          generalize bestTo rs l m i = B at *
          clear HB0
          go_upto_region 5 with fail
          generalize wr.alloc (.cells #[.int .i64 r.a, .int .i64 r.b, .int .i64 r.g] 41) = wX at *
          generalize wr.heap.size = BX at *
          refine regW5b (q := r) (k := 0) (r := r) rfl rfl rfl rfl rfl rfl HPX.out hK h0 ?_
          intro b' w3 hf hb3 hv
          rw [layW5a hf, hv]
          clear hv hf
          generalize Rg.out (Rg.opsOf Try.f40 5) b' 0 = y0
          generalize Rg.out (Rg.opsOf Try.f40 5) b' 1 = y1
          generalize Rg.out (Rg.opsOf Try.f40 5) b' 2 = y2
          generalize Rg.out (Rg.opsOf Try.f40 5) b' 3 = y3
          generalize Rg.out (Rg.opsOf Try.f40 5) b' 4 = y4
          generalize Rg.out (Rg.opsOf Try.f40 5) b' 5 = y5
          generalize Rg.out (Rg.opsOf Try.f40 5) b' 6 = y6
          generalize Rg.out (Rg.opsOf Try.f40 5) b' 7 = y7
          generalize Rg.out (Rg.opsOf Try.f40 5) b' 8 = y8
          generalize Rg.out (Rg.opsOf Try.f40 5) b' 9 = y9
          generalize Rg.out (Rg.opsOf Try.f40 5) b' 10 = y10
          generalize Rg.out (Rg.opsOf Try.f40 5) b' 11 = y11
          generalize Rg.out (Rg.opsOf Try.f40 5) b' 12 = y12
          generalize Rg.out (Rg.opsOf Try.f40 5) b' 13 = y13
          generalize Rg.out (Rg.opsOf Try.f40 5) b' 14 = y14
          generalize Rg.out (Rg.opsOf Try.f40 5) b' 15 = y15
          generalize Rg.out (Rg.opsOf Try.f40 5) b' 16 = y16
          have HB3 := hidden (HBX.out.trans (hb3.mono HBX.out.size))
          clear hb3 HPX HBX hK
          go_frame
          go_wp2_with fail
          go_roundw
          case rel => exact ⟨i + 1, by omega, rfl, by rw [HF.out], HB3.out⟩
          case measure => simp [intOf]; omega
        · obtain ⟨k, hk⟩ := Int.eq_ofNat_of_zero_le (show 0 ≤ bestTo rs l m i by omega)
          obtain ⟨q, hq⟩ := some_of rs k (by omega)
          obtain ⟨g3, off3, h3, -, hc3⟩ := (HH.out.below HB0.out).at hq
          obtain ⟨rfl, rfl⟩ : g = g3 ∧ off = off3 := by simpa using h3
          have hkl : k < rs.length := by omega
          have HC : Hid ((wr.alloc (.cells #[.int .i64 r.a, .int .i64 r.b, .int .i64 r.g] 41)).cell? ⟨g, off + k * 3 + 2, none⟩ = some (.int .i64 q.g)) := (((Below.refl wr.heap.size wr).alloc (Nat.le_refl _) _).cell (p := ⟨g, off + k * 3 + 2, none⟩) hg).trans (hc3 2 (by omega))
          have HQ := hidden hq
          have HK := hidden hk
          clear hc3 h3 HB0 hq
          by_cases hx : q.g < r.g
          · have HF : Hid (bestTo rs l m (i + 1) = (i : Int)) := best_up HI.out hp HK.out HQ.out hx
            rw [hk]
            have hdl : decide (q.g < r.g) = true := by simpa using hx
            clear hk HK HQ h0 hbd
            go_upto_region 5 with fail
            generalize wr.alloc (.cells #[.int .i64 r.a, .int .i64 r.b, .int .i64 r.g] 41) = wX at *
            generalize wr.heap.size = BX at *
            refine regW5c (q := q) (B := 0) (r := r) rfl rfl rfl rfl rfl rfl HPX.out hK hkl hgX HC.out ?_
            intro b' w3 hf hb3 hv
            rw [layW5a hf, hv, hdl]
            clear hv hf
            generalize Rg.out (Rg.opsOf Try.f40 5) b' 0 = y0
            generalize Rg.out (Rg.opsOf Try.f40 5) b' 1 = y1
            generalize Rg.out (Rg.opsOf Try.f40 5) b' 2 = y2
            generalize Rg.out (Rg.opsOf Try.f40 5) b' 3 = y3
            generalize Rg.out (Rg.opsOf Try.f40 5) b' 4 = y4
            generalize Rg.out (Rg.opsOf Try.f40 5) b' 5 = y5
            generalize Rg.out (Rg.opsOf Try.f40 5) b' 6 = y6
            generalize Rg.out (Rg.opsOf Try.f40 5) b' 7 = y7
            generalize Rg.out (Rg.opsOf Try.f40 5) b' 8 = y8
            generalize Rg.out (Rg.opsOf Try.f40 5) b' 9 = y9
            generalize Rg.out (Rg.opsOf Try.f40 5) b' 10 = y10
            generalize Rg.out (Rg.opsOf Try.f40 5) b' 11 = y11
            generalize Rg.out (Rg.opsOf Try.f40 5) b' 12 = y12
            generalize Rg.out (Rg.opsOf Try.f40 5) b' 13 = y13
            generalize Rg.out (Rg.opsOf Try.f40 5) b' 14 = y14
            generalize Rg.out (Rg.opsOf Try.f40 5) b' 15 = y15
            generalize Rg.out (Rg.opsOf Try.f40 5) b' 16 = y16
            have HB3 := hidden (HBX.out.trans (hb3.mono HBX.out.size))
            clear hb3 HPX HBX hK
            go_frame
            go_wp2_with fail
            go_roundw
            case rel => exact ⟨i + 1, by omega, rfl, by rw [HF.out], HB3.out⟩
            case measure => simp [intOf]; omega
          · have HF : Hid (bestTo rs l m (i + 1) = (k : Int)) := best_keep HI.out HK.out HQ.out hx
            rw [hk]
            have hdl : decide (q.g < r.g) = false := by simpa using hx
            clear hk HK HQ h0 hbd
            go_upto_region 5 with fail
            generalize wr.alloc (.cells #[.int .i64 r.a, .int .i64 r.b, .int .i64 r.g] 41) = wX at *
            generalize wr.heap.size = BX at *
            refine regW5c (q := q) (B := 0) (r := r) rfl rfl rfl rfl rfl rfl HPX.out hK hkl hgX HC.out ?_
            intro b' w3 hf hb3 hv
            rw [layW5a hf, hv, hdl]
            clear hv hf
            generalize Rg.out (Rg.opsOf Try.f40 5) b' 0 = y0
            generalize Rg.out (Rg.opsOf Try.f40 5) b' 1 = y1
            generalize Rg.out (Rg.opsOf Try.f40 5) b' 2 = y2
            generalize Rg.out (Rg.opsOf Try.f40 5) b' 3 = y3
            generalize Rg.out (Rg.opsOf Try.f40 5) b' 4 = y4
            generalize Rg.out (Rg.opsOf Try.f40 5) b' 5 = y5
            generalize Rg.out (Rg.opsOf Try.f40 5) b' 6 = y6
            generalize Rg.out (Rg.opsOf Try.f40 5) b' 7 = y7
            generalize Rg.out (Rg.opsOf Try.f40 5) b' 8 = y8
            generalize Rg.out (Rg.opsOf Try.f40 5) b' 9 = y9
            generalize Rg.out (Rg.opsOf Try.f40 5) b' 10 = y10
            generalize Rg.out (Rg.opsOf Try.f40 5) b' 11 = y11
            generalize Rg.out (Rg.opsOf Try.f40 5) b' 12 = y12
            generalize Rg.out (Rg.opsOf Try.f40 5) b' 13 = y13
            generalize Rg.out (Rg.opsOf Try.f40 5) b' 14 = y14
            generalize Rg.out (Rg.opsOf Try.f40 5) b' 15 = y15
            generalize Rg.out (Rg.opsOf Try.f40 5) b' 16 = y16
            have HB3 := hidden (HBX.out.trans (hb3.mono HBX.out.size))
            clear hb3 HPX HBX hK
            go_frame
            go_wp2_with fail
            go_roundw
            case rel => exact ⟨i + 1, by omega, rfl, by rw [HF.out], HB3.out⟩
            case measure => simp [intOf]; omega
    · have hlti : ¬ (i : Int) < (rs.length : Int) := by omega
      have hil : i = rs.length := by omega
      subst hil
      go_wp2_with fail
      go_ret
      exact ⟨rfl, hb⟩
end Go.Proofs.Ytcnhogghfedcdaa
