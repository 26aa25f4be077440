/-
  Warnings of the drugs turned round: the regions of the law.
-/
import Derived.Test.YtcnhogghfedcdaaNi
import Derived.Test.YtcnhogghfedcdaaNf
import Derived.Test.YtcnhogghfedcdaaGm
import Derived.Test.YtcnhogghfedcdaaRn
import Derived.Test.YtcnhogghfedcdaaRm
import Derived.Laws.StructEq
namespace Go.Proofs.Ytcnhogghfedcdaa
open Go.RowKit Va Ga
set_option linter.unusedVariables false

theorem eqWg (a b r c d s : Int) (w : World) : (Op.equalIn 10000 38 (.agg #[.int .i64 a, .int .i64 b, .int .i64 r]) (.agg #[.int .i64 c, .int .i64 d, .int .i64 s])).run Try.prog w = .ok (a == c && (b == d && r == s)) w := by
  have u2 := Try.underlying2
  have hS : Try.prog.underlying 38 = some (.struct (Try.prog.fieldsOf 38)) := by kernel_rfl
  have hp : Try.prog.stoodInHeld 38 = false := by kernel_rfl
  rw [show (10000 : Nat) = 9999 + 1 from rfl, run_equalIn_agg w 9999 38 _ _ hS hp]
  simp only [Program.fieldsOf, Try.underlying38]
  go_simp
  by_cases h1 : a = c <;> by_cases h2 : b = d <;> by_cases h3 : r = s <;> simp [h1, h2, h3]

def FZ24t (g off n cap k WB : Nat) (N : Int) (x y : Wg) (i9 : Nat) (v : Value) (w : World) : Prop :=
  match i9 with
  | 0 => v = .bool true
  | 1 => v = .bool true
  | 2 => v = undef
  | 3 => v = undef
  | 4 => v = undef
  | 5 => v = undef
  | 6 => v = undef
  | 7 => v = undef
  | 8 => v = undef
  | 9 => v = undef
  | 10 => v = undef
  | 11 => v = undef
  | 12 => v = undef
  | 13 => v = undef
  | 14 => v = undef
  | 15 => v = undef
  | 16 => v = undef
  | 17 => v = undef
  | 18 => v = undef
  | 19 => v = undef
  | 20 => v = .bool true
  | 21 => v = .bool true
  | _ => True
theorem sizeZ24t : (Rg.opsOf Try.f4 24).size = 22 := by kernel_rfl

set_option maxRecDepth 20000 in
set_option maxHeartbeats 8000000 in
theorem regZ24t {Q : Exit → Act → World → Prop} {a : Act} {w9 : World} {g off n cap k WB : Nat} {N : Int} {x y : Wg} (ha : a.tmps.size = 140)
    (k12 : a.tmps[12]? = some (.bool true)) (k9 : a.tmps[9]? = some (.slice (some ⟨g, off, none⟩) n cap)) (k13 : a.tmps[13]? = some (.int .i64 (k : Nat))) (k6 : a.tmps[6]? = some (.int .i64 N)) (k11 : a.tmps[11]? = some (.pointer (some ⟨WB, 0, none⟩))) (hX : PB w9 WB #[.int .i64 x.a, .int .i64 x.b, .int .i64 x.r] 38) (hkn : k < n) (hgl : g < w9.heap.size) (h0 : w9.cell? ⟨g, off + k * 3, none⟩ = some (.int .i64 y.a)) (h1 : w9.cell? ⟨g, off + k * 3 + 1, none⟩ = some (.int .i64 y.b)) (h2 : w9.cell? ⟨g, off + k * 3 + 2, none⟩ = some (.int .i64 y.r)) (hN : 0 ≤ N ∧ N ≤ 100) (hxa : 0 ≤ x.a ∧ x.a ≤ 100) (hxb : 0 ≤ x.b ∧ x.b ≤ 100)
    (hend : ∀ b' w', Rg.Fr (Rg.opsOf Try.f4 24) a b' → Below w9.heap.size w9 w' → Rg.out (Rg.opsOf Try.f4 24) b' 21 = .bool true → Q .normal b' w') :
    (Code.region 24 (Rg.opsOf Try.f4 24) true).wp Try.prog Q a w9 := by
  refine Rg.region_set3 (by kernel_rfl) (fun _ w' => Below w9.heap.size w9 w') (FZ24t g off n cap k WB N x y) (by rw [ha, sizeZ24t]; kernel_rfl) (st_drew (Below.refl _ _)) ?_ ?_
  case refine_2 =>
    intro l b' w' hf hall hI hA
    rw [sizeZ24t] at hA
    exact hend b' w' hf hI (hA 21 (by decide))
  case refine_1 =>
    clear hend
    have HS : ∀ {w w' : World}, Below w.heap.size w w' → ∀ k9 y9, FZ24t g off n cap k WB N x y k9 y9 w → FZ24t g off n cap k WB N x y k9 y9 w' := fun hb k9 y9 h => by
      unfold FZ24t at *
      split at h <;> exact h
    intro i' hi'
    rw [sizeZ24t] at hi'
    rcases (show i' = 0 ∨ i' = 1 ∨ i' = 2 ∨ i' = 3 ∨ i' = 4 ∨ i' = 5 ∨ i' = 6 ∨ i' = 7 ∨ i' = 8 ∨ i' = 9 ∨ i' = 10 ∨ i' = 11 ∨ i' = 12 ∨ i' = 13 ∨ i' = 14 ∨ i' = 15 ∨ i' = 16 ∨ i' = 17 ∨ i' = 18 ∨ i' = 19 ∨ i' = 20 ∨ i' = 21 by omega) with rfl | rfl | rfl | rfl | rfl | rfl | rfl | rfl | rfl | rfl | rfl | rfl | rfl | rfl | rfl | rfl | rfl | rfl | rfl | rfl | rfl | rfl
    · intro ll bb w' hs hlf hN hO hf hI hA
      clear hi'
      have q0 : bb.tmps[12]? = some _ := hf.tmp (k := 21) rfl (by rw [ha]; decide) ((hO 21 (hN 21 (by kernel_rfl))).trans (Rg.out_of (k := 21) rfl k12))
      exact Rg.op_value (o := ⟨some 72, Op.move (Operand.tmp 12), _, _, _, _⟩) rfl rfl rfl ⟨_, rfl, (fun h => by cases h), (by show Act.eval bb _ = _; simp [Act.eval, q0]), hI, fun _ _ _ _ h => h⟩
    · intro ll bb w' hs hlf hN hO hf hI hA
      clear hi'
      have q72 : bb.tmps[72]? = some _ := hf.tmp (k := 0) rfl (by rw [ha]; decide) (hA 0 (by kernel_rfl))
      clear hA HS hN hO hX
      exact Rg.op_value (o := ⟨some 73, Op.move (Operand.tmp 72), _, _, _, _⟩) (x := .bool true) rfl rfl (by simp only [execOp]; go_simp) ⟨_, rfl, (fun h => by cases h), rfl, hI, fun _ _ _ _ h => h⟩
    · intro ll bb w' hs hlf hN hO hf hI hA
      clear hi'
      have qg : bb.tmps[73]? = some _ := hf.tmp (k := 1) rfl (by rw [ha]; decide) (hA 1 (by kernel_rfl))
      exact Rg.op_none (o := ⟨some 74, _, _, _, _, _⟩) rfl (Rg.unwanted_of (g := 1) (want := false) rfl rfl qg) ⟨_, rfl, (fun h => by cases h), rfl, hI, fun _ _ _ _ h => h⟩
    · intro ll bb w' hs hlf hN hO hf hI hA
      clear hi'
      have qg : bb.tmps[73]? = some _ := hf.tmp (k := 1) rfl (by rw [ha]; decide) (hA 1 (by kernel_rfl))
      exact Rg.op_none (o := ⟨some 75, _, _, _, _, _⟩) rfl (Rg.unwanted_of (g := 1) (want := false) rfl rfl qg) ⟨_, rfl, (fun h => by cases h), rfl, hI, fun _ _ _ _ h => h⟩
    · intro ll bb w' hs hlf hN hO hf hI hA
      clear hi'
      have qg : bb.tmps[73]? = some _ := hf.tmp (k := 1) rfl (by rw [ha]; decide) (hA 1 (by kernel_rfl))
      exact Rg.op_none (o := ⟨some 76, _, _, _, _, _⟩) rfl (Rg.unwanted_of (g := 1) (want := false) rfl rfl qg) ⟨_, rfl, (fun h => by cases h), rfl, hI, fun _ _ _ _ h => h⟩
    · intro ll bb w' hs hlf hN hO hf hI hA
      clear hi'
      have qg : bb.tmps[73]? = some _ := hf.tmp (k := 1) rfl (by rw [ha]; decide) (hA 1 (by kernel_rfl))
      exact Rg.op_none (o := ⟨some 77, _, _, _, _, _⟩) rfl (Rg.unwanted_of (g := 1) (want := false) rfl rfl qg) ⟨_, rfl, (fun h => by cases h), rfl, hI, fun _ _ _ _ h => h⟩
    · intro ll bb w' hs hlf hN hO hf hI hA
      clear hi'
      have qg : bb.tmps[73]? = some _ := hf.tmp (k := 1) rfl (by rw [ha]; decide) (hA 1 (by kernel_rfl))
      exact Rg.op_none (o := ⟨some 78, _, _, _, _, _⟩) rfl (Rg.unwanted_of (g := 1) (want := false) rfl rfl qg) ⟨_, rfl, (fun h => by cases h), rfl, hI, fun _ _ _ _ h => h⟩
    · intro ll bb w' hs hlf hN hO hf hI hA
      clear hi'
      have qg : bb.tmps[73]? = some _ := hf.tmp (k := 1) rfl (by rw [ha]; decide) (hA 1 (by kernel_rfl))
      exact Rg.op_none (o := ⟨some 79, _, _, _, _, _⟩) rfl (Rg.unwanted_of (g := 1) (want := false) rfl rfl qg) ⟨_, rfl, (fun h => by cases h), rfl, hI, fun _ _ _ _ h => h⟩
    · intro ll bb w' hs hlf hN hO hf hI hA
      clear hi'
      have qg : bb.tmps[73]? = some _ := hf.tmp (k := 1) rfl (by rw [ha]; decide) (hA 1 (by kernel_rfl))
      exact Rg.op_none (o := ⟨some 80, _, _, _, _, _⟩) rfl (Rg.unwanted_of (g := 1) (want := false) rfl rfl qg) ⟨_, rfl, (fun h => by cases h), rfl, hI, fun _ _ _ _ h => h⟩
    · intro ll bb w' hs hlf hN hO hf hI hA
      clear hi'
      have qg : bb.tmps[73]? = some _ := hf.tmp (k := 1) rfl (by rw [ha]; decide) (hA 1 (by kernel_rfl))
      exact Rg.op_none (o := ⟨some 81, _, _, _, _, _⟩) rfl (Rg.unwanted_of (g := 1) (want := false) rfl rfl qg) ⟨_, rfl, (fun h => by cases h), rfl, hI, fun _ _ _ _ h => h⟩
    · intro ll bb w' hs hlf hN hO hf hI hA
      clear hi'
      have qg : bb.tmps[73]? = some _ := hf.tmp (k := 1) rfl (by rw [ha]; decide) (hA 1 (by kernel_rfl))
      exact Rg.op_none (o := ⟨some 82, _, _, _, _, _⟩) rfl (Rg.unwanted_of (g := 1) (want := false) rfl rfl qg) ⟨_, rfl, (fun h => by cases h), rfl, hI, fun _ _ _ _ h => h⟩
    · intro ll bb w' hs hlf hN hO hf hI hA
      clear hi'
      have qg : bb.tmps[73]? = some _ := hf.tmp (k := 1) rfl (by rw [ha]; decide) (hA 1 (by kernel_rfl))
      exact Rg.op_none (o := ⟨some 83, _, _, _, _, _⟩) rfl (Rg.unwanted_of (g := 1) (want := false) rfl rfl qg) ⟨_, rfl, (fun h => by cases h), rfl, hI, fun _ _ _ _ h => h⟩
    · intro ll bb w' hs hlf hN hO hf hI hA
      clear hi'
      have qg : bb.tmps[73]? = some _ := hf.tmp (k := 1) rfl (by rw [ha]; decide) (hA 1 (by kernel_rfl))
      exact Rg.op_none (o := ⟨some 84, _, _, _, _, _⟩) rfl (Rg.unwanted_of (g := 1) (want := false) rfl rfl qg) ⟨_, rfl, (fun h => by cases h), rfl, hI, fun _ _ _ _ h => h⟩
    · intro ll bb w' hs hlf hN hO hf hI hA
      clear hi'
      have qg : bb.tmps[73]? = some _ := hf.tmp (k := 1) rfl (by rw [ha]; decide) (hA 1 (by kernel_rfl))
      exact Rg.op_none (o := ⟨some 85, _, _, _, _, _⟩) rfl (Rg.unwanted_of (g := 1) (want := false) rfl rfl qg) ⟨_, rfl, (fun h => by cases h), rfl, hI, fun _ _ _ _ h => h⟩
    · intro ll bb w' hs hlf hN hO hf hI hA
      clear hi'
      have qg : bb.tmps[73]? = some _ := hf.tmp (k := 1) rfl (by rw [ha]; decide) (hA 1 (by kernel_rfl))
      exact Rg.op_none (o := ⟨some 86, _, _, _, _, _⟩) rfl (Rg.unwanted_of (g := 1) (want := false) rfl rfl qg) ⟨_, rfl, (fun h => by cases h), rfl, hI, fun _ _ _ _ h => h⟩
    · intro ll bb w' hs hlf hN hO hf hI hA
      clear hi'
      have qg : bb.tmps[73]? = some _ := hf.tmp (k := 1) rfl (by rw [ha]; decide) (hA 1 (by kernel_rfl))
      exact Rg.op_none (o := ⟨some 87, _, _, _, _, _⟩) rfl (Rg.unwanted_of (g := 1) (want := false) rfl rfl qg) ⟨_, rfl, (fun h => by cases h), rfl, hI, fun _ _ _ _ h => h⟩
    · intro ll bb w' hs hlf hN hO hf hI hA
      clear hi'
      have qg : bb.tmps[73]? = some _ := hf.tmp (k := 1) rfl (by rw [ha]; decide) (hA 1 (by kernel_rfl))
      exact Rg.op_none (o := ⟨some 88, _, _, _, _, _⟩) rfl (Rg.unwanted_of (g := 1) (want := false) rfl rfl qg) ⟨_, rfl, (fun h => by cases h), rfl, hI, fun _ _ _ _ h => h⟩
    · intro ll bb w' hs hlf hN hO hf hI hA
      clear hi'
      have qg : bb.tmps[73]? = some _ := hf.tmp (k := 1) rfl (by rw [ha]; decide) (hA 1 (by kernel_rfl))
      exact Rg.op_none (o := ⟨some 89, _, _, _, _, _⟩) rfl (Rg.unwanted_of (g := 1) (want := false) rfl rfl qg) ⟨_, rfl, (fun h => by cases h), rfl, hI, fun _ _ _ _ h => h⟩
    · intro ll bb w' hs hlf hN hO hf hI hA
      clear hi'
      have qg : bb.tmps[73]? = some _ := hf.tmp (k := 1) rfl (by rw [ha]; decide) (hA 1 (by kernel_rfl))
      exact Rg.op_none (o := ⟨some 90, _, _, _, _, _⟩) rfl (Rg.unwanted_of (g := 1) (want := false) rfl rfl qg) ⟨_, rfl, (fun h => by cases h), rfl, hI, fun _ _ _ _ h => h⟩
    · intro ll bb w' hs hlf hN hO hf hI hA
      clear hi'
      have qg : bb.tmps[73]? = some _ := hf.tmp (k := 1) rfl (by rw [ha]; decide) (hA 1 (by kernel_rfl))
      exact Rg.op_none (o := ⟨some 91, _, _, _, _, _⟩) rfl (Rg.unwanted_of (g := 1) (want := false) rfl rfl qg) ⟨_, rfl, (fun h => by cases h), rfl, hI, fun _ _ _ _ h => h⟩
    · intro ll bb w' hs hlf hN hO hf hI hA
      clear hi'
      have q73 : bb.tmps[73]? = some _ := hf.tmp (k := 1) rfl (by rw [ha]; decide) (hA 1 (by kernel_rfl))
      clear hA HS hN hO hX
      exact Rg.op_value (o := ⟨some 92, Op.pick (Operand.tmp 73) (Operand.const (Value.bool true)) (Operand.tmp 91), _, _, _, _⟩) (x := .bool true) rfl rfl (by simp only [execOp]; go_simp) ⟨_, rfl, (fun h => by cases h), rfl, hI, fun _ _ _ _ h => h⟩
    · intro ll bb w' hs hlf hN hO hf hI hA
      clear hi'
      have q92 : bb.tmps[92]? = some _ := hf.tmp (k := 20) rfl (by rw [ha]; decide) (hA 20 (by kernel_rfl))
      clear hA HS hN hO hX
      exact Rg.op_value (o := ⟨some 12, Op.assign (Operand.tmp 92), _, _, _, _⟩) (x := .bool true) rfl rfl (by simp only [execOp]; go_simp) ⟨_, rfl, (fun h => by cases h), rfl, hI, fun _ _ _ _ h => h⟩

theorem dZ24t_0 : Rg.dstAt (Rg.opsOf Try.f4 24) 0 = some 72 := by kernel_rfl
theorem dZ24t_1 : Rg.dstAt (Rg.opsOf Try.f4 24) 1 = some 73 := by kernel_rfl
theorem dZ24t_2 : Rg.dstAt (Rg.opsOf Try.f4 24) 2 = some 74 := by kernel_rfl
theorem dZ24t_3 : Rg.dstAt (Rg.opsOf Try.f4 24) 3 = some 75 := by kernel_rfl
theorem dZ24t_4 : Rg.dstAt (Rg.opsOf Try.f4 24) 4 = some 76 := by kernel_rfl
theorem dZ24t_5 : Rg.dstAt (Rg.opsOf Try.f4 24) 5 = some 77 := by kernel_rfl
theorem dZ24t_6 : Rg.dstAt (Rg.opsOf Try.f4 24) 6 = some 78 := by kernel_rfl
theorem dZ24t_7 : Rg.dstAt (Rg.opsOf Try.f4 24) 7 = some 79 := by kernel_rfl
theorem dZ24t_8 : Rg.dstAt (Rg.opsOf Try.f4 24) 8 = some 80 := by kernel_rfl
theorem dZ24t_9 : Rg.dstAt (Rg.opsOf Try.f4 24) 9 = some 81 := by kernel_rfl
theorem dZ24t_10 : Rg.dstAt (Rg.opsOf Try.f4 24) 10 = some 82 := by kernel_rfl
theorem dZ24t_11 : Rg.dstAt (Rg.opsOf Try.f4 24) 11 = some 83 := by kernel_rfl
theorem dZ24t_12 : Rg.dstAt (Rg.opsOf Try.f4 24) 12 = some 84 := by kernel_rfl
theorem dZ24t_13 : Rg.dstAt (Rg.opsOf Try.f4 24) 13 = some 85 := by kernel_rfl
theorem dZ24t_14 : Rg.dstAt (Rg.opsOf Try.f4 24) 14 = some 86 := by kernel_rfl
theorem dZ24t_15 : Rg.dstAt (Rg.opsOf Try.f4 24) 15 = some 87 := by kernel_rfl
theorem dZ24t_16 : Rg.dstAt (Rg.opsOf Try.f4 24) 16 = some 88 := by kernel_rfl
theorem dZ24t_17 : Rg.dstAt (Rg.opsOf Try.f4 24) 17 = some 89 := by kernel_rfl
theorem dZ24t_18 : Rg.dstAt (Rg.opsOf Try.f4 24) 18 = some 90 := by kernel_rfl
theorem dZ24t_19 : Rg.dstAt (Rg.opsOf Try.f4 24) 19 = some 91 := by kernel_rfl
theorem dZ24t_20 : Rg.dstAt (Rg.opsOf Try.f4 24) 20 = some 92 := by kernel_rfl
theorem dZ24t_21 : Rg.dstAt (Rg.opsOf Try.f4 24) 21 = some 12 := by kernel_rfl
theorem layZ24t {a b : Act} (hf : Rg.Fr (Rg.opsOf Try.f4 24) a b) : b = ((((((((((((((((((((((a.put (some 72) (Rg.out (Rg.opsOf Try.f4 24) b 0)).put (some 73) (Rg.out (Rg.opsOf Try.f4 24) b 1)).put (some 74) (Rg.out (Rg.opsOf Try.f4 24) b 2)).put (some 75) (Rg.out (Rg.opsOf Try.f4 24) b 3)).put (some 76) (Rg.out (Rg.opsOf Try.f4 24) b 4)).put (some 77) (Rg.out (Rg.opsOf Try.f4 24) b 5)).put (some 78) (Rg.out (Rg.opsOf Try.f4 24) b 6)).put (some 79) (Rg.out (Rg.opsOf Try.f4 24) b 7)).put (some 80) (Rg.out (Rg.opsOf Try.f4 24) b 8)).put (some 81) (Rg.out (Rg.opsOf Try.f4 24) b 9)).put (some 82) (Rg.out (Rg.opsOf Try.f4 24) b 10)).put (some 83) (Rg.out (Rg.opsOf Try.f4 24) b 11)).put (some 84) (Rg.out (Rg.opsOf Try.f4 24) b 12)).put (some 85) (Rg.out (Rg.opsOf Try.f4 24) b 13)).put (some 86) (Rg.out (Rg.opsOf Try.f4 24) b 14)).put (some 87) (Rg.out (Rg.opsOf Try.f4 24) b 15)).put (some 88) (Rg.out (Rg.opsOf Try.f4 24) b 16)).put (some 89) (Rg.out (Rg.opsOf Try.f4 24) b 17)).put (some 90) (Rg.out (Rg.opsOf Try.f4 24) b 18)).put (some 91) (Rg.out (Rg.opsOf Try.f4 24) b 19)).put (some 92) (Rg.out (Rg.opsOf Try.f4 24) b 20)).put (some 12) (Rg.out (Rg.opsOf Try.f4 24) b 21)) := by
  have h := hf.chain
  rw [sizeZ24t, show List.range 22 = [0, 1, 2, 3, 4, 5, 6, 7, 8, 9, 10, 11, 12, 13, 14, 15, 16, 17, 18, 19, 20, 21] from by decide] at h
  simp only [List.foldl_cons, List.foldl_nil, dZ24t_0, dZ24t_1, dZ24t_2, dZ24t_3, dZ24t_4, dZ24t_5, dZ24t_6, dZ24t_7, dZ24t_8, dZ24t_9, dZ24t_10, dZ24t_11, dZ24t_12, dZ24t_13, dZ24t_14, dZ24t_15, dZ24t_16, dZ24t_17, dZ24t_18, dZ24t_19, dZ24t_20, dZ24t_21] at h
  exact h

def FZ24f (g off n cap k WB : Nat) (N : Int) (x y : Wg) (i9 : Nat) (v : Value) (w : World) : Prop :=
  match i9 with
  | 0 => v = .bool false
  | 1 => v = .bool false
  | 2 => v = .slice (some ⟨g, off, none⟩) n cap
  | 3 => v = .int .i64 (k : Nat)
  | 4 => v = .pointer (some ⟨g, off + k * 3, none⟩)
  | 5 => v = .agg #[.int .i64 y.a, .int .i64 y.b, .int .i64 y.r]
  | 6 => v = .int .i64 N
  | 7 => v = .int .i64 (N - 1)
  | 8 => v = .pointer (some ⟨WB, 1, none⟩)
  | 9 => v = .int .i64 x.b
  | 10 => v = .int .i64 (N - 1 - x.b)
  | 11 => v = .int .i64 N
  | 12 => v = .int .i64 (N - 1)
  | 13 => v = .pointer (some ⟨WB, 0, none⟩)
  | 14 => v = .int .i64 x.a
  | 15 => v = .int .i64 (N - 1 - x.a)
  | 16 => v = .pointer (some ⟨WB, 2, none⟩)
  | 17 => v = .int .i64 x.r
  | 18 => v = .agg #[.int .i64 (N - 1 - x.b), .int .i64 (N - 1 - x.a), .int .i64 x.r]
  | 19 => v = .bool (y.a == N - 1 - x.b && (y.b == N - 1 - x.a && y.r == x.r))
  | 20 => v = .bool (y.a == N - 1 - x.b && (y.b == N - 1 - x.a && y.r == x.r))
  | 21 => v = .bool (y.a == N - 1 - x.b && (y.b == N - 1 - x.a && y.r == x.r))
  | _ => True
theorem sizeZ24f : (Rg.opsOf Try.f4 24).size = 22 := by kernel_rfl

set_option maxRecDepth 20000 in
set_option maxHeartbeats 8000000 in
theorem regZ24f {Q : Exit → Act → World → Prop} {a : Act} {w9 : World} {g off n cap k WB : Nat} {N : Int} {x y : Wg} (ha : a.tmps.size = 140)
    (k12 : a.tmps[12]? = some (.bool false)) (k9 : a.tmps[9]? = some (.slice (some ⟨g, off, none⟩) n cap)) (k13 : a.tmps[13]? = some (.int .i64 (k : Nat))) (k6 : a.tmps[6]? = some (.int .i64 N)) (k11 : a.tmps[11]? = some (.pointer (some ⟨WB, 0, none⟩))) (hX : PB w9 WB #[.int .i64 x.a, .int .i64 x.b, .int .i64 x.r] 38) (hkn : k < n) (hgl : g < w9.heap.size) (h0 : w9.cell? ⟨g, off + k * 3, none⟩ = some (.int .i64 y.a)) (h1 : w9.cell? ⟨g, off + k * 3 + 1, none⟩ = some (.int .i64 y.b)) (h2 : w9.cell? ⟨g, off + k * 3 + 2, none⟩ = some (.int .i64 y.r)) (hN : 0 ≤ N ∧ N ≤ 100) (hxa : 0 ≤ x.a ∧ x.a ≤ 100) (hxb : 0 ≤ x.b ∧ x.b ≤ 100)
    (hend : ∀ b' w', Rg.Fr (Rg.opsOf Try.f4 24) a b' → Below w9.heap.size w9 w' → Rg.out (Rg.opsOf Try.f4 24) b' 21 = .bool (y.a == N - 1 - x.b && (y.b == N - 1 - x.a && y.r == x.r)) → Q .normal b' w') :
    (Code.region 24 (Rg.opsOf Try.f4 24) true).wp Try.prog Q a w9 := by
  refine Rg.region_set3 (by kernel_rfl) (fun _ w' => Below w9.heap.size w9 w') (FZ24f g off n cap k WB N x y) (by rw [ha, sizeZ24f]; kernel_rfl) (st_drew (Below.refl _ _)) ?_ ?_
  case refine_2 =>
    intro l b' w' hf hall hI hA
    rw [sizeZ24f] at hA
    exact hend b' w' hf hI (hA 21 (by decide))
  case refine_1 =>
    clear hend
    have HS : ∀ {w w' : World}, Below w.heap.size w w' → ∀ k9 y9, FZ24f g off n cap k WB N x y k9 y9 w → FZ24f g off n cap k WB N x y k9 y9 w' := fun hb k9 y9 h => by
      unfold FZ24f at *
      split at h <;> exact h
    intro i' hi'
    rw [sizeZ24f] at hi'
    rcases (show i' = 0 ∨ i' = 1 ∨ i' = 2 ∨ i' = 3 ∨ i' = 4 ∨ i' = 5 ∨ i' = 6 ∨ i' = 7 ∨ i' = 8 ∨ i' = 9 ∨ i' = 10 ∨ i' = 11 ∨ i' = 12 ∨ i' = 13 ∨ i' = 14 ∨ i' = 15 ∨ i' = 16 ∨ i' = 17 ∨ i' = 18 ∨ i' = 19 ∨ i' = 20 ∨ i' = 21 by omega) with rfl | rfl | rfl | rfl | rfl | rfl | rfl | rfl | rfl | rfl | rfl | rfl | rfl | rfl | rfl | rfl | rfl | rfl | rfl | rfl | rfl | rfl
    · intro ll bb w' hs hlf hN hO hf hI hA
      clear hi'
      have q0 : bb.tmps[12]? = some _ := hf.tmp (k := 21) rfl (by rw [ha]; decide) ((hO 21 (hN 21 (by kernel_rfl))).trans (Rg.out_of (k := 21) rfl k12))
      exact Rg.op_value (o := ⟨some 72, Op.move (Operand.tmp 12), _, _, _, _⟩) rfl rfl rfl ⟨_, rfl, (fun h => by cases h), (by show Act.eval bb _ = _; simp [Act.eval, q0]), hI, fun _ _ _ _ h => h⟩
    · intro ll bb w' hs hlf hN hO hf hI hA
      clear hi'
      have q72 : bb.tmps[72]? = some _ := hf.tmp (k := 0) rfl (by rw [ha]; decide) (hA 0 (by kernel_rfl))
      clear hA HS hN hO hX
      exact Rg.op_value (o := ⟨some 73, Op.move (Operand.tmp 72), _, _, _, _⟩) (x := .bool false) rfl rfl (by simp only [execOp]; go_simp) ⟨_, rfl, (fun h => by cases h), rfl, hI, fun _ _ _ _ h => h⟩
    · intro ll bb w' hs hlf hN hO hf hI hA
      clear hi'
      have qg : bb.tmps[73]? = some _ := hf.tmp (k := 1) rfl (by rw [ha]; decide) (hA 1 (by kernel_rfl))
      have q0 := hf.kept (s := 9) (by rw [sizeZ24f]; kernel_rfl) k9
      exact Rg.op_value (o := ⟨some 74, Op.move (Operand.tmp 9), _, _, _, _⟩) rfl (Rg.wanted_of (g := 1) rfl rfl qg) rfl ⟨_, rfl, (fun h => by cases h), (by show Act.eval bb _ = _; simp [Act.eval, q0]), hI, fun _ _ _ _ h => h⟩
    · intro ll bb w' hs hlf hN hO hf hI hA
      clear hi'
      have qg : bb.tmps[73]? = some _ := hf.tmp (k := 1) rfl (by rw [ha]; decide) (hA 1 (by kernel_rfl))
      have q0 := hf.kept (s := 13) (by rw [sizeZ24f]; kernel_rfl) k13
      exact Rg.op_value (o := ⟨some 75, Op.move (Operand.tmp 13), _, _, _, _⟩) rfl (Rg.wanted_of (g := 1) rfl rfl qg) rfl ⟨_, rfl, (fun h => by cases h), (by show Act.eval bb _ = _; simp [Act.eval, q0]), hI, fun _ _ _ _ h => h⟩
    · intro ll bb w' hs hlf hN hO hf hI hA
      clear hi'
      have qg : bb.tmps[73]? = some _ := hf.tmp (k := 1) rfl (by rw [ha]; decide) (hA 1 (by kernel_rfl))
      have q74 : bb.tmps[74]? = some _ := hf.tmp (k := 2) rfl (by rw [ha]; decide) (hA 2 (by kernel_rfl))
      have q75 : bb.tmps[75]? = some _ := hf.tmp (k := 3) rfl (by rw [ha]; decide) (hA 3 (by kernel_rfl))
      have hkn2 : (k : Int) < (n : Int) := by omega
      clear hA HS hN hO hX
      exact Rg.op_value (o := ⟨some 76, Op.indexAddr 35 (Operand.tmp 74) (Operand.tmp 75), _, _, _, _⟩) (x := .pointer (some ⟨g, off + k * 3, none⟩)) rfl (Rg.wanted_of (g := 1) rfl rfl qg) (by simp only [execOp]; go_simp) ⟨_, rfl, (fun h => by cases h), rfl, hI, fun _ _ _ _ h => h⟩
    · intro ll bb w' hs hlf hN hO hf hI hA
      clear hi'
      have qg : bb.tmps[73]? = some _ := hf.tmp (k := 1) rfl (by rw [ha]; decide) (hA 1 (by kernel_rfl))
      have q76 : bb.tmps[76]? = some _ := hf.tmp (k := 4) rfl (by rw [ha]; decide) (hA 4 (by kernel_rfl))
      have e0 := (hI.cell (p := ⟨g, off + k * 3, none⟩) hgl).trans h0
      have e1 := (hI.cell (p := ⟨g, off + k * 3 + 1, none⟩) hgl).trans h1
      have e2 := (hI.cell (p := ⟨g, off + k * 3 + 2, none⟩) hgl).trans h2
      clear hA HS hN hO hX
      exact Rg.op_value (o := ⟨some 77, Op.load 38 (Operand.tmp 76), _, _, _, _⟩) (x := .agg #[.int .i64 y.a, .int .i64 y.b, .int .i64 y.r]) rfl (Rg.wanted_of (g := 1) rfl rfl qg) (by simp only [execOp]; go_simp) ⟨_, rfl, (fun h => by cases h), rfl, hI, fun _ _ _ _ h => h⟩
    · intro ll bb w' hs hlf hN hO hf hI hA
      clear hi'
      have qg : bb.tmps[73]? = some _ := hf.tmp (k := 1) rfl (by rw [ha]; decide) (hA 1 (by kernel_rfl))
      have q0 := hf.kept (s := 6) (by rw [sizeZ24f]; kernel_rfl) k6
      exact Rg.op_value (o := ⟨some 78, Op.move (Operand.tmp 6), _, _, _, _⟩) rfl (Rg.wanted_of (g := 1) rfl rfl qg) rfl ⟨_, rfl, (fun h => by cases h), (by show Act.eval bb _ = _; simp [Act.eval, q0]), hI, fun _ _ _ _ h => h⟩
    · intro ll bb w' hs hlf hN hO hf hI hA
      clear hi'
      have qg : bb.tmps[73]? = some _ := hf.tmp (k := 1) rfl (by rw [ha]; decide) (hA 1 (by kernel_rfl))
      have q78 : bb.tmps[78]? = some _ := hf.tmp (k := 6) rfl (by rw [ha]; decide) (hA 6 (by kernel_rfl))
      have hwr : IntKind.i64.wrap (N - 1) = N - 1 := by rw [IntKind.wrap_i64]; omega
      clear hA HS hN hO hX
      exact Rg.op_value (o := ⟨some 79, Op.binOp BinOp.sub 2 (Operand.tmp 78) (Operand.const (Value.int .i64 1)) 2, _, _, _, _⟩) (x := .int .i64 (N - 1)) rfl (Rg.wanted_of (g := 1) rfl rfl qg) (by simp only [execOp]; go_simp) ⟨_, rfl, (fun h => by cases h), rfl, hI, fun _ _ _ _ h => h⟩
    · intro ll bb w' hs hlf hN hO hf hI hA
      clear hi'
      have qg : bb.tmps[73]? = some _ := hf.tmp (k := 1) rfl (by rw [ha]; decide) (hA 1 (by kernel_rfl))
      have q11 := hf.kept (s := 11) (by rw [sizeZ24f]; kernel_rfl) k11
      clear hA HS hN hO hX
      exact Rg.op_value (o := ⟨some 80, Op.fieldAddr 38 (Operand.tmp 11) 1, _, _, _, _⟩) (x := .pointer (some ⟨WB, 1, none⟩)) rfl (Rg.wanted_of (g := 1) rfl rfl qg) (by simp only [execOp]; go_simp) ⟨_, rfl, (fun h => by cases h), rfl, hI, fun _ _ _ _ h => h⟩
    · intro ll bb w' hs hlf hN hO hf hI hA
      clear hi'
      have qg : bb.tmps[73]? = some _ := hf.tmp (k := 1) rfl (by rw [ha]; decide) (hA 1 (by kernel_rfl))
      have q80 : bb.tmps[80]? = some _ := hf.tmp (k := 8) rfl (by rw [ha]; decide) (hA 8 (by kernel_rfl))
      obtain ⟨e0, e1, e2⟩ := (hX.below hI).three
      clear hA HS hN hO hX
      exact Rg.op_value (o := ⟨some 81, Op.load 2 (Operand.tmp 80), _, _, _, _⟩) (x := .int .i64 x.b) rfl (Rg.wanted_of (g := 1) rfl rfl qg) (by simp only [execOp]; go_simp) ⟨_, rfl, (fun h => by cases h), rfl, hI, fun _ _ _ _ h => h⟩
    · intro ll bb w' hs hlf hN hO hf hI hA
      clear hi'
      have qg : bb.tmps[73]? = some _ := hf.tmp (k := 1) rfl (by rw [ha]; decide) (hA 1 (by kernel_rfl))
      have q79 : bb.tmps[79]? = some _ := hf.tmp (k := 7) rfl (by rw [ha]; decide) (hA 7 (by kernel_rfl))
      have q81 : bb.tmps[81]? = some _ := hf.tmp (k := 9) rfl (by rw [ha]; decide) (hA 9 (by kernel_rfl))
      have hwr : IntKind.i64.wrap (N - 1 - x.b) = N - 1 - x.b := by rw [IntKind.wrap_i64]; omega
      clear hA HS hN hO hX
      exact Rg.op_value (o := ⟨some 82, Op.binOp BinOp.sub 2 (Operand.tmp 79) (Operand.tmp 81) 2, _, _, _, _⟩) (x := .int .i64 (N - 1 - x.b)) rfl (Rg.wanted_of (g := 1) rfl rfl qg) (by simp only [execOp]; go_simp) ⟨_, rfl, (fun h => by cases h), rfl, hI, fun _ _ _ _ h => h⟩
    · intro ll bb w' hs hlf hN hO hf hI hA
      clear hi'
      have qg : bb.tmps[73]? = some _ := hf.tmp (k := 1) rfl (by rw [ha]; decide) (hA 1 (by kernel_rfl))
      have q0 := hf.kept (s := 6) (by rw [sizeZ24f]; kernel_rfl) k6
      exact Rg.op_value (o := ⟨some 83, Op.move (Operand.tmp 6), _, _, _, _⟩) rfl (Rg.wanted_of (g := 1) rfl rfl qg) rfl ⟨_, rfl, (fun h => by cases h), (by show Act.eval bb _ = _; simp [Act.eval, q0]), hI, fun _ _ _ _ h => h⟩
    · intro ll bb w' hs hlf hN hO hf hI hA
      clear hi'
      have qg : bb.tmps[73]? = some _ := hf.tmp (k := 1) rfl (by rw [ha]; decide) (hA 1 (by kernel_rfl))
      have q83 : bb.tmps[83]? = some _ := hf.tmp (k := 11) rfl (by rw [ha]; decide) (hA 11 (by kernel_rfl))
      have hwr : IntKind.i64.wrap (N - 1) = N - 1 := by rw [IntKind.wrap_i64]; omega
      clear hA HS hN hO hX
      exact Rg.op_value (o := ⟨some 84, Op.binOp BinOp.sub 2 (Operand.tmp 83) (Operand.const (Value.int .i64 1)) 2, _, _, _, _⟩) (x := .int .i64 (N - 1)) rfl (Rg.wanted_of (g := 1) rfl rfl qg) (by simp only [execOp]; go_simp) ⟨_, rfl, (fun h => by cases h), rfl, hI, fun _ _ _ _ h => h⟩
    · intro ll bb w' hs hlf hN hO hf hI hA
      clear hi'
      have qg : bb.tmps[73]? = some _ := hf.tmp (k := 1) rfl (by rw [ha]; decide) (hA 1 (by kernel_rfl))
      have q11 := hf.kept (s := 11) (by rw [sizeZ24f]; kernel_rfl) k11
      clear hA HS hN hO hX
      exact Rg.op_value (o := ⟨some 85, Op.fieldAddr 38 (Operand.tmp 11) 0, _, _, _, _⟩) (x := .pointer (some ⟨WB, 0, none⟩)) rfl (Rg.wanted_of (g := 1) rfl rfl qg) (by simp only [execOp]; go_simp) ⟨_, rfl, (fun h => by cases h), rfl, hI, fun _ _ _ _ h => h⟩
    · intro ll bb w' hs hlf hN hO hf hI hA
      clear hi'
      have qg : bb.tmps[73]? = some _ := hf.tmp (k := 1) rfl (by rw [ha]; decide) (hA 1 (by kernel_rfl))
      have q85 : bb.tmps[85]? = some _ := hf.tmp (k := 13) rfl (by rw [ha]; decide) (hA 13 (by kernel_rfl))
      obtain ⟨e0, e1, e2⟩ := (hX.below hI).three
      clear hA HS hN hO hX
      exact Rg.op_value (o := ⟨some 86, Op.load 2 (Operand.tmp 85), _, _, _, _⟩) (x := .int .i64 x.a) rfl (Rg.wanted_of (g := 1) rfl rfl qg) (by simp only [execOp]; go_simp) ⟨_, rfl, (fun h => by cases h), rfl, hI, fun _ _ _ _ h => h⟩
    · intro ll bb w' hs hlf hN hO hf hI hA
      clear hi'
      have qg : bb.tmps[73]? = some _ := hf.tmp (k := 1) rfl (by rw [ha]; decide) (hA 1 (by kernel_rfl))
      have q84 : bb.tmps[84]? = some _ := hf.tmp (k := 12) rfl (by rw [ha]; decide) (hA 12 (by kernel_rfl))
      have q86 : bb.tmps[86]? = some _ := hf.tmp (k := 14) rfl (by rw [ha]; decide) (hA 14 (by kernel_rfl))
      have hwr : IntKind.i64.wrap (N - 1 - x.a) = N - 1 - x.a := by rw [IntKind.wrap_i64]; omega
      clear hA HS hN hO hX
      exact Rg.op_value (o := ⟨some 87, Op.binOp BinOp.sub 2 (Operand.tmp 84) (Operand.tmp 86) 2, _, _, _, _⟩) (x := .int .i64 (N - 1 - x.a)) rfl (Rg.wanted_of (g := 1) rfl rfl qg) (by simp only [execOp]; go_simp) ⟨_, rfl, (fun h => by cases h), rfl, hI, fun _ _ _ _ h => h⟩
    · intro ll bb w' hs hlf hN hO hf hI hA
      clear hi'
      have qg : bb.tmps[73]? = some _ := hf.tmp (k := 1) rfl (by rw [ha]; decide) (hA 1 (by kernel_rfl))
      have q11 := hf.kept (s := 11) (by rw [sizeZ24f]; kernel_rfl) k11
      clear hA HS hN hO hX
      exact Rg.op_value (o := ⟨some 88, Op.fieldAddr 38 (Operand.tmp 11) 2, _, _, _, _⟩) (x := .pointer (some ⟨WB, 2, none⟩)) rfl (Rg.wanted_of (g := 1) rfl rfl qg) (by simp only [execOp]; go_simp) ⟨_, rfl, (fun h => by cases h), rfl, hI, fun _ _ _ _ h => h⟩
    · intro ll bb w' hs hlf hN hO hf hI hA
      clear hi'
      have qg : bb.tmps[73]? = some _ := hf.tmp (k := 1) rfl (by rw [ha]; decide) (hA 1 (by kernel_rfl))
      have q88 : bb.tmps[88]? = some _ := hf.tmp (k := 16) rfl (by rw [ha]; decide) (hA 16 (by kernel_rfl))
      obtain ⟨e0, e1, e2⟩ := (hX.below hI).three
      clear hA HS hN hO hX
      exact Rg.op_value (o := ⟨some 89, Op.load 2 (Operand.tmp 88), _, _, _, _⟩) (x := .int .i64 x.r) rfl (Rg.wanted_of (g := 1) rfl rfl qg) (by simp only [execOp]; go_simp) ⟨_, rfl, (fun h => by cases h), rfl, hI, fun _ _ _ _ h => h⟩
    · intro ll bb w' hs hlf hN hO hf hI hA
      clear hi'
      have qg : bb.tmps[73]? = some _ := hf.tmp (k := 1) rfl (by rw [ha]; decide) (hA 1 (by kernel_rfl))
      have q82 : bb.tmps[82]? = some _ := hf.tmp (k := 10) rfl (by rw [ha]; decide) (hA 10 (by kernel_rfl))
      have q87 : bb.tmps[87]? = some _ := hf.tmp (k := 15) rfl (by rw [ha]; decide) (hA 15 (by kernel_rfl))
      have q89 : bb.tmps[89]? = some _ := hf.tmp (k := 17) rfl (by rw [ha]; decide) (hA 17 (by kernel_rfl))
      clear hA HS hN hO hX
      exact Rg.op_value (o := ⟨some 90, Op.build 38 #[(0, (Operand.tmp 82)), (1, (Operand.tmp 87)), (2, (Operand.tmp 89))], _, _, _, _⟩) (x := .agg #[.int .i64 (N - 1 - x.b), .int .i64 (N - 1 - x.a), .int .i64 x.r]) rfl (Rg.wanted_of (g := 1) rfl rfl qg) (by simp only [execOp]; go_simp) ⟨_, rfl, (fun h => by cases h), rfl, hI, fun _ _ _ _ h => h⟩
    · intro ll bb w' hs hlf hN hO hf hI hA
      clear hi'
      have qg : bb.tmps[73]? = some _ := hf.tmp (k := 1) rfl (by rw [ha]; decide) (hA 1 (by kernel_rfl))
      have q77 : bb.tmps[77]? = some _ := hf.tmp (k := 5) rfl (by rw [ha]; decide) (hA 5 (by kernel_rfl))
      have q90 : bb.tmps[90]? = some _ := hf.tmp (k := 18) rfl (by rw [ha]; decide) (hA 18 (by kernel_rfl))
      have hE := eqWg y.a y.b y.r (N - 1 - x.b) (N - 1 - x.a) x.r w'
      have hgd : Try.prog.eqGuardType Try.prog.depth 38 = false := by kernel_rfl
      clear hA HS hN hO hX
      exact Rg.op_value (o := ⟨some 91, Op.binOp BinOp.eql 38 (Operand.tmp 77) (Operand.tmp 90) 38, _, _, _, _⟩) (x := .bool (y.a == N - 1 - x.b && (y.b == N - 1 - x.a && y.r == x.r))) rfl (Rg.wanted_of (g := 1) rfl rfl qg) (by simp only [execOp]; go_simp; (by_cases p1 : y.a = N - 1 - x.b <;> by_cases p2 : y.b = N - 1 - x.a <;> by_cases p3 : y.r = x.r <;> simp [p1, p2, p3])) ⟨_, rfl, (fun h => by cases h), rfl, hI, fun _ _ _ _ h => h⟩
    · intro ll bb w' hs hlf hN hO hf hI hA
      clear hi'
      have q73 : bb.tmps[73]? = some _ := hf.tmp (k := 1) rfl (by rw [ha]; decide) (hA 1 (by kernel_rfl))
      have q91 : bb.tmps[91]? = some _ := hf.tmp (k := 19) rfl (by rw [ha]; decide) (hA 19 (by kernel_rfl))
      clear hA HS hN hO hX
      exact Rg.op_value (o := ⟨some 92, Op.pick (Operand.tmp 73) (Operand.const (Value.bool true)) (Operand.tmp 91), _, _, _, _⟩) (x := .bool (y.a == N - 1 - x.b && (y.b == N - 1 - x.a && y.r == x.r))) rfl rfl (by simp only [execOp]; go_simp) ⟨_, rfl, (fun h => by cases h), rfl, hI, fun _ _ _ _ h => h⟩
    · intro ll bb w' hs hlf hN hO hf hI hA
      clear hi'
      have q92 : bb.tmps[92]? = some _ := hf.tmp (k := 20) rfl (by rw [ha]; decide) (hA 20 (by kernel_rfl))
      clear hA HS hN hO hX
      exact Rg.op_value (o := ⟨some 12, Op.assign (Operand.tmp 92), _, _, _, _⟩) (x := .bool (y.a == N - 1 - x.b && (y.b == N - 1 - x.a && y.r == x.r))) rfl rfl (by simp only [execOp]; go_simp) ⟨_, rfl, (fun h => by cases h), rfl, hI, fun _ _ _ _ h => h⟩

def FZ25 (dg doff dn dc rg roff rn rc i j m WB : Nat) (x : Dg) (r : Ru) (ta : Option Addr) (tc : Nat) (i9 : Nat) (v : Value) (w : World) : Prop :=
  match i9 with
  | 0 => v = .slice (some ⟨dg, doff, none⟩) dn dc
  | 1 => v = .pointer (some ⟨WB, 0, none⟩)
  | 2 => v = .int .i64 (i : Nat)
  | 3 => v = .pointer (some ⟨dg, doff + i * 6, none⟩)
  | 4 => v = .agg #[.int .i64 x.id, .slice ta x.cls.length tc, .int .i64 x.pk, .int .i64 x.most, .int .i64 x.day, .int .i64 x.kid]
  | 5 => v = .slice (some ⟨rg, roff, none⟩) rn rc
  | 6 => v = .pointer (some ⟨WB, 2, none⟩)
  | 7 => v = .int .i64 (m : Nat)
  | 8 => v = .pointer (some ⟨rg, roff + m * 3, none⟩)
  | 9 => v = .pointer (some ⟨rg, roff + m * 3, none⟩)
  | 10 => v = .int .i64 r.a
  | 11 => v = .slice (some ⟨rg, roff, none⟩) rn rc
  | 12 => v = .pointer (some ⟨WB, 2, none⟩)
  | 13 => v = .int .i64 (m : Nat)
  | 14 => v = .pointer (some ⟨rg, roff + m * 3, none⟩)
  | 15 => v = .pointer (some ⟨rg, roff + m * 3 + 1, none⟩)
  | 16 => v = .int .i64 r.b
  | 17 => ∃ B, v = .slice (some ⟨B, 0, none⟩) 2 2 ∧ PB w B #[.int .i64 r.a, .int .i64 r.b] 2
  | 18 => v = .bool true
  | 19 => v = .bool true
  | _ => True
theorem sizeZ25 : (Rg.opsOf Try.f4 25).size = 20 := by kernel_rfl

set_option maxRecDepth 20000 in
set_option maxHeartbeats 8000000 in
theorem regZ25 {Q : Exit → Act → World → Prop} {a : Act} {w9 : World} {dg doff dn dc rg roff rn rc i j m WB : Nat} {x : Dg} {r : Ru} {ta : Option Addr} {tc : Nat} (ha : a.tmps.size = 140)
    (k3 : a.tmps[3]? = some (.slice (some ⟨dg, doff, none⟩) dn dc)) (k4 : a.tmps[4]? = some (.slice (some ⟨rg, roff, none⟩) rn rc)) (k11 : a.tmps[11]? = some (.pointer (some ⟨WB, 0, none⟩))) (hX : PB w9 WB #[.int .i64 (i : Nat), .int .i64 (j : Nat), .int .i64 (m : Nat)] 38) (hin : i < dn) (hmn : m < rn) (hdl : dg < w9.heap.size) (hrl : rg < w9.heap.size) (x0 : w9.cell? ⟨dg, doff + i * 6, none⟩ = some (.int .i64 x.id)) (x1 : w9.cell? ⟨dg, doff + i * 6 + 1, none⟩ = some (.slice ta x.cls.length tc)) (x2 : w9.cell? ⟨dg, doff + i * 6 + 2, none⟩ = some (.int .i64 x.pk)) (x3 : w9.cell? ⟨dg, doff + i * 6 + 3, none⟩ = some (.int .i64 x.most)) (x4 : w9.cell? ⟨dg, doff + i * 6 + 4, none⟩ = some (.int .i64 x.day)) (x5 : w9.cell? ⟨dg, doff + i * 6 + 5, none⟩ = some (.int .i64 x.kid)) (ra : w9.cell? ⟨rg, roff + m * 3, none⟩ = some (.int .i64 r.a)) (rb : w9.cell? ⟨rg, roff + m * 3 + 1, none⟩ = some (.int .i64 r.b)) (hK : ∀ W B, Below w9.heap.size w9 W → PB W B #[.int .i64 r.a, .int .i64 r.b] 2 → Calls Try.prog 16 #[.agg #[.int .i64 x.id, .slice ta x.cls.length tc, .int .i64 x.pk, .int .i64 x.most, .int .i64 x.day, .int .i64 x.kid], .slice (some ⟨B, 0, none⟩) 2 2] W fun e W' => e = .returned (.bool true) ∧ Below W.heap.size W W')
    (hend : ∀ b' w', Rg.Fr (Rg.opsOf Try.f4 25) a b' → Below w9.heap.size w9 w' → Rg.out (Rg.opsOf Try.f4 25) b' 19 = .bool true → Q .normal b' w') :
    (Code.region 25 (Rg.opsOf Try.f4 25) true).wp Try.prog Q a w9 := by
  refine Rg.region_dead (by kernel_rfl) (fun w' => Below w9.heap.size w9 w') (FZ25 dg doff dn dc rg roff rn rc i j m WB x r ta tc) (fun _ => none) (by rw [ha, sizeZ25]; kernel_rfl) (st_drew (Below.refl _ _)) ?_ ?_
  case refine_2 =>
    intro b' w' hf hI hA
    rw [sizeZ25] at hA
    exact hend b' w' hf hI (hA 19 (by decide) rfl)
  case refine_1 =>
    clear hend
    have HS : ∀ {w w' : World}, Below w.heap.size w w' → ∀ k9 y9, FZ25 dg doff dn dc rg roff rn rc i j m WB x r ta tc k9 y9 w → FZ25 dg doff dn dc rg roff rn rc i j m WB x r ta tc k9 y9 w' := fun hb k9 y9 h => by
      unfold FZ25 at *
      split at h <;> first | exact h | (obtain ⟨B, h1, h2⟩ := h; exact ⟨B, h1, h2.below hb⟩)
    intro i' hi'
    rw [sizeZ25] at hi'
    rcases (show i' = 0 ∨ i' = 1 ∨ i' = 2 ∨ i' = 3 ∨ i' = 4 ∨ i' = 5 ∨ i' = 6 ∨ i' = 7 ∨ i' = 8 ∨ i' = 9 ∨ i' = 10 ∨ i' = 11 ∨ i' = 12 ∨ i' = 13 ∨ i' = 14 ∨ i' = 15 ∨ i' = 16 ∨ i' = 17 ∨ i' = 18 ∨ i' = 19 by omega) with rfl | rfl | rfl | rfl | rfl | rfl | rfl | rfl | rfl | rfl | rfl | rfl | rfl | rfl | rfl | rfl | rfl | rfl | rfl | rfl
    · intro bb w' hf hI hA
      clear hi'
      have q0 := hf.kept (s := 3) (by rw [sizeZ25]; kernel_rfl) k3
      exact Rg.op_value (o := ⟨some 93, Op.move (Operand.tmp 3), _, _, _, _⟩) rfl rfl rfl ⟨_, rfl, (fun h => by cases h), (by show Act.eval bb _ = _; simp [Act.eval, q0]), hI, fun _ _ _ h => h⟩
    · intro bb w' hf hI hA
      clear hi'
      have q11 := hf.kept (s := 11) (by rw [sizeZ25]; kernel_rfl) k11
      clear hA HS hX hK
      exact Rg.op_value (o := ⟨some 94, Op.fieldAddr 38 (Operand.tmp 11) 0, _, _, _, _⟩) (x := .pointer (some ⟨WB, 0, none⟩)) rfl rfl (by simp only [execOp]; go_simp) ⟨_, rfl, (fun h => by cases h), rfl, hI, fun _ _ _ h => h⟩
    · intro bb w' hf hI hA
      clear hi'
      have q94 : bb.tmps[94]? = some _ := hf.tmp (k := 1) rfl (by rw [ha]; decide) (hA 1 (by kernel_rfl) (.inl rfl))
      obtain ⟨e0, e1, e2⟩ := (hX.below hI).three
      clear hA HS hX hK
      exact Rg.op_value (o := ⟨some 95, Op.load 2 (Operand.tmp 94), _, _, _, _⟩) (x := .int .i64 (i : Nat)) rfl rfl (by simp only [execOp]; go_simp) ⟨_, rfl, (fun h => by cases h), rfl, hI, fun _ _ _ h => h⟩
    · intro bb w' hf hI hA
      clear hi'
      have q93 : bb.tmps[93]? = some _ := hf.tmp (k := 0) rfl (by rw [ha]; decide) (hA 0 (by kernel_rfl) (.inl rfl))
      have q95 : bb.tmps[95]? = some _ := hf.tmp (k := 2) rfl (by rw [ha]; decide) (hA 2 (by kernel_rfl) (.inl rfl))
      have hin2 : (i : Int) < (dn : Int) := by omega
      clear hA HS hX hK
      exact Rg.op_value (o := ⟨some 96, Op.indexAddr 31 (Operand.tmp 93) (Operand.tmp 95), _, _, _, _⟩) (x := .pointer (some ⟨dg, doff + i * 6, none⟩)) rfl rfl (by simp only [execOp]; go_simp) ⟨_, rfl, (fun h => by cases h), rfl, hI, fun _ _ _ h => h⟩
    · intro bb w' hf hI hA
      clear hi'
      have q96 : bb.tmps[96]? = some _ := hf.tmp (k := 3) rfl (by rw [ha]; decide) (hA 3 (by kernel_rfl) (.inl rfl))
      have e0 := (hI.cell (p := ⟨dg, doff + i * 6, none⟩) hdl).trans x0
      have e1 := (hI.cell (p := ⟨dg, doff + i * 6 + 1, none⟩) hdl).trans x1
      have e2 := (hI.cell (p := ⟨dg, doff + i * 6 + 2, none⟩) hdl).trans x2
      have e3 := (hI.cell (p := ⟨dg, doff + i * 6 + 3, none⟩) hdl).trans x3
      have e4 := (hI.cell (p := ⟨dg, doff + i * 6 + 4, none⟩) hdl).trans x4
      have e5 := (hI.cell (p := ⟨dg, doff + i * 6 + 5, none⟩) hdl).trans x5
      clear hA HS hX hK
      exact Rg.op_value (o := ⟨some 97, Op.load 26 (Operand.tmp 96), _, _, _, _⟩) (x := .agg #[.int .i64 x.id, .slice ta x.cls.length tc, .int .i64 x.pk, .int .i64 x.most, .int .i64 x.day, .int .i64 x.kid]) rfl rfl (by simp only [execOp]; go_simp) ⟨_, rfl, (fun h => by cases h), rfl, hI, fun _ _ _ h => h⟩
    · intro bb w' hf hI hA
      clear hi'
      have q0 := hf.kept (s := 4) (by rw [sizeZ25]; kernel_rfl) k4
      exact Rg.op_value (o := ⟨some 98, Op.move (Operand.tmp 4), _, _, _, _⟩) rfl rfl rfl ⟨_, rfl, (fun h => by cases h), (by show Act.eval bb _ = _; simp [Act.eval, q0]), hI, fun _ _ _ h => h⟩
    · intro bb w' hf hI hA
      clear hi'
      have q11 := hf.kept (s := 11) (by rw [sizeZ25]; kernel_rfl) k11
      clear hA HS hX hK
      exact Rg.op_value (o := ⟨some 99, Op.fieldAddr 38 (Operand.tmp 11) 2, _, _, _, _⟩) (x := .pointer (some ⟨WB, 2, none⟩)) rfl rfl (by simp only [execOp]; go_simp) ⟨_, rfl, (fun h => by cases h), rfl, hI, fun _ _ _ h => h⟩
    · intro bb w' hf hI hA
      clear hi'
      have q99 : bb.tmps[99]? = some _ := hf.tmp (k := 6) rfl (by rw [ha]; decide) (hA 6 (by kernel_rfl) (.inl rfl))
      obtain ⟨e0, e1, e2⟩ := (hX.below hI).three
      clear hA HS hX hK
      exact Rg.op_value (o := ⟨some 100, Op.load 2 (Operand.tmp 99), _, _, _, _⟩) (x := .int .i64 (m : Nat)) rfl rfl (by simp only [execOp]; go_simp) ⟨_, rfl, (fun h => by cases h), rfl, hI, fun _ _ _ h => h⟩
    · intro bb w' hf hI hA
      clear hi'
      have q98 : bb.tmps[98]? = some _ := hf.tmp (k := 5) rfl (by rw [ha]; decide) (hA 5 (by kernel_rfl) (.inl rfl))
      have q100 : bb.tmps[100]? = some _ := hf.tmp (k := 7) rfl (by rw [ha]; decide) (hA 7 (by kernel_rfl) (.inl rfl))
      have hin2 : (m : Int) < (rn : Int) := by omega
      clear hA HS hX hK
      exact Rg.op_value (o := ⟨some 101, Op.indexAddr 32 (Operand.tmp 98) (Operand.tmp 100), _, _, _, _⟩) (x := .pointer (some ⟨rg, roff + m * 3, none⟩)) rfl rfl (by simp only [execOp]; go_simp) ⟨_, rfl, (fun h => by cases h), rfl, hI, fun _ _ _ h => h⟩
    · intro bb w' hf hI hA
      clear hi'
      have q101 : bb.tmps[101]? = some _ := hf.tmp (k := 8) rfl (by rw [ha]; decide) (hA 8 (by kernel_rfl) (.inl rfl))
      clear hA HS hX hK
      exact Rg.op_value (o := ⟨some 102, Op.fieldAddr 41 (Operand.tmp 101) 0, _, _, _, _⟩) (x := .pointer (some ⟨rg, roff + m * 3, none⟩)) rfl rfl (by simp only [execOp]; go_simp) ⟨_, rfl, (fun h => by cases h), rfl, hI, fun _ _ _ h => h⟩
    · intro bb w' hf hI hA
      clear hi'
      have q102 : bb.tmps[102]? = some _ := hf.tmp (k := 9) rfl (by rw [ha]; decide) (hA 9 (by kernel_rfl) (.inl rfl))
      have e9 := (hI.cell (p := ⟨rg, roff + m * 3, none⟩) hrl).trans ra
      clear hA HS hX hK
      exact Rg.op_value (o := ⟨some 103, Op.load 2 (Operand.tmp 102), _, _, _, _⟩) (x := .int .i64 r.a) rfl rfl (by simp only [execOp]; go_simp) ⟨_, rfl, (fun h => by cases h), rfl, hI, fun _ _ _ h => h⟩
    · intro bb w' hf hI hA
      clear hi'
      have q0 := hf.kept (s := 4) (by rw [sizeZ25]; kernel_rfl) k4
      exact Rg.op_value (o := ⟨some 104, Op.move (Operand.tmp 4), _, _, _, _⟩) rfl rfl rfl ⟨_, rfl, (fun h => by cases h), (by show Act.eval bb _ = _; simp [Act.eval, q0]), hI, fun _ _ _ h => h⟩
    · intro bb w' hf hI hA
      clear hi'
      have q11 := hf.kept (s := 11) (by rw [sizeZ25]; kernel_rfl) k11
      clear hA HS hX hK
      exact Rg.op_value (o := ⟨some 105, Op.fieldAddr 38 (Operand.tmp 11) 2, _, _, _, _⟩) (x := .pointer (some ⟨WB, 2, none⟩)) rfl rfl (by simp only [execOp]; go_simp) ⟨_, rfl, (fun h => by cases h), rfl, hI, fun _ _ _ h => h⟩
    · intro bb w' hf hI hA
      clear hi'
      have q105 : bb.tmps[105]? = some _ := hf.tmp (k := 12) rfl (by rw [ha]; decide) (hA 12 (by kernel_rfl) (.inl rfl))
      obtain ⟨e0, e1, e2⟩ := (hX.below hI).three
      clear hA HS hX hK
      exact Rg.op_value (o := ⟨some 106, Op.load 2 (Operand.tmp 105), _, _, _, _⟩) (x := .int .i64 (m : Nat)) rfl rfl (by simp only [execOp]; go_simp) ⟨_, rfl, (fun h => by cases h), rfl, hI, fun _ _ _ h => h⟩
    · intro bb w' hf hI hA
      clear hi'
      have q104 : bb.tmps[104]? = some _ := hf.tmp (k := 11) rfl (by rw [ha]; decide) (hA 11 (by kernel_rfl) (.inl rfl))
      have q106 : bb.tmps[106]? = some _ := hf.tmp (k := 13) rfl (by rw [ha]; decide) (hA 13 (by kernel_rfl) (.inl rfl))
      have hin2 : (m : Int) < (rn : Int) := by omega
      clear hA HS hX hK
      exact Rg.op_value (o := ⟨some 107, Op.indexAddr 32 (Operand.tmp 104) (Operand.tmp 106), _, _, _, _⟩) (x := .pointer (some ⟨rg, roff + m * 3, none⟩)) rfl rfl (by simp only [execOp]; go_simp) ⟨_, rfl, (fun h => by cases h), rfl, hI, fun _ _ _ h => h⟩
    · intro bb w' hf hI hA
      clear hi'
      have q107 : bb.tmps[107]? = some _ := hf.tmp (k := 14) rfl (by rw [ha]; decide) (hA 14 (by kernel_rfl) (.inl rfl))
      clear hA HS hX hK
      exact Rg.op_value (o := ⟨some 108, Op.fieldAddr 41 (Operand.tmp 107) 1, _, _, _, _⟩) (x := .pointer (some ⟨rg, roff + m * 3 + 1, none⟩)) rfl rfl (by simp only [execOp]; go_simp) ⟨_, rfl, (fun h => by cases h), rfl, hI, fun _ _ _ h => h⟩
    · intro bb w' hf hI hA
      clear hi'
      have q108 : bb.tmps[108]? = some _ := hf.tmp (k := 15) rfl (by rw [ha]; decide) (hA 15 (by kernel_rfl) (.inl rfl))
      have e9 := (hI.cell (p := ⟨rg, roff + m * 3 + 1, none⟩) hrl).trans rb
      clear hA HS hX hK
      exact Rg.op_value (o := ⟨some 109, Op.load 2 (Operand.tmp 108), _, _, _, _⟩) (x := .int .i64 r.b) rfl rfl (by simp only [execOp]; go_simp) ⟨_, rfl, (fun h => by cases h), rfl, hI, fun _ _ _ h => h⟩
    · intro bb w' hf hI hA
      clear hi'
      have q103 : bb.tmps[103]? = some _ := hf.tmp (k := 10) rfl (by rw [ha]; decide) (hA 10 (by kernel_rfl) (.inl rfl))
      have q109 : bb.tmps[109]? = some _ := hf.tmp (k := 16) rfl (by rw [ha]; decide) (hA 16 (by kernel_rfl) (.inl rfl))
      have hb1 : Below w'.heap.size w' (w'.alloc (.cells #[.int .i64 r.a, .int .i64 r.b] 2)) := (Below.refl _ _).alloc (Nat.le_refl _) _
      exact Rg.op_value (o := ⟨some 110, Op.buildSlice 24 2 #[(0, Operand.tmp 103), (1, Operand.tmp 109)], _, _, _, _⟩) (x := .slice (some ⟨w'.heap.size, 0, none⟩) 2 2) (w' := w'.alloc (.cells #[.int .i64 r.a, .int .i64 r.b] 2)) rfl rfl (by clear hA HS hX hK; simp only [execOp]; go_simp) ⟨_, rfl, (fun h => by cases h), ⟨_, rfl, PB.new _ _ _⟩, onto hI hb1, fun k9 y9 _ h => HS hb1 k9 y9 h⟩
    · intro bb w' hf hI hA
      clear hi'
      have q97 : bb.tmps[97]? = some _ := hf.tmp (k := 4) rfl (by rw [ha]; decide) (hA 4 (by kernel_rfl) (.inl rfl))
      obtain ⟨B, hv, hB⟩ := hA 17 (by kernel_rfl) (.inl rfl)
      have qB : bb.tmps[110]? = some _ := hf.tmp (k := 17) rfl (by rw [ha]; decide) hv
      refine Rg.op_call (o := ⟨some 111, Op.call { callee := Callee.value (Operand.func 16), args := #[Operand.tmp 97, Operand.tmp 110], argTypes := _ }, _, _, _, _⟩) rfl rfl (by clear hA HS hX hK hv hB; simp only [execOp, resolve]; go_simp) (hK w' B hI hB) ?_
      rintro e w2 ⟨rfl, hb2⟩
      exact ⟨_, rfl, _, rfl, (fun h => by cases h), rfl, onto hI hb2, fun k9 y9 _ h => HS hb2 k9 y9 h⟩
    · intro bb w' hf hI hA
      clear hi'
      have q111 : bb.tmps[111]? = some _ := hf.tmp (k := 18) rfl (by rw [ha]; decide) (hA 18 (by kernel_rfl) (.inl rfl))
      clear hA HS hX hK
      exact Rg.op_value (o := ⟨some 14, Op.assign (Operand.tmp 111), _, _, _, _⟩) (x := .bool true) rfl rfl (by simp only [execOp]; go_simp) ⟨_, rfl, (fun h => by cases h), rfl, hI, fun _ _ _ h => h⟩

theorem dZ25_0 : Rg.dstAt (Rg.opsOf Try.f4 25) 0 = some 93 := by kernel_rfl
theorem dZ25_1 : Rg.dstAt (Rg.opsOf Try.f4 25) 1 = some 94 := by kernel_rfl
theorem dZ25_2 : Rg.dstAt (Rg.opsOf Try.f4 25) 2 = some 95 := by kernel_rfl
theorem dZ25_3 : Rg.dstAt (Rg.opsOf Try.f4 25) 3 = some 96 := by kernel_rfl
theorem dZ25_4 : Rg.dstAt (Rg.opsOf Try.f4 25) 4 = some 97 := by kernel_rfl
theorem dZ25_5 : Rg.dstAt (Rg.opsOf Try.f4 25) 5 = some 98 := by kernel_rfl
theorem dZ25_6 : Rg.dstAt (Rg.opsOf Try.f4 25) 6 = some 99 := by kernel_rfl
theorem dZ25_7 : Rg.dstAt (Rg.opsOf Try.f4 25) 7 = some 100 := by kernel_rfl
theorem dZ25_8 : Rg.dstAt (Rg.opsOf Try.f4 25) 8 = some 101 := by kernel_rfl
theorem dZ25_9 : Rg.dstAt (Rg.opsOf Try.f4 25) 9 = some 102 := by kernel_rfl
theorem dZ25_10 : Rg.dstAt (Rg.opsOf Try.f4 25) 10 = some 103 := by kernel_rfl
theorem dZ25_11 : Rg.dstAt (Rg.opsOf Try.f4 25) 11 = some 104 := by kernel_rfl
theorem dZ25_12 : Rg.dstAt (Rg.opsOf Try.f4 25) 12 = some 105 := by kernel_rfl
theorem dZ25_13 : Rg.dstAt (Rg.opsOf Try.f4 25) 13 = some 106 := by kernel_rfl
theorem dZ25_14 : Rg.dstAt (Rg.opsOf Try.f4 25) 14 = some 107 := by kernel_rfl
theorem dZ25_15 : Rg.dstAt (Rg.opsOf Try.f4 25) 15 = some 108 := by kernel_rfl
theorem dZ25_16 : Rg.dstAt (Rg.opsOf Try.f4 25) 16 = some 109 := by kernel_rfl
theorem dZ25_17 : Rg.dstAt (Rg.opsOf Try.f4 25) 17 = some 110 := by kernel_rfl
theorem dZ25_18 : Rg.dstAt (Rg.opsOf Try.f4 25) 18 = some 111 := by kernel_rfl
theorem dZ25_19 : Rg.dstAt (Rg.opsOf Try.f4 25) 19 = some 14 := by kernel_rfl
theorem layZ25 {a b : Act} (hf : Rg.Fr (Rg.opsOf Try.f4 25) a b) : b = ((((((((((((((((((((a.put (some 93) (Rg.out (Rg.opsOf Try.f4 25) b 0)).put (some 94) (Rg.out (Rg.opsOf Try.f4 25) b 1)).put (some 95) (Rg.out (Rg.opsOf Try.f4 25) b 2)).put (some 96) (Rg.out (Rg.opsOf Try.f4 25) b 3)).put (some 97) (Rg.out (Rg.opsOf Try.f4 25) b 4)).put (some 98) (Rg.out (Rg.opsOf Try.f4 25) b 5)).put (some 99) (Rg.out (Rg.opsOf Try.f4 25) b 6)).put (some 100) (Rg.out (Rg.opsOf Try.f4 25) b 7)).put (some 101) (Rg.out (Rg.opsOf Try.f4 25) b 8)).put (some 102) (Rg.out (Rg.opsOf Try.f4 25) b 9)).put (some 103) (Rg.out (Rg.opsOf Try.f4 25) b 10)).put (some 104) (Rg.out (Rg.opsOf Try.f4 25) b 11)).put (some 105) (Rg.out (Rg.opsOf Try.f4 25) b 12)).put (some 106) (Rg.out (Rg.opsOf Try.f4 25) b 13)).put (some 107) (Rg.out (Rg.opsOf Try.f4 25) b 14)).put (some 108) (Rg.out (Rg.opsOf Try.f4 25) b 15)).put (some 109) (Rg.out (Rg.opsOf Try.f4 25) b 16)).put (some 110) (Rg.out (Rg.opsOf Try.f4 25) b 17)).put (some 111) (Rg.out (Rg.opsOf Try.f4 25) b 18)).put (some 14) (Rg.out (Rg.opsOf Try.f4 25) b 19)) := by
  have h := hf.chain
  rw [sizeZ25, show List.range 20 = [0, 1, 2, 3, 4, 5, 6, 7, 8, 9, 10, 11, 12, 13, 14, 15, 16, 17, 18, 19] from by decide] at h
  simp only [List.foldl_cons, List.foldl_nil, dZ25_0, dZ25_1, dZ25_2, dZ25_3, dZ25_4, dZ25_5, dZ25_6, dZ25_7, dZ25_8, dZ25_9, dZ25_10, dZ25_11, dZ25_12, dZ25_13, dZ25_14, dZ25_15, dZ25_16, dZ25_17, dZ25_18, dZ25_19] at h
  exact h

def FZ26 (dg doff dn dc rg roff rn rc i j m WB : Nat) (x : Dg) (r : Ru) (ta : Option Addr) (tc : Nat) (i9 : Nat) (v : Value) (w : World) : Prop :=
  match i9 with
  | 0 => v = .bool true
  | 1 => v = .bool false
  | 2 => v = .bool false
  | 3 => v = .bool true
  | 4 => v = .bool false
  | 5 => v = .bool false
  | 6 => v = .bool false
  | 7 => v = .slice (some ⟨dg, doff, none⟩) dn dc
  | 8 => v = .pointer (some ⟨WB, 1, none⟩)
  | 9 => v = .int .i64 (j : Nat)
  | 10 => v = .pointer (some ⟨dg, doff + j * 6, none⟩)
  | 11 => v = .agg #[.int .i64 x.id, .slice ta x.cls.length tc, .int .i64 x.pk, .int .i64 x.most, .int .i64 x.day, .int .i64 x.kid]
  | 12 => v = .slice (some ⟨rg, roff, none⟩) rn rc
  | 13 => v = .pointer (some ⟨WB, 2, none⟩)
  | 14 => v = .int .i64 (m : Nat)
  | 15 => v = .pointer (some ⟨rg, roff + m * 3, none⟩)
  | 16 => v = .pointer (some ⟨rg, roff + m * 3, none⟩)
  | 17 => v = .int .i64 r.a
  | 18 => v = .slice (some ⟨rg, roff, none⟩) rn rc
  | 19 => v = .pointer (some ⟨WB, 2, none⟩)
  | 20 => v = .int .i64 (m : Nat)
  | 21 => v = .pointer (some ⟨rg, roff + m * 3, none⟩)
  | 22 => v = .pointer (some ⟨rg, roff + m * 3 + 1, none⟩)
  | 23 => v = .int .i64 r.b
  | 24 => ∃ B, v = .slice (some ⟨B, 0, none⟩) 2 2 ∧ PB w B #[.int .i64 r.a, .int .i64 r.b] 2
  | 25 => v = .bool true
  | 26 => v = .bool false
  | 27 => v = .bool false
  | _ => True
theorem sizeZ26 : (Rg.opsOf Try.f4 26).size = 28 := by kernel_rfl

set_option maxRecDepth 20000 in
set_option maxHeartbeats 8000000 in
theorem regZ26 {Q : Exit → Act → World → Prop} {a : Act} {w9 : World} {dg doff dn dc rg roff rn rc i j m WB : Nat} {x : Dg} {r : Ru} {ta : Option Addr} {tc : Nat} (ha : a.tmps.size = 140)
    (k3 : a.tmps[3]? = some (.slice (some ⟨dg, doff, none⟩) dn dc)) (k4 : a.tmps[4]? = some (.slice (some ⟨rg, roff, none⟩) rn rc)) (k11 : a.tmps[11]? = some (.pointer (some ⟨WB, 0, none⟩))) (k12 : a.tmps[12]? = some (.bool true)) (k14 : a.tmps[14]? = some (.bool true)) (hX : PB w9 WB #[.int .i64 (i : Nat), .int .i64 (j : Nat), .int .i64 (m : Nat)] 38) (hin : j < dn) (hmn : m < rn) (hdl : dg < w9.heap.size) (hrl : rg < w9.heap.size) (x0 : w9.cell? ⟨dg, doff + j * 6, none⟩ = some (.int .i64 x.id)) (x1 : w9.cell? ⟨dg, doff + j * 6 + 1, none⟩ = some (.slice ta x.cls.length tc)) (x2 : w9.cell? ⟨dg, doff + j * 6 + 2, none⟩ = some (.int .i64 x.pk)) (x3 : w9.cell? ⟨dg, doff + j * 6 + 3, none⟩ = some (.int .i64 x.most)) (x4 : w9.cell? ⟨dg, doff + j * 6 + 4, none⟩ = some (.int .i64 x.day)) (x5 : w9.cell? ⟨dg, doff + j * 6 + 5, none⟩ = some (.int .i64 x.kid)) (ra : w9.cell? ⟨rg, roff + m * 3, none⟩ = some (.int .i64 r.a)) (rb : w9.cell? ⟨rg, roff + m * 3 + 1, none⟩ = some (.int .i64 r.b)) (hK : ∀ W B, Below w9.heap.size w9 W → PB W B #[.int .i64 r.a, .int .i64 r.b] 2 → Calls Try.prog 16 #[.agg #[.int .i64 x.id, .slice ta x.cls.length tc, .int .i64 x.pk, .int .i64 x.most, .int .i64 x.day, .int .i64 x.kid], .slice (some ⟨B, 0, none⟩) 2 2] W fun e W' => e = .returned (.bool true) ∧ Below W.heap.size W W')
    (hend : ∀ b' w', Rg.Fr (Rg.opsOf Try.f4 26) a b' → Below w9.heap.size w9 w' → Rg.out (Rg.opsOf Try.f4 26) b' 27 = .bool false → Q .normal b' w') :
    (Code.region 26 (Rg.opsOf Try.f4 26) true).wp Try.prog Q a w9 := by
  refine Rg.region_dead (by kernel_rfl) (fun w' => Below w9.heap.size w9 w') (FZ26 dg doff dn dc rg roff rn rc i j m WB x r ta tc) (fun _ => none) (by rw [ha, sizeZ26]; kernel_rfl) (st_drew (Below.refl _ _)) ?_ ?_
  case refine_2 =>
    intro b' w' hf hI hA
    rw [sizeZ26] at hA
    exact hend b' w' hf hI (hA 27 (by decide) rfl)
  case refine_1 =>
    clear hend
    have HS : ∀ {w w' : World}, Below w.heap.size w w' → ∀ k9 y9, FZ26 dg doff dn dc rg roff rn rc i j m WB x r ta tc k9 y9 w → FZ26 dg doff dn dc rg roff rn rc i j m WB x r ta tc k9 y9 w' := fun hb k9 y9 h => by
      unfold FZ26 at *
      split at h <;> first | exact h | (obtain ⟨B, h1, h2⟩ := h; exact ⟨B, h1, h2.below hb⟩)
    intro i' hi'
    rw [sizeZ26] at hi'
    rcases (show i' = 0 ∨ i' = 1 ∨ i' = 2 ∨ i' = 3 ∨ i' = 4 ∨ i' = 5 ∨ i' = 6 ∨ i' = 7 ∨ i' = 8 ∨ i' = 9 ∨ i' = 10 ∨ i' = 11 ∨ i' = 12 ∨ i' = 13 ∨ i' = 14 ∨ i' = 15 ∨ i' = 16 ∨ i' = 17 ∨ i' = 18 ∨ i' = 19 ∨ i' = 20 ∨ i' = 21 ∨ i' = 22 ∨ i' = 23 ∨ i' = 24 ∨ i' = 25 ∨ i' = 26 ∨ i' = 27 by omega) with rfl | rfl | rfl | rfl | rfl | rfl | rfl | rfl | rfl | rfl | rfl | rfl | rfl | rfl | rfl | rfl | rfl | rfl | rfl | rfl | rfl | rfl | rfl | rfl | rfl | rfl | rfl | rfl
    · intro bb w' hf hI hA
      clear hi'
      have q0 := hf.kept (s := 12) (by rw [sizeZ26]; kernel_rfl) k12
      exact Rg.op_value (o := ⟨some 112, Op.move (Operand.tmp 12), _, _, _, _⟩) rfl rfl rfl ⟨_, rfl, (fun h => by cases h), (by show Act.eval bb _ = _; simp [Act.eval, q0]), hI, fun _ _ _ h => h⟩
    · intro bb w' hf hI hA
      clear hi'
      have q112 : bb.tmps[112]? = some _ := hf.tmp (k := 0) rfl (by rw [ha]; decide) (hA 0 (by kernel_rfl) (.inl rfl))
      clear hA HS hX hK
      exact Rg.op_value (o := ⟨some 113, Op.unOp UnOp.not 4 (Operand.tmp 112), _, _, _, _⟩) (x := .bool false) rfl rfl (by simp only [execOp]; go_simp) ⟨_, rfl, (fun h => by cases h), rfl, hI, fun _ _ _ h => h⟩
    · intro bb w' hf hI hA
      clear hi'
      have q113 : bb.tmps[113]? = some _ := hf.tmp (k := 1) rfl (by rw [ha]; decide) (hA 1 (by kernel_rfl) (.inl rfl))
      clear hA HS hX hK
      exact Rg.op_value (o := ⟨some 114, Op.move (Operand.tmp 113), _, _, _, _⟩) (x := .bool false) rfl rfl (by simp only [execOp]; go_simp) ⟨_, rfl, (fun h => by cases h), rfl, hI, fun _ _ _ h => h⟩
    · intro bb w' hf hI hA
      clear hi'
      have qg : bb.tmps[114]? = some _ := hf.tmp (k := 2) rfl (by rw [ha]; decide) (hA 2 (by kernel_rfl) (.inl rfl))
      have q0 := hf.kept (s := 14) (by rw [sizeZ26]; kernel_rfl) k14
      exact Rg.op_value (o := ⟨some 115, Op.move (Operand.tmp 14), _, _, _, _⟩) rfl (Rg.wanted_of (g := 2) rfl rfl qg) rfl ⟨_, rfl, (fun h => by cases h), (by show Act.eval bb _ = _; simp [Act.eval, q0]), hI, fun _ _ _ h => h⟩
    · intro bb w' hf hI hA
      clear hi'
      have qg : bb.tmps[114]? = some _ := hf.tmp (k := 2) rfl (by rw [ha]; decide) (hA 2 (by kernel_rfl) (.inl rfl))
      have q115 : bb.tmps[115]? = some _ := hf.tmp (k := 3) rfl (by rw [ha]; decide) (hA 3 (by kernel_rfl) (.inl rfl))
      clear hA HS hX hK
      exact Rg.op_value (o := ⟨some 116, Op.unOp UnOp.not 4 (Operand.tmp 115), _, _, _, _⟩) (x := .bool false) rfl (Rg.wanted_of (g := 2) rfl rfl qg) (by simp only [execOp]; go_simp) ⟨_, rfl, (fun h => by cases h), rfl, hI, fun _ _ _ h => h⟩
    · intro bb w' hf hI hA
      clear hi'
      have q114 : bb.tmps[114]? = some _ := hf.tmp (k := 2) rfl (by rw [ha]; decide) (hA 2 (by kernel_rfl) (.inl rfl))
      have q116 : bb.tmps[116]? = some _ := hf.tmp (k := 4) rfl (by rw [ha]; decide) (hA 4 (by kernel_rfl) (.inl rfl))
      clear hA HS hX hK
      exact Rg.op_value (o := ⟨some 117, Op.pick (Operand.tmp 114) (Operand.const (Value.bool true)) (Operand.tmp 116), _, _, _, _⟩) (x := .bool false) rfl rfl (by simp only [execOp]; go_simp) ⟨_, rfl, (fun h => by cases h), rfl, hI, fun _ _ _ h => h⟩
    · intro bb w' hf hI hA
      clear hi'
      have q117 : bb.tmps[117]? = some _ := hf.tmp (k := 5) rfl (by rw [ha]; decide) (hA 5 (by kernel_rfl) (.inl rfl))
      clear hA HS hX hK
      exact Rg.op_value (o := ⟨some 118, Op.move (Operand.tmp 117), _, _, _, _⟩) (x := .bool false) rfl rfl (by simp only [execOp]; go_simp) ⟨_, rfl, (fun h => by cases h), rfl, hI, fun _ _ _ h => h⟩
    · intro bb w' hf hI hA
      clear hi'
      have qg : bb.tmps[118]? = some _ := hf.tmp (k := 6) rfl (by rw [ha]; decide) (hA 6 (by kernel_rfl) (.inl rfl))
      have q0 := hf.kept (s := 3) (by rw [sizeZ26]; kernel_rfl) k3
      exact Rg.op_value (o := ⟨some 119, Op.move (Operand.tmp 3), _, _, _, _⟩) rfl (Rg.wanted_of (g := 6) rfl rfl qg) rfl ⟨_, rfl, (fun h => by cases h), (by show Act.eval bb _ = _; simp [Act.eval, q0]), hI, fun _ _ _ h => h⟩
    · intro bb w' hf hI hA
      clear hi'
      have qg : bb.tmps[118]? = some _ := hf.tmp (k := 6) rfl (by rw [ha]; decide) (hA 6 (by kernel_rfl) (.inl rfl))
      have q11 := hf.kept (s := 11) (by rw [sizeZ26]; kernel_rfl) k11
      clear hA HS hX hK
      exact Rg.op_value (o := ⟨some 120, Op.fieldAddr 38 (Operand.tmp 11) 1, _, _, _, _⟩) (x := .pointer (some ⟨WB, 1, none⟩)) rfl (Rg.wanted_of (g := 6) rfl rfl qg) (by simp only [execOp]; go_simp) ⟨_, rfl, (fun h => by cases h), rfl, hI, fun _ _ _ h => h⟩
    · intro bb w' hf hI hA
      clear hi'
      have qg : bb.tmps[118]? = some _ := hf.tmp (k := 6) rfl (by rw [ha]; decide) (hA 6 (by kernel_rfl) (.inl rfl))
      have q120 : bb.tmps[120]? = some _ := hf.tmp (k := 8) rfl (by rw [ha]; decide) (hA 8 (by kernel_rfl) (.inl rfl))
      obtain ⟨e0, e1, e2⟩ := (hX.below hI).three
      clear hA HS hX hK
      exact Rg.op_value (o := ⟨some 121, Op.load 2 (Operand.tmp 120), _, _, _, _⟩) (x := .int .i64 (j : Nat)) rfl (Rg.wanted_of (g := 6) rfl rfl qg) (by simp only [execOp]; go_simp) ⟨_, rfl, (fun h => by cases h), rfl, hI, fun _ _ _ h => h⟩
    · intro bb w' hf hI hA
      clear hi'
      have qg : bb.tmps[118]? = some _ := hf.tmp (k := 6) rfl (by rw [ha]; decide) (hA 6 (by kernel_rfl) (.inl rfl))
      have q119 : bb.tmps[119]? = some _ := hf.tmp (k := 7) rfl (by rw [ha]; decide) (hA 7 (by kernel_rfl) (.inl rfl))
      have q121 : bb.tmps[121]? = some _ := hf.tmp (k := 9) rfl (by rw [ha]; decide) (hA 9 (by kernel_rfl) (.inl rfl))
      have hin2 : (j : Int) < (dn : Int) := by omega
      clear hA HS hX hK
      exact Rg.op_value (o := ⟨some 122, Op.indexAddr 31 (Operand.tmp 119) (Operand.tmp 121), _, _, _, _⟩) (x := .pointer (some ⟨dg, doff + j * 6, none⟩)) rfl (Rg.wanted_of (g := 6) rfl rfl qg) (by simp only [execOp]; go_simp) ⟨_, rfl, (fun h => by cases h), rfl, hI, fun _ _ _ h => h⟩
    · intro bb w' hf hI hA
      clear hi'
      have qg : bb.tmps[118]? = some _ := hf.tmp (k := 6) rfl (by rw [ha]; decide) (hA 6 (by kernel_rfl) (.inl rfl))
      have q122 : bb.tmps[122]? = some _ := hf.tmp (k := 10) rfl (by rw [ha]; decide) (hA 10 (by kernel_rfl) (.inl rfl))
      have e0 := (hI.cell (p := ⟨dg, doff + j * 6, none⟩) hdl).trans x0
      have e1 := (hI.cell (p := ⟨dg, doff + j * 6 + 1, none⟩) hdl).trans x1
      have e2 := (hI.cell (p := ⟨dg, doff + j * 6 + 2, none⟩) hdl).trans x2
      have e3 := (hI.cell (p := ⟨dg, doff + j * 6 + 3, none⟩) hdl).trans x3
      have e4 := (hI.cell (p := ⟨dg, doff + j * 6 + 4, none⟩) hdl).trans x4
      have e5 := (hI.cell (p := ⟨dg, doff + j * 6 + 5, none⟩) hdl).trans x5
      clear hA HS hX hK
      exact Rg.op_value (o := ⟨some 123, Op.load 26 (Operand.tmp 122), _, _, _, _⟩) (x := .agg #[.int .i64 x.id, .slice ta x.cls.length tc, .int .i64 x.pk, .int .i64 x.most, .int .i64 x.day, .int .i64 x.kid]) rfl (Rg.wanted_of (g := 6) rfl rfl qg) (by simp only [execOp]; go_simp) ⟨_, rfl, (fun h => by cases h), rfl, hI, fun _ _ _ h => h⟩
    · intro bb w' hf hI hA
      clear hi'
      have qg : bb.tmps[118]? = some _ := hf.tmp (k := 6) rfl (by rw [ha]; decide) (hA 6 (by kernel_rfl) (.inl rfl))
      have q0 := hf.kept (s := 4) (by rw [sizeZ26]; kernel_rfl) k4
      exact Rg.op_value (o := ⟨some 124, Op.move (Operand.tmp 4), _, _, _, _⟩) rfl (Rg.wanted_of (g := 6) rfl rfl qg) rfl ⟨_, rfl, (fun h => by cases h), (by show Act.eval bb _ = _; simp [Act.eval, q0]), hI, fun _ _ _ h => h⟩
    · intro bb w' hf hI hA
      clear hi'
      have qg : bb.tmps[118]? = some _ := hf.tmp (k := 6) rfl (by rw [ha]; decide) (hA 6 (by kernel_rfl) (.inl rfl))
      have q11 := hf.kept (s := 11) (by rw [sizeZ26]; kernel_rfl) k11
      clear hA HS hX hK
      exact Rg.op_value (o := ⟨some 125, Op.fieldAddr 38 (Operand.tmp 11) 2, _, _, _, _⟩) (x := .pointer (some ⟨WB, 2, none⟩)) rfl (Rg.wanted_of (g := 6) rfl rfl qg) (by simp only [execOp]; go_simp) ⟨_, rfl, (fun h => by cases h), rfl, hI, fun _ _ _ h => h⟩
    · intro bb w' hf hI hA
      clear hi'
      have qg : bb.tmps[118]? = some _ := hf.tmp (k := 6) rfl (by rw [ha]; decide) (hA 6 (by kernel_rfl) (.inl rfl))
      have q125 : bb.tmps[125]? = some _ := hf.tmp (k := 13) rfl (by rw [ha]; decide) (hA 13 (by kernel_rfl) (.inl rfl))
      obtain ⟨e0, e1, e2⟩ := (hX.below hI).three
      clear hA HS hX hK
      exact Rg.op_value (o := ⟨some 126, Op.load 2 (Operand.tmp 125), _, _, _, _⟩) (x := .int .i64 (m : Nat)) rfl (Rg.wanted_of (g := 6) rfl rfl qg) (by simp only [execOp]; go_simp) ⟨_, rfl, (fun h => by cases h), rfl, hI, fun _ _ _ h => h⟩
    · intro bb w' hf hI hA
      clear hi'
      have qg : bb.tmps[118]? = some _ := hf.tmp (k := 6) rfl (by rw [ha]; decide) (hA 6 (by kernel_rfl) (.inl rfl))
      have q124 : bb.tmps[124]? = some _ := hf.tmp (k := 12) rfl (by rw [ha]; decide) (hA 12 (by kernel_rfl) (.inl rfl))
      have q126 : bb.tmps[126]? = some _ := hf.tmp (k := 14) rfl (by rw [ha]; decide) (hA 14 (by kernel_rfl) (.inl rfl))
      have hin2 : (m : Int) < (rn : Int) := by omega
      clear hA HS hX hK
      exact Rg.op_value (o := ⟨some 127, Op.indexAddr 32 (Operand.tmp 124) (Operand.tmp 126), _, _, _, _⟩) (x := .pointer (some ⟨rg, roff + m * 3, none⟩)) rfl (Rg.wanted_of (g := 6) rfl rfl qg) (by simp only [execOp]; go_simp) ⟨_, rfl, (fun h => by cases h), rfl, hI, fun _ _ _ h => h⟩
    · intro bb w' hf hI hA
      clear hi'
      have qg : bb.tmps[118]? = some _ := hf.tmp (k := 6) rfl (by rw [ha]; decide) (hA 6 (by kernel_rfl) (.inl rfl))
      have q127 : bb.tmps[127]? = some _ := hf.tmp (k := 15) rfl (by rw [ha]; decide) (hA 15 (by kernel_rfl) (.inl rfl))
      clear hA HS hX hK
      exact Rg.op_value (o := ⟨some 128, Op.fieldAddr 41 (Operand.tmp 127) 0, _, _, _, _⟩) (x := .pointer (some ⟨rg, roff + m * 3, none⟩)) rfl (Rg.wanted_of (g := 6) rfl rfl qg) (by simp only [execOp]; go_simp) ⟨_, rfl, (fun h => by cases h), rfl, hI, fun _ _ _ h => h⟩
    · intro bb w' hf hI hA
      clear hi'
      have qg : bb.tmps[118]? = some _ := hf.tmp (k := 6) rfl (by rw [ha]; decide) (hA 6 (by kernel_rfl) (.inl rfl))
      have q128 : bb.tmps[128]? = some _ := hf.tmp (k := 16) rfl (by rw [ha]; decide) (hA 16 (by kernel_rfl) (.inl rfl))
      have e9 := (hI.cell (p := ⟨rg, roff + m * 3, none⟩) hrl).trans ra
      clear hA HS hX hK
      exact Rg.op_value (o := ⟨some 129, Op.load 2 (Operand.tmp 128), _, _, _, _⟩) (x := .int .i64 r.a) rfl (Rg.wanted_of (g := 6) rfl rfl qg) (by simp only [execOp]; go_simp) ⟨_, rfl, (fun h => by cases h), rfl, hI, fun _ _ _ h => h⟩
    · intro bb w' hf hI hA
      clear hi'
      have qg : bb.tmps[118]? = some _ := hf.tmp (k := 6) rfl (by rw [ha]; decide) (hA 6 (by kernel_rfl) (.inl rfl))
      have q0 := hf.kept (s := 4) (by rw [sizeZ26]; kernel_rfl) k4
      exact Rg.op_value (o := ⟨some 130, Op.move (Operand.tmp 4), _, _, _, _⟩) rfl (Rg.wanted_of (g := 6) rfl rfl qg) rfl ⟨_, rfl, (fun h => by cases h), (by show Act.eval bb _ = _; simp [Act.eval, q0]), hI, fun _ _ _ h => h⟩
    · intro bb w' hf hI hA
      clear hi'
      have qg : bb.tmps[118]? = some _ := hf.tmp (k := 6) rfl (by rw [ha]; decide) (hA 6 (by kernel_rfl) (.inl rfl))
      have q11 := hf.kept (s := 11) (by rw [sizeZ26]; kernel_rfl) k11
      clear hA HS hX hK
      exact Rg.op_value (o := ⟨some 131, Op.fieldAddr 38 (Operand.tmp 11) 2, _, _, _, _⟩) (x := .pointer (some ⟨WB, 2, none⟩)) rfl (Rg.wanted_of (g := 6) rfl rfl qg) (by simp only [execOp]; go_simp) ⟨_, rfl, (fun h => by cases h), rfl, hI, fun _ _ _ h => h⟩
    · intro bb w' hf hI hA
      clear hi'
      have qg : bb.tmps[118]? = some _ := hf.tmp (k := 6) rfl (by rw [ha]; decide) (hA 6 (by kernel_rfl) (.inl rfl))
      have q131 : bb.tmps[131]? = some _ := hf.tmp (k := 19) rfl (by rw [ha]; decide) (hA 19 (by kernel_rfl) (.inl rfl))
      obtain ⟨e0, e1, e2⟩ := (hX.below hI).three
      clear hA HS hX hK
      exact Rg.op_value (o := ⟨some 132, Op.load 2 (Operand.tmp 131), _, _, _, _⟩) (x := .int .i64 (m : Nat)) rfl (Rg.wanted_of (g := 6) rfl rfl qg) (by simp only [execOp]; go_simp) ⟨_, rfl, (fun h => by cases h), rfl, hI, fun _ _ _ h => h⟩
    · intro bb w' hf hI hA
      clear hi'
      have qg : bb.tmps[118]? = some _ := hf.tmp (k := 6) rfl (by rw [ha]; decide) (hA 6 (by kernel_rfl) (.inl rfl))
      have q130 : bb.tmps[130]? = some _ := hf.tmp (k := 18) rfl (by rw [ha]; decide) (hA 18 (by kernel_rfl) (.inl rfl))
      have q132 : bb.tmps[132]? = some _ := hf.tmp (k := 20) rfl (by rw [ha]; decide) (hA 20 (by kernel_rfl) (.inl rfl))
      have hin2 : (m : Int) < (rn : Int) := by omega
      clear hA HS hX hK
      exact Rg.op_value (o := ⟨some 133, Op.indexAddr 32 (Operand.tmp 130) (Operand.tmp 132), _, _, _, _⟩) (x := .pointer (some ⟨rg, roff + m * 3, none⟩)) rfl (Rg.wanted_of (g := 6) rfl rfl qg) (by simp only [execOp]; go_simp) ⟨_, rfl, (fun h => by cases h), rfl, hI, fun _ _ _ h => h⟩
    · intro bb w' hf hI hA
      clear hi'
      have qg : bb.tmps[118]? = some _ := hf.tmp (k := 6) rfl (by rw [ha]; decide) (hA 6 (by kernel_rfl) (.inl rfl))
      have q133 : bb.tmps[133]? = some _ := hf.tmp (k := 21) rfl (by rw [ha]; decide) (hA 21 (by kernel_rfl) (.inl rfl))
      clear hA HS hX hK
      exact Rg.op_value (o := ⟨some 134, Op.fieldAddr 41 (Operand.tmp 133) 1, _, _, _, _⟩) (x := .pointer (some ⟨rg, roff + m * 3 + 1, none⟩)) rfl (Rg.wanted_of (g := 6) rfl rfl qg) (by simp only [execOp]; go_simp) ⟨_, rfl, (fun h => by cases h), rfl, hI, fun _ _ _ h => h⟩
    · intro bb w' hf hI hA
      clear hi'
      have qg : bb.tmps[118]? = some _ := hf.tmp (k := 6) rfl (by rw [ha]; decide) (hA 6 (by kernel_rfl) (.inl rfl))
      have q134 : bb.tmps[134]? = some _ := hf.tmp (k := 22) rfl (by rw [ha]; decide) (hA 22 (by kernel_rfl) (.inl rfl))
      have e9 := (hI.cell (p := ⟨rg, roff + m * 3 + 1, none⟩) hrl).trans rb
      clear hA HS hX hK
      exact Rg.op_value (o := ⟨some 135, Op.load 2 (Operand.tmp 134), _, _, _, _⟩) (x := .int .i64 r.b) rfl (Rg.wanted_of (g := 6) rfl rfl qg) (by simp only [execOp]; go_simp) ⟨_, rfl, (fun h => by cases h), rfl, hI, fun _ _ _ h => h⟩
    · intro bb w' hf hI hA
      clear hi'
      have qg : bb.tmps[118]? = some _ := hf.tmp (k := 6) rfl (by rw [ha]; decide) (hA 6 (by kernel_rfl) (.inl rfl))
      have q129 : bb.tmps[129]? = some _ := hf.tmp (k := 17) rfl (by rw [ha]; decide) (hA 17 (by kernel_rfl) (.inl rfl))
      have q135 : bb.tmps[135]? = some _ := hf.tmp (k := 23) rfl (by rw [ha]; decide) (hA 23 (by kernel_rfl) (.inl rfl))
      have hb1 : Below w'.heap.size w' (w'.alloc (.cells #[.int .i64 r.a, .int .i64 r.b] 2)) := (Below.refl _ _).alloc (Nat.le_refl _) _
      exact Rg.op_value (o := ⟨some 136, Op.buildSlice 24 2 #[(0, Operand.tmp 129), (1, Operand.tmp 135)], _, _, _, _⟩) (x := .slice (some ⟨w'.heap.size, 0, none⟩) 2 2) (w' := w'.alloc (.cells #[.int .i64 r.a, .int .i64 r.b] 2)) rfl (Rg.wanted_of (g := 6) rfl rfl qg) (by clear hA HS hX hK; simp only [execOp]; go_simp) ⟨_, rfl, (fun h => by cases h), ⟨_, rfl, PB.new _ _ _⟩, onto hI hb1, fun k9 y9 _ h => HS hb1 k9 y9 h⟩
    · intro bb w' hf hI hA
      clear hi'
      have qg : bb.tmps[118]? = some _ := hf.tmp (k := 6) rfl (by rw [ha]; decide) (hA 6 (by kernel_rfl) (.inl rfl))
      have q123 : bb.tmps[123]? = some _ := hf.tmp (k := 11) rfl (by rw [ha]; decide) (hA 11 (by kernel_rfl) (.inl rfl))
      obtain ⟨B, hv, hB⟩ := hA 24 (by kernel_rfl) (.inl rfl)
      have qB : bb.tmps[136]? = some _ := hf.tmp (k := 24) rfl (by rw [ha]; decide) hv
      refine Rg.op_call (o := ⟨some 137, Op.call { callee := Callee.value (Operand.func 16), args := #[Operand.tmp 123, Operand.tmp 136], argTypes := _ }, _, _, _, _⟩) rfl (Rg.wanted_of (g := 6) rfl rfl qg) (by clear hA HS hX hK hv hB; simp only [execOp, resolve]; go_simp) (hK w' B hI hB) ?_
      rintro e w2 ⟨rfl, hb2⟩
      exact ⟨_, rfl, _, rfl, (fun h => by cases h), rfl, onto hI hb2, fun k9 y9 _ h => HS hb2 k9 y9 h⟩
    · intro bb w' hf hI hA
      clear hi'
      have qg : bb.tmps[118]? = some _ := hf.tmp (k := 6) rfl (by rw [ha]; decide) (hA 6 (by kernel_rfl) (.inl rfl))
      have q137 : bb.tmps[137]? = some _ := hf.tmp (k := 25) rfl (by rw [ha]; decide) (hA 25 (by kernel_rfl) (.inl rfl))
      clear hA HS hX hK
      exact Rg.op_value (o := ⟨some 138, Op.unOp UnOp.not 4 (Operand.tmp 137), _, _, _, _⟩) (x := .bool false) rfl (Rg.wanted_of (g := 6) rfl rfl qg) (by simp only [execOp]; go_simp) ⟨_, rfl, (fun h => by cases h), rfl, hI, fun _ _ _ h => h⟩
    · intro bb w' hf hI hA
      clear hi'
      have q118 : bb.tmps[118]? = some _ := hf.tmp (k := 6) rfl (by rw [ha]; decide) (hA 6 (by kernel_rfl) (.inl rfl))
      have q138 : bb.tmps[138]? = some _ := hf.tmp (k := 26) rfl (by rw [ha]; decide) (hA 26 (by kernel_rfl) (.inl rfl))
      clear hA HS hX hK
      exact Rg.op_value (o := ⟨some 139, Op.pick (Operand.tmp 118) (Operand.const (Value.bool true)) (Operand.tmp 138), _, _, _, _⟩) (x := .bool false) rfl rfl (by simp only [execOp]; go_simp) ⟨_, rfl, (fun h => by cases h), rfl, hI, fun _ _ _ h => h⟩

theorem dZ26_0 : Rg.dstAt (Rg.opsOf Try.f4 26) 0 = some 112 := by kernel_rfl
theorem dZ26_1 : Rg.dstAt (Rg.opsOf Try.f4 26) 1 = some 113 := by kernel_rfl
theorem dZ26_2 : Rg.dstAt (Rg.opsOf Try.f4 26) 2 = some 114 := by kernel_rfl
theorem dZ26_3 : Rg.dstAt (Rg.opsOf Try.f4 26) 3 = some 115 := by kernel_rfl
theorem dZ26_4 : Rg.dstAt (Rg.opsOf Try.f4 26) 4 = some 116 := by kernel_rfl
theorem dZ26_5 : Rg.dstAt (Rg.opsOf Try.f4 26) 5 = some 117 := by kernel_rfl
theorem dZ26_6 : Rg.dstAt (Rg.opsOf Try.f4 26) 6 = some 118 := by kernel_rfl
theorem dZ26_7 : Rg.dstAt (Rg.opsOf Try.f4 26) 7 = some 119 := by kernel_rfl
theorem dZ26_8 : Rg.dstAt (Rg.opsOf Try.f4 26) 8 = some 120 := by kernel_rfl
theorem dZ26_9 : Rg.dstAt (Rg.opsOf Try.f4 26) 9 = some 121 := by kernel_rfl
theorem dZ26_10 : Rg.dstAt (Rg.opsOf Try.f4 26) 10 = some 122 := by kernel_rfl
theorem dZ26_11 : Rg.dstAt (Rg.opsOf Try.f4 26) 11 = some 123 := by kernel_rfl
theorem dZ26_12 : Rg.dstAt (Rg.opsOf Try.f4 26) 12 = some 124 := by kernel_rfl
theorem dZ26_13 : Rg.dstAt (Rg.opsOf Try.f4 26) 13 = some 125 := by kernel_rfl
theorem dZ26_14 : Rg.dstAt (Rg.opsOf Try.f4 26) 14 = some 126 := by kernel_rfl
theorem dZ26_15 : Rg.dstAt (Rg.opsOf Try.f4 26) 15 = some 127 := by kernel_rfl
theorem dZ26_16 : Rg.dstAt (Rg.opsOf Try.f4 26) 16 = some 128 := by kernel_rfl
theorem dZ26_17 : Rg.dstAt (Rg.opsOf Try.f4 26) 17 = some 129 := by kernel_rfl
theorem dZ26_18 : Rg.dstAt (Rg.opsOf Try.f4 26) 18 = some 130 := by kernel_rfl
theorem dZ26_19 : Rg.dstAt (Rg.opsOf Try.f4 26) 19 = some 131 := by kernel_rfl
theorem dZ26_20 : Rg.dstAt (Rg.opsOf Try.f4 26) 20 = some 132 := by kernel_rfl
theorem dZ26_21 : Rg.dstAt (Rg.opsOf Try.f4 26) 21 = some 133 := by kernel_rfl
theorem dZ26_22 : Rg.dstAt (Rg.opsOf Try.f4 26) 22 = some 134 := by kernel_rfl
theorem dZ26_23 : Rg.dstAt (Rg.opsOf Try.f4 26) 23 = some 135 := by kernel_rfl
theorem dZ26_24 : Rg.dstAt (Rg.opsOf Try.f4 26) 24 = some 136 := by kernel_rfl
theorem dZ26_25 : Rg.dstAt (Rg.opsOf Try.f4 26) 25 = some 137 := by kernel_rfl
theorem dZ26_26 : Rg.dstAt (Rg.opsOf Try.f4 26) 26 = some 138 := by kernel_rfl
theorem dZ26_27 : Rg.dstAt (Rg.opsOf Try.f4 26) 27 = some 139 := by kernel_rfl
theorem layZ26 {a b : Act} (hf : Rg.Fr (Rg.opsOf Try.f4 26) a b) : b = ((((((((((((((((((((((((((((a.put (some 112) (Rg.out (Rg.opsOf Try.f4 26) b 0)).put (some 113) (Rg.out (Rg.opsOf Try.f4 26) b 1)).put (some 114) (Rg.out (Rg.opsOf Try.f4 26) b 2)).put (some 115) (Rg.out (Rg.opsOf Try.f4 26) b 3)).put (some 116) (Rg.out (Rg.opsOf Try.f4 26) b 4)).put (some 117) (Rg.out (Rg.opsOf Try.f4 26) b 5)).put (some 118) (Rg.out (Rg.opsOf Try.f4 26) b 6)).put (some 119) (Rg.out (Rg.opsOf Try.f4 26) b 7)).put (some 120) (Rg.out (Rg.opsOf Try.f4 26) b 8)).put (some 121) (Rg.out (Rg.opsOf Try.f4 26) b 9)).put (some 122) (Rg.out (Rg.opsOf Try.f4 26) b 10)).put (some 123) (Rg.out (Rg.opsOf Try.f4 26) b 11)).put (some 124) (Rg.out (Rg.opsOf Try.f4 26) b 12)).put (some 125) (Rg.out (Rg.opsOf Try.f4 26) b 13)).put (some 126) (Rg.out (Rg.opsOf Try.f4 26) b 14)).put (some 127) (Rg.out (Rg.opsOf Try.f4 26) b 15)).put (some 128) (Rg.out (Rg.opsOf Try.f4 26) b 16)).put (some 129) (Rg.out (Rg.opsOf Try.f4 26) b 17)).put (some 130) (Rg.out (Rg.opsOf Try.f4 26) b 18)).put (some 131) (Rg.out (Rg.opsOf Try.f4 26) b 19)).put (some 132) (Rg.out (Rg.opsOf Try.f4 26) b 20)).put (some 133) (Rg.out (Rg.opsOf Try.f4 26) b 21)).put (some 134) (Rg.out (Rg.opsOf Try.f4 26) b 22)).put (some 135) (Rg.out (Rg.opsOf Try.f4 26) b 23)).put (some 136) (Rg.out (Rg.opsOf Try.f4 26) b 24)).put (some 137) (Rg.out (Rg.opsOf Try.f4 26) b 25)).put (some 138) (Rg.out (Rg.opsOf Try.f4 26) b 26)).put (some 139) (Rg.out (Rg.opsOf Try.f4 26) b 27)) := by
  have h := hf.chain
  rw [sizeZ26, show List.range 28 = [0, 1, 2, 3, 4, 5, 6, 7, 8, 9, 10, 11, 12, 13, 14, 15, 16, 17, 18, 19, 20, 21, 22, 23, 24, 25, 26, 27] from by decide] at h
  simp only [List.foldl_cons, List.foldl_nil, dZ26_0, dZ26_1, dZ26_2, dZ26_3, dZ26_4, dZ26_5, dZ26_6, dZ26_7, dZ26_8, dZ26_9, dZ26_10, dZ26_11, dZ26_12, dZ26_13, dZ26_14, dZ26_15, dZ26_16, dZ26_17, dZ26_18, dZ26_19, dZ26_20, dZ26_21, dZ26_22, dZ26_23, dZ26_24, dZ26_25, dZ26_26, dZ26_27] at h
  exact h
end Go.Proofs.Ytcnhogghfedcdaa
