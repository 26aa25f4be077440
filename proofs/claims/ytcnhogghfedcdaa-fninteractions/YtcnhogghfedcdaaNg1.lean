/-
  Warnings of drugs together: the specification.
-/
import Derived.Test.YtcnhogghfedcdaaNf
namespace Go.Proofs.Ytcnhogghfedcdaa
open Go.RowKit Va Ga
set_option linter.unusedVariables false

def FS25f (dg doff dn dc i k RX : Nat) (r : Ru) (ta tb : Option Addr) (na nb tc td : Nat) (T2 : Bool) (i9 : Nat) (v : Value) (w : World) : Prop :=
  match i9 with
  | 0 => v = .slice (some ⟨dg, doff, none⟩) dn dc
  | 1 => v = .int .i64 (i : Nat)
  | 2 => v = .pointer (some ⟨dg, doff + i * 6, none⟩)
  | 3 => v = .pointer (some ⟨dg, doff + i * 6 + 1, none⟩)
  | 4 => v = .slice ta na tc
  | 5 => v = .pointer (some ⟨RX, 0, none⟩)
  | 6 => v = .int .i64 r.a
  | 7 => v = .bool false
  | 8 => v = .bool false
  | 9 => v = undef
  | 10 => v = undef
  | 11 => v = undef
  | 12 => v = undef
  | 13 => v = undef
  | 14 => v = undef
  | 15 => v = undef
  | 16 => v = undef
  | 17 => v = .bool false
  | 18 => v = .bool false
  | _ => True
theorem sizeS25f : (Rg.opsOf Try.f15 25).size = 19 := by kernel_rfl

set_option maxRecDepth 20000 in
set_option maxHeartbeats 8000000 in
theorem regS25f {Q : Exit → Act → World → Prop} {a : Act} {w9 : World} {dg doff dn dc i k RX : Nat} {r : Ru} {ta tb : Option Addr} {na nb tc td : Nat} {T2 : Bool} (ha : a.tmps.size = 140)
    (k0 : a.tmps[0]? = some (.slice (some ⟨dg, doff, none⟩) dn dc)) (k8 : a.tmps[8]? = some (.int .i64 (i : Nat))) (k9 : a.tmps[9]? = some (.int .i64 (k : Nat))) (k12 : a.tmps[12]? = some (.pointer (some ⟨RX, 0, none⟩))) (hin : i < dn) (hkn : k < dn) (hgl : dg < w9.heap.size) (hci : w9.cell? ⟨dg, doff + i * 6 + 1, none⟩ = some (.slice ta na tc)) (hck : w9.cell? ⟨dg, doff + k * 6 + 1, none⟩ = some (.slice tb nb td)) (hX : PB w9 RX #[.int .i64 r.a, .int .i64 r.b, .int .i64 r.g] 41) (hK1 : ∀ W, Below w9.heap.size w9 W → Calls Try.prog 42 #[.slice ta na tc, .int .i64 r.a] W fun e W' => e = .returned (.bool false) ∧ W' = W) (hK2 : ∀ W, Below w9.heap.size w9 W → Calls Try.prog 42 #[.slice tb nb td, .int .i64 r.b] W fun e W' => e = .returned (.bool T2) ∧ W' = W)
    (hend : ∀ b' w', Rg.Fr (Rg.opsOf Try.f15 25) a b' → Below w9.heap.size w9 w' → Rg.out (Rg.opsOf Try.f15 25) b' 18 = .bool false → Q .normal b' w') :
    (Code.region 25 (Rg.opsOf Try.f15 25) true).wp Try.prog Q a w9 := by
  refine Rg.region_dead (by kernel_rfl) (fun w' => Below w9.heap.size w9 w') (FS25f dg doff dn dc i k RX r ta tb na nb tc td T2) (fun _ => none) (by rw [ha, sizeS25f]; kernel_rfl) (st_drew (Below.refl _ _)) ?_ ?_
  case refine_2 =>
    intro b' w' hf hI hA
    rw [sizeS25f] at hA
    exact hend b' w' hf hI (hA 18 (by decide) rfl)
  case refine_1 =>
    clear hend
    have HS : ∀ {w w' : World}, Below w.heap.size w w' → ∀ k9 y9, FS25f dg doff dn dc i k RX r ta tb na nb tc td T2 k9 y9 w → FS25f dg doff dn dc i k RX r ta tb na nb tc td T2 k9 y9 w' := fun hb k9 y9 h => by
      unfold FS25f at *
      split at h <;> exact h
    intro i' hi'
    rw [sizeS25f] at hi'
    rcases (show i' = 0 ∨ i' = 1 ∨ i' = 2 ∨ i' = 3 ∨ i' = 4 ∨ i' = 5 ∨ i' = 6 ∨ i' = 7 ∨ i' = 8 ∨ i' = 9 ∨ i' = 10 ∨ i' = 11 ∨ i' = 12 ∨ i' = 13 ∨ i' = 14 ∨ i' = 15 ∨ i' = 16 ∨ i' = 17 ∨ i' = 18 by omega) with rfl | rfl | rfl | rfl | rfl | rfl | rfl | rfl | rfl | rfl | rfl | rfl | rfl | rfl | rfl | rfl | rfl | rfl | rfl
    · intro bb w' hf hI hA
      clear hi'
      have q0 := hf.kept (s := 0) (by rw [sizeS25f]; kernel_rfl) k0
      exact Rg.op_value (o := ⟨some 75, Op.move (Operand.tmp 0), _, _, _, _⟩) rfl rfl rfl ⟨_, rfl, (fun h => by cases h), (by show Act.eval bb _ = _; simp [Act.eval, q0]), hI, fun _ _ _ h => h⟩
    · intro bb w' hf hI hA
      clear hi'
      have q0 := hf.kept (s := 8) (by rw [sizeS25f]; kernel_rfl) k8
      exact Rg.op_value (o := ⟨some 76, Op.move (Operand.tmp 8), _, _, _, _⟩) rfl rfl rfl ⟨_, rfl, (fun h => by cases h), (by show Act.eval bb _ = _; simp [Act.eval, q0]), hI, fun _ _ _ h => h⟩
    · intro bb w' hf hI hA
      clear hi'
      have q75 : bb.tmps[75]? = some _ := hf.tmp (k := 0) rfl (by rw [ha]; decide) (hA 0 (by kernel_rfl) (.inl rfl))
      have q76 : bb.tmps[76]? = some _ := hf.tmp (k := 1) rfl (by rw [ha]; decide) (hA 1 (by kernel_rfl) (.inl rfl))
      have hin2 : (i : Int) < (dn : Int) := by omega
      clear hA HS hK1 hK2 hX
      exact Rg.op_value (o := ⟨some 77, Op.indexAddr 31 (Operand.tmp 75) (Operand.tmp 76), _, _, _, _⟩) (x := .pointer (some ⟨dg, doff + i * 6, none⟩)) rfl rfl (by simp only [execOp]; go_simp) ⟨_, rfl, (fun h => by cases h), rfl, hI, fun _ _ _ h => h⟩
    · intro bb w' hf hI hA
      clear hi'
      have q77 : bb.tmps[77]? = some _ := hf.tmp (k := 2) rfl (by rw [ha]; decide) (hA 2 (by kernel_rfl) (.inl rfl))
      clear hA HS hK1 hK2 hX
      exact Rg.op_value (o := ⟨some 78, Op.fieldAddr 26 (Operand.tmp 77) 1, _, _, _, _⟩) (x := .pointer (some ⟨dg, doff + i * 6 + 1, none⟩)) rfl rfl (by simp only [execOp]; go_simp) ⟨_, rfl, (fun h => by cases h), rfl, hI, fun _ _ _ h => h⟩
    · intro bb w' hf hI hA
      clear hi'
      have q78 : bb.tmps[78]? = some _ := hf.tmp (k := 3) rfl (by rw [ha]; decide) (hA 3 (by kernel_rfl) (.inl rfl))
      have e9 := (hI.cell (p := ⟨dg, doff + i * 6 + 1, none⟩) hgl).trans hci
      clear hA HS hK1 hK2 hX
      exact Rg.op_value (o := ⟨some 79, Op.load 24 (Operand.tmp 78), _, _, _, _⟩) (x := .slice ta na tc) rfl rfl (by simp only [execOp]; go_simp) ⟨_, rfl, (fun h => by cases h), rfl, hI, fun _ _ _ h => h⟩
    · intro bb w' hf hI hA
      clear hi'
      have q12 := hf.kept (s := 12) (by rw [sizeS25f]; kernel_rfl) k12
      clear hA HS hK1 hK2 hX
      exact Rg.op_value (o := ⟨some 80, Op.fieldAddr 41 (Operand.tmp 12) 0, _, _, _, _⟩) (x := .pointer (some ⟨RX, 0, none⟩)) rfl rfl (by simp only [execOp]; go_simp) ⟨_, rfl, (fun h => by cases h), rfl, hI, fun _ _ _ h => h⟩
    · intro bb w' hf hI hA
      clear hi'
      have q80 : bb.tmps[80]? = some _ := hf.tmp (k := 5) rfl (by rw [ha]; decide) (hA 5 (by kernel_rfl) (.inl rfl))
      obtain ⟨e0, e1, e2⟩ := (hX.below hI).three
      clear hA HS hK1 hK2 hX
      exact Rg.op_value (o := ⟨some 81, Op.load 2 (Operand.tmp 80), _, _, _, _⟩) (x := .int .i64 r.a) rfl rfl (by simp only [execOp]; go_simp) ⟨_, rfl, (fun h => by cases h), rfl, hI, fun _ _ _ h => h⟩
    · intro bb w' hf hI hA
      clear hi'
      have q79 : bb.tmps[79]? = some _ := hf.tmp (k := 4) rfl (by rw [ha]; decide) (hA 4 (by kernel_rfl) (.inl rfl))
      have q81 : bb.tmps[81]? = some _ := hf.tmp (k := 6) rfl (by rw [ha]; decide) (hA 6 (by kernel_rfl) (.inl rfl))
      refine Rg.op_call (o := ⟨some 82, Op.call { callee := Callee.value (Operand.func 42), args := #[(Operand.tmp 79), (Operand.tmp 81)], argTypes := _ }, _, _, _, _⟩) rfl rfl (by clear hA HS hK1 hK2 hX; simp only [execOp, resolve]; go_simp) (hK1 w' hI) ?_
      rintro e w2 ⟨rfl, rfl⟩
      exact ⟨_, rfl, _, rfl, (fun h => by cases h), rfl, hI, fun _ _ _ h => h⟩
    · intro bb w' hf hI hA
      clear hi'
      have q82 : bb.tmps[82]? = some _ := hf.tmp (k := 7) rfl (by rw [ha]; decide) (hA 7 (by kernel_rfl) (.inl rfl))
      clear hA HS hK1 hK2 hX
      exact Rg.op_value (o := ⟨some 83, Op.move (Operand.tmp 82), _, _, _, _⟩) (x := .bool false) rfl rfl (by simp only [execOp]; go_simp) ⟨_, rfl, (fun h => by cases h), rfl, hI, fun _ _ _ h => h⟩
    · intro bb w' hf hI hA
      clear hi'
      have qg : bb.tmps[83]? = some _ := hf.tmp (k := 8) rfl (by rw [ha]; decide) (hA 8 (by kernel_rfl) (.inl rfl))
      exact Rg.op_none (o := ⟨some 84, _, _, _, _, _⟩) rfl (Rg.unwanted_of (g := 8) (want := true) rfl rfl qg) ⟨_, rfl, (fun h => by cases h), rfl, hI, fun _ _ _ h => h⟩
    · intro bb w' hf hI hA
      clear hi'
      have qg : bb.tmps[83]? = some _ := hf.tmp (k := 8) rfl (by rw [ha]; decide) (hA 8 (by kernel_rfl) (.inl rfl))
      exact Rg.op_none (o := ⟨some 85, _, _, _, _, _⟩) rfl (Rg.unwanted_of (g := 8) (want := true) rfl rfl qg) ⟨_, rfl, (fun h => by cases h), rfl, hI, fun _ _ _ h => h⟩
    · intro bb w' hf hI hA
      clear hi'
      have qg : bb.tmps[83]? = some _ := hf.tmp (k := 8) rfl (by rw [ha]; decide) (hA 8 (by kernel_rfl) (.inl rfl))
      exact Rg.op_none (o := ⟨some 86, _, _, _, _, _⟩) rfl (Rg.unwanted_of (g := 8) (want := true) rfl rfl qg) ⟨_, rfl, (fun h => by cases h), rfl, hI, fun _ _ _ h => h⟩
    · intro bb w' hf hI hA
      clear hi'
      have qg : bb.tmps[83]? = some _ := hf.tmp (k := 8) rfl (by rw [ha]; decide) (hA 8 (by kernel_rfl) (.inl rfl))
      exact Rg.op_none (o := ⟨some 87, _, _, _, _, _⟩) rfl (Rg.unwanted_of (g := 8) (want := true) rfl rfl qg) ⟨_, rfl, (fun h => by cases h), rfl, hI, fun _ _ _ h => h⟩
    · intro bb w' hf hI hA
      clear hi'
      have qg : bb.tmps[83]? = some _ := hf.tmp (k := 8) rfl (by rw [ha]; decide) (hA 8 (by kernel_rfl) (.inl rfl))
      exact Rg.op_none (o := ⟨some 88, _, _, _, _, _⟩) rfl (Rg.unwanted_of (g := 8) (want := true) rfl rfl qg) ⟨_, rfl, (fun h => by cases h), rfl, hI, fun _ _ _ h => h⟩
    · intro bb w' hf hI hA
      clear hi'
      have qg : bb.tmps[83]? = some _ := hf.tmp (k := 8) rfl (by rw [ha]; decide) (hA 8 (by kernel_rfl) (.inl rfl))
      exact Rg.op_none (o := ⟨some 89, _, _, _, _, _⟩) rfl (Rg.unwanted_of (g := 8) (want := true) rfl rfl qg) ⟨_, rfl, (fun h => by cases h), rfl, hI, fun _ _ _ h => h⟩
    · intro bb w' hf hI hA
      clear hi'
      have qg : bb.tmps[83]? = some _ := hf.tmp (k := 8) rfl (by rw [ha]; decide) (hA 8 (by kernel_rfl) (.inl rfl))
      exact Rg.op_none (o := ⟨some 90, _, _, _, _, _⟩) rfl (Rg.unwanted_of (g := 8) (want := true) rfl rfl qg) ⟨_, rfl, (fun h => by cases h), rfl, hI, fun _ _ _ h => h⟩
    · intro bb w' hf hI hA
      clear hi'
      have qg : bb.tmps[83]? = some _ := hf.tmp (k := 8) rfl (by rw [ha]; decide) (hA 8 (by kernel_rfl) (.inl rfl))
      exact Rg.op_none (o := ⟨some 91, _, _, _, _, _⟩) rfl (Rg.unwanted_of (g := 8) (want := true) rfl rfl qg) ⟨_, rfl, (fun h => by cases h), rfl, hI, fun _ _ _ h => h⟩
    · intro bb w' hf hI hA
      clear hi'
      have q83 : bb.tmps[83]? = some _ := hf.tmp (k := 8) rfl (by rw [ha]; decide) (hA 8 (by kernel_rfl) (.inl rfl))
      clear hA HS hK1 hK2 hX
      exact Rg.op_value (o := ⟨some 92, Op.pick (Operand.tmp 83) (Operand.tmp 91) (Operand.const (Value.bool false)), _, _, _, _⟩) (x := .bool false) rfl rfl (by simp only [execOp]; go_simp) ⟨_, rfl, (fun h => by cases h), rfl, hI, fun _ _ _ h => h⟩
    · intro bb w' hf hI hA
      clear hi'
      have q92 : bb.tmps[92]? = some _ := hf.tmp (k := 17) rfl (by rw [ha]; decide) (hA 17 (by kernel_rfl) (.inl rfl))
      clear hA HS hK1 hK2 hX
      exact Rg.op_value (o := ⟨some 13, Op.assign (Operand.tmp 92), _, _, _, _⟩) (x := .bool false) rfl rfl (by simp only [execOp]; go_simp) ⟨_, rfl, (fun h => by cases h), rfl, hI, fun _ _ _ h => h⟩

theorem dS25f_0 : Rg.dstAt (Rg.opsOf Try.f15 25) 0 = some 75 := by kernel_rfl
theorem dS25f_1 : Rg.dstAt (Rg.opsOf Try.f15 25) 1 = some 76 := by kernel_rfl
theorem dS25f_2 : Rg.dstAt (Rg.opsOf Try.f15 25) 2 = some 77 := by kernel_rfl
theorem dS25f_3 : Rg.dstAt (Rg.opsOf Try.f15 25) 3 = some 78 := by kernel_rfl
theorem dS25f_4 : Rg.dstAt (Rg.opsOf Try.f15 25) 4 = some 79 := by kernel_rfl
theorem dS25f_5 : Rg.dstAt (Rg.opsOf Try.f15 25) 5 = some 80 := by kernel_rfl
theorem dS25f_6 : Rg.dstAt (Rg.opsOf Try.f15 25) 6 = some 81 := by kernel_rfl
theorem dS25f_7 : Rg.dstAt (Rg.opsOf Try.f15 25) 7 = some 82 := by kernel_rfl
theorem dS25f_8 : Rg.dstAt (Rg.opsOf Try.f15 25) 8 = some 83 := by kernel_rfl
theorem dS25f_9 : Rg.dstAt (Rg.opsOf Try.f15 25) 9 = some 84 := by kernel_rfl
theorem dS25f_10 : Rg.dstAt (Rg.opsOf Try.f15 25) 10 = some 85 := by kernel_rfl
theorem dS25f_11 : Rg.dstAt (Rg.opsOf Try.f15 25) 11 = some 86 := by kernel_rfl
theorem dS25f_12 : Rg.dstAt (Rg.opsOf Try.f15 25) 12 = some 87 := by kernel_rfl
theorem dS25f_13 : Rg.dstAt (Rg.opsOf Try.f15 25) 13 = some 88 := by kernel_rfl
theorem dS25f_14 : Rg.dstAt (Rg.opsOf Try.f15 25) 14 = some 89 := by kernel_rfl
theorem dS25f_15 : Rg.dstAt (Rg.opsOf Try.f15 25) 15 = some 90 := by kernel_rfl
theorem dS25f_16 : Rg.dstAt (Rg.opsOf Try.f15 25) 16 = some 91 := by kernel_rfl
theorem dS25f_17 : Rg.dstAt (Rg.opsOf Try.f15 25) 17 = some 92 := by kernel_rfl
theorem dS25f_18 : Rg.dstAt (Rg.opsOf Try.f15 25) 18 = some 13 := by kernel_rfl
theorem layS25f {a b : Act} (hf : Rg.Fr (Rg.opsOf Try.f15 25) a b) : b = (((((((((((((((((((a.put (some 75) (Rg.out (Rg.opsOf Try.f15 25) b 0)).put (some 76) (Rg.out (Rg.opsOf Try.f15 25) b 1)).put (some 77) (Rg.out (Rg.opsOf Try.f15 25) b 2)).put (some 78) (Rg.out (Rg.opsOf Try.f15 25) b 3)).put (some 79) (Rg.out (Rg.opsOf Try.f15 25) b 4)).put (some 80) (Rg.out (Rg.opsOf Try.f15 25) b 5)).put (some 81) (Rg.out (Rg.opsOf Try.f15 25) b 6)).put (some 82) (Rg.out (Rg.opsOf Try.f15 25) b 7)).put (some 83) (Rg.out (Rg.opsOf Try.f15 25) b 8)).put (some 84) (Rg.out (Rg.opsOf Try.f15 25) b 9)).put (some 85) (Rg.out (Rg.opsOf Try.f15 25) b 10)).put (some 86) (Rg.out (Rg.opsOf Try.f15 25) b 11)).put (some 87) (Rg.out (Rg.opsOf Try.f15 25) b 12)).put (some 88) (Rg.out (Rg.opsOf Try.f15 25) b 13)).put (some 89) (Rg.out (Rg.opsOf Try.f15 25) b 14)).put (some 90) (Rg.out (Rg.opsOf Try.f15 25) b 15)).put (some 91) (Rg.out (Rg.opsOf Try.f15 25) b 16)).put (some 92) (Rg.out (Rg.opsOf Try.f15 25) b 17)).put (some 13) (Rg.out (Rg.opsOf Try.f15 25) b 18)) := by
  have h := hf.chain
  rw [sizeS25f, show List.range 19 = [0, 1, 2, 3, 4, 5, 6, 7, 8, 9, 10, 11, 12, 13, 14, 15, 16, 17, 18] from by decide] at h
  simp only [List.foldl_cons, List.foldl_nil, dS25f_0, dS25f_1, dS25f_2, dS25f_3, dS25f_4, dS25f_5, dS25f_6, dS25f_7, dS25f_8, dS25f_9, dS25f_10, dS25f_11, dS25f_12, dS25f_13, dS25f_14, dS25f_15, dS25f_16, dS25f_17, dS25f_18] at h
  exact h

def FS25t (dg doff dn dc i k RX : Nat) (r : Ru) (ta tb : Option Addr) (na nb tc td : Nat) (T2 : Bool) (i9 : Nat) (v : Value) (w : World) : Prop :=
  match i9 with
  | 0 => v = .slice (some ⟨dg, doff, none⟩) dn dc
  | 1 => v = .int .i64 (i : Nat)
  | 2 => v = .pointer (some ⟨dg, doff + i * 6, none⟩)
  | 3 => v = .pointer (some ⟨dg, doff + i * 6 + 1, none⟩)
  | 4 => v = .slice ta na tc
  | 5 => v = .pointer (some ⟨RX, 0, none⟩)
  | 6 => v = .int .i64 r.a
  | 7 => v = .bool true
  | 8 => v = .bool true
  | 9 => v = .slice (some ⟨dg, doff, none⟩) dn dc
  | 10 => v = .int .i64 (k : Nat)
  | 11 => v = .pointer (some ⟨dg, doff + k * 6, none⟩)
  | 12 => v = .pointer (some ⟨dg, doff + k * 6 + 1, none⟩)
  | 13 => v = .slice tb nb td
  | 14 => v = .pointer (some ⟨RX, 1, none⟩)
  | 15 => v = .int .i64 r.b
  | 16 => v = .bool T2
  | 17 => v = .bool T2
  | 18 => v = .bool T2
  | _ => True
theorem sizeS25t : (Rg.opsOf Try.f15 25).size = 19 := by kernel_rfl

set_option maxRecDepth 20000 in
set_option maxHeartbeats 8000000 in
theorem regS25t {Q : Exit → Act → World → Prop} {a : Act} {w9 : World} {dg doff dn dc i k RX : Nat} {r : Ru} {ta tb : Option Addr} {na nb tc td : Nat} {T2 : Bool} (ha : a.tmps.size = 140)
    (k0 : a.tmps[0]? = some (.slice (some ⟨dg, doff, none⟩) dn dc)) (k8 : a.tmps[8]? = some (.int .i64 (i : Nat))) (k9 : a.tmps[9]? = some (.int .i64 (k : Nat))) (k12 : a.tmps[12]? = some (.pointer (some ⟨RX, 0, none⟩))) (hin : i < dn) (hkn : k < dn) (hgl : dg < w9.heap.size) (hci : w9.cell? ⟨dg, doff + i * 6 + 1, none⟩ = some (.slice ta na tc)) (hck : w9.cell? ⟨dg, doff + k * 6 + 1, none⟩ = some (.slice tb nb td)) (hX : PB w9 RX #[.int .i64 r.a, .int .i64 r.b, .int .i64 r.g] 41) (hK1 : ∀ W, Below w9.heap.size w9 W → Calls Try.prog 42 #[.slice ta na tc, .int .i64 r.a] W fun e W' => e = .returned (.bool true) ∧ W' = W) (hK2 : ∀ W, Below w9.heap.size w9 W → Calls Try.prog 42 #[.slice tb nb td, .int .i64 r.b] W fun e W' => e = .returned (.bool T2) ∧ W' = W)
    (hend : ∀ b' w', Rg.Fr (Rg.opsOf Try.f15 25) a b' → Below w9.heap.size w9 w' → Rg.out (Rg.opsOf Try.f15 25) b' 18 = .bool T2 → Q .normal b' w') :
    (Code.region 25 (Rg.opsOf Try.f15 25) true).wp Try.prog Q a w9 := by
  refine Rg.region_dead (by kernel_rfl) (fun w' => Below w9.heap.size w9 w') (FS25t dg doff dn dc i k RX r ta tb na nb tc td T2) (fun _ => none) (by rw [ha, sizeS25t]; kernel_rfl) (st_drew (Below.refl _ _)) ?_ ?_
  case refine_2 =>
    intro b' w' hf hI hA
    rw [sizeS25t] at hA
    exact hend b' w' hf hI (hA 18 (by decide) rfl)
  case refine_1 =>
    clear hend
    have HS : ∀ {w w' : World}, Below w.heap.size w w' → ∀ k9 y9, FS25t dg doff dn dc i k RX r ta tb na nb tc td T2 k9 y9 w → FS25t dg doff dn dc i k RX r ta tb na nb tc td T2 k9 y9 w' := fun hb k9 y9 h => by
      unfold FS25t at *
      split at h <;> exact h
    intro i' hi'
    rw [sizeS25t] at hi'
    rcases (show i' = 0 ∨ i' = 1 ∨ i' = 2 ∨ i' = 3 ∨ i' = 4 ∨ i' = 5 ∨ i' = 6 ∨ i' = 7 ∨ i' = 8 ∨ i' = 9 ∨ i' = 10 ∨ i' = 11 ∨ i' = 12 ∨ i' = 13 ∨ i' = 14 ∨ i' = 15 ∨ i' = 16 ∨ i' = 17 ∨ i' = 18 by omega) with rfl | rfl | rfl | rfl | rfl | rfl | rfl | rfl | rfl | rfl | rfl | rfl | rfl | rfl | rfl | rfl | rfl | rfl | rfl
    · intro bb w' hf hI hA
      clear hi'
      have q0 := hf.kept (s := 0) (by rw [sizeS25t]; kernel_rfl) k0
      exact Rg.op_value (o := ⟨some 75, Op.move (Operand.tmp 0), _, _, _, _⟩) rfl rfl rfl ⟨_, rfl, (fun h => by cases h), (by show Act.eval bb _ = _; simp [Act.eval, q0]), hI, fun _ _ _ h => h⟩
    · intro bb w' hf hI hA
      clear hi'
      have q0 := hf.kept (s := 8) (by rw [sizeS25t]; kernel_rfl) k8
      exact Rg.op_value (o := ⟨some 76, Op.move (Operand.tmp 8), _, _, _, _⟩) rfl rfl rfl ⟨_, rfl, (fun h => by cases h), (by show Act.eval bb _ = _; simp [Act.eval, q0]), hI, fun _ _ _ h => h⟩
    · intro bb w' hf hI hA
      clear hi'
      have q75 : bb.tmps[75]? = some _ := hf.tmp (k := 0) rfl (by rw [ha]; decide) (hA 0 (by kernel_rfl) (.inl rfl))
      have q76 : bb.tmps[76]? = some _ := hf.tmp (k := 1) rfl (by rw [ha]; decide) (hA 1 (by kernel_rfl) (.inl rfl))
      have hin2 : (i : Int) < (dn : Int) := by omega
      clear hA HS hK1 hK2 hX
      exact Rg.op_value (o := ⟨some 77, Op.indexAddr 31 (Operand.tmp 75) (Operand.tmp 76), _, _, _, _⟩) (x := .pointer (some ⟨dg, doff + i * 6, none⟩)) rfl rfl (by simp only [execOp]; go_simp) ⟨_, rfl, (fun h => by cases h), rfl, hI, fun _ _ _ h => h⟩
    · intro bb w' hf hI hA
      clear hi'
      have q77 : bb.tmps[77]? = some _ := hf.tmp (k := 2) rfl (by rw [ha]; decide) (hA 2 (by kernel_rfl) (.inl rfl))
      clear hA HS hK1 hK2 hX
      exact Rg.op_value (o := ⟨some 78, Op.fieldAddr 26 (Operand.tmp 77) 1, _, _, _, _⟩) (x := .pointer (some ⟨dg, doff + i * 6 + 1, none⟩)) rfl rfl (by simp only [execOp]; go_simp) ⟨_, rfl, (fun h => by cases h), rfl, hI, fun _ _ _ h => h⟩
    · intro bb w' hf hI hA
      clear hi'
      have q78 : bb.tmps[78]? = some _ := hf.tmp (k := 3) rfl (by rw [ha]; decide) (hA 3 (by kernel_rfl) (.inl rfl))
      have e9 := (hI.cell (p := ⟨dg, doff + i * 6 + 1, none⟩) hgl).trans hci
      clear hA HS hK1 hK2 hX
      exact Rg.op_value (o := ⟨some 79, Op.load 24 (Operand.tmp 78), _, _, _, _⟩) (x := .slice ta na tc) rfl rfl (by simp only [execOp]; go_simp) ⟨_, rfl, (fun h => by cases h), rfl, hI, fun _ _ _ h => h⟩
    · intro bb w' hf hI hA
      clear hi'
      have q12 := hf.kept (s := 12) (by rw [sizeS25t]; kernel_rfl) k12
      clear hA HS hK1 hK2 hX
      exact Rg.op_value (o := ⟨some 80, Op.fieldAddr 41 (Operand.tmp 12) 0, _, _, _, _⟩) (x := .pointer (some ⟨RX, 0, none⟩)) rfl rfl (by simp only [execOp]; go_simp) ⟨_, rfl, (fun h => by cases h), rfl, hI, fun _ _ _ h => h⟩
    · intro bb w' hf hI hA
      clear hi'
      have q80 : bb.tmps[80]? = some _ := hf.tmp (k := 5) rfl (by rw [ha]; decide) (hA 5 (by kernel_rfl) (.inl rfl))
      obtain ⟨e0, e1, e2⟩ := (hX.below hI).three
      clear hA HS hK1 hK2 hX
      exact Rg.op_value (o := ⟨some 81, Op.load 2 (Operand.tmp 80), _, _, _, _⟩) (x := .int .i64 r.a) rfl rfl (by simp only [execOp]; go_simp) ⟨_, rfl, (fun h => by cases h), rfl, hI, fun _ _ _ h => h⟩
    · intro bb w' hf hI hA
      clear hi'
      have q79 : bb.tmps[79]? = some _ := hf.tmp (k := 4) rfl (by rw [ha]; decide) (hA 4 (by kernel_rfl) (.inl rfl))
      have q81 : bb.tmps[81]? = some _ := hf.tmp (k := 6) rfl (by rw [ha]; decide) (hA 6 (by kernel_rfl) (.inl rfl))
      refine Rg.op_call (o := ⟨some 82, Op.call { callee := Callee.value (Operand.func 42), args := #[(Operand.tmp 79), (Operand.tmp 81)], argTypes := _ }, _, _, _, _⟩) rfl rfl (by clear hA HS hK1 hK2 hX; simp only [execOp, resolve]; go_simp) (hK1 w' hI) ?_
      rintro e w2 ⟨rfl, rfl⟩
      exact ⟨_, rfl, _, rfl, (fun h => by cases h), rfl, hI, fun _ _ _ h => h⟩
    · intro bb w' hf hI hA
      clear hi'
      have q82 : bb.tmps[82]? = some _ := hf.tmp (k := 7) rfl (by rw [ha]; decide) (hA 7 (by kernel_rfl) (.inl rfl))
      clear hA HS hK1 hK2 hX
      exact Rg.op_value (o := ⟨some 83, Op.move (Operand.tmp 82), _, _, _, _⟩) (x := .bool true) rfl rfl (by simp only [execOp]; go_simp) ⟨_, rfl, (fun h => by cases h), rfl, hI, fun _ _ _ h => h⟩
    · intro bb w' hf hI hA
      clear hi'
      have qg : bb.tmps[83]? = some _ := hf.tmp (k := 8) rfl (by rw [ha]; decide) (hA 8 (by kernel_rfl) (.inl rfl))
      have q0 := hf.kept (s := 0) (by rw [sizeS25t]; kernel_rfl) k0
      exact Rg.op_value (o := ⟨some 84, Op.move (Operand.tmp 0), _, _, _, _⟩) rfl (Rg.wanted_of (g := 8) rfl rfl qg) rfl ⟨_, rfl, (fun h => by cases h), (by show Act.eval bb _ = _; simp [Act.eval, q0]), hI, fun _ _ _ h => h⟩
    · intro bb w' hf hI hA
      clear hi'
      have qg : bb.tmps[83]? = some _ := hf.tmp (k := 8) rfl (by rw [ha]; decide) (hA 8 (by kernel_rfl) (.inl rfl))
      have q0 := hf.kept (s := 9) (by rw [sizeS25t]; kernel_rfl) k9
      exact Rg.op_value (o := ⟨some 85, Op.move (Operand.tmp 9), _, _, _, _⟩) rfl (Rg.wanted_of (g := 8) rfl rfl qg) rfl ⟨_, rfl, (fun h => by cases h), (by show Act.eval bb _ = _; simp [Act.eval, q0]), hI, fun _ _ _ h => h⟩
    · intro bb w' hf hI hA
      clear hi'
      have qg : bb.tmps[83]? = some _ := hf.tmp (k := 8) rfl (by rw [ha]; decide) (hA 8 (by kernel_rfl) (.inl rfl))
      have q84 : bb.tmps[84]? = some _ := hf.tmp (k := 9) rfl (by rw [ha]; decide) (hA 9 (by kernel_rfl) (.inl rfl))
      have q85 : bb.tmps[85]? = some _ := hf.tmp (k := 10) rfl (by rw [ha]; decide) (hA 10 (by kernel_rfl) (.inl rfl))
      have hin2 : (k : Int) < (dn : Int) := by omega
      clear hA HS hK1 hK2 hX
      exact Rg.op_value (o := ⟨some 86, Op.indexAddr 31 (Operand.tmp 84) (Operand.tmp 85), _, _, _, _⟩) (x := .pointer (some ⟨dg, doff + k * 6, none⟩)) rfl (Rg.wanted_of (g := 8) rfl rfl qg) (by simp only [execOp]; go_simp) ⟨_, rfl, (fun h => by cases h), rfl, hI, fun _ _ _ h => h⟩
    · intro bb w' hf hI hA
      clear hi'
      have qg : bb.tmps[83]? = some _ := hf.tmp (k := 8) rfl (by rw [ha]; decide) (hA 8 (by kernel_rfl) (.inl rfl))
      have q86 : bb.tmps[86]? = some _ := hf.tmp (k := 11) rfl (by rw [ha]; decide) (hA 11 (by kernel_rfl) (.inl rfl))
      clear hA HS hK1 hK2 hX
      exact Rg.op_value (o := ⟨some 87, Op.fieldAddr 26 (Operand.tmp 86) 1, _, _, _, _⟩) (x := .pointer (some ⟨dg, doff + k * 6 + 1, none⟩)) rfl (Rg.wanted_of (g := 8) rfl rfl qg) (by simp only [execOp]; go_simp) ⟨_, rfl, (fun h => by cases h), rfl, hI, fun _ _ _ h => h⟩
    · intro bb w' hf hI hA
      clear hi'
      have qg : bb.tmps[83]? = some _ := hf.tmp (k := 8) rfl (by rw [ha]; decide) (hA 8 (by kernel_rfl) (.inl rfl))
      have q87 : bb.tmps[87]? = some _ := hf.tmp (k := 12) rfl (by rw [ha]; decide) (hA 12 (by kernel_rfl) (.inl rfl))
      have e9 := (hI.cell (p := ⟨dg, doff + k * 6 + 1, none⟩) hgl).trans hck
      clear hA HS hK1 hK2 hX
      exact Rg.op_value (o := ⟨some 88, Op.load 24 (Operand.tmp 87), _, _, _, _⟩) (x := .slice tb nb td) rfl (Rg.wanted_of (g := 8) rfl rfl qg) (by simp only [execOp]; go_simp) ⟨_, rfl, (fun h => by cases h), rfl, hI, fun _ _ _ h => h⟩
    · intro bb w' hf hI hA
      clear hi'
      have qg : bb.tmps[83]? = some _ := hf.tmp (k := 8) rfl (by rw [ha]; decide) (hA 8 (by kernel_rfl) (.inl rfl))
      have q12 := hf.kept (s := 12) (by rw [sizeS25t]; kernel_rfl) k12
      clear hA HS hK1 hK2 hX
      exact Rg.op_value (o := ⟨some 89, Op.fieldAddr 41 (Operand.tmp 12) 1, _, _, _, _⟩) (x := .pointer (some ⟨RX, 1, none⟩)) rfl (Rg.wanted_of (g := 8) rfl rfl qg) (by simp only [execOp]; go_simp) ⟨_, rfl, (fun h => by cases h), rfl, hI, fun _ _ _ h => h⟩
    · intro bb w' hf hI hA
      clear hi'
      have qg : bb.tmps[83]? = some _ := hf.tmp (k := 8) rfl (by rw [ha]; decide) (hA 8 (by kernel_rfl) (.inl rfl))
      have q89 : bb.tmps[89]? = some _ := hf.tmp (k := 14) rfl (by rw [ha]; decide) (hA 14 (by kernel_rfl) (.inl rfl))
      obtain ⟨e0, e1, e2⟩ := (hX.below hI).three
      clear hA HS hK1 hK2 hX
      exact Rg.op_value (o := ⟨some 90, Op.load 2 (Operand.tmp 89), _, _, _, _⟩) (x := .int .i64 r.b) rfl (Rg.wanted_of (g := 8) rfl rfl qg) (by simp only [execOp]; go_simp) ⟨_, rfl, (fun h => by cases h), rfl, hI, fun _ _ _ h => h⟩
    · intro bb w' hf hI hA
      clear hi'
      have qg : bb.tmps[83]? = some _ := hf.tmp (k := 8) rfl (by rw [ha]; decide) (hA 8 (by kernel_rfl) (.inl rfl))
      have q88 : bb.tmps[88]? = some _ := hf.tmp (k := 13) rfl (by rw [ha]; decide) (hA 13 (by kernel_rfl) (.inl rfl))
      have q90 : bb.tmps[90]? = some _ := hf.tmp (k := 15) rfl (by rw [ha]; decide) (hA 15 (by kernel_rfl) (.inl rfl))
      refine Rg.op_call (o := ⟨some 91, Op.call { callee := Callee.value (Operand.func 42), args := #[(Operand.tmp 88), (Operand.tmp 90)], argTypes := _ }, _, _, _, _⟩) rfl (Rg.wanted_of (g := 8) rfl rfl qg) (by clear hA HS hK1 hK2 hX; simp only [execOp, resolve]; go_simp) (hK2 w' hI) ?_
      rintro e w2 ⟨rfl, rfl⟩
      exact ⟨_, rfl, _, rfl, (fun h => by cases h), rfl, hI, fun _ _ _ h => h⟩
    · intro bb w' hf hI hA
      clear hi'
      have q83 : bb.tmps[83]? = some _ := hf.tmp (k := 8) rfl (by rw [ha]; decide) (hA 8 (by kernel_rfl) (.inl rfl))
      have q91 : bb.tmps[91]? = some _ := hf.tmp (k := 16) rfl (by rw [ha]; decide) (hA 16 (by kernel_rfl) (.inl rfl))
      clear hA HS hK1 hK2 hX
      exact Rg.op_value (o := ⟨some 92, Op.pick (Operand.tmp 83) (Operand.tmp 91) (Operand.const (Value.bool false)), _, _, _, _⟩) (x := .bool T2) rfl rfl (by simp only [execOp]; go_simp) ⟨_, rfl, (fun h => by cases h), rfl, hI, fun _ _ _ h => h⟩
    · intro bb w' hf hI hA
      clear hi'
      have q92 : bb.tmps[92]? = some _ := hf.tmp (k := 17) rfl (by rw [ha]; decide) (hA 17 (by kernel_rfl) (.inl rfl))
      clear hA HS hK1 hK2 hX
      exact Rg.op_value (o := ⟨some 13, Op.assign (Operand.tmp 92), _, _, _, _⟩) (x := .bool T2) rfl rfl (by simp only [execOp]; go_simp) ⟨_, rfl, (fun h => by cases h), rfl, hI, fun _ _ _ h => h⟩

theorem regS25 {Q : Exit → Act → World → Prop} {a : Act} {w9 : World} {dg doff dn dc i k RX : Nat} {r : Ru} {ta tb : Option Addr} {na nb tc td : Nat} {T2 : Bool} {T1 : Bool} (ha : a.tmps.size = 140)
    (k0 : a.tmps[0]? = some (.slice (some ⟨dg, doff, none⟩) dn dc)) (k8 : a.tmps[8]? = some (.int .i64 (i : Nat))) (k9 : a.tmps[9]? = some (.int .i64 (k : Nat))) (k12 : a.tmps[12]? = some (.pointer (some ⟨RX, 0, none⟩))) (hin : i < dn) (hkn : k < dn) (hgl : dg < w9.heap.size) (hci : w9.cell? ⟨dg, doff + i * 6 + 1, none⟩ = some (.slice ta na tc)) (hck : w9.cell? ⟨dg, doff + k * 6 + 1, none⟩ = some (.slice tb nb td)) (hX : PB w9 RX #[.int .i64 r.a, .int .i64 r.b, .int .i64 r.g] 41) (hK1 : ∀ W, Below w9.heap.size w9 W → Calls Try.prog 42 #[.slice ta na tc, .int .i64 r.a] W fun e W' => e = .returned (.bool T1) ∧ W' = W) (hK2 : ∀ W, Below w9.heap.size w9 W → Calls Try.prog 42 #[.slice tb nb td, .int .i64 r.b] W fun e W' => e = .returned (.bool T2) ∧ W' = W)
    (hend : ∀ b' w', Rg.Fr (Rg.opsOf Try.f15 25) a b' → Below w9.heap.size w9 w' → Rg.out (Rg.opsOf Try.f15 25) b' 18 = .bool (T1 && T2) → Q .normal b' w') :
    (Code.region 25 (Rg.opsOf Try.f15 25) true).wp Try.prog Q a w9 := by
  cases T1 with
  | false => exact regS25f (T2 := T2) ha k0 k8 k9 k12 hin hkn hgl hci hck hX hK1 hK2 hend
  | true => exact regS25t ha k0 k8 k9 k12 hin hkn hgl hci hck hX hK1 hK2 hend

def FS26f (dg doff dn dc i k RX : Nat) (r : Ru) (ta tb : Option Addr) (na nb tc td : Nat) (T2 : Bool) (i9 : Nat) (v : Value) (w : World) : Prop :=
  match i9 with
  | 0 => v = .slice (some ⟨dg, doff, none⟩) dn dc
  | 1 => v = .int .i64 (i : Nat)
  | 2 => v = .pointer (some ⟨dg, doff + i * 6, none⟩)
  | 3 => v = .pointer (some ⟨dg, doff + i * 6 + 1, none⟩)
  | 4 => v = .slice ta na tc
  | 5 => v = .pointer (some ⟨RX, 1, none⟩)
  | 6 => v = .int .i64 r.b
  | 7 => v = .bool false
  | 8 => v = .bool false
  | 9 => v = undef
  | 10 => v = undef
  | 11 => v = undef
  | 12 => v = undef
  | 13 => v = undef
  | 14 => v = undef
  | 15 => v = undef
  | 16 => v = undef
  | 17 => v = .bool false
  | 18 => v = .bool false
  | _ => True
theorem sizeS26f : (Rg.opsOf Try.f15 26).size = 19 := by kernel_rfl

set_option maxRecDepth 20000 in
set_option maxHeartbeats 8000000 in
theorem regS26f {Q : Exit → Act → World → Prop} {a : Act} {w9 : World} {dg doff dn dc i k RX : Nat} {r : Ru} {ta tb : Option Addr} {na nb tc td : Nat} {T2 : Bool} (ha : a.tmps.size = 140)
    (k0 : a.tmps[0]? = some (.slice (some ⟨dg, doff, none⟩) dn dc)) (k8 : a.tmps[8]? = some (.int .i64 (i : Nat))) (k9 : a.tmps[9]? = some (.int .i64 (k : Nat))) (k12 : a.tmps[12]? = some (.pointer (some ⟨RX, 0, none⟩))) (hin : i < dn) (hkn : k < dn) (hgl : dg < w9.heap.size) (hci : w9.cell? ⟨dg, doff + i * 6 + 1, none⟩ = some (.slice ta na tc)) (hck : w9.cell? ⟨dg, doff + k * 6 + 1, none⟩ = some (.slice tb nb td)) (hX : PB w9 RX #[.int .i64 r.a, .int .i64 r.b, .int .i64 r.g] 41) (hK1 : ∀ W, Below w9.heap.size w9 W → Calls Try.prog 42 #[.slice ta na tc, .int .i64 r.b] W fun e W' => e = .returned (.bool false) ∧ W' = W) (hK2 : ∀ W, Below w9.heap.size w9 W → Calls Try.prog 42 #[.slice tb nb td, .int .i64 r.a] W fun e W' => e = .returned (.bool T2) ∧ W' = W)
    (hend : ∀ b' w', Rg.Fr (Rg.opsOf Try.f15 26) a b' → Below w9.heap.size w9 w' → Rg.out (Rg.opsOf Try.f15 26) b' 18 = .bool false → Q .normal b' w') :
    (Code.region 26 (Rg.opsOf Try.f15 26) true).wp Try.prog Q a w9 := by
  refine Rg.region_dead (by kernel_rfl) (fun w' => Below w9.heap.size w9 w') (FS26f dg doff dn dc i k RX r ta tb na nb tc td T2) (fun _ => none) (by rw [ha, sizeS26f]; kernel_rfl) (st_drew (Below.refl _ _)) ?_ ?_
  case refine_2 =>
    intro b' w' hf hI hA
    rw [sizeS26f] at hA
    exact hend b' w' hf hI (hA 18 (by decide) rfl)
  case refine_1 =>
    clear hend
    have HS : ∀ {w w' : World}, Below w.heap.size w w' → ∀ k9 y9, FS26f dg doff dn dc i k RX r ta tb na nb tc td T2 k9 y9 w → FS26f dg doff dn dc i k RX r ta tb na nb tc td T2 k9 y9 w' := fun hb k9 y9 h => by
      unfold FS26f at *
      split at h <;> exact h
    intro i' hi'
    rw [sizeS26f] at hi'
    rcases (show i' = 0 ∨ i' = 1 ∨ i' = 2 ∨ i' = 3 ∨ i' = 4 ∨ i' = 5 ∨ i' = 6 ∨ i' = 7 ∨ i' = 8 ∨ i' = 9 ∨ i' = 10 ∨ i' = 11 ∨ i' = 12 ∨ i' = 13 ∨ i' = 14 ∨ i' = 15 ∨ i' = 16 ∨ i' = 17 ∨ i' = 18 by omega) with rfl | rfl | rfl | rfl | rfl | rfl | rfl | rfl | rfl | rfl | rfl | rfl | rfl | rfl | rfl | rfl | rfl | rfl | rfl
    · intro bb w' hf hI hA
      clear hi'
      have q0 := hf.kept (s := 0) (by rw [sizeS26f]; kernel_rfl) k0
      exact Rg.op_value (o := ⟨some 93, Op.move (Operand.tmp 0), _, _, _, _⟩) rfl rfl rfl ⟨_, rfl, (fun h => by cases h), (by show Act.eval bb _ = _; simp [Act.eval, q0]), hI, fun _ _ _ h => h⟩
    · intro bb w' hf hI hA
      clear hi'
      have q0 := hf.kept (s := 8) (by rw [sizeS26f]; kernel_rfl) k8
      exact Rg.op_value (o := ⟨some 94, Op.move (Operand.tmp 8), _, _, _, _⟩) rfl rfl rfl ⟨_, rfl, (fun h => by cases h), (by show Act.eval bb _ = _; simp [Act.eval, q0]), hI, fun _ _ _ h => h⟩
    · intro bb w' hf hI hA
      clear hi'
      have q93 : bb.tmps[93]? = some _ := hf.tmp (k := 0) rfl (by rw [ha]; decide) (hA 0 (by kernel_rfl) (.inl rfl))
      have q94 : bb.tmps[94]? = some _ := hf.tmp (k := 1) rfl (by rw [ha]; decide) (hA 1 (by kernel_rfl) (.inl rfl))
      have hin2 : (i : Int) < (dn : Int) := by omega
      clear hA HS hK1 hK2 hX
      exact Rg.op_value (o := ⟨some 95, Op.indexAddr 31 (Operand.tmp 93) (Operand.tmp 94), _, _, _, _⟩) (x := .pointer (some ⟨dg, doff + i * 6, none⟩)) rfl rfl (by simp only [execOp]; go_simp) ⟨_, rfl, (fun h => by cases h), rfl, hI, fun _ _ _ h => h⟩
    · intro bb w' hf hI hA
      clear hi'
      have q95 : bb.tmps[95]? = some _ := hf.tmp (k := 2) rfl (by rw [ha]; decide) (hA 2 (by kernel_rfl) (.inl rfl))
      clear hA HS hK1 hK2 hX
      exact Rg.op_value (o := ⟨some 96, Op.fieldAddr 26 (Operand.tmp 95) 1, _, _, _, _⟩) (x := .pointer (some ⟨dg, doff + i * 6 + 1, none⟩)) rfl rfl (by simp only [execOp]; go_simp) ⟨_, rfl, (fun h => by cases h), rfl, hI, fun _ _ _ h => h⟩
    · intro bb w' hf hI hA
      clear hi'
      have q96 : bb.tmps[96]? = some _ := hf.tmp (k := 3) rfl (by rw [ha]; decide) (hA 3 (by kernel_rfl) (.inl rfl))
      have e9 := (hI.cell (p := ⟨dg, doff + i * 6 + 1, none⟩) hgl).trans hci
      clear hA HS hK1 hK2 hX
      exact Rg.op_value (o := ⟨some 97, Op.load 24 (Operand.tmp 96), _, _, _, _⟩) (x := .slice ta na tc) rfl rfl (by simp only [execOp]; go_simp) ⟨_, rfl, (fun h => by cases h), rfl, hI, fun _ _ _ h => h⟩
    · intro bb w' hf hI hA
      clear hi'
      have q12 := hf.kept (s := 12) (by rw [sizeS26f]; kernel_rfl) k12
      clear hA HS hK1 hK2 hX
      exact Rg.op_value (o := ⟨some 98, Op.fieldAddr 41 (Operand.tmp 12) 1, _, _, _, _⟩) (x := .pointer (some ⟨RX, 1, none⟩)) rfl rfl (by simp only [execOp]; go_simp) ⟨_, rfl, (fun h => by cases h), rfl, hI, fun _ _ _ h => h⟩
    · intro bb w' hf hI hA
      clear hi'
      have q98 : bb.tmps[98]? = some _ := hf.tmp (k := 5) rfl (by rw [ha]; decide) (hA 5 (by kernel_rfl) (.inl rfl))
      obtain ⟨e0, e1, e2⟩ := (hX.below hI).three
      clear hA HS hK1 hK2 hX
      exact Rg.op_value (o := ⟨some 99, Op.load 2 (Operand.tmp 98), _, _, _, _⟩) (x := .int .i64 r.b) rfl rfl (by simp only [execOp]; go_simp) ⟨_, rfl, (fun h => by cases h), rfl, hI, fun _ _ _ h => h⟩
    · intro bb w' hf hI hA
      clear hi'
      have q97 : bb.tmps[97]? = some _ := hf.tmp (k := 4) rfl (by rw [ha]; decide) (hA 4 (by kernel_rfl) (.inl rfl))
      have q99 : bb.tmps[99]? = some _ := hf.tmp (k := 6) rfl (by rw [ha]; decide) (hA 6 (by kernel_rfl) (.inl rfl))
      refine Rg.op_call (o := ⟨some 100, Op.call { callee := Callee.value (Operand.func 42), args := #[(Operand.tmp 97), (Operand.tmp 99)], argTypes := _ }, _, _, _, _⟩) rfl rfl (by clear hA HS hK1 hK2 hX; simp only [execOp, resolve]; go_simp) (hK1 w' hI) ?_
      rintro e w2 ⟨rfl, rfl⟩
      exact ⟨_, rfl, _, rfl, (fun h => by cases h), rfl, hI, fun _ _ _ h => h⟩
    · intro bb w' hf hI hA
      clear hi'
      have q100 : bb.tmps[100]? = some _ := hf.tmp (k := 7) rfl (by rw [ha]; decide) (hA 7 (by kernel_rfl) (.inl rfl))
      clear hA HS hK1 hK2 hX
      exact Rg.op_value (o := ⟨some 101, Op.move (Operand.tmp 100), _, _, _, _⟩) (x := .bool false) rfl rfl (by simp only [execOp]; go_simp) ⟨_, rfl, (fun h => by cases h), rfl, hI, fun _ _ _ h => h⟩
    · intro bb w' hf hI hA
      clear hi'
      have qg : bb.tmps[101]? = some _ := hf.tmp (k := 8) rfl (by rw [ha]; decide) (hA 8 (by kernel_rfl) (.inl rfl))
      exact Rg.op_none (o := ⟨some 102, _, _, _, _, _⟩) rfl (Rg.unwanted_of (g := 8) (want := true) rfl rfl qg) ⟨_, rfl, (fun h => by cases h), rfl, hI, fun _ _ _ h => h⟩
    · intro bb w' hf hI hA
      clear hi'
      have qg : bb.tmps[101]? = some _ := hf.tmp (k := 8) rfl (by rw [ha]; decide) (hA 8 (by kernel_rfl) (.inl rfl))
      exact Rg.op_none (o := ⟨some 103, _, _, _, _, _⟩) rfl (Rg.unwanted_of (g := 8) (want := true) rfl rfl qg) ⟨_, rfl, (fun h => by cases h), rfl, hI, fun _ _ _ h => h⟩
    · intro bb w' hf hI hA
      clear hi'
      have qg : bb.tmps[101]? = some _ := hf.tmp (k := 8) rfl (by rw [ha]; decide) (hA 8 (by kernel_rfl) (.inl rfl))
      exact Rg.op_none (o := ⟨some 104, _, _, _, _, _⟩) rfl (Rg.unwanted_of (g := 8) (want := true) rfl rfl qg) ⟨_, rfl, (fun h => by cases h), rfl, hI, fun _ _ _ h => h⟩
    · intro bb w' hf hI hA
      clear hi'
      have qg : bb.tmps[101]? = some _ := hf.tmp (k := 8) rfl (by rw [ha]; decide) (hA 8 (by kernel_rfl) (.inl rfl))
      exact Rg.op_none (o := ⟨some 105, _, _, _, _, _⟩) rfl (Rg.unwanted_of (g := 8) (want := true) rfl rfl qg) ⟨_, rfl, (fun h => by cases h), rfl, hI, fun _ _ _ h => h⟩
    · intro bb w' hf hI hA
      clear hi'
      have qg : bb.tmps[101]? = some _ := hf.tmp (k := 8) rfl (by rw [ha]; decide) (hA 8 (by kernel_rfl) (.inl rfl))
      exact Rg.op_none (o := ⟨some 106, _, _, _, _, _⟩) rfl (Rg.unwanted_of (g := 8) (want := true) rfl rfl qg) ⟨_, rfl, (fun h => by cases h), rfl, hI, fun _ _ _ h => h⟩
    · intro bb w' hf hI hA
      clear hi'
      have qg : bb.tmps[101]? = some _ := hf.tmp (k := 8) rfl (by rw [ha]; decide) (hA 8 (by kernel_rfl) (.inl rfl))
      exact Rg.op_none (o := ⟨some 107, _, _, _, _, _⟩) rfl (Rg.unwanted_of (g := 8) (want := true) rfl rfl qg) ⟨_, rfl, (fun h => by cases h), rfl, hI, fun _ _ _ h => h⟩
    · intro bb w' hf hI hA
      clear hi'
      have qg : bb.tmps[101]? = some _ := hf.tmp (k := 8) rfl (by rw [ha]; decide) (hA 8 (by kernel_rfl) (.inl rfl))
      exact Rg.op_none (o := ⟨some 108, _, _, _, _, _⟩) rfl (Rg.unwanted_of (g := 8) (want := true) rfl rfl qg) ⟨_, rfl, (fun h => by cases h), rfl, hI, fun _ _ _ h => h⟩
    · intro bb w' hf hI hA
      clear hi'
      have qg : bb.tmps[101]? = some _ := hf.tmp (k := 8) rfl (by rw [ha]; decide) (hA 8 (by kernel_rfl) (.inl rfl))
      exact Rg.op_none (o := ⟨some 109, _, _, _, _, _⟩) rfl (Rg.unwanted_of (g := 8) (want := true) rfl rfl qg) ⟨_, rfl, (fun h => by cases h), rfl, hI, fun _ _ _ h => h⟩
    · intro bb w' hf hI hA
      clear hi'
      have q101 : bb.tmps[101]? = some _ := hf.tmp (k := 8) rfl (by rw [ha]; decide) (hA 8 (by kernel_rfl) (.inl rfl))
      clear hA HS hK1 hK2 hX
      exact Rg.op_value (o := ⟨some 110, Op.pick (Operand.tmp 101) (Operand.tmp 109) (Operand.const (Value.bool false)), _, _, _, _⟩) (x := .bool false) rfl rfl (by simp only [execOp]; go_simp) ⟨_, rfl, (fun h => by cases h), rfl, hI, fun _ _ _ h => h⟩
    · intro bb w' hf hI hA
      clear hi'
      have q110 : bb.tmps[110]? = some _ := hf.tmp (k := 17) rfl (by rw [ha]; decide) (hA 17 (by kernel_rfl) (.inl rfl))
      clear hA HS hK1 hK2 hX
      exact Rg.op_value (o := ⟨some 14, Op.assign (Operand.tmp 110), _, _, _, _⟩) (x := .bool false) rfl rfl (by simp only [execOp]; go_simp) ⟨_, rfl, (fun h => by cases h), rfl, hI, fun _ _ _ h => h⟩

theorem dS26f_0 : Rg.dstAt (Rg.opsOf Try.f15 26) 0 = some 93 := by kernel_rfl
theorem dS26f_1 : Rg.dstAt (Rg.opsOf Try.f15 26) 1 = some 94 := by kernel_rfl
theorem dS26f_2 : Rg.dstAt (Rg.opsOf Try.f15 26) 2 = some 95 := by kernel_rfl
theorem dS26f_3 : Rg.dstAt (Rg.opsOf Try.f15 26) 3 = some 96 := by kernel_rfl
theorem dS26f_4 : Rg.dstAt (Rg.opsOf Try.f15 26) 4 = some 97 := by kernel_rfl
theorem dS26f_5 : Rg.dstAt (Rg.opsOf Try.f15 26) 5 = some 98 := by kernel_rfl
theorem dS26f_6 : Rg.dstAt (Rg.opsOf Try.f15 26) 6 = some 99 := by kernel_rfl
theorem dS26f_7 : Rg.dstAt (Rg.opsOf Try.f15 26) 7 = some 100 := by kernel_rfl
theorem dS26f_8 : Rg.dstAt (Rg.opsOf Try.f15 26) 8 = some 101 := by kernel_rfl
theorem dS26f_9 : Rg.dstAt (Rg.opsOf Try.f15 26) 9 = some 102 := by kernel_rfl
theorem dS26f_10 : Rg.dstAt (Rg.opsOf Try.f15 26) 10 = some 103 := by kernel_rfl
theorem dS26f_11 : Rg.dstAt (Rg.opsOf Try.f15 26) 11 = some 104 := by kernel_rfl
theorem dS26f_12 : Rg.dstAt (Rg.opsOf Try.f15 26) 12 = some 105 := by kernel_rfl
theorem dS26f_13 : Rg.dstAt (Rg.opsOf Try.f15 26) 13 = some 106 := by kernel_rfl
theorem dS26f_14 : Rg.dstAt (Rg.opsOf Try.f15 26) 14 = some 107 := by kernel_rfl
theorem dS26f_15 : Rg.dstAt (Rg.opsOf Try.f15 26) 15 = some 108 := by kernel_rfl
theorem dS26f_16 : Rg.dstAt (Rg.opsOf Try.f15 26) 16 = some 109 := by kernel_rfl
theorem dS26f_17 : Rg.dstAt (Rg.opsOf Try.f15 26) 17 = some 110 := by kernel_rfl
theorem dS26f_18 : Rg.dstAt (Rg.opsOf Try.f15 26) 18 = some 14 := by kernel_rfl
theorem layS26f {a b : Act} (hf : Rg.Fr (Rg.opsOf Try.f15 26) a b) : b = (((((((((((((((((((a.put (some 93) (Rg.out (Rg.opsOf Try.f15 26) b 0)).put (some 94) (Rg.out (Rg.opsOf Try.f15 26) b 1)).put (some 95) (Rg.out (Rg.opsOf Try.f15 26) b 2)).put (some 96) (Rg.out (Rg.opsOf Try.f15 26) b 3)).put (some 97) (Rg.out (Rg.opsOf Try.f15 26) b 4)).put (some 98) (Rg.out (Rg.opsOf Try.f15 26) b 5)).put (some 99) (Rg.out (Rg.opsOf Try.f15 26) b 6)).put (some 100) (Rg.out (Rg.opsOf Try.f15 26) b 7)).put (some 101) (Rg.out (Rg.opsOf Try.f15 26) b 8)).put (some 102) (Rg.out (Rg.opsOf Try.f15 26) b 9)).put (some 103) (Rg.out (Rg.opsOf Try.f15 26) b 10)).put (some 104) (Rg.out (Rg.opsOf Try.f15 26) b 11)).put (some 105) (Rg.out (Rg.opsOf Try.f15 26) b 12)).put (some 106) (Rg.out (Rg.opsOf Try.f15 26) b 13)).put (some 107) (Rg.out (Rg.opsOf Try.f15 26) b 14)).put (some 108) (Rg.out (Rg.opsOf Try.f15 26) b 15)).put (some 109) (Rg.out (Rg.opsOf Try.f15 26) b 16)).put (some 110) (Rg.out (Rg.opsOf Try.f15 26) b 17)).put (some 14) (Rg.out (Rg.opsOf Try.f15 26) b 18)) := by
  have h := hf.chain
  rw [sizeS26f, show List.range 19 = [0, 1, 2, 3, 4, 5, 6, 7, 8, 9, 10, 11, 12, 13, 14, 15, 16, 17, 18] from by decide] at h
  simp only [List.foldl_cons, List.foldl_nil, dS26f_0, dS26f_1, dS26f_2, dS26f_3, dS26f_4, dS26f_5, dS26f_6, dS26f_7, dS26f_8, dS26f_9, dS26f_10, dS26f_11, dS26f_12, dS26f_13, dS26f_14, dS26f_15, dS26f_16, dS26f_17, dS26f_18] at h
  exact h

def FS26t (dg doff dn dc i k RX : Nat) (r : Ru) (ta tb : Option Addr) (na nb tc td : Nat) (T2 : Bool) (i9 : Nat) (v : Value) (w : World) : Prop :=
  match i9 with
  | 0 => v = .slice (some ⟨dg, doff, none⟩) dn dc
  | 1 => v = .int .i64 (i : Nat)
  | 2 => v = .pointer (some ⟨dg, doff + i * 6, none⟩)
  | 3 => v = .pointer (some ⟨dg, doff + i * 6 + 1, none⟩)
  | 4 => v = .slice ta na tc
  | 5 => v = .pointer (some ⟨RX, 1, none⟩)
  | 6 => v = .int .i64 r.b
  | 7 => v = .bool true
  | 8 => v = .bool true
  | 9 => v = .slice (some ⟨dg, doff, none⟩) dn dc
  | 10 => v = .int .i64 (k : Nat)
  | 11 => v = .pointer (some ⟨dg, doff + k * 6, none⟩)
  | 12 => v = .pointer (some ⟨dg, doff + k * 6 + 1, none⟩)
  | 13 => v = .slice tb nb td
  | 14 => v = .pointer (some ⟨RX, 0, none⟩)
  | 15 => v = .int .i64 r.a
  | 16 => v = .bool T2
  | 17 => v = .bool T2
  | 18 => v = .bool T2
  | _ => True
theorem sizeS26t : (Rg.opsOf Try.f15 26).size = 19 := by kernel_rfl

set_option maxRecDepth 20000 in
set_option maxHeartbeats 8000000 in
theorem regS26t {Q : Exit → Act → World → Prop} {a : Act} {w9 : World} {dg doff dn dc i k RX : Nat} {r : Ru} {ta tb : Option Addr} {na nb tc td : Nat} {T2 : Bool} (ha : a.tmps.size = 140)
    (k0 : a.tmps[0]? = some (.slice (some ⟨dg, doff, none⟩) dn dc)) (k8 : a.tmps[8]? = some (.int .i64 (i : Nat))) (k9 : a.tmps[9]? = some (.int .i64 (k : Nat))) (k12 : a.tmps[12]? = some (.pointer (some ⟨RX, 0, none⟩))) (hin : i < dn) (hkn : k < dn) (hgl : dg < w9.heap.size) (hci : w9.cell? ⟨dg, doff + i * 6 + 1, none⟩ = some (.slice ta na tc)) (hck : w9.cell? ⟨dg, doff + k * 6 + 1, none⟩ = some (.slice tb nb td)) (hX : PB w9 RX #[.int .i64 r.a, .int .i64 r.b, .int .i64 r.g] 41) (hK1 : ∀ W, Below w9.heap.size w9 W → Calls Try.prog 42 #[.slice ta na tc, .int .i64 r.b] W fun e W' => e = .returned (.bool true) ∧ W' = W) (hK2 : ∀ W, Below w9.heap.size w9 W → Calls Try.prog 42 #[.slice tb nb td, .int .i64 r.a] W fun e W' => e = .returned (.bool T2) ∧ W' = W)
    (hend : ∀ b' w', Rg.Fr (Rg.opsOf Try.f15 26) a b' → Below w9.heap.size w9 w' → Rg.out (Rg.opsOf Try.f15 26) b' 18 = .bool T2 → Q .normal b' w') :
    (Code.region 26 (Rg.opsOf Try.f15 26) true).wp Try.prog Q a w9 := by
  refine Rg.region_dead (by kernel_rfl) (fun w' => Below w9.heap.size w9 w') (FS26t dg doff dn dc i k RX r ta tb na nb tc td T2) (fun _ => none) (by rw [ha, sizeS26t]; kernel_rfl) (st_drew (Below.refl _ _)) ?_ ?_
  case refine_2 =>
    intro b' w' hf hI hA
    rw [sizeS26t] at hA
    exact hend b' w' hf hI (hA 18 (by decide) rfl)
  case refine_1 =>
    clear hend
    have HS : ∀ {w w' : World}, Below w.heap.size w w' → ∀ k9 y9, FS26t dg doff dn dc i k RX r ta tb na nb tc td T2 k9 y9 w → FS26t dg doff dn dc i k RX r ta tb na nb tc td T2 k9 y9 w' := fun hb k9 y9 h => by
      unfold FS26t at *
      split at h <;> exact h
    intro i' hi'
    rw [sizeS26t] at hi'
    rcases (show i' = 0 ∨ i' = 1 ∨ i' = 2 ∨ i' = 3 ∨ i' = 4 ∨ i' = 5 ∨ i' = 6 ∨ i' = 7 ∨ i' = 8 ∨ i' = 9 ∨ i' = 10 ∨ i' = 11 ∨ i' = 12 ∨ i' = 13 ∨ i' = 14 ∨ i' = 15 ∨ i' = 16 ∨ i' = 17 ∨ i' = 18 by omega) with rfl | rfl | rfl | rfl | rfl | rfl | rfl | rfl | rfl | rfl | rfl | rfl | rfl | rfl | rfl | rfl | rfl | rfl | rfl
    · intro bb w' hf hI hA
      clear hi'
      have q0 := hf.kept (s := 0) (by rw [sizeS26t]; kernel_rfl) k0
      exact Rg.op_value (o := ⟨some 93, Op.move (Operand.tmp 0), _, _, _, _⟩) rfl rfl rfl ⟨_, rfl, (fun h => by cases h), (by show Act.eval bb _ = _; simp [Act.eval, q0]), hI, fun _ _ _ h => h⟩
    · intro bb w' hf hI hA
      clear hi'
      have q0 := hf.kept (s := 8) (by rw [sizeS26t]; kernel_rfl) k8
      exact Rg.op_value (o := ⟨some 94, Op.move (Operand.tmp 8), _, _, _, _⟩) rfl rfl rfl ⟨_, rfl, (fun h => by cases h), (by show Act.eval bb _ = _; simp [Act.eval, q0]), hI, fun _ _ _ h => h⟩
    · intro bb w' hf hI hA
      clear hi'
      have q93 : bb.tmps[93]? = some _ := hf.tmp (k := 0) rfl (by rw [ha]; decide) (hA 0 (by kernel_rfl) (.inl rfl))
      have q94 : bb.tmps[94]? = some _ := hf.tmp (k := 1) rfl (by rw [ha]; decide) (hA 1 (by kernel_rfl) (.inl rfl))
      have hin2 : (i : Int) < (dn : Int) := by omega
      clear hA HS hK1 hK2 hX
      exact Rg.op_value (o := ⟨some 95, Op.indexAddr 31 (Operand.tmp 93) (Operand.tmp 94), _, _, _, _⟩) (x := .pointer (some ⟨dg, doff + i * 6, none⟩)) rfl rfl (by simp only [execOp]; go_simp) ⟨_, rfl, (fun h => by cases h), rfl, hI, fun _ _ _ h => h⟩
    · intro bb w' hf hI hA
      clear hi'
      have q95 : bb.tmps[95]? = some _ := hf.tmp (k := 2) rfl (by rw [ha]; decide) (hA 2 (by kernel_rfl) (.inl rfl))
      clear hA HS hK1 hK2 hX
      exact Rg.op_value (o := ⟨some 96, Op.fieldAddr 26 (Operand.tmp 95) 1, _, _, _, _⟩) (x := .pointer (some ⟨dg, doff + i * 6 + 1, none⟩)) rfl rfl (by simp only [execOp]; go_simp) ⟨_, rfl, (fun h => by cases h), rfl, hI, fun _ _ _ h => h⟩
    · intro bb w' hf hI hA
      clear hi'
      have q96 : bb.tmps[96]? = some _ := hf.tmp (k := 3) rfl (by rw [ha]; decide) (hA 3 (by kernel_rfl) (.inl rfl))
      have e9 := (hI.cell (p := ⟨dg, doff + i * 6 + 1, none⟩) hgl).trans hci
      clear hA HS hK1 hK2 hX
      exact Rg.op_value (o := ⟨some 97, Op.load 24 (Operand.tmp 96), _, _, _, _⟩) (x := .slice ta na tc) rfl rfl (by simp only [execOp]; go_simp) ⟨_, rfl, (fun h => by cases h), rfl, hI, fun _ _ _ h => h⟩
    · intro bb w' hf hI hA
      clear hi'
      have q12 := hf.kept (s := 12) (by rw [sizeS26t]; kernel_rfl) k12
      clear hA HS hK1 hK2 hX
      exact Rg.op_value (o := ⟨some 98, Op.fieldAddr 41 (Operand.tmp 12) 1, _, _, _, _⟩) (x := .pointer (some ⟨RX, 1, none⟩)) rfl rfl (by simp only [execOp]; go_simp) ⟨_, rfl, (fun h => by cases h), rfl, hI, fun _ _ _ h => h⟩
    · intro bb w' hf hI hA
      clear hi'
      have q98 : bb.tmps[98]? = some _ := hf.tmp (k := 5) rfl (by rw [ha]; decide) (hA 5 (by kernel_rfl) (.inl rfl))
      obtain ⟨e0, e1, e2⟩ := (hX.below hI).three
      clear hA HS hK1 hK2 hX
      exact Rg.op_value (o := ⟨some 99, Op.load 2 (Operand.tmp 98), _, _, _, _⟩) (x := .int .i64 r.b) rfl rfl (by simp only [execOp]; go_simp) ⟨_, rfl, (fun h => by cases h), rfl, hI, fun _ _ _ h => h⟩
    · intro bb w' hf hI hA
      clear hi'
      have q97 : bb.tmps[97]? = some _ := hf.tmp (k := 4) rfl (by rw [ha]; decide) (hA 4 (by kernel_rfl) (.inl rfl))
      have q99 : bb.tmps[99]? = some _ := hf.tmp (k := 6) rfl (by rw [ha]; decide) (hA 6 (by kernel_rfl) (.inl rfl))
      refine Rg.op_call (o := ⟨some 100, Op.call { callee := Callee.value (Operand.func 42), args := #[(Operand.tmp 97), (Operand.tmp 99)], argTypes := _ }, _, _, _, _⟩) rfl rfl (by clear hA HS hK1 hK2 hX; simp only [execOp, resolve]; go_simp) (hK1 w' hI) ?_
      rintro e w2 ⟨rfl, rfl⟩
      exact ⟨_, rfl, _, rfl, (fun h => by cases h), rfl, hI, fun _ _ _ h => h⟩
    · intro bb w' hf hI hA
      clear hi'
      have q100 : bb.tmps[100]? = some _ := hf.tmp (k := 7) rfl (by rw [ha]; decide) (hA 7 (by kernel_rfl) (.inl rfl))
      clear hA HS hK1 hK2 hX
      exact Rg.op_value (o := ⟨some 101, Op.move (Operand.tmp 100), _, _, _, _⟩) (x := .bool true) rfl rfl (by simp only [execOp]; go_simp) ⟨_, rfl, (fun h => by cases h), rfl, hI, fun _ _ _ h => h⟩
    · intro bb w' hf hI hA
      clear hi'
      have qg : bb.tmps[101]? = some _ := hf.tmp (k := 8) rfl (by rw [ha]; decide) (hA 8 (by kernel_rfl) (.inl rfl))
      have q0 := hf.kept (s := 0) (by rw [sizeS26t]; kernel_rfl) k0
      exact Rg.op_value (o := ⟨some 102, Op.move (Operand.tmp 0), _, _, _, _⟩) rfl (Rg.wanted_of (g := 8) rfl rfl qg) rfl ⟨_, rfl, (fun h => by cases h), (by show Act.eval bb _ = _; simp [Act.eval, q0]), hI, fun _ _ _ h => h⟩
    · intro bb w' hf hI hA
      clear hi'
      have qg : bb.tmps[101]? = some _ := hf.tmp (k := 8) rfl (by rw [ha]; decide) (hA 8 (by kernel_rfl) (.inl rfl))
      have q0 := hf.kept (s := 9) (by rw [sizeS26t]; kernel_rfl) k9
      exact Rg.op_value (o := ⟨some 103, Op.move (Operand.tmp 9), _, _, _, _⟩) rfl (Rg.wanted_of (g := 8) rfl rfl qg) rfl ⟨_, rfl, (fun h => by cases h), (by show Act.eval bb _ = _; simp [Act.eval, q0]), hI, fun _ _ _ h => h⟩
    · intro bb w' hf hI hA
      clear hi'
      have qg : bb.tmps[101]? = some _ := hf.tmp (k := 8) rfl (by rw [ha]; decide) (hA 8 (by kernel_rfl) (.inl rfl))
      have q102 : bb.tmps[102]? = some _ := hf.tmp (k := 9) rfl (by rw [ha]; decide) (hA 9 (by kernel_rfl) (.inl rfl))
      have q103 : bb.tmps[103]? = some _ := hf.tmp (k := 10) rfl (by rw [ha]; decide) (hA 10 (by kernel_rfl) (.inl rfl))
      have hin2 : (k : Int) < (dn : Int) := by omega
      clear hA HS hK1 hK2 hX
      exact Rg.op_value (o := ⟨some 104, Op.indexAddr 31 (Operand.tmp 102) (Operand.tmp 103), _, _, _, _⟩) (x := .pointer (some ⟨dg, doff + k * 6, none⟩)) rfl (Rg.wanted_of (g := 8) rfl rfl qg) (by simp only [execOp]; go_simp) ⟨_, rfl, (fun h => by cases h), rfl, hI, fun _ _ _ h => h⟩
    · intro bb w' hf hI hA
      clear hi'
      have qg : bb.tmps[101]? = some _ := hf.tmp (k := 8) rfl (by rw [ha]; decide) (hA 8 (by kernel_rfl) (.inl rfl))
      have q104 : bb.tmps[104]? = some _ := hf.tmp (k := 11) rfl (by rw [ha]; decide) (hA 11 (by kernel_rfl) (.inl rfl))
      clear hA HS hK1 hK2 hX
      exact Rg.op_value (o := ⟨some 105, Op.fieldAddr 26 (Operand.tmp 104) 1, _, _, _, _⟩) (x := .pointer (some ⟨dg, doff + k * 6 + 1, none⟩)) rfl (Rg.wanted_of (g := 8) rfl rfl qg) (by simp only [execOp]; go_simp) ⟨_, rfl, (fun h => by cases h), rfl, hI, fun _ _ _ h => h⟩
    · intro bb w' hf hI hA
      clear hi'
      have qg : bb.tmps[101]? = some _ := hf.tmp (k := 8) rfl (by rw [ha]; decide) (hA 8 (by kernel_rfl) (.inl rfl))
      have q105 : bb.tmps[105]? = some _ := hf.tmp (k := 12) rfl (by rw [ha]; decide) (hA 12 (by kernel_rfl) (.inl rfl))
      have e9 := (hI.cell (p := ⟨dg, doff + k * 6 + 1, none⟩) hgl).trans hck
      clear hA HS hK1 hK2 hX
      exact Rg.op_value (o := ⟨some 106, Op.load 24 (Operand.tmp 105), _, _, _, _⟩) (x := .slice tb nb td) rfl (Rg.wanted_of (g := 8) rfl rfl qg) (by simp only [execOp]; go_simp) ⟨_, rfl, (fun h => by cases h), rfl, hI, fun _ _ _ h => h⟩
    · intro bb w' hf hI hA
      clear hi'
      have qg : bb.tmps[101]? = some _ := hf.tmp (k := 8) rfl (by rw [ha]; decide) (hA 8 (by kernel_rfl) (.inl rfl))
      have q12 := hf.kept (s := 12) (by rw [sizeS26t]; kernel_rfl) k12
      clear hA HS hK1 hK2 hX
      exact Rg.op_value (o := ⟨some 107, Op.fieldAddr 41 (Operand.tmp 12) 0, _, _, _, _⟩) (x := .pointer (some ⟨RX, 0, none⟩)) rfl (Rg.wanted_of (g := 8) rfl rfl qg) (by simp only [execOp]; go_simp) ⟨_, rfl, (fun h => by cases h), rfl, hI, fun _ _ _ h => h⟩
    · intro bb w' hf hI hA
      clear hi'
      have qg : bb.tmps[101]? = some _ := hf.tmp (k := 8) rfl (by rw [ha]; decide) (hA 8 (by kernel_rfl) (.inl rfl))
      have q107 : bb.tmps[107]? = some _ := hf.tmp (k := 14) rfl (by rw [ha]; decide) (hA 14 (by kernel_rfl) (.inl rfl))
      obtain ⟨e0, e1, e2⟩ := (hX.below hI).three
      clear hA HS hK1 hK2 hX
      exact Rg.op_value (o := ⟨some 108, Op.load 2 (Operand.tmp 107), _, _, _, _⟩) (x := .int .i64 r.a) rfl (Rg.wanted_of (g := 8) rfl rfl qg) (by simp only [execOp]; go_simp) ⟨_, rfl, (fun h => by cases h), rfl, hI, fun _ _ _ h => h⟩
    · intro bb w' hf hI hA
      clear hi'
      have qg : bb.tmps[101]? = some _ := hf.tmp (k := 8) rfl (by rw [ha]; decide) (hA 8 (by kernel_rfl) (.inl rfl))
      have q106 : bb.tmps[106]? = some _ := hf.tmp (k := 13) rfl (by rw [ha]; decide) (hA 13 (by kernel_rfl) (.inl rfl))
      have q108 : bb.tmps[108]? = some _ := hf.tmp (k := 15) rfl (by rw [ha]; decide) (hA 15 (by kernel_rfl) (.inl rfl))
      refine Rg.op_call (o := ⟨some 109, Op.call { callee := Callee.value (Operand.func 42), args := #[(Operand.tmp 106), (Operand.tmp 108)], argTypes := _ }, _, _, _, _⟩) rfl (Rg.wanted_of (g := 8) rfl rfl qg) (by clear hA HS hK1 hK2 hX; simp only [execOp, resolve]; go_simp) (hK2 w' hI) ?_
      rintro e w2 ⟨rfl, rfl⟩
      exact ⟨_, rfl, _, rfl, (fun h => by cases h), rfl, hI, fun _ _ _ h => h⟩
    · intro bb w' hf hI hA
      clear hi'
      have q101 : bb.tmps[101]? = some _ := hf.tmp (k := 8) rfl (by rw [ha]; decide) (hA 8 (by kernel_rfl) (.inl rfl))
      have q109 : bb.tmps[109]? = some _ := hf.tmp (k := 16) rfl (by rw [ha]; decide) (hA 16 (by kernel_rfl) (.inl rfl))
      clear hA HS hK1 hK2 hX
      exact Rg.op_value (o := ⟨some 110, Op.pick (Operand.tmp 101) (Operand.tmp 109) (Operand.const (Value.bool false)), _, _, _, _⟩) (x := .bool T2) rfl rfl (by simp only [execOp]; go_simp) ⟨_, rfl, (fun h => by cases h), rfl, hI, fun _ _ _ h => h⟩
    · intro bb w' hf hI hA
      clear hi'
      have q110 : bb.tmps[110]? = some _ := hf.tmp (k := 17) rfl (by rw [ha]; decide) (hA 17 (by kernel_rfl) (.inl rfl))
      clear hA HS hK1 hK2 hX
      exact Rg.op_value (o := ⟨some 14, Op.assign (Operand.tmp 110), _, _, _, _⟩) (x := .bool T2) rfl rfl (by simp only [execOp]; go_simp) ⟨_, rfl, (fun h => by cases h), rfl, hI, fun _ _ _ h => h⟩

theorem regS26 {Q : Exit → Act → World → Prop} {a : Act} {w9 : World} {dg doff dn dc i k RX : Nat} {r : Ru} {ta tb : Option Addr} {na nb tc td : Nat} {T2 : Bool} {T1 : Bool} (ha : a.tmps.size = 140)
    (k0 : a.tmps[0]? = some (.slice (some ⟨dg, doff, none⟩) dn dc)) (k8 : a.tmps[8]? = some (.int .i64 (i : Nat))) (k9 : a.tmps[9]? = some (.int .i64 (k : Nat))) (k12 : a.tmps[12]? = some (.pointer (some ⟨RX, 0, none⟩))) (hin : i < dn) (hkn : k < dn) (hgl : dg < w9.heap.size) (hci : w9.cell? ⟨dg, doff + i * 6 + 1, none⟩ = some (.slice ta na tc)) (hck : w9.cell? ⟨dg, doff + k * 6 + 1, none⟩ = some (.slice tb nb td)) (hX : PB w9 RX #[.int .i64 r.a, .int .i64 r.b, .int .i64 r.g] 41) (hK1 : ∀ W, Below w9.heap.size w9 W → Calls Try.prog 42 #[.slice ta na tc, .int .i64 r.b] W fun e W' => e = .returned (.bool T1) ∧ W' = W) (hK2 : ∀ W, Below w9.heap.size w9 W → Calls Try.prog 42 #[.slice tb nb td, .int .i64 r.a] W fun e W' => e = .returned (.bool T2) ∧ W' = W)
    (hend : ∀ b' w', Rg.Fr (Rg.opsOf Try.f15 26) a b' → Below w9.heap.size w9 w' → Rg.out (Rg.opsOf Try.f15 26) b' 18 = .bool (T1 && T2) → Q .normal b' w') :
    (Code.region 26 (Rg.opsOf Try.f15 26) true).wp Try.prog Q a w9 := by
  cases T1 with
  | false => exact regS26f (T2 := T2) ha k0 k8 k9 k12 hin hkn hgl hci hck hX hK1 hK2 hend
  | true => exact regS26t ha k0 k8 k9 k12 hin hkn hgl hci hck hX hK1 hK2 hend

def FS27a (g off n cap RX j : Nat) (B : Int) (r q : Ru) (i9 : Nat) (v : Value) (w : World) : Prop :=
  match i9 with
  | 0 => v = .bool false
  | 1 => v = .bool false
  | 2 => v = .bool false
  | 3 => v = .bool false
  | 4 => v = .bool false
  | 5 => v = undef
  | 6 => v = undef
  | 7 => v = undef
  | 8 => v = undef
  | 9 => v = undef
  | 10 => v = undef
  | 11 => v = undef
  | 12 => v = undef
  | 13 => v = undef
  | 14 => v = undef
  | 15 => v = undef
  | 16 => v = undef
  | 17 => v = .bool false
  | _ => True
theorem sizeS27a : (Rg.opsOf Try.f15 27).size = 18 := by kernel_rfl

set_option maxRecDepth 20000 in
set_option maxHeartbeats 8000000 in
theorem regS27a {Q : Exit → Act → World → Prop} {a : Act} {w9 : World} {g off n cap RX j : Nat} {B : Int} {r q : Ru} (ha : a.tmps.size = 140)
    (k1 : a.tmps[1]? = some (.slice (some ⟨g, off, none⟩) n cap)) (k10 : a.tmps[10]? = some (.int .i64 B)) (k12 : a.tmps[12]? = some (.pointer (some ⟨RX, 0, none⟩))) (k13 : a.tmps[13]? = some (.bool false)) (k14 : a.tmps[14]? = some (.bool false)) (hX : PB w9 RX #[.int .i64 r.a, .int .i64 r.b, .int .i64 r.g] 41) 
    (hend : ∀ b' w', Rg.Fr (Rg.opsOf Try.f15 27) a b' → Below w9.heap.size w9 w' → Rg.out (Rg.opsOf Try.f15 27) b' 17 = .bool false → Q .normal b' w') :
    (Code.region 27 (Rg.opsOf Try.f15 27) true).wp Try.prog Q a w9 := by
  refine Rg.region_dead (by kernel_rfl) (fun w' => Below w9.heap.size w9 w') (FS27a g off n cap RX j B r q) (fun _ => none) (by rw [ha, sizeS27a]; kernel_rfl) (st_drew (Below.refl _ _)) ?_ ?_
  case refine_2 =>
    intro b' w' hf hI hA
    rw [sizeS27a] at hA
    exact hend b' w' hf hI (hA 17 (by decide) rfl)
  case refine_1 =>
    clear hend
    have HS : ∀ {w w' : World}, Below w.heap.size w w' → ∀ k9 y9, FS27a g off n cap RX j B r q k9 y9 w → FS27a g off n cap RX j B r q k9 y9 w' := fun hb k9 y9 h => by
      unfold FS27a at *
      split at h <;> exact h
    intro i' hi'
    rw [sizeS27a] at hi'
    rcases (show i' = 0 ∨ i' = 1 ∨ i' = 2 ∨ i' = 3 ∨ i' = 4 ∨ i' = 5 ∨ i' = 6 ∨ i' = 7 ∨ i' = 8 ∨ i' = 9 ∨ i' = 10 ∨ i' = 11 ∨ i' = 12 ∨ i' = 13 ∨ i' = 14 ∨ i' = 15 ∨ i' = 16 ∨ i' = 17 by omega) with rfl | rfl | rfl | rfl | rfl | rfl | rfl | rfl | rfl | rfl | rfl | rfl | rfl | rfl | rfl | rfl | rfl | rfl
    · intro bb w' hf hI hA
      clear hi'
      have q0 := hf.kept (s := 13) (by rw [sizeS27a]; kernel_rfl) k13
      exact Rg.op_value (o := ⟨some 111, Op.move (Operand.tmp 13), _, _, _, _⟩) rfl rfl rfl ⟨_, rfl, (fun h => by cases h), (by show Act.eval bb _ = _; simp [Act.eval, q0]), hI, fun _ _ _ h => h⟩
    · intro bb w' hf hI hA
      clear hi'
      have q111 : bb.tmps[111]? = some _ := hf.tmp (k := 0) rfl (by rw [ha]; decide) (hA 0 (by kernel_rfl) (.inl rfl))
      clear hA HS hX
      exact Rg.op_value (o := ⟨some 112, Op.move (Operand.tmp 111), _, _, _, _⟩) (x := .bool false) rfl rfl (by simp only [execOp]; go_simp) ⟨_, rfl, (fun h => by cases h), rfl, hI, fun _ _ _ h => h⟩
    · intro bb w' hf hI hA
      clear hi'
      have qg : bb.tmps[112]? = some _ := hf.tmp (k := 1) rfl (by rw [ha]; decide) (hA 1 (by kernel_rfl) (.inl rfl))
      have q0 := hf.kept (s := 14) (by rw [sizeS27a]; kernel_rfl) k14
      exact Rg.op_value (o := ⟨some 113, Op.move (Operand.tmp 14), _, _, _, _⟩) rfl (Rg.wanted_of (g := 1) rfl rfl qg) rfl ⟨_, rfl, (fun h => by cases h), (by show Act.eval bb _ = _; simp [Act.eval, q0]), hI, fun _ _ _ h => h⟩
    · intro bb w' hf hI hA
      clear hi'
      have q112 : bb.tmps[112]? = some _ := hf.tmp (k := 1) rfl (by rw [ha]; decide) (hA 1 (by kernel_rfl) (.inl rfl))
      have q113 : bb.tmps[113]? = some _ := hf.tmp (k := 2) rfl (by rw [ha]; decide) (hA 2 (by kernel_rfl) (.inl rfl))
      clear hA HS hX
      exact Rg.op_value (o := ⟨some 114, Op.pick (Operand.tmp 112) (Operand.const (Value.bool true)) (Operand.tmp 113), _, _, _, _⟩) (x := .bool false) rfl rfl (by simp only [execOp]; go_simp) ⟨_, rfl, (fun h => by cases h), rfl, hI, fun _ _ _ h => h⟩
    · intro bb w' hf hI hA
      clear hi'
      have q114 : bb.tmps[114]? = some _ := hf.tmp (k := 3) rfl (by rw [ha]; decide) (hA 3 (by kernel_rfl) (.inl rfl))
      clear hA HS hX
      exact Rg.op_value (o := ⟨some 115, Op.move (Operand.tmp 114), _, _, _, _⟩) (x := .bool false) rfl rfl (by simp only [execOp]; go_simp) ⟨_, rfl, (fun h => by cases h), rfl, hI, fun _ _ _ h => h⟩
    · intro bb w' hf hI hA
      clear hi'
      have qg : bb.tmps[115]? = some _ := hf.tmp (k := 4) rfl (by rw [ha]; decide) (hA 4 (by kernel_rfl) (.inl rfl))
      exact Rg.op_none (o := ⟨some 116, _, _, _, _, _⟩) rfl (Rg.unwanted_of (g := 4) (want := true) rfl rfl qg) ⟨_, rfl, (fun h => by cases h), rfl, hI, fun _ _ _ h => h⟩
    · intro bb w' hf hI hA
      clear hi'
      have qg : bb.tmps[115]? = some _ := hf.tmp (k := 4) rfl (by rw [ha]; decide) (hA 4 (by kernel_rfl) (.inl rfl))
      exact Rg.op_none (o := ⟨some 117, _, _, _, _, _⟩) rfl (Rg.unwanted_of (g := 4) (want := true) rfl rfl qg) ⟨_, rfl, (fun h => by cases h), rfl, hI, fun _ _ _ h => h⟩
    · intro bb w' hf hI hA
      clear hi'
      have qg : bb.tmps[115]? = some _ := hf.tmp (k := 4) rfl (by rw [ha]; decide) (hA 4 (by kernel_rfl) (.inl rfl))
      exact Rg.op_none (o := ⟨some 118, _, _, _, _, _⟩) rfl (Rg.unwanted_of (g := 4) (want := true) rfl rfl qg) ⟨_, rfl, (fun h => by cases h), rfl, hI, fun _ _ _ h => h⟩
    · intro bb w' hf hI hA
      clear hi'
      have qg : bb.tmps[118]? = some _ := hf.tmp (k := 7) rfl (by rw [ha]; decide) (hA 7 (by kernel_rfl) (.inl rfl))
      exact Rg.op_none (o := ⟨some 119, _, _, _, _, _⟩) rfl (Rg.unwanted_un (g := 7) (want := false) rfl rfl qg) ⟨_, rfl, (fun h => by cases h), rfl, hI, fun _ _ _ h => h⟩
    · intro bb w' hf hI hA
      clear hi'
      have qg : bb.tmps[118]? = some _ := hf.tmp (k := 7) rfl (by rw [ha]; decide) (hA 7 (by kernel_rfl) (.inl rfl))
      exact Rg.op_none (o := ⟨some 120, _, _, _, _, _⟩) rfl (Rg.unwanted_un (g := 7) (want := false) rfl rfl qg) ⟨_, rfl, (fun h => by cases h), rfl, hI, fun _ _ _ h => h⟩
    · intro bb w' hf hI hA
      clear hi'
      have qg : bb.tmps[118]? = some _ := hf.tmp (k := 7) rfl (by rw [ha]; decide) (hA 7 (by kernel_rfl) (.inl rfl))
      exact Rg.op_none (o := ⟨some 121, _, _, _, _, _⟩) rfl (Rg.unwanted_un (g := 7) (want := false) rfl rfl qg) ⟨_, rfl, (fun h => by cases h), rfl, hI, fun _ _ _ h => h⟩
    · intro bb w' hf hI hA
      clear hi'
      have qg : bb.tmps[118]? = some _ := hf.tmp (k := 7) rfl (by rw [ha]; decide) (hA 7 (by kernel_rfl) (.inl rfl))
      exact Rg.op_none (o := ⟨some 122, _, _, _, _, _⟩) rfl (Rg.unwanted_un (g := 7) (want := false) rfl rfl qg) ⟨_, rfl, (fun h => by cases h), rfl, hI, fun _ _ _ h => h⟩
    · intro bb w' hf hI hA
      clear hi'
      have qg : bb.tmps[118]? = some _ := hf.tmp (k := 7) rfl (by rw [ha]; decide) (hA 7 (by kernel_rfl) (.inl rfl))
      exact Rg.op_none (o := ⟨some 123, _, _, _, _, _⟩) rfl (Rg.unwanted_un (g := 7) (want := false) rfl rfl qg) ⟨_, rfl, (fun h => by cases h), rfl, hI, fun _ _ _ h => h⟩
    · intro bb w' hf hI hA
      clear hi'
      have qg : bb.tmps[118]? = some _ := hf.tmp (k := 7) rfl (by rw [ha]; decide) (hA 7 (by kernel_rfl) (.inl rfl))
      exact Rg.op_none (o := ⟨some 124, _, _, _, _, _⟩) rfl (Rg.unwanted_un (g := 7) (want := false) rfl rfl qg) ⟨_, rfl, (fun h => by cases h), rfl, hI, fun _ _ _ h => h⟩
    · intro bb w' hf hI hA
      clear hi'
      have qg : bb.tmps[118]? = some _ := hf.tmp (k := 7) rfl (by rw [ha]; decide) (hA 7 (by kernel_rfl) (.inl rfl))
      exact Rg.op_none (o := ⟨some 125, _, _, _, _, _⟩) rfl (Rg.unwanted_un (g := 7) (want := false) rfl rfl qg) ⟨_, rfl, (fun h => by cases h), rfl, hI, fun _ _ _ h => h⟩
    · intro bb w' hf hI hA
      clear hi'
      have qg : bb.tmps[118]? = some _ := hf.tmp (k := 7) rfl (by rw [ha]; decide) (hA 7 (by kernel_rfl) (.inl rfl))
      exact Rg.op_none (o := ⟨some 126, _, _, _, _, _⟩) rfl (Rg.unwanted_un (g := 7) (want := false) rfl rfl qg) ⟨_, rfl, (fun h => by cases h), rfl, hI, fun _ _ _ h => h⟩
    · intro bb w' hf hI hA
      clear hi'
      have qg : bb.tmps[115]? = some _ := hf.tmp (k := 4) rfl (by rw [ha]; decide) (hA 4 (by kernel_rfl) (.inl rfl))
      exact Rg.op_none (o := ⟨some 127, _, _, _, _, _⟩) rfl (Rg.unwanted_of (g := 4) (want := true) rfl rfl qg) ⟨_, rfl, (fun h => by cases h), rfl, hI, fun _ _ _ h => h⟩
    · intro bb w' hf hI hA
      clear hi'
      have q115 : bb.tmps[115]? = some _ := hf.tmp (k := 4) rfl (by rw [ha]; decide) (hA 4 (by kernel_rfl) (.inl rfl))
      clear hA HS hX
      exact Rg.op_value (o := ⟨some 128, Op.pick (Operand.tmp 115) (Operand.tmp 127) (Operand.const (Value.bool false)), _, _, _, _⟩) (x := .bool false) rfl rfl (by simp only [execOp]; go_simp) ⟨_, rfl, (fun h => by cases h), rfl, hI, fun _ _ _ h => h⟩

theorem dS27a_0 : Rg.dstAt (Rg.opsOf Try.f15 27) 0 = some 111 := by kernel_rfl
theorem dS27a_1 : Rg.dstAt (Rg.opsOf Try.f15 27) 1 = some 112 := by kernel_rfl
theorem dS27a_2 : Rg.dstAt (Rg.opsOf Try.f15 27) 2 = some 113 := by kernel_rfl
theorem dS27a_3 : Rg.dstAt (Rg.opsOf Try.f15 27) 3 = some 114 := by kernel_rfl
theorem dS27a_4 : Rg.dstAt (Rg.opsOf Try.f15 27) 4 = some 115 := by kernel_rfl
theorem dS27a_5 : Rg.dstAt (Rg.opsOf Try.f15 27) 5 = some 116 := by kernel_rfl
theorem dS27a_6 : Rg.dstAt (Rg.opsOf Try.f15 27) 6 = some 117 := by kernel_rfl
theorem dS27a_7 : Rg.dstAt (Rg.opsOf Try.f15 27) 7 = some 118 := by kernel_rfl
theorem dS27a_8 : Rg.dstAt (Rg.opsOf Try.f15 27) 8 = some 119 := by kernel_rfl
theorem dS27a_9 : Rg.dstAt (Rg.opsOf Try.f15 27) 9 = some 120 := by kernel_rfl
theorem dS27a_10 : Rg.dstAt (Rg.opsOf Try.f15 27) 10 = some 121 := by kernel_rfl
theorem dS27a_11 : Rg.dstAt (Rg.opsOf Try.f15 27) 11 = some 122 := by kernel_rfl
theorem dS27a_12 : Rg.dstAt (Rg.opsOf Try.f15 27) 12 = some 123 := by kernel_rfl
theorem dS27a_13 : Rg.dstAt (Rg.opsOf Try.f15 27) 13 = some 124 := by kernel_rfl
theorem dS27a_14 : Rg.dstAt (Rg.opsOf Try.f15 27) 14 = some 125 := by kernel_rfl
theorem dS27a_15 : Rg.dstAt (Rg.opsOf Try.f15 27) 15 = some 126 := by kernel_rfl
theorem dS27a_16 : Rg.dstAt (Rg.opsOf Try.f15 27) 16 = some 127 := by kernel_rfl
theorem dS27a_17 : Rg.dstAt (Rg.opsOf Try.f15 27) 17 = some 128 := by kernel_rfl
theorem layS27a {a b : Act} (hf : Rg.Fr (Rg.opsOf Try.f15 27) a b) : b = ((((((((((((((((((a.put (some 111) (Rg.out (Rg.opsOf Try.f15 27) b 0)).put (some 112) (Rg.out (Rg.opsOf Try.f15 27) b 1)).put (some 113) (Rg.out (Rg.opsOf Try.f15 27) b 2)).put (some 114) (Rg.out (Rg.opsOf Try.f15 27) b 3)).put (some 115) (Rg.out (Rg.opsOf Try.f15 27) b 4)).put (some 116) (Rg.out (Rg.opsOf Try.f15 27) b 5)).put (some 117) (Rg.out (Rg.opsOf Try.f15 27) b 6)).put (some 118) (Rg.out (Rg.opsOf Try.f15 27) b 7)).put (some 119) (Rg.out (Rg.opsOf Try.f15 27) b 8)).put (some 120) (Rg.out (Rg.opsOf Try.f15 27) b 9)).put (some 121) (Rg.out (Rg.opsOf Try.f15 27) b 10)).put (some 122) (Rg.out (Rg.opsOf Try.f15 27) b 11)).put (some 123) (Rg.out (Rg.opsOf Try.f15 27) b 12)).put (some 124) (Rg.out (Rg.opsOf Try.f15 27) b 13)).put (some 125) (Rg.out (Rg.opsOf Try.f15 27) b 14)).put (some 126) (Rg.out (Rg.opsOf Try.f15 27) b 15)).put (some 127) (Rg.out (Rg.opsOf Try.f15 27) b 16)).put (some 128) (Rg.out (Rg.opsOf Try.f15 27) b 17)) := by
  have h := hf.chain
  rw [sizeS27a, show List.range 18 = [0, 1, 2, 3, 4, 5, 6, 7, 8, 9, 10, 11, 12, 13, 14, 15, 16, 17] from by decide] at h
  simp only [List.foldl_cons, List.foldl_nil, dS27a_0, dS27a_1, dS27a_2, dS27a_3, dS27a_4, dS27a_5, dS27a_6, dS27a_7, dS27a_8, dS27a_9, dS27a_10, dS27a_11, dS27a_12, dS27a_13, dS27a_14, dS27a_15, dS27a_16, dS27a_17] at h
  exact h

def FS27b (g off n cap RX j : Nat) (B : Int) (r q : Ru) (Qv : Bool) (i9 : Nat) (v : Value) (w : World) : Prop :=
  match i9 with
  | 0 => v = .bool true
  | 1 => v = .bool true
  | 2 => v = undef
  | 3 => v = .bool true
  | 4 => v = .bool true
  | 5 => v = .int .i64 B
  | 6 => v = .bool true
  | 7 => v = .bool true
  | 8 => v = undef
  | 9 => v = undef
  | 10 => v = undef
  | 11 => v = undef
  | 12 => v = undef
  | 13 => v = undef
  | 14 => v = undef
  | 15 => v = undef
  | 16 => v = .bool true
  | 17 => v = .bool true
  | _ => True
theorem sizeS27b : (Rg.opsOf Try.f15 27).size = 18 := by kernel_rfl

set_option maxRecDepth 20000 in
set_option maxHeartbeats 8000000 in
theorem regS27b {Q : Exit → Act → World → Prop} {a : Act} {w9 : World} {g off n cap RX j : Nat} {B : Int} {r q : Ru} {Qv : Bool} (ha : a.tmps.size = 140)
    (k1 : a.tmps[1]? = some (.slice (some ⟨g, off, none⟩) n cap)) (k10 : a.tmps[10]? = some (.int .i64 B)) (k12 : a.tmps[12]? = some (.pointer (some ⟨RX, 0, none⟩))) (k13 : a.tmps[13]? = some (.bool true)) (k14 : a.tmps[14]? = some (.bool Qv)) (hX : PB w9 RX #[.int .i64 r.a, .int .i64 r.b, .int .i64 r.g] 41) (hB : B < 0)
    (hend : ∀ b' w', Rg.Fr (Rg.opsOf Try.f15 27) a b' → Below w9.heap.size w9 w' → Rg.out (Rg.opsOf Try.f15 27) b' 17 = .bool true → Q .normal b' w') :
    (Code.region 27 (Rg.opsOf Try.f15 27) true).wp Try.prog Q a w9 := by
  refine Rg.region_dead (by kernel_rfl) (fun w' => Below w9.heap.size w9 w') (FS27b g off n cap RX j B r q Qv) (fun _ => none) (by rw [ha, sizeS27b]; kernel_rfl) (st_drew (Below.refl _ _)) ?_ ?_
  case refine_2 =>
    intro b' w' hf hI hA
    rw [sizeS27b] at hA
    exact hend b' w' hf hI (hA 17 (by decide) rfl)
  case refine_1 =>
    clear hend
    have HS : ∀ {w w' : World}, Below w.heap.size w w' → ∀ k9 y9, FS27b g off n cap RX j B r q Qv k9 y9 w → FS27b g off n cap RX j B r q Qv k9 y9 w' := fun hb k9 y9 h => by
      unfold FS27b at *
      split at h <;> exact h
    intro i' hi'
    rw [sizeS27b] at hi'
    rcases (show i' = 0 ∨ i' = 1 ∨ i' = 2 ∨ i' = 3 ∨ i' = 4 ∨ i' = 5 ∨ i' = 6 ∨ i' = 7 ∨ i' = 8 ∨ i' = 9 ∨ i' = 10 ∨ i' = 11 ∨ i' = 12 ∨ i' = 13 ∨ i' = 14 ∨ i' = 15 ∨ i' = 16 ∨ i' = 17 by omega) with rfl | rfl | rfl | rfl | rfl | rfl | rfl | rfl | rfl | rfl | rfl | rfl | rfl | rfl | rfl | rfl | rfl | rfl
    · intro bb w' hf hI hA
      clear hi'
      have q0 := hf.kept (s := 13) (by rw [sizeS27b]; kernel_rfl) k13
      exact Rg.op_value (o := ⟨some 111, Op.move (Operand.tmp 13), _, _, _, _⟩) rfl rfl rfl ⟨_, rfl, (fun h => by cases h), (by show Act.eval bb _ = _; simp [Act.eval, q0]), hI, fun _ _ _ h => h⟩
    · intro bb w' hf hI hA
      clear hi'
      have q111 : bb.tmps[111]? = some _ := hf.tmp (k := 0) rfl (by rw [ha]; decide) (hA 0 (by kernel_rfl) (.inl rfl))
      clear hA HS hX
      exact Rg.op_value (o := ⟨some 112, Op.move (Operand.tmp 111), _, _, _, _⟩) (x := .bool true) rfl rfl (by simp only [execOp]; go_simp) ⟨_, rfl, (fun h => by cases h), rfl, hI, fun _ _ _ h => h⟩
    · intro bb w' hf hI hA
      clear hi'
      have qg : bb.tmps[112]? = some _ := hf.tmp (k := 1) rfl (by rw [ha]; decide) (hA 1 (by kernel_rfl) (.inl rfl))
      exact Rg.op_none (o := ⟨some 113, _, _, _, _, _⟩) rfl (Rg.unwanted_of (g := 1) (want := false) rfl rfl qg) ⟨_, rfl, (fun h => by cases h), rfl, hI, fun _ _ _ h => h⟩
    · intro bb w' hf hI hA
      clear hi'
      have q112 : bb.tmps[112]? = some _ := hf.tmp (k := 1) rfl (by rw [ha]; decide) (hA 1 (by kernel_rfl) (.inl rfl))
      clear hA HS hX
      exact Rg.op_value (o := ⟨some 114, Op.pick (Operand.tmp 112) (Operand.const (Value.bool true)) (Operand.tmp 113), _, _, _, _⟩) (x := .bool true) rfl rfl (by simp only [execOp]; go_simp) ⟨_, rfl, (fun h => by cases h), rfl, hI, fun _ _ _ h => h⟩
    · intro bb w' hf hI hA
      clear hi'
      have q114 : bb.tmps[114]? = some _ := hf.tmp (k := 3) rfl (by rw [ha]; decide) (hA 3 (by kernel_rfl) (.inl rfl))
      clear hA HS hX
      exact Rg.op_value (o := ⟨some 115, Op.move (Operand.tmp 114), _, _, _, _⟩) (x := .bool true) rfl rfl (by simp only [execOp]; go_simp) ⟨_, rfl, (fun h => by cases h), rfl, hI, fun _ _ _ h => h⟩
    · intro bb w' hf hI hA
      clear hi'
      have qg : bb.tmps[115]? = some _ := hf.tmp (k := 4) rfl (by rw [ha]; decide) (hA 4 (by kernel_rfl) (.inl rfl))
      have q0 := hf.kept (s := 10) (by rw [sizeS27b]; kernel_rfl) k10
      exact Rg.op_value (o := ⟨some 116, Op.move (Operand.tmp 10), _, _, _, _⟩) rfl (Rg.wanted_of (g := 4) rfl rfl qg) rfl ⟨_, rfl, (fun h => by cases h), (by show Act.eval bb _ = _; simp [Act.eval, q0]), hI, fun _ _ _ h => h⟩
    · intro bb w' hf hI hA
      clear hi'
      have qg : bb.tmps[115]? = some _ := hf.tmp (k := 4) rfl (by rw [ha]; decide) (hA 4 (by kernel_rfl) (.inl rfl))
      have q116 : bb.tmps[116]? = some _ := hf.tmp (k := 5) rfl (by rw [ha]; decide) (hA 5 (by kernel_rfl) (.inl rfl))
      clear hA HS hX
      exact Rg.op_value (o := ⟨some 117, Op.binOp BinOp.lss 3 (Operand.tmp 116) (Operand.const (Value.int .i64 0)) 3, _, _, _, _⟩) (x := .bool true) rfl (Rg.wanted_of (g := 4) rfl rfl qg) (by simp only [execOp]; go_simp) ⟨_, rfl, (fun h => by cases h), rfl, hI, fun _ _ _ h => h⟩
    · intro bb w' hf hI hA
      clear hi'
      have qg : bb.tmps[115]? = some _ := hf.tmp (k := 4) rfl (by rw [ha]; decide) (hA 4 (by kernel_rfl) (.inl rfl))
      have q117 : bb.tmps[117]? = some _ := hf.tmp (k := 6) rfl (by rw [ha]; decide) (hA 6 (by kernel_rfl) (.inl rfl))
      clear hA HS hX
      exact Rg.op_value (o := ⟨some 118, Op.move (Operand.tmp 117), _, _, _, _⟩) (x := .bool true) rfl (Rg.wanted_of (g := 4) rfl rfl qg) (by simp only [execOp]; go_simp) ⟨_, rfl, (fun h => by cases h), rfl, hI, fun _ _ _ h => h⟩
    · intro bb w' hf hI hA
      clear hi'
      have qg : bb.tmps[118]? = some _ := hf.tmp (k := 7) rfl (by rw [ha]; decide) (hA 7 (by kernel_rfl) (.inl rfl))
      exact Rg.op_none (o := ⟨some 119, _, _, _, _, _⟩) rfl (Rg.unwanted_of (g := 7) (want := false) rfl rfl qg) ⟨_, rfl, (fun h => by cases h), rfl, hI, fun _ _ _ h => h⟩
    · intro bb w' hf hI hA
      clear hi'
      have qg : bb.tmps[118]? = some _ := hf.tmp (k := 7) rfl (by rw [ha]; decide) (hA 7 (by kernel_rfl) (.inl rfl))
      exact Rg.op_none (o := ⟨some 120, _, _, _, _, _⟩) rfl (Rg.unwanted_of (g := 7) (want := false) rfl rfl qg) ⟨_, rfl, (fun h => by cases h), rfl, hI, fun _ _ _ h => h⟩
    · intro bb w' hf hI hA
      clear hi'
      have qg : bb.tmps[118]? = some _ := hf.tmp (k := 7) rfl (by rw [ha]; decide) (hA 7 (by kernel_rfl) (.inl rfl))
      exact Rg.op_none (o := ⟨some 121, _, _, _, _, _⟩) rfl (Rg.unwanted_of (g := 7) (want := false) rfl rfl qg) ⟨_, rfl, (fun h => by cases h), rfl, hI, fun _ _ _ h => h⟩
    · intro bb w' hf hI hA
      clear hi'
      have qg : bb.tmps[118]? = some _ := hf.tmp (k := 7) rfl (by rw [ha]; decide) (hA 7 (by kernel_rfl) (.inl rfl))
      exact Rg.op_none (o := ⟨some 122, _, _, _, _, _⟩) rfl (Rg.unwanted_of (g := 7) (want := false) rfl rfl qg) ⟨_, rfl, (fun h => by cases h), rfl, hI, fun _ _ _ h => h⟩
    · intro bb w' hf hI hA
      clear hi'
      have qg : bb.tmps[118]? = some _ := hf.tmp (k := 7) rfl (by rw [ha]; decide) (hA 7 (by kernel_rfl) (.inl rfl))
      exact Rg.op_none (o := ⟨some 123, _, _, _, _, _⟩) rfl (Rg.unwanted_of (g := 7) (want := false) rfl rfl qg) ⟨_, rfl, (fun h => by cases h), rfl, hI, fun _ _ _ h => h⟩
    · intro bb w' hf hI hA
      clear hi'
      have qg : bb.tmps[118]? = some _ := hf.tmp (k := 7) rfl (by rw [ha]; decide) (hA 7 (by kernel_rfl) (.inl rfl))
      exact Rg.op_none (o := ⟨some 124, _, _, _, _, _⟩) rfl (Rg.unwanted_of (g := 7) (want := false) rfl rfl qg) ⟨_, rfl, (fun h => by cases h), rfl, hI, fun _ _ _ h => h⟩
    · intro bb w' hf hI hA
      clear hi'
      have qg : bb.tmps[118]? = some _ := hf.tmp (k := 7) rfl (by rw [ha]; decide) (hA 7 (by kernel_rfl) (.inl rfl))
      exact Rg.op_none (o := ⟨some 125, _, _, _, _, _⟩) rfl (Rg.unwanted_of (g := 7) (want := false) rfl rfl qg) ⟨_, rfl, (fun h => by cases h), rfl, hI, fun _ _ _ h => h⟩
    · intro bb w' hf hI hA
      clear hi'
      have qg : bb.tmps[118]? = some _ := hf.tmp (k := 7) rfl (by rw [ha]; decide) (hA 7 (by kernel_rfl) (.inl rfl))
      exact Rg.op_none (o := ⟨some 126, _, _, _, _, _⟩) rfl (Rg.unwanted_of (g := 7) (want := false) rfl rfl qg) ⟨_, rfl, (fun h => by cases h), rfl, hI, fun _ _ _ h => h⟩
    · intro bb w' hf hI hA
      clear hi'
      have qg : bb.tmps[115]? = some _ := hf.tmp (k := 4) rfl (by rw [ha]; decide) (hA 4 (by kernel_rfl) (.inl rfl))
      have q118 : bb.tmps[118]? = some _ := hf.tmp (k := 7) rfl (by rw [ha]; decide) (hA 7 (by kernel_rfl) (.inl rfl))
      clear hA HS hX
      exact Rg.op_value (o := ⟨some 127, Op.pick (Operand.tmp 118) (Operand.const (Value.bool true)) (Operand.tmp 126), _, _, _, _⟩) (x := .bool true) rfl (Rg.wanted_of (g := 4) rfl rfl qg) (by simp only [execOp]; go_simp) ⟨_, rfl, (fun h => by cases h), rfl, hI, fun _ _ _ h => h⟩
    · intro bb w' hf hI hA
      clear hi'
      have q115 : bb.tmps[115]? = some _ := hf.tmp (k := 4) rfl (by rw [ha]; decide) (hA 4 (by kernel_rfl) (.inl rfl))
      have q127 : bb.tmps[127]? = some _ := hf.tmp (k := 16) rfl (by rw [ha]; decide) (hA 16 (by kernel_rfl) (.inl rfl))
      clear hA HS hX
      exact Rg.op_value (o := ⟨some 128, Op.pick (Operand.tmp 115) (Operand.tmp 127) (Operand.const (Value.bool false)), _, _, _, _⟩) (x := .bool true) rfl rfl (by simp only [execOp]; go_simp) ⟨_, rfl, (fun h => by cases h), rfl, hI, fun _ _ _ h => h⟩

def FS27c (g off n cap RX j : Nat) (B : Int) (r q : Ru) (i9 : Nat) (v : Value) (w : World) : Prop :=
  match i9 with
  | 0 => v = .bool false
  | 1 => v = .bool false
  | 2 => v = .bool true
  | 3 => v = .bool true
  | 4 => v = .bool true
  | 5 => v = .int .i64 B
  | 6 => v = .bool true
  | 7 => v = .bool true
  | 8 => v = undef
  | 9 => v = undef
  | 10 => v = undef
  | 11 => v = undef
  | 12 => v = undef
  | 13 => v = undef
  | 14 => v = undef
  | 15 => v = undef
  | 16 => v = .bool true
  | 17 => v = .bool true
  | _ => True
theorem sizeS27c : (Rg.opsOf Try.f15 27).size = 18 := by kernel_rfl

set_option maxRecDepth 20000 in
set_option maxHeartbeats 8000000 in
theorem regS27c {Q : Exit → Act → World → Prop} {a : Act} {w9 : World} {g off n cap RX j : Nat} {B : Int} {r q : Ru} (ha : a.tmps.size = 140)
    (k1 : a.tmps[1]? = some (.slice (some ⟨g, off, none⟩) n cap)) (k10 : a.tmps[10]? = some (.int .i64 B)) (k12 : a.tmps[12]? = some (.pointer (some ⟨RX, 0, none⟩))) (k13 : a.tmps[13]? = some (.bool false)) (k14 : a.tmps[14]? = some (.bool true)) (hX : PB w9 RX #[.int .i64 r.a, .int .i64 r.b, .int .i64 r.g] 41) (hB : B < 0)
    (hend : ∀ b' w', Rg.Fr (Rg.opsOf Try.f15 27) a b' → Below w9.heap.size w9 w' → Rg.out (Rg.opsOf Try.f15 27) b' 17 = .bool true → Q .normal b' w') :
    (Code.region 27 (Rg.opsOf Try.f15 27) true).wp Try.prog Q a w9 := by
  refine Rg.region_dead (by kernel_rfl) (fun w' => Below w9.heap.size w9 w') (FS27c g off n cap RX j B r q) (fun _ => none) (by rw [ha, sizeS27c]; kernel_rfl) (st_drew (Below.refl _ _)) ?_ ?_
  case refine_2 =>
    intro b' w' hf hI hA
    rw [sizeS27c] at hA
    exact hend b' w' hf hI (hA 17 (by decide) rfl)
  case refine_1 =>
    clear hend
    have HS : ∀ {w w' : World}, Below w.heap.size w w' → ∀ k9 y9, FS27c g off n cap RX j B r q k9 y9 w → FS27c g off n cap RX j B r q k9 y9 w' := fun hb k9 y9 h => by
      unfold FS27c at *
      split at h <;> exact h
    intro i' hi'
    rw [sizeS27c] at hi'
    rcases (show i' = 0 ∨ i' = 1 ∨ i' = 2 ∨ i' = 3 ∨ i' = 4 ∨ i' = 5 ∨ i' = 6 ∨ i' = 7 ∨ i' = 8 ∨ i' = 9 ∨ i' = 10 ∨ i' = 11 ∨ i' = 12 ∨ i' = 13 ∨ i' = 14 ∨ i' = 15 ∨ i' = 16 ∨ i' = 17 by omega) with rfl | rfl | rfl | rfl | rfl | rfl | rfl | rfl | rfl | rfl | rfl | rfl | rfl | rfl | rfl | rfl | rfl | rfl
    · intro bb w' hf hI hA
      clear hi'
      have q0 := hf.kept (s := 13) (by rw [sizeS27c]; kernel_rfl) k13
      exact Rg.op_value (o := ⟨some 111, Op.move (Operand.tmp 13), _, _, _, _⟩) rfl rfl rfl ⟨_, rfl, (fun h => by cases h), (by show Act.eval bb _ = _; simp [Act.eval, q0]), hI, fun _ _ _ h => h⟩
    · intro bb w' hf hI hA
      clear hi'
      have q111 : bb.tmps[111]? = some _ := hf.tmp (k := 0) rfl (by rw [ha]; decide) (hA 0 (by kernel_rfl) (.inl rfl))
      clear hA HS hX
      exact Rg.op_value (o := ⟨some 112, Op.move (Operand.tmp 111), _, _, _, _⟩) (x := .bool false) rfl rfl (by simp only [execOp]; go_simp) ⟨_, rfl, (fun h => by cases h), rfl, hI, fun _ _ _ h => h⟩
    · intro bb w' hf hI hA
      clear hi'
      have qg : bb.tmps[112]? = some _ := hf.tmp (k := 1) rfl (by rw [ha]; decide) (hA 1 (by kernel_rfl) (.inl rfl))
      have q0 := hf.kept (s := 14) (by rw [sizeS27c]; kernel_rfl) k14
      exact Rg.op_value (o := ⟨some 113, Op.move (Operand.tmp 14), _, _, _, _⟩) rfl (Rg.wanted_of (g := 1) rfl rfl qg) rfl ⟨_, rfl, (fun h => by cases h), (by show Act.eval bb _ = _; simp [Act.eval, q0]), hI, fun _ _ _ h => h⟩
    · intro bb w' hf hI hA
      clear hi'
      have q112 : bb.tmps[112]? = some _ := hf.tmp (k := 1) rfl (by rw [ha]; decide) (hA 1 (by kernel_rfl) (.inl rfl))
      have q113 : bb.tmps[113]? = some _ := hf.tmp (k := 2) rfl (by rw [ha]; decide) (hA 2 (by kernel_rfl) (.inl rfl))
      clear hA HS hX
      exact Rg.op_value (o := ⟨some 114, Op.pick (Operand.tmp 112) (Operand.const (Value.bool true)) (Operand.tmp 113), _, _, _, _⟩) (x := .bool true) rfl rfl (by simp only [execOp]; go_simp) ⟨_, rfl, (fun h => by cases h), rfl, hI, fun _ _ _ h => h⟩
    · intro bb w' hf hI hA
      clear hi'
      have q114 : bb.tmps[114]? = some _ := hf.tmp (k := 3) rfl (by rw [ha]; decide) (hA 3 (by kernel_rfl) (.inl rfl))
      clear hA HS hX
      exact Rg.op_value (o := ⟨some 115, Op.move (Operand.tmp 114), _, _, _, _⟩) (x := .bool true) rfl rfl (by simp only [execOp]; go_simp) ⟨_, rfl, (fun h => by cases h), rfl, hI, fun _ _ _ h => h⟩
    · intro bb w' hf hI hA
      clear hi'
      have qg : bb.tmps[115]? = some _ := hf.tmp (k := 4) rfl (by rw [ha]; decide) (hA 4 (by kernel_rfl) (.inl rfl))
      have q0 := hf.kept (s := 10) (by rw [sizeS27c]; kernel_rfl) k10
      exact Rg.op_value (o := ⟨some 116, Op.move (Operand.tmp 10), _, _, _, _⟩) rfl (Rg.wanted_of (g := 4) rfl rfl qg) rfl ⟨_, rfl, (fun h => by cases h), (by show Act.eval bb _ = _; simp [Act.eval, q0]), hI, fun _ _ _ h => h⟩
    · intro bb w' hf hI hA
      clear hi'
      have qg : bb.tmps[115]? = some _ := hf.tmp (k := 4) rfl (by rw [ha]; decide) (hA 4 (by kernel_rfl) (.inl rfl))
      have q116 : bb.tmps[116]? = some _ := hf.tmp (k := 5) rfl (by rw [ha]; decide) (hA 5 (by kernel_rfl) (.inl rfl))
      clear hA HS hX
      exact Rg.op_value (o := ⟨some 117, Op.binOp BinOp.lss 3 (Operand.tmp 116) (Operand.const (Value.int .i64 0)) 3, _, _, _, _⟩) (x := .bool true) rfl (Rg.wanted_of (g := 4) rfl rfl qg) (by simp only [execOp]; go_simp) ⟨_, rfl, (fun h => by cases h), rfl, hI, fun _ _ _ h => h⟩
    · intro bb w' hf hI hA
      clear hi'
      have qg : bb.tmps[115]? = some _ := hf.tmp (k := 4) rfl (by rw [ha]; decide) (hA 4 (by kernel_rfl) (.inl rfl))
      have q117 : bb.tmps[117]? = some _ := hf.tmp (k := 6) rfl (by rw [ha]; decide) (hA 6 (by kernel_rfl) (.inl rfl))
      clear hA HS hX
      exact Rg.op_value (o := ⟨some 118, Op.move (Operand.tmp 117), _, _, _, _⟩) (x := .bool true) rfl (Rg.wanted_of (g := 4) rfl rfl qg) (by simp only [execOp]; go_simp) ⟨_, rfl, (fun h => by cases h), rfl, hI, fun _ _ _ h => h⟩
    · intro bb w' hf hI hA
      clear hi'
      have qg : bb.tmps[118]? = some _ := hf.tmp (k := 7) rfl (by rw [ha]; decide) (hA 7 (by kernel_rfl) (.inl rfl))
      exact Rg.op_none (o := ⟨some 119, _, _, _, _, _⟩) rfl (Rg.unwanted_of (g := 7) (want := false) rfl rfl qg) ⟨_, rfl, (fun h => by cases h), rfl, hI, fun _ _ _ h => h⟩
    · intro bb w' hf hI hA
      clear hi'
      have qg : bb.tmps[118]? = some _ := hf.tmp (k := 7) rfl (by rw [ha]; decide) (hA 7 (by kernel_rfl) (.inl rfl))
      exact Rg.op_none (o := ⟨some 120, _, _, _, _, _⟩) rfl (Rg.unwanted_of (g := 7) (want := false) rfl rfl qg) ⟨_, rfl, (fun h => by cases h), rfl, hI, fun _ _ _ h => h⟩
    · intro bb w' hf hI hA
      clear hi'
      have qg : bb.tmps[118]? = some _ := hf.tmp (k := 7) rfl (by rw [ha]; decide) (hA 7 (by kernel_rfl) (.inl rfl))
      exact Rg.op_none (o := ⟨some 121, _, _, _, _, _⟩) rfl (Rg.unwanted_of (g := 7) (want := false) rfl rfl qg) ⟨_, rfl, (fun h => by cases h), rfl, hI, fun _ _ _ h => h⟩
    · intro bb w' hf hI hA
      clear hi'
      have qg : bb.tmps[118]? = some _ := hf.tmp (k := 7) rfl (by rw [ha]; decide) (hA 7 (by kernel_rfl) (.inl rfl))
      exact Rg.op_none (o := ⟨some 122, _, _, _, _, _⟩) rfl (Rg.unwanted_of (g := 7) (want := false) rfl rfl qg) ⟨_, rfl, (fun h => by cases h), rfl, hI, fun _ _ _ h => h⟩
    · intro bb w' hf hI hA
      clear hi'
      have qg : bb.tmps[118]? = some _ := hf.tmp (k := 7) rfl (by rw [ha]; decide) (hA 7 (by kernel_rfl) (.inl rfl))
      exact Rg.op_none (o := ⟨some 123, _, _, _, _, _⟩) rfl (Rg.unwanted_of (g := 7) (want := false) rfl rfl qg) ⟨_, rfl, (fun h => by cases h), rfl, hI, fun _ _ _ h => h⟩
    · intro bb w' hf hI hA
      clear hi'
      have qg : bb.tmps[118]? = some _ := hf.tmp (k := 7) rfl (by rw [ha]; decide) (hA 7 (by kernel_rfl) (.inl rfl))
      exact Rg.op_none (o := ⟨some 124, _, _, _, _, _⟩) rfl (Rg.unwanted_of (g := 7) (want := false) rfl rfl qg) ⟨_, rfl, (fun h => by cases h), rfl, hI, fun _ _ _ h => h⟩
    · intro bb w' hf hI hA
      clear hi'
      have qg : bb.tmps[118]? = some _ := hf.tmp (k := 7) rfl (by rw [ha]; decide) (hA 7 (by kernel_rfl) (.inl rfl))
      exact Rg.op_none (o := ⟨some 125, _, _, _, _, _⟩) rfl (Rg.unwanted_of (g := 7) (want := false) rfl rfl qg) ⟨_, rfl, (fun h => by cases h), rfl, hI, fun _ _ _ h => h⟩
    · intro bb w' hf hI hA
      clear hi'
      have qg : bb.tmps[118]? = some _ := hf.tmp (k := 7) rfl (by rw [ha]; decide) (hA 7 (by kernel_rfl) (.inl rfl))
      exact Rg.op_none (o := ⟨some 126, _, _, _, _, _⟩) rfl (Rg.unwanted_of (g := 7) (want := false) rfl rfl qg) ⟨_, rfl, (fun h => by cases h), rfl, hI, fun _ _ _ h => h⟩
    · intro bb w' hf hI hA
      clear hi'
      have qg : bb.tmps[115]? = some _ := hf.tmp (k := 4) rfl (by rw [ha]; decide) (hA 4 (by kernel_rfl) (.inl rfl))
      have q118 : bb.tmps[118]? = some _ := hf.tmp (k := 7) rfl (by rw [ha]; decide) (hA 7 (by kernel_rfl) (.inl rfl))
      clear hA HS hX
      exact Rg.op_value (o := ⟨some 127, Op.pick (Operand.tmp 118) (Operand.const (Value.bool true)) (Operand.tmp 126), _, _, _, _⟩) (x := .bool true) rfl (Rg.wanted_of (g := 4) rfl rfl qg) (by simp only [execOp]; go_simp) ⟨_, rfl, (fun h => by cases h), rfl, hI, fun _ _ _ h => h⟩
    · intro bb w' hf hI hA
      clear hi'
      have q115 : bb.tmps[115]? = some _ := hf.tmp (k := 4) rfl (by rw [ha]; decide) (hA 4 (by kernel_rfl) (.inl rfl))
      have q127 : bb.tmps[127]? = some _ := hf.tmp (k := 16) rfl (by rw [ha]; decide) (hA 16 (by kernel_rfl) (.inl rfl))
      clear hA HS hX
      exact Rg.op_value (o := ⟨some 128, Op.pick (Operand.tmp 115) (Operand.tmp 127) (Operand.const (Value.bool false)), _, _, _, _⟩) (x := .bool true) rfl rfl (by simp only [execOp]; go_simp) ⟨_, rfl, (fun h => by cases h), rfl, hI, fun _ _ _ h => h⟩

def FS27d (g off n cap RX j : Nat) (B : Int) (r q : Ru) (Qv : Bool) (i9 : Nat) (v : Value) (w : World) : Prop :=
  match i9 with
  | 0 => v = .bool true
  | 1 => v = .bool true
  | 2 => v = undef
  | 3 => v = .bool true
  | 4 => v = .bool true
  | 5 => v = .int .i64 (j : Nat)
  | 6 => v = .bool false
  | 7 => v = .bool false
  | 8 => v = .pointer (some ⟨RX, 2, none⟩)
  | 9 => v = .int .i64 r.g
  | 10 => v = .slice (some ⟨g, off, none⟩) n cap
  | 11 => v = .int .i64 (j : Nat)
  | 12 => v = .pointer (some ⟨g, off + j * 3, none⟩)
  | 13 => v = .pointer (some ⟨g, off + j * 3 + 2, none⟩)
  | 14 => v = .int .i64 q.g
  | 15 => v = .bool (decide (q.g < r.g))
  | 16 => v = .bool (decide (q.g < r.g))
  | 17 => v = .bool (decide (q.g < r.g))
  | _ => True
theorem sizeS27d : (Rg.opsOf Try.f15 27).size = 18 := by kernel_rfl

set_option maxRecDepth 20000 in
set_option maxHeartbeats 8000000 in
theorem regS27d {Q : Exit → Act → World → Prop} {a : Act} {w9 : World} {g off n cap RX j : Nat} {B : Int} {r q : Ru} {Qv : Bool} (ha : a.tmps.size = 140)
    (k1 : a.tmps[1]? = some (.slice (some ⟨g, off, none⟩) n cap)) (k10 : a.tmps[10]? = some (.int .i64 (j : Nat))) (k12 : a.tmps[12]? = some (.pointer (some ⟨RX, 0, none⟩))) (k13 : a.tmps[13]? = some (.bool true)) (k14 : a.tmps[14]? = some (.bool Qv)) (hX : PB w9 RX #[.int .i64 r.a, .int .i64 r.b, .int .i64 r.g] 41) (hkn : j < n) (hgl : g < w9.heap.size) (hc : w9.cell? ⟨g, off + j * 3 + 2, none⟩ = some (.int .i64 q.g))
    (hend : ∀ b' w', Rg.Fr (Rg.opsOf Try.f15 27) a b' → Below w9.heap.size w9 w' → Rg.out (Rg.opsOf Try.f15 27) b' 17 = .bool (decide (q.g < r.g)) → Q .normal b' w') :
    (Code.region 27 (Rg.opsOf Try.f15 27) true).wp Try.prog Q a w9 := by
  refine Rg.region_dead (by kernel_rfl) (fun w' => Below w9.heap.size w9 w') (FS27d g off n cap RX j B r q Qv) (fun _ => none) (by rw [ha, sizeS27d]; kernel_rfl) (st_drew (Below.refl _ _)) ?_ ?_
  case refine_2 =>
    intro b' w' hf hI hA
    rw [sizeS27d] at hA
    exact hend b' w' hf hI (hA 17 (by decide) rfl)
  case refine_1 =>
    clear hend
    have HS : ∀ {w w' : World}, Below w.heap.size w w' → ∀ k9 y9, FS27d g off n cap RX j B r q Qv k9 y9 w → FS27d g off n cap RX j B r q Qv k9 y9 w' := fun hb k9 y9 h => by
      unfold FS27d at *
      split at h <;> exact h
    intro i' hi'
    rw [sizeS27d] at hi'
    rcases (show i' = 0 ∨ i' = 1 ∨ i' = 2 ∨ i' = 3 ∨ i' = 4 ∨ i' = 5 ∨ i' = 6 ∨ i' = 7 ∨ i' = 8 ∨ i' = 9 ∨ i' = 10 ∨ i' = 11 ∨ i' = 12 ∨ i' = 13 ∨ i' = 14 ∨ i' = 15 ∨ i' = 16 ∨ i' = 17 by omega) with rfl | rfl | rfl | rfl | rfl | rfl | rfl | rfl | rfl | rfl | rfl | rfl | rfl | rfl | rfl | rfl | rfl | rfl
    · intro bb w' hf hI hA
      clear hi'
      have q0 := hf.kept (s := 13) (by rw [sizeS27d]; kernel_rfl) k13
      exact Rg.op_value (o := ⟨some 111, Op.move (Operand.tmp 13), _, _, _, _⟩) rfl rfl rfl ⟨_, rfl, (fun h => by cases h), (by show Act.eval bb _ = _; simp [Act.eval, q0]), hI, fun _ _ _ h => h⟩
    · intro bb w' hf hI hA
      clear hi'
      have q111 : bb.tmps[111]? = some _ := hf.tmp (k := 0) rfl (by rw [ha]; decide) (hA 0 (by kernel_rfl) (.inl rfl))
      clear hA HS hX
      exact Rg.op_value (o := ⟨some 112, Op.move (Operand.tmp 111), _, _, _, _⟩) (x := .bool true) rfl rfl (by simp only [execOp]; go_simp) ⟨_, rfl, (fun h => by cases h), rfl, hI, fun _ _ _ h => h⟩
    · intro bb w' hf hI hA
      clear hi'
      have qg : bb.tmps[112]? = some _ := hf.tmp (k := 1) rfl (by rw [ha]; decide) (hA 1 (by kernel_rfl) (.inl rfl))
      exact Rg.op_none (o := ⟨some 113, _, _, _, _, _⟩) rfl (Rg.unwanted_of (g := 1) (want := false) rfl rfl qg) ⟨_, rfl, (fun h => by cases h), rfl, hI, fun _ _ _ h => h⟩
    · intro bb w' hf hI hA
      clear hi'
      have q112 : bb.tmps[112]? = some _ := hf.tmp (k := 1) rfl (by rw [ha]; decide) (hA 1 (by kernel_rfl) (.inl rfl))
      clear hA HS hX
      exact Rg.op_value (o := ⟨some 114, Op.pick (Operand.tmp 112) (Operand.const (Value.bool true)) (Operand.tmp 113), _, _, _, _⟩) (x := .bool true) rfl rfl (by simp only [execOp]; go_simp) ⟨_, rfl, (fun h => by cases h), rfl, hI, fun _ _ _ h => h⟩
    · intro bb w' hf hI hA
      clear hi'
      have q114 : bb.tmps[114]? = some _ := hf.tmp (k := 3) rfl (by rw [ha]; decide) (hA 3 (by kernel_rfl) (.inl rfl))
      clear hA HS hX
      exact Rg.op_value (o := ⟨some 115, Op.move (Operand.tmp 114), _, _, _, _⟩) (x := .bool true) rfl rfl (by simp only [execOp]; go_simp) ⟨_, rfl, (fun h => by cases h), rfl, hI, fun _ _ _ h => h⟩
    · intro bb w' hf hI hA
      clear hi'
      have qg : bb.tmps[115]? = some _ := hf.tmp (k := 4) rfl (by rw [ha]; decide) (hA 4 (by kernel_rfl) (.inl rfl))
      have q0 := hf.kept (s := 10) (by rw [sizeS27d]; kernel_rfl) k10
      exact Rg.op_value (o := ⟨some 116, Op.move (Operand.tmp 10), _, _, _, _⟩) rfl (Rg.wanted_of (g := 4) rfl rfl qg) rfl ⟨_, rfl, (fun h => by cases h), (by show Act.eval bb _ = _; simp [Act.eval, q0]), hI, fun _ _ _ h => h⟩
    · intro bb w' hf hI hA
      clear hi'
      have qg : bb.tmps[115]? = some _ := hf.tmp (k := 4) rfl (by rw [ha]; decide) (hA 4 (by kernel_rfl) (.inl rfl))
      have q116 : bb.tmps[116]? = some _ := hf.tmp (k := 5) rfl (by rw [ha]; decide) (hA 5 (by kernel_rfl) (.inl rfl))
      clear hA HS hX
      exact Rg.op_value (o := ⟨some 117, Op.binOp BinOp.lss 3 (Operand.tmp 116) (Operand.const (Value.int .i64 0)) 3, _, _, _, _⟩) (x := .bool false) rfl (Rg.wanted_of (g := 4) rfl rfl qg) (by simp only [execOp]; go_simp) ⟨_, rfl, (fun h => by cases h), rfl, hI, fun _ _ _ h => h⟩
    · intro bb w' hf hI hA
      clear hi'
      have qg : bb.tmps[115]? = some _ := hf.tmp (k := 4) rfl (by rw [ha]; decide) (hA 4 (by kernel_rfl) (.inl rfl))
      have q117 : bb.tmps[117]? = some _ := hf.tmp (k := 6) rfl (by rw [ha]; decide) (hA 6 (by kernel_rfl) (.inl rfl))
      clear hA HS hX
      exact Rg.op_value (o := ⟨some 118, Op.move (Operand.tmp 117), _, _, _, _⟩) (x := .bool false) rfl (Rg.wanted_of (g := 4) rfl rfl qg) (by simp only [execOp]; go_simp) ⟨_, rfl, (fun h => by cases h), rfl, hI, fun _ _ _ h => h⟩
    · intro bb w' hf hI hA
      clear hi'
      have qg : bb.tmps[118]? = some _ := hf.tmp (k := 7) rfl (by rw [ha]; decide) (hA 7 (by kernel_rfl) (.inl rfl))
      have q12 := hf.kept (s := 12) (by rw [sizeS27d]; kernel_rfl) k12
      clear hA HS hX
      exact Rg.op_value (o := ⟨some 119, Op.fieldAddr 41 (Operand.tmp 12) 2, _, _, _, _⟩) (x := .pointer (some ⟨RX, 2, none⟩)) rfl (Rg.wanted_of (g := 7) rfl rfl qg) (by simp only [execOp]; go_simp) ⟨_, rfl, (fun h => by cases h), rfl, hI, fun _ _ _ h => h⟩
    · intro bb w' hf hI hA
      clear hi'
      have qg : bb.tmps[118]? = some _ := hf.tmp (k := 7) rfl (by rw [ha]; decide) (hA 7 (by kernel_rfl) (.inl rfl))
      have q119 : bb.tmps[119]? = some _ := hf.tmp (k := 8) rfl (by rw [ha]; decide) (hA 8 (by kernel_rfl) (.inl rfl))
      obtain ⟨e0, e1, e2⟩ := (hX.below hI).three
      clear hA HS hX
      exact Rg.op_value (o := ⟨some 120, Op.load 2 (Operand.tmp 119), _, _, _, _⟩) (x := .int .i64 r.g) rfl (Rg.wanted_of (g := 7) rfl rfl qg) (by simp only [execOp]; go_simp) ⟨_, rfl, (fun h => by cases h), rfl, hI, fun _ _ _ h => h⟩
    · intro bb w' hf hI hA
      clear hi'
      have qg : bb.tmps[118]? = some _ := hf.tmp (k := 7) rfl (by rw [ha]; decide) (hA 7 (by kernel_rfl) (.inl rfl))
      have q0 := hf.kept (s := 1) (by rw [sizeS27d]; kernel_rfl) k1
      exact Rg.op_value (o := ⟨some 121, Op.move (Operand.tmp 1), _, _, _, _⟩) rfl (Rg.wanted_of (g := 7) rfl rfl qg) rfl ⟨_, rfl, (fun h => by cases h), (by show Act.eval bb _ = _; simp [Act.eval, q0]), hI, fun _ _ _ h => h⟩
    · intro bb w' hf hI hA
      clear hi'
      have qg : bb.tmps[118]? = some _ := hf.tmp (k := 7) rfl (by rw [ha]; decide) (hA 7 (by kernel_rfl) (.inl rfl))
      have q0 := hf.kept (s := 10) (by rw [sizeS27d]; kernel_rfl) k10
      exact Rg.op_value (o := ⟨some 122, Op.move (Operand.tmp 10), _, _, _, _⟩) rfl (Rg.wanted_of (g := 7) rfl rfl qg) rfl ⟨_, rfl, (fun h => by cases h), (by show Act.eval bb _ = _; simp [Act.eval, q0]), hI, fun _ _ _ h => h⟩
    · intro bb w' hf hI hA
      clear hi'
      have qg : bb.tmps[118]? = some _ := hf.tmp (k := 7) rfl (by rw [ha]; decide) (hA 7 (by kernel_rfl) (.inl rfl))
      have q121 : bb.tmps[121]? = some _ := hf.tmp (k := 10) rfl (by rw [ha]; decide) (hA 10 (by kernel_rfl) (.inl rfl))
      have q122 : bb.tmps[122]? = some _ := hf.tmp (k := 11) rfl (by rw [ha]; decide) (hA 11 (by kernel_rfl) (.inl rfl))
      have hkn2 : (j : Int) < (n : Int) := by omega
      clear hA HS hX
      exact Rg.op_value (o := ⟨some 123, Op.indexAddr 32 (Operand.tmp 121) (Operand.tmp 122), _, _, _, _⟩) (x := .pointer (some ⟨g, off + j * 3, none⟩)) rfl (Rg.wanted_of (g := 7) rfl rfl qg) (by simp only [execOp]; go_simp) ⟨_, rfl, (fun h => by cases h), rfl, hI, fun _ _ _ h => h⟩
    · intro bb w' hf hI hA
      clear hi'
      have qg : bb.tmps[118]? = some _ := hf.tmp (k := 7) rfl (by rw [ha]; decide) (hA 7 (by kernel_rfl) (.inl rfl))
      have q123 : bb.tmps[123]? = some _ := hf.tmp (k := 12) rfl (by rw [ha]; decide) (hA 12 (by kernel_rfl) (.inl rfl))
      clear hA HS hX
      exact Rg.op_value (o := ⟨some 124, Op.fieldAddr 41 (Operand.tmp 123) 2, _, _, _, _⟩) (x := .pointer (some ⟨g, off + j * 3 + 2, none⟩)) rfl (Rg.wanted_of (g := 7) rfl rfl qg) (by simp only [execOp]; go_simp) ⟨_, rfl, (fun h => by cases h), rfl, hI, fun _ _ _ h => h⟩
    · intro bb w' hf hI hA
      clear hi'
      have qg : bb.tmps[118]? = some _ := hf.tmp (k := 7) rfl (by rw [ha]; decide) (hA 7 (by kernel_rfl) (.inl rfl))
      have q124 : bb.tmps[124]? = some _ := hf.tmp (k := 13) rfl (by rw [ha]; decide) (hA 13 (by kernel_rfl) (.inl rfl))
      have e9 := (hI.cell (p := ⟨g, off + j * 3 + 2, none⟩) hgl).trans hc
      clear hA HS hX
      exact Rg.op_value (o := ⟨some 125, Op.load 2 (Operand.tmp 124), _, _, _, _⟩) (x := .int .i64 q.g) rfl (Rg.wanted_of (g := 7) rfl rfl qg) (by simp only [execOp]; go_simp) ⟨_, rfl, (fun h => by cases h), rfl, hI, fun _ _ _ h => h⟩
    · intro bb w' hf hI hA
      clear hi'
      have qg : bb.tmps[118]? = some _ := hf.tmp (k := 7) rfl (by rw [ha]; decide) (hA 7 (by kernel_rfl) (.inl rfl))
      have q120 : bb.tmps[120]? = some _ := hf.tmp (k := 9) rfl (by rw [ha]; decide) (hA 9 (by kernel_rfl) (.inl rfl))
      have q125 : bb.tmps[125]? = some _ := hf.tmp (k := 14) rfl (by rw [ha]; decide) (hA 14 (by kernel_rfl) (.inl rfl))
      clear hA HS hX
      exact Rg.op_value (o := ⟨some 126, Op.binOp BinOp.gtr 2 (Operand.tmp 120) (Operand.tmp 125) 2, _, _, _, _⟩) (x := .bool (decide (q.g < r.g))) rfl (Rg.wanted_of (g := 7) rfl rfl qg) (by simp only [execOp]; go_simp) ⟨_, rfl, (fun h => by cases h), rfl, hI, fun _ _ _ h => h⟩
    · intro bb w' hf hI hA
      clear hi'
      have qg : bb.tmps[115]? = some _ := hf.tmp (k := 4) rfl (by rw [ha]; decide) (hA 4 (by kernel_rfl) (.inl rfl))
      have q118 : bb.tmps[118]? = some _ := hf.tmp (k := 7) rfl (by rw [ha]; decide) (hA 7 (by kernel_rfl) (.inl rfl))
      have q126 : bb.tmps[126]? = some _ := hf.tmp (k := 15) rfl (by rw [ha]; decide) (hA 15 (by kernel_rfl) (.inl rfl))
      clear hA HS hX
      exact Rg.op_value (o := ⟨some 127, Op.pick (Operand.tmp 118) (Operand.const (Value.bool true)) (Operand.tmp 126), _, _, _, _⟩) (x := .bool (decide (q.g < r.g))) rfl (Rg.wanted_of (g := 4) rfl rfl qg) (by simp only [execOp]; go_simp) ⟨_, rfl, (fun h => by cases h), rfl, hI, fun _ _ _ h => h⟩
    · intro bb w' hf hI hA
      clear hi'
      have q115 : bb.tmps[115]? = some _ := hf.tmp (k := 4) rfl (by rw [ha]; decide) (hA 4 (by kernel_rfl) (.inl rfl))
      have q127 : bb.tmps[127]? = some _ := hf.tmp (k := 16) rfl (by rw [ha]; decide) (hA 16 (by kernel_rfl) (.inl rfl))
      clear hA HS hX
      exact Rg.op_value (o := ⟨some 128, Op.pick (Operand.tmp 115) (Operand.tmp 127) (Operand.const (Value.bool false)), _, _, _, _⟩) (x := .bool (decide (q.g < r.g))) rfl rfl (by simp only [execOp]; go_simp) ⟨_, rfl, (fun h => by cases h), rfl, hI, fun _ _ _ h => h⟩

def FS27e (g off n cap RX j : Nat) (B : Int) (r q : Ru) (i9 : Nat) (v : Value) (w : World) : Prop :=
  match i9 with
  | 0 => v = .bool false
  | 1 => v = .bool false
  | 2 => v = .bool true
  | 3 => v = .bool true
  | 4 => v = .bool true
  | 5 => v = .int .i64 (j : Nat)
  | 6 => v = .bool false
  | 7 => v = .bool false
  | 8 => v = .pointer (some ⟨RX, 2, none⟩)
  | 9 => v = .int .i64 r.g
  | 10 => v = .slice (some ⟨g, off, none⟩) n cap
  | 11 => v = .int .i64 (j : Nat)
  | 12 => v = .pointer (some ⟨g, off + j * 3, none⟩)
  | 13 => v = .pointer (some ⟨g, off + j * 3 + 2, none⟩)
  | 14 => v = .int .i64 q.g
  | 15 => v = .bool (decide (q.g < r.g))
  | 16 => v = .bool (decide (q.g < r.g))
  | 17 => v = .bool (decide (q.g < r.g))
  | _ => True
theorem sizeS27e : (Rg.opsOf Try.f15 27).size = 18 := by kernel_rfl

set_option maxRecDepth 20000 in
set_option maxHeartbeats 8000000 in
theorem regS27e {Q : Exit → Act → World → Prop} {a : Act} {w9 : World} {g off n cap RX j : Nat} {B : Int} {r q : Ru} (ha : a.tmps.size = 140)
    (k1 : a.tmps[1]? = some (.slice (some ⟨g, off, none⟩) n cap)) (k10 : a.tmps[10]? = some (.int .i64 (j : Nat))) (k12 : a.tmps[12]? = some (.pointer (some ⟨RX, 0, none⟩))) (k13 : a.tmps[13]? = some (.bool false)) (k14 : a.tmps[14]? = some (.bool true)) (hX : PB w9 RX #[.int .i64 r.a, .int .i64 r.b, .int .i64 r.g] 41) (hkn : j < n) (hgl : g < w9.heap.size) (hc : w9.cell? ⟨g, off + j * 3 + 2, none⟩ = some (.int .i64 q.g))
    (hend : ∀ b' w', Rg.Fr (Rg.opsOf Try.f15 27) a b' → Below w9.heap.size w9 w' → Rg.out (Rg.opsOf Try.f15 27) b' 17 = .bool (decide (q.g < r.g)) → Q .normal b' w') :
    (Code.region 27 (Rg.opsOf Try.f15 27) true).wp Try.prog Q a w9 := by
  refine Rg.region_dead (by kernel_rfl) (fun w' => Below w9.heap.size w9 w') (FS27e g off n cap RX j B r q) (fun _ => none) (by rw [ha, sizeS27e]; kernel_rfl) (st_drew (Below.refl _ _)) ?_ ?_
  case refine_2 =>
    intro b' w' hf hI hA
    rw [sizeS27e] at hA
    exact hend b' w' hf hI (hA 17 (by decide) rfl)
  case refine_1 =>
    clear hend
    have HS : ∀ {w w' : World}, Below w.heap.size w w' → ∀ k9 y9, FS27e g off n cap RX j B r q k9 y9 w → FS27e g off n cap RX j B r q k9 y9 w' := fun hb k9 y9 h => by
      unfold FS27e at *
      split at h <;> exact h
    intro i' hi'
    rw [sizeS27e] at hi'
    rcases (show i' = 0 ∨ i' = 1 ∨ i' = 2 ∨ i' = 3 ∨ i' = 4 ∨ i' = 5 ∨ i' = 6 ∨ i' = 7 ∨ i' = 8 ∨ i' = 9 ∨ i' = 10 ∨ i' = 11 ∨ i' = 12 ∨ i' = 13 ∨ i' = 14 ∨ i' = 15 ∨ i' = 16 ∨ i' = 17 by omega) with rfl | rfl | rfl | rfl | rfl | rfl | rfl | rfl | rfl | rfl | rfl | rfl | rfl | rfl | rfl | rfl | rfl | rfl
    · intro bb w' hf hI hA
      clear hi'
      have q0 := hf.kept (s := 13) (by rw [sizeS27e]; kernel_rfl) k13
      exact Rg.op_value (o := ⟨some 111, Op.move (Operand.tmp 13), _, _, _, _⟩) rfl rfl rfl ⟨_, rfl, (fun h => by cases h), (by show Act.eval bb _ = _; simp [Act.eval, q0]), hI, fun _ _ _ h => h⟩
    · intro bb w' hf hI hA
      clear hi'
      have q111 : bb.tmps[111]? = some _ := hf.tmp (k := 0) rfl (by rw [ha]; decide) (hA 0 (by kernel_rfl) (.inl rfl))
      clear hA HS hX
      exact Rg.op_value (o := ⟨some 112, Op.move (Operand.tmp 111), _, _, _, _⟩) (x := .bool false) rfl rfl (by simp only [execOp]; go_simp) ⟨_, rfl, (fun h => by cases h), rfl, hI, fun _ _ _ h => h⟩
    · intro bb w' hf hI hA
      clear hi'
      have qg : bb.tmps[112]? = some _ := hf.tmp (k := 1) rfl (by rw [ha]; decide) (hA 1 (by kernel_rfl) (.inl rfl))
      have q0 := hf.kept (s := 14) (by rw [sizeS27e]; kernel_rfl) k14
      exact Rg.op_value (o := ⟨some 113, Op.move (Operand.tmp 14), _, _, _, _⟩) rfl (Rg.wanted_of (g := 1) rfl rfl qg) rfl ⟨_, rfl, (fun h => by cases h), (by show Act.eval bb _ = _; simp [Act.eval, q0]), hI, fun _ _ _ h => h⟩
    · intro bb w' hf hI hA
      clear hi'
      have q112 : bb.tmps[112]? = some _ := hf.tmp (k := 1) rfl (by rw [ha]; decide) (hA 1 (by kernel_rfl) (.inl rfl))
      have q113 : bb.tmps[113]? = some _ := hf.tmp (k := 2) rfl (by rw [ha]; decide) (hA 2 (by kernel_rfl) (.inl rfl))
      clear hA HS hX
      exact Rg.op_value (o := ⟨some 114, Op.pick (Operand.tmp 112) (Operand.const (Value.bool true)) (Operand.tmp 113), _, _, _, _⟩) (x := .bool true) rfl rfl (by simp only [execOp]; go_simp) ⟨_, rfl, (fun h => by cases h), rfl, hI, fun _ _ _ h => h⟩
    · intro bb w' hf hI hA
      clear hi'
      have q114 : bb.tmps[114]? = some _ := hf.tmp (k := 3) rfl (by rw [ha]; decide) (hA 3 (by kernel_rfl) (.inl rfl))
      clear hA HS hX
      exact Rg.op_value (o := ⟨some 115, Op.move (Operand.tmp 114), _, _, _, _⟩) (x := .bool true) rfl rfl (by simp only [execOp]; go_simp) ⟨_, rfl, (fun h => by cases h), rfl, hI, fun _ _ _ h => h⟩
    · intro bb w' hf hI hA
      clear hi'
      have qg : bb.tmps[115]? = some _ := hf.tmp (k := 4) rfl (by rw [ha]; decide) (hA 4 (by kernel_rfl) (.inl rfl))
      have q0 := hf.kept (s := 10) (by rw [sizeS27e]; kernel_rfl) k10
      exact Rg.op_value (o := ⟨some 116, Op.move (Operand.tmp 10), _, _, _, _⟩) rfl (Rg.wanted_of (g := 4) rfl rfl qg) rfl ⟨_, rfl, (fun h => by cases h), (by show Act.eval bb _ = _; simp [Act.eval, q0]), hI, fun _ _ _ h => h⟩
    · intro bb w' hf hI hA
      clear hi'
      have qg : bb.tmps[115]? = some _ := hf.tmp (k := 4) rfl (by rw [ha]; decide) (hA 4 (by kernel_rfl) (.inl rfl))
      have q116 : bb.tmps[116]? = some _ := hf.tmp (k := 5) rfl (by rw [ha]; decide) (hA 5 (by kernel_rfl) (.inl rfl))
      clear hA HS hX
      exact Rg.op_value (o := ⟨some 117, Op.binOp BinOp.lss 3 (Operand.tmp 116) (Operand.const (Value.int .i64 0)) 3, _, _, _, _⟩) (x := .bool false) rfl (Rg.wanted_of (g := 4) rfl rfl qg) (by simp only [execOp]; go_simp) ⟨_, rfl, (fun h => by cases h), rfl, hI, fun _ _ _ h => h⟩
    · intro bb w' hf hI hA
      clear hi'
      have qg : bb.tmps[115]? = some _ := hf.tmp (k := 4) rfl (by rw [ha]; decide) (hA 4 (by kernel_rfl) (.inl rfl))
      have q117 : bb.tmps[117]? = some _ := hf.tmp (k := 6) rfl (by rw [ha]; decide) (hA 6 (by kernel_rfl) (.inl rfl))
      clear hA HS hX
      exact Rg.op_value (o := ⟨some 118, Op.move (Operand.tmp 117), _, _, _, _⟩) (x := .bool false) rfl (Rg.wanted_of (g := 4) rfl rfl qg) (by simp only [execOp]; go_simp) ⟨_, rfl, (fun h => by cases h), rfl, hI, fun _ _ _ h => h⟩
    · intro bb w' hf hI hA
      clear hi'
      have qg : bb.tmps[118]? = some _ := hf.tmp (k := 7) rfl (by rw [ha]; decide) (hA 7 (by kernel_rfl) (.inl rfl))
      have q12 := hf.kept (s := 12) (by rw [sizeS27e]; kernel_rfl) k12
      clear hA HS hX
      exact Rg.op_value (o := ⟨some 119, Op.fieldAddr 41 (Operand.tmp 12) 2, _, _, _, _⟩) (x := .pointer (some ⟨RX, 2, none⟩)) rfl (Rg.wanted_of (g := 7) rfl rfl qg) (by simp only [execOp]; go_simp) ⟨_, rfl, (fun h => by cases h), rfl, hI, fun _ _ _ h => h⟩
    · intro bb w' hf hI hA
      clear hi'
      have qg : bb.tmps[118]? = some _ := hf.tmp (k := 7) rfl (by rw [ha]; decide) (hA 7 (by kernel_rfl) (.inl rfl))
      have q119 : bb.tmps[119]? = some _ := hf.tmp (k := 8) rfl (by rw [ha]; decide) (hA 8 (by kernel_rfl) (.inl rfl))
      obtain ⟨e0, e1, e2⟩ := (hX.below hI).three
      clear hA HS hX
      exact Rg.op_value (o := ⟨some 120, Op.load 2 (Operand.tmp 119), _, _, _, _⟩) (x := .int .i64 r.g) rfl (Rg.wanted_of (g := 7) rfl rfl qg) (by simp only [execOp]; go_simp) ⟨_, rfl, (fun h => by cases h), rfl, hI, fun _ _ _ h => h⟩
    · intro bb w' hf hI hA
      clear hi'
      have qg : bb.tmps[118]? = some _ := hf.tmp (k := 7) rfl (by rw [ha]; decide) (hA 7 (by kernel_rfl) (.inl rfl))
      have q0 := hf.kept (s := 1) (by rw [sizeS27e]; kernel_rfl) k1
      exact Rg.op_value (o := ⟨some 121, Op.move (Operand.tmp 1), _, _, _, _⟩) rfl (Rg.wanted_of (g := 7) rfl rfl qg) rfl ⟨_, rfl, (fun h => by cases h), (by show Act.eval bb _ = _; simp [Act.eval, q0]), hI, fun _ _ _ h => h⟩
    · intro bb w' hf hI hA
      clear hi'
      have qg : bb.tmps[118]? = some _ := hf.tmp (k := 7) rfl (by rw [ha]; decide) (hA 7 (by kernel_rfl) (.inl rfl))
      have q0 := hf.kept (s := 10) (by rw [sizeS27e]; kernel_rfl) k10
      exact Rg.op_value (o := ⟨some 122, Op.move (Operand.tmp 10), _, _, _, _⟩) rfl (Rg.wanted_of (g := 7) rfl rfl qg) rfl ⟨_, rfl, (fun h => by cases h), (by show Act.eval bb _ = _; simp [Act.eval, q0]), hI, fun _ _ _ h => h⟩
    · intro bb w' hf hI hA
      clear hi'
      have qg : bb.tmps[118]? = some _ := hf.tmp (k := 7) rfl (by rw [ha]; decide) (hA 7 (by kernel_rfl) (.inl rfl))
      have q121 : bb.tmps[121]? = some _ := hf.tmp (k := 10) rfl (by rw [ha]; decide) (hA 10 (by kernel_rfl) (.inl rfl))
      have q122 : bb.tmps[122]? = some _ := hf.tmp (k := 11) rfl (by rw [ha]; decide) (hA 11 (by kernel_rfl) (.inl rfl))
      have hkn2 : (j : Int) < (n : Int) := by omega
      clear hA HS hX
      exact Rg.op_value (o := ⟨some 123, Op.indexAddr 32 (Operand.tmp 121) (Operand.tmp 122), _, _, _, _⟩) (x := .pointer (some ⟨g, off + j * 3, none⟩)) rfl (Rg.wanted_of (g := 7) rfl rfl qg) (by simp only [execOp]; go_simp) ⟨_, rfl, (fun h => by cases h), rfl, hI, fun _ _ _ h => h⟩
    · intro bb w' hf hI hA
      clear hi'
      have qg : bb.tmps[118]? = some _ := hf.tmp (k := 7) rfl (by rw [ha]; decide) (hA 7 (by kernel_rfl) (.inl rfl))
      have q123 : bb.tmps[123]? = some _ := hf.tmp (k := 12) rfl (by rw [ha]; decide) (hA 12 (by kernel_rfl) (.inl rfl))
      clear hA HS hX
      exact Rg.op_value (o := ⟨some 124, Op.fieldAddr 41 (Operand.tmp 123) 2, _, _, _, _⟩) (x := .pointer (some ⟨g, off + j * 3 + 2, none⟩)) rfl (Rg.wanted_of (g := 7) rfl rfl qg) (by simp only [execOp]; go_simp) ⟨_, rfl, (fun h => by cases h), rfl, hI, fun _ _ _ h => h⟩
    · intro bb w' hf hI hA
      clear hi'
      have qg : bb.tmps[118]? = some _ := hf.tmp (k := 7) rfl (by rw [ha]; decide) (hA 7 (by kernel_rfl) (.inl rfl))
      have q124 : bb.tmps[124]? = some _ := hf.tmp (k := 13) rfl (by rw [ha]; decide) (hA 13 (by kernel_rfl) (.inl rfl))
      have e9 := (hI.cell (p := ⟨g, off + j * 3 + 2, none⟩) hgl).trans hc
      clear hA HS hX
      exact Rg.op_value (o := ⟨some 125, Op.load 2 (Operand.tmp 124), _, _, _, _⟩) (x := .int .i64 q.g) rfl (Rg.wanted_of (g := 7) rfl rfl qg) (by simp only [execOp]; go_simp) ⟨_, rfl, (fun h => by cases h), rfl, hI, fun _ _ _ h => h⟩
    · intro bb w' hf hI hA
      clear hi'
      have qg : bb.tmps[118]? = some _ := hf.tmp (k := 7) rfl (by rw [ha]; decide) (hA 7 (by kernel_rfl) (.inl rfl))
      have q120 : bb.tmps[120]? = some _ := hf.tmp (k := 9) rfl (by rw [ha]; decide) (hA 9 (by kernel_rfl) (.inl rfl))
      have q125 : bb.tmps[125]? = some _ := hf.tmp (k := 14) rfl (by rw [ha]; decide) (hA 14 (by kernel_rfl) (.inl rfl))
      clear hA HS hX
      exact Rg.op_value (o := ⟨some 126, Op.binOp BinOp.gtr 2 (Operand.tmp 120) (Operand.tmp 125) 2, _, _, _, _⟩) (x := .bool (decide (q.g < r.g))) rfl (Rg.wanted_of (g := 7) rfl rfl qg) (by simp only [execOp]; go_simp) ⟨_, rfl, (fun h => by cases h), rfl, hI, fun _ _ _ h => h⟩
    · intro bb w' hf hI hA
      clear hi'
      have qg : bb.tmps[115]? = some _ := hf.tmp (k := 4) rfl (by rw [ha]; decide) (hA 4 (by kernel_rfl) (.inl rfl))
      have q118 : bb.tmps[118]? = some _ := hf.tmp (k := 7) rfl (by rw [ha]; decide) (hA 7 (by kernel_rfl) (.inl rfl))
      have q126 : bb.tmps[126]? = some _ := hf.tmp (k := 15) rfl (by rw [ha]; decide) (hA 15 (by kernel_rfl) (.inl rfl))
      clear hA HS hX
      exact Rg.op_value (o := ⟨some 127, Op.pick (Operand.tmp 118) (Operand.const (Value.bool true)) (Operand.tmp 126), _, _, _, _⟩) (x := .bool (decide (q.g < r.g))) rfl (Rg.wanted_of (g := 4) rfl rfl qg) (by simp only [execOp]; go_simp) ⟨_, rfl, (fun h => by cases h), rfl, hI, fun _ _ _ h => h⟩
    · intro bb w' hf hI hA
      clear hi'
      have q115 : bb.tmps[115]? = some _ := hf.tmp (k := 4) rfl (by rw [ha]; decide) (hA 4 (by kernel_rfl) (.inl rfl))
      have q127 : bb.tmps[127]? = some _ := hf.tmp (k := 16) rfl (by rw [ha]; decide) (hA 16 (by kernel_rfl) (.inl rfl))
      clear hA HS hX
      exact Rg.op_value (o := ⟨some 128, Op.pick (Operand.tmp 115) (Operand.tmp 127) (Operand.const (Value.bool false)), _, _, _, _⟩) (x := .bool (decide (q.g < r.g))) rfl rfl (by simp only [execOp]; go_simp) ⟨_, rfl, (fun h => by cases h), rfl, hI, fun _ _ _ h => h⟩
end Go.Proofs.Ytcnhogghfedcdaa
