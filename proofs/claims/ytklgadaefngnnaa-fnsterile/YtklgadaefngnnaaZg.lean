/-
  The last region of the law on sterile trays, whatever its order.
-/
import Derived.Test.YtklgadaefngnnaaZeh
import Derived.Test.YtklgadaefngnnaaRg
namespace Go.Proofs.Ytklgadaefngnnaa
open Go.RowKit Va Wa Go.Maps
set_option linter.all false

/-- What each operation of the region leaves. -/
def F19 (S : Value) (b xp : Int) (i g off : Nat) (TL CL : List Int) (k : Nat) (v : Value) (w : World) : Prop :=
  match k with
  | 0 => v = .bool true
  | 1 => v = .bool false
  | 2 => v = .bool false
  | 3 => v = S
  | 4 => v = .int .i64 b
  | 5 => ∃ ad c bb, v = .slice ad TL.length c ∧ w.ownsRow bb 2 1 (.slice ad TL.length c) TL.length (TL.map fun z => Value.int .i64 z)
  | 6 => v = S
  | 7 => v = .int .i64 i
  | 8 => v = .pointer (some ⟨g, off + i * 4, none⟩)
  | 9 => v = .pointer (some ⟨g, off + i * 4 + 3, none⟩)
  | 10 => v = .int .i64 xp
  | 11 => v = .bool true
  | 12 => v = .bool false
  | 13 => v = .bool false
  | 14 => v = .bool false
  | 15 => v = S
  | 16 => v = S
  | 17 => v = .int .i64 i
  | 18 => v = .pointer (some ⟨g, off + i * 4, none⟩)
  | 19 => v = .pointer (some ⟨g, off + i * 4 + 3, none⟩)
  | 20 => v = .int .i64 xp
  | 21 => ∃ ad c bb, v = .slice ad CL.length c ∧ w.ownsRow bb 2 1 (.slice ad CL.length c) CL.length (CL.map fun z => Value.int .i64 z)
  | 22 => v = .int .i64 b
  | 23 => v = .bool true
  | 24 => v = .bool false
  | 25 => v = .bool false
  | _ => True
theorem F19_keep {S : Value} {b xp : Int} {i g off : Nat} {TL CL : List Int} {w w' : World} (hb : Below w.heap.size w w') (k : Nat) (v : Value) (h : F19 S b xp i g off TL CL k v w) : F19 S b xp i g off TL CL k v w' := by
  unfold F19 at *
  split at h <;> first
    | exact h
    | (obtain ⟨ad, c, bb, h1, h2⟩ := h; exact ⟨ad, c, bb, h1, ownW_below h2 hb⟩)
theorem sizes19 : (Rg.opsOf Try.f6 19).size = 26 := by kernel_rfl

set_option maxRecDepth 20000 in
set_option maxHeartbeats 4000000 in
theorem reg19 {Q : Exit → Act → World → Prop} {a : Act} {wr : World} {n c i g off : Nat} {b xp : Int} {TL CL : List Int} (ha : a.tmps.size = 106)
    (k3 : a.tmps[3]? = some (.slice (some ⟨g, off, none⟩) n c)) (k5 : a.tmps[5]? = some (.int .i64 i)) (k6 : a.tmps[6]? = some (.int .i64 b)) (k7 : a.tmps[7]? = some (.bool true)) (hin : i < n) (hg : g < wr.heap.size) (hy : wr.cell? ⟨g, off + i * 4 + 3, none⟩ = some (.int .i64 xp))
    (kT : ∀ W, Below wr.heap.size wr W → Calls Try.prog 27 #[.slice (some ⟨g, off, none⟩) n c, .int .i64 b] W fun e W' => ∃ v, e = .returned v ∧ W'.ownsRow W.heap.size 2 1 v TL.length (TL.map fun z => Value.int .i64 z) ∧ Below W.heap.size W W')
    (kC : ∀ W, Below wr.heap.size wr W → Calls Try.prog 28 #[.slice (some ⟨g, off, none⟩) n c, .int .i64 xp] W fun e W' => ∃ v, e = .returned v ∧ W'.ownsRow W.heap.size 2 1 v CL.length (CL.map fun z => Value.int .i64 z) ∧ Below W.heap.size W W')
    (hTL : TL.length ≤ 1000) (hCL : CL.length ≤ 1000) (hT : xp ∈ TL) (hC : b ∈ CL)
    (hend : ∀ b' w', Rg.Fr (Rg.opsOf Try.f6 19) a b' → Below wr.heap.size wr w' → Rg.out (Rg.opsOf Try.f6 19) b' 25 = .bool false → Q .normal b' w') :
    (Code.region 19 (Rg.opsOf Try.f6 19) true).wp Try.prog Q a wr := by
  have hini : (i : Int) < (n : Int) := by omega
  refine Rg.region_by 26 (by kernel_rfl) (fun w' => Below wr.heap.size wr w') (F19 (.slice (some ⟨g, off, none⟩) n c) b xp i g off TL CL) (by rw [ha]; kernel_rfl) (st_drew (Below.refl _ _)) ?_ (fun h => absurd h (by rw [sizes19]; decide)) ?_
  case refine_2 =>
    intro _ b' w' hf hI hA
    exact hend b' w' hf hI (hA 25 (by rw [sizes19]; decide))
  case refine_1 =>
    clear hend
    have HS : ∀ {w w' : World}, Below w.heap.size w w' → ∀ k y, F19 (.slice (some ⟨g, off, none⟩) n c) b xp i g off TL CL k y w → F19 (.slice (some ⟨g, off, none⟩) n c) b xp i g off TL CL k y w' := fun hb k y h => F19_keep hb k y h
    intro i' hi' hne
    rw [sizes19] at hi'
    rcases (show i' = 0 ∨ i' = 1 ∨ i' = 2 ∨ i' = 3 ∨ i' = 4 ∨ i' = 5 ∨ i' = 6 ∨ i' = 7 ∨ i' = 8 ∨ i' = 9 ∨ i' = 10 ∨ i' = 11 ∨ i' = 12 ∨ i' = 13 ∨ i' = 14 ∨ i' = 15 ∨ i' = 16 ∨ i' = 17 ∨ i' = 18 ∨ i' = 19 ∨ i' = 20 ∨ i' = 21 ∨ i' = 22 ∨ i' = 23 ∨ i' = 24 ∨ i' = 25 by omega) with rfl | rfl | rfl | rfl | rfl | rfl | rfl | rfl | rfl | rfl | rfl | rfl | rfl | rfl | rfl | rfl | rfl | rfl | rfl | rfl | rfl | rfl | rfl | rfl | rfl | rfl
    · intro bb w' hf hI hA
      clear hi' hne
      have q0 := hf.kept (s := 7) (by rw [sizes19]; kernel_rfl) k7
      exact Rg.op_value (o := ⟨some 80, Op.move (Operand.tmp 7), _, _, _, _⟩) rfl rfl rfl ⟨_, rfl, (fun h => by cases h), (by show Act.eval bb _ = _; simp [Act.eval, q0]), hI, fun _ _ h => h⟩
    · intro bb w' hf hI hA
      clear hi' hne
      have q0 : bb.tmps[80]? = some _ := hf.tmp (k := 0) rfl (by rw [ha]; decide) (hA 0 (by kernel_rfl))
      clear hA kT kC HS
      exact Rg.op_value (o := ⟨some 81, Op.unOp UnOp.not 4 (Operand.tmp 80), _, _, _, _⟩) (x := .bool false) rfl rfl (by simp only [execOp]; go_simp) ⟨_, rfl, (fun h => by cases h), rfl, hI, fun _ _ h => h⟩
    · intro bb w' hf hI hA
      clear hi' hne
      have q1 : bb.tmps[81]? = some _ := hf.tmp (k := 1) rfl (by rw [ha]; decide) (hA 1 (by kernel_rfl))
      clear hA kT kC HS
      exact Rg.op_value (o := ⟨some 82, Op.move (Operand.tmp 81), _, _, _, _⟩) (x := .bool false) rfl rfl (by simp only [execOp]; go_simp) ⟨_, rfl, (fun h => by cases h), rfl, hI, fun _ _ h => h⟩
    · intro bb w' hf hI hA
      clear hi' hne
      have qg : bb.tmps[82]? = some (.bool false) := hf.tmp (k := 2) rfl (by rw [ha]; decide) (hA 2 (by kernel_rfl))
      have q0 := hf.kept (s := 3) (by rw [sizes19]; kernel_rfl) k3
      exact Rg.op_value (o := ⟨some 83, Op.move (Operand.tmp 3), _, _, _, _⟩) rfl (Rg.wanted_of (g := 2) rfl rfl qg) rfl ⟨_, rfl, (fun h => by cases h), (by show Act.eval bb _ = _; simp [Act.eval, q0]), hI, fun _ _ h => h⟩
    · intro bb w' hf hI hA
      clear hi' hne
      have qg : bb.tmps[82]? = some (.bool false) := hf.tmp (k := 2) rfl (by rw [ha]; decide) (hA 2 (by kernel_rfl))
      have q0 := hf.kept (s := 6) (by rw [sizes19]; kernel_rfl) k6
      exact Rg.op_value (o := ⟨some 84, Op.move (Operand.tmp 6), _, _, _, _⟩) rfl (Rg.wanted_of (g := 2) rfl rfl qg) rfl ⟨_, rfl, (fun h => by cases h), (by show Act.eval bb _ = _; simp [Act.eval, q0]), hI, fun _ _ h => h⟩
    · intro bb w' hf hI hA
      clear hi' hne
      have qg : bb.tmps[82]? = some (.bool false) := hf.tmp (k := 2) rfl (by rw [ha]; decide) (hA 2 (by kernel_rfl))
      have q3 : bb.tmps[83]? = some _ := hf.tmp (k := 3) rfl (by rw [ha]; decide) (hA 3 (by kernel_rfl))
      have q4 : bb.tmps[84]? = some _ := hf.tmp (k := 4) rfl (by rw [ha]; decide) (hA 4 (by kernel_rfl))
      refine Rg.op_call (o := ⟨some 85, Op.call { callee := Callee.value (Operand.func 27), args := #[Operand.tmp 83, Operand.tmp 84], argTypes := _ }, _, _, _, _⟩) rfl (Rg.wanted_of (g := 2) rfl rfl qg) (by clear hA kT kC HS; simp only [execOp, resolve]; go_simp) (kT w' hI) ?_
      rintro e w2 ⟨v, rfl, ho, hb2⟩
      obtain ⟨ad, cc, rfl⟩ := ownW_slice ho
      exact ⟨_, rfl, _, rfl, (fun h => by cases h), ⟨ad, cc, _, rfl, ho⟩, onto hI hb2, HS hb2⟩
    · intro bb w' hf hI hA
      clear hi' hne
      have qg : bb.tmps[82]? = some (.bool false) := hf.tmp (k := 2) rfl (by rw [ha]; decide) (hA 2 (by kernel_rfl))
      have q0 := hf.kept (s := 3) (by rw [sizes19]; kernel_rfl) k3
      exact Rg.op_value (o := ⟨some 86, Op.move (Operand.tmp 3), _, _, _, _⟩) rfl (Rg.wanted_of (g := 2) rfl rfl qg) rfl ⟨_, rfl, (fun h => by cases h), (by show Act.eval bb _ = _; simp [Act.eval, q0]), hI, fun _ _ h => h⟩
    · intro bb w' hf hI hA
      clear hi' hne
      have qg : bb.tmps[82]? = some (.bool false) := hf.tmp (k := 2) rfl (by rw [ha]; decide) (hA 2 (by kernel_rfl))
      have q0 := hf.kept (s := 5) (by rw [sizes19]; kernel_rfl) k5
      exact Rg.op_value (o := ⟨some 87, Op.move (Operand.tmp 5), _, _, _, _⟩) rfl (Rg.wanted_of (g := 2) rfl rfl qg) rfl ⟨_, rfl, (fun h => by cases h), (by show Act.eval bb _ = _; simp [Act.eval, q0]), hI, fun _ _ h => h⟩
    · intro bb w' hf hI hA
      clear hi' hne
      have qg : bb.tmps[82]? = some (.bool false) := hf.tmp (k := 2) rfl (by rw [ha]; decide) (hA 2 (by kernel_rfl))
      have q6 : bb.tmps[86]? = some _ := hf.tmp (k := 6) rfl (by rw [ha]; decide) (hA 6 (by kernel_rfl))
      have q7 : bb.tmps[87]? = some _ := hf.tmp (k := 7) rfl (by rw [ha]; decide) (hA 7 (by kernel_rfl))
      clear hA kT kC HS
      exact Rg.op_value (o := ⟨some 88, Op.indexAddr 53 (Operand.tmp 86) (Operand.tmp 87), _, _, _, _⟩) (x := .pointer (some ⟨g, off + i * 4, none⟩)) rfl (Rg.wanted_of (g := 2) rfl rfl qg) (by simp only [execOp]; go_simp) ⟨_, rfl, (fun h => by cases h), rfl, hI, fun _ _ h => h⟩
    · intro bb w' hf hI hA
      clear hi' hne
      have qg : bb.tmps[82]? = some (.bool false) := hf.tmp (k := 2) rfl (by rw [ha]; decide) (hA 2 (by kernel_rfl))
      have q8 : bb.tmps[88]? = some _ := hf.tmp (k := 8) rfl (by rw [ha]; decide) (hA 8 (by kernel_rfl))
      clear hA kT kC HS
      exact Rg.op_value (o := ⟨some 89, Op.fieldAddr 58 (Operand.tmp 88) 3, _, _, _, _⟩) (x := .pointer (some ⟨g, off + i * 4 + 3, none⟩)) rfl (Rg.wanted_of (g := 2) rfl rfl qg) (by simp only [execOp]; go_simp) ⟨_, rfl, (fun h => by cases h), rfl, hI, fun _ _ h => h⟩
    · intro bb w' hf hI hA
      clear hi' hne
      have qg : bb.tmps[82]? = some (.bool false) := hf.tmp (k := 2) rfl (by rw [ha]; decide) (hA 2 (by kernel_rfl))
      have q9 : bb.tmps[89]? = some _ := hf.tmp (k := 9) rfl (by rw [ha]; decide) (hA 9 (by kernel_rfl))
      have hyw := (hI.cell (p := ⟨g, off + i * 4 + 3, none⟩) hg).trans hy
      clear hA kT kC HS
      exact Rg.op_value (o := ⟨some 90, Op.load 2 (Operand.tmp 89), _, _, _, _⟩) (x := .int .i64 xp) rfl (Rg.wanted_of (g := 2) rfl rfl qg) (by simp only [execOp]; go_simp) ⟨_, rfl, (fun h => by cases h), rfl, hI, fun _ _ h => h⟩
    · intro bb w' hf hI hA
      clear hi' hne
      have qg : bb.tmps[82]? = some (.bool false) := hf.tmp (k := 2) rfl (by rw [ha]; decide) (hA 2 (by kernel_rfl))
      obtain ⟨ad, cc, b2, hv, ho⟩ := hA 5 (by kernel_rfl)
      have q5 : bb.tmps[85]? = some _ := hf.tmp (k := 5) rfl (by rw [ha]; decide) hv
      have q10 : bb.tmps[90]? = some _ := hf.tmp (k := 10) rfl (by rw [ha]; decide) (hA 10 (by kernel_rfl))
      refine Rg.op_call (o := ⟨some 91, Op.call { callee := Callee.value (Operand.func 18), args := #[Operand.tmp 85, Operand.tmp 90], argTypes := _ }, _, _, _, _⟩) rfl (Rg.wanted_of (g := 2) rfl rfl qg) (by clear hA kT kC HS ho hv; simp only [execOp, resolve]; go_simp) (hasZ_any ad cc _ _ TL xp w' ho (by omega) hT) ?_
      rintro e w2 ⟨rfl, rfl⟩
      exact ⟨_, rfl, _, rfl, (fun h => by cases h), rfl, hI, fun _ _ h => h⟩
    · intro bb w' hf hI hA
      clear hi' hne
      have qg : bb.tmps[82]? = some (.bool false) := hf.tmp (k := 2) rfl (by rw [ha]; decide) (hA 2 (by kernel_rfl))
      have q11 : bb.tmps[91]? = some _ := hf.tmp (k := 11) rfl (by rw [ha]; decide) (hA 11 (by kernel_rfl))
      clear hA kT kC HS
      exact Rg.op_value (o := ⟨some 92, Op.unOp UnOp.not 4 (Operand.tmp 91), _, _, _, _⟩) (x := .bool false) rfl (Rg.wanted_of (g := 2) rfl rfl qg) (by simp only [execOp]; go_simp) ⟨_, rfl, (fun h => by cases h), rfl, hI, fun _ _ h => h⟩
    · intro bb w' hf hI hA
      clear hi' hne
      have q2 : bb.tmps[82]? = some _ := hf.tmp (k := 2) rfl (by rw [ha]; decide) (hA 2 (by kernel_rfl))
      have q12 : bb.tmps[92]? = some _ := hf.tmp (k := 12) rfl (by rw [ha]; decide) (hA 12 (by kernel_rfl))
      clear hA kT kC HS
      exact Rg.op_value (o := ⟨some 93, Op.pick (Operand.tmp 82) (Operand.const (Value.bool true)) (Operand.tmp 92), _, _, _, _⟩) (x := .bool false) rfl rfl (by simp only [execOp]; go_simp) ⟨_, rfl, (fun h => by cases h), rfl, hI, fun _ _ h => h⟩
    · intro bb w' hf hI hA
      clear hi' hne
      have q13 : bb.tmps[93]? = some _ := hf.tmp (k := 13) rfl (by rw [ha]; decide) (hA 13 (by kernel_rfl))
      clear hA kT kC HS
      exact Rg.op_value (o := ⟨some 94, Op.move (Operand.tmp 93), _, _, _, _⟩) (x := .bool false) rfl rfl (by simp only [execOp]; go_simp) ⟨_, rfl, (fun h => by cases h), rfl, hI, fun _ _ h => h⟩
    · intro bb w' hf hI hA
      clear hi' hne
      have qg : bb.tmps[94]? = some (.bool false) := hf.tmp (k := 14) rfl (by rw [ha]; decide) (hA 14 (by kernel_rfl))
      have q0 := hf.kept (s := 3) (by rw [sizes19]; kernel_rfl) k3
      exact Rg.op_value (o := ⟨some 95, Op.move (Operand.tmp 3), _, _, _, _⟩) rfl (Rg.wanted_of (g := 14) rfl rfl qg) rfl ⟨_, rfl, (fun h => by cases h), (by show Act.eval bb _ = _; simp [Act.eval, q0]), hI, fun _ _ h => h⟩
    · intro bb w' hf hI hA
      clear hi' hne
      have qg : bb.tmps[94]? = some (.bool false) := hf.tmp (k := 14) rfl (by rw [ha]; decide) (hA 14 (by kernel_rfl))
      have q0 := hf.kept (s := 3) (by rw [sizes19]; kernel_rfl) k3
      exact Rg.op_value (o := ⟨some 96, Op.move (Operand.tmp 3), _, _, _, _⟩) rfl (Rg.wanted_of (g := 14) rfl rfl qg) rfl ⟨_, rfl, (fun h => by cases h), (by show Act.eval bb _ = _; simp [Act.eval, q0]), hI, fun _ _ h => h⟩
    · intro bb w' hf hI hA
      clear hi' hne
      have qg : bb.tmps[94]? = some (.bool false) := hf.tmp (k := 14) rfl (by rw [ha]; decide) (hA 14 (by kernel_rfl))
      have q0 := hf.kept (s := 5) (by rw [sizes19]; kernel_rfl) k5
      exact Rg.op_value (o := ⟨some 97, Op.move (Operand.tmp 5), _, _, _, _⟩) rfl (Rg.wanted_of (g := 14) rfl rfl qg) rfl ⟨_, rfl, (fun h => by cases h), (by show Act.eval bb _ = _; simp [Act.eval, q0]), hI, fun _ _ h => h⟩
    · intro bb w' hf hI hA
      clear hi' hne
      have qg : bb.tmps[94]? = some (.bool false) := hf.tmp (k := 14) rfl (by rw [ha]; decide) (hA 14 (by kernel_rfl))
      have q16 : bb.tmps[96]? = some _ := hf.tmp (k := 16) rfl (by rw [ha]; decide) (hA 16 (by kernel_rfl))
      have q17 : bb.tmps[97]? = some _ := hf.tmp (k := 17) rfl (by rw [ha]; decide) (hA 17 (by kernel_rfl))
      clear hA kT kC HS
      exact Rg.op_value (o := ⟨some 98, Op.indexAddr 53 (Operand.tmp 96) (Operand.tmp 97), _, _, _, _⟩) (x := .pointer (some ⟨g, off + i * 4, none⟩)) rfl (Rg.wanted_of (g := 14) rfl rfl qg) (by simp only [execOp]; go_simp) ⟨_, rfl, (fun h => by cases h), rfl, hI, fun _ _ h => h⟩
    · intro bb w' hf hI hA
      clear hi' hne
      have qg : bb.tmps[94]? = some (.bool false) := hf.tmp (k := 14) rfl (by rw [ha]; decide) (hA 14 (by kernel_rfl))
      have q18 : bb.tmps[98]? = some _ := hf.tmp (k := 18) rfl (by rw [ha]; decide) (hA 18 (by kernel_rfl))
      clear hA kT kC HS
      exact Rg.op_value (o := ⟨some 99, Op.fieldAddr 58 (Operand.tmp 98) 3, _, _, _, _⟩) (x := .pointer (some ⟨g, off + i * 4 + 3, none⟩)) rfl (Rg.wanted_of (g := 14) rfl rfl qg) (by simp only [execOp]; go_simp) ⟨_, rfl, (fun h => by cases h), rfl, hI, fun _ _ h => h⟩
    · intro bb w' hf hI hA
      clear hi' hne
      have qg : bb.tmps[94]? = some (.bool false) := hf.tmp (k := 14) rfl (by rw [ha]; decide) (hA 14 (by kernel_rfl))
      have q19 : bb.tmps[99]? = some _ := hf.tmp (k := 19) rfl (by rw [ha]; decide) (hA 19 (by kernel_rfl))
      have hyw := (hI.cell (p := ⟨g, off + i * 4 + 3, none⟩) hg).trans hy
      clear hA kT kC HS
      exact Rg.op_value (o := ⟨some 100, Op.load 2 (Operand.tmp 99), _, _, _, _⟩) (x := .int .i64 xp) rfl (Rg.wanted_of (g := 14) rfl rfl qg) (by simp only [execOp]; go_simp) ⟨_, rfl, (fun h => by cases h), rfl, hI, fun _ _ h => h⟩
    · intro bb w' hf hI hA
      clear hi' hne
      have qg : bb.tmps[94]? = some (.bool false) := hf.tmp (k := 14) rfl (by rw [ha]; decide) (hA 14 (by kernel_rfl))
      have q15 : bb.tmps[95]? = some _ := hf.tmp (k := 15) rfl (by rw [ha]; decide) (hA 15 (by kernel_rfl))
      have q20 : bb.tmps[100]? = some _ := hf.tmp (k := 20) rfl (by rw [ha]; decide) (hA 20 (by kernel_rfl))
      refine Rg.op_call (o := ⟨some 101, Op.call { callee := Callee.value (Operand.func 28), args := #[Operand.tmp 95, Operand.tmp 100], argTypes := _ }, _, _, _, _⟩) rfl (Rg.wanted_of (g := 14) rfl rfl qg) (by clear hA kT kC HS; simp only [execOp, resolve]; go_simp) (kC w' hI) ?_
      rintro e w2 ⟨v, rfl, ho, hb2⟩
      obtain ⟨ad, cc, rfl⟩ := ownW_slice ho
      exact ⟨_, rfl, _, rfl, (fun h => by cases h), ⟨ad, cc, _, rfl, ho⟩, onto hI hb2, HS hb2⟩
    · intro bb w' hf hI hA
      clear hi' hne
      have qg : bb.tmps[94]? = some (.bool false) := hf.tmp (k := 14) rfl (by rw [ha]; decide) (hA 14 (by kernel_rfl))
      have q0 := hf.kept (s := 6) (by rw [sizes19]; kernel_rfl) k6
      exact Rg.op_value (o := ⟨some 102, Op.move (Operand.tmp 6), _, _, _, _⟩) rfl (Rg.wanted_of (g := 14) rfl rfl qg) rfl ⟨_, rfl, (fun h => by cases h), (by show Act.eval bb _ = _; simp [Act.eval, q0]), hI, fun _ _ h => h⟩
    · intro bb w' hf hI hA
      clear hi' hne
      have qg : bb.tmps[94]? = some (.bool false) := hf.tmp (k := 14) rfl (by rw [ha]; decide) (hA 14 (by kernel_rfl))
      obtain ⟨ad, cc, b2, hv, ho⟩ := hA 21 (by kernel_rfl)
      have q21 : bb.tmps[101]? = some _ := hf.tmp (k := 21) rfl (by rw [ha]; decide) hv
      have q22 : bb.tmps[102]? = some _ := hf.tmp (k := 22) rfl (by rw [ha]; decide) (hA 22 (by kernel_rfl))
      refine Rg.op_call (o := ⟨some 103, Op.call { callee := Callee.value (Operand.func 18), args := #[Operand.tmp 101, Operand.tmp 102], argTypes := _ }, _, _, _, _⟩) rfl (Rg.wanted_of (g := 14) rfl rfl qg) (by clear hA kT kC HS ho hv; simp only [execOp, resolve]; go_simp) (hasZ_any ad cc _ _ CL b w' ho (by omega) hC) ?_
      rintro e w2 ⟨rfl, rfl⟩
      exact ⟨_, rfl, _, rfl, (fun h => by cases h), rfl, hI, fun _ _ h => h⟩
    · intro bb w' hf hI hA
      clear hi' hne
      have qg : bb.tmps[94]? = some (.bool false) := hf.tmp (k := 14) rfl (by rw [ha]; decide) (hA 14 (by kernel_rfl))
      have q23 : bb.tmps[103]? = some _ := hf.tmp (k := 23) rfl (by rw [ha]; decide) (hA 23 (by kernel_rfl))
      clear hA kT kC HS
      exact Rg.op_value (o := ⟨some 104, Op.unOp UnOp.not 4 (Operand.tmp 103), _, _, _, _⟩) (x := .bool false) rfl (Rg.wanted_of (g := 14) rfl rfl qg) (by simp only [execOp]; go_simp) ⟨_, rfl, (fun h => by cases h), rfl, hI, fun _ _ h => h⟩
    · intro bb w' hf hI hA
      clear hi' hne
      have q14 : bb.tmps[94]? = some _ := hf.tmp (k := 14) rfl (by rw [ha]; decide) (hA 14 (by kernel_rfl))
      have q24 : bb.tmps[104]? = some _ := hf.tmp (k := 24) rfl (by rw [ha]; decide) (hA 24 (by kernel_rfl))
      clear hA kT kC HS
      exact Rg.op_value (o := ⟨some 105, Op.pick (Operand.tmp 94) (Operand.const (Value.bool true)) (Operand.tmp 104), _, _, _, _⟩) (x := .bool false) rfl rfl (by simp only [execOp]; go_simp) ⟨_, rfl, (fun h => by cases h), rfl, hI, fun _ _ h => h⟩
theorem d19_0 : Rg.dstAt (Rg.opsOf Try.f6 19) 0 = some 80 := by kernel_rfl
theorem d19_1 : Rg.dstAt (Rg.opsOf Try.f6 19) 1 = some 81 := by kernel_rfl
theorem d19_2 : Rg.dstAt (Rg.opsOf Try.f6 19) 2 = some 82 := by kernel_rfl
theorem d19_3 : Rg.dstAt (Rg.opsOf Try.f6 19) 3 = some 83 := by kernel_rfl
theorem d19_4 : Rg.dstAt (Rg.opsOf Try.f6 19) 4 = some 84 := by kernel_rfl
theorem d19_5 : Rg.dstAt (Rg.opsOf Try.f6 19) 5 = some 85 := by kernel_rfl
theorem d19_6 : Rg.dstAt (Rg.opsOf Try.f6 19) 6 = some 86 := by kernel_rfl
theorem d19_7 : Rg.dstAt (Rg.opsOf Try.f6 19) 7 = some 87 := by kernel_rfl
theorem d19_8 : Rg.dstAt (Rg.opsOf Try.f6 19) 8 = some 88 := by kernel_rfl
theorem d19_9 : Rg.dstAt (Rg.opsOf Try.f6 19) 9 = some 89 := by kernel_rfl
theorem d19_10 : Rg.dstAt (Rg.opsOf Try.f6 19) 10 = some 90 := by kernel_rfl
theorem d19_11 : Rg.dstAt (Rg.opsOf Try.f6 19) 11 = some 91 := by kernel_rfl
theorem d19_12 : Rg.dstAt (Rg.opsOf Try.f6 19) 12 = some 92 := by kernel_rfl
theorem d19_13 : Rg.dstAt (Rg.opsOf Try.f6 19) 13 = some 93 := by kernel_rfl
theorem d19_14 : Rg.dstAt (Rg.opsOf Try.f6 19) 14 = some 94 := by kernel_rfl
theorem d19_15 : Rg.dstAt (Rg.opsOf Try.f6 19) 15 = some 95 := by kernel_rfl
theorem d19_16 : Rg.dstAt (Rg.opsOf Try.f6 19) 16 = some 96 := by kernel_rfl
theorem d19_17 : Rg.dstAt (Rg.opsOf Try.f6 19) 17 = some 97 := by kernel_rfl
theorem d19_18 : Rg.dstAt (Rg.opsOf Try.f6 19) 18 = some 98 := by kernel_rfl
theorem d19_19 : Rg.dstAt (Rg.opsOf Try.f6 19) 19 = some 99 := by kernel_rfl
theorem d19_20 : Rg.dstAt (Rg.opsOf Try.f6 19) 20 = some 100 := by kernel_rfl
theorem d19_21 : Rg.dstAt (Rg.opsOf Try.f6 19) 21 = some 101 := by kernel_rfl
theorem d19_22 : Rg.dstAt (Rg.opsOf Try.f6 19) 22 = some 102 := by kernel_rfl
theorem d19_23 : Rg.dstAt (Rg.opsOf Try.f6 19) 23 = some 103 := by kernel_rfl
theorem d19_24 : Rg.dstAt (Rg.opsOf Try.f6 19) 24 = some 104 := by kernel_rfl
theorem d19_25 : Rg.dstAt (Rg.opsOf Try.f6 19) 25 = some 105 := by kernel_rfl
theorem lay19 {a b : Act} (hf : Rg.Fr (Rg.opsOf Try.f6 19) a b) : b = ((((((((((((((((((((((((((a.put (some 80) (Rg.out (Rg.opsOf Try.f6 19) b 0)).put (some 81) (Rg.out (Rg.opsOf Try.f6 19) b 1)).put (some 82) (Rg.out (Rg.opsOf Try.f6 19) b 2)).put (some 83) (Rg.out (Rg.opsOf Try.f6 19) b 3)).put (some 84) (Rg.out (Rg.opsOf Try.f6 19) b 4)).put (some 85) (Rg.out (Rg.opsOf Try.f6 19) b 5)).put (some 86) (Rg.out (Rg.opsOf Try.f6 19) b 6)).put (some 87) (Rg.out (Rg.opsOf Try.f6 19) b 7)).put (some 88) (Rg.out (Rg.opsOf Try.f6 19) b 8)).put (some 89) (Rg.out (Rg.opsOf Try.f6 19) b 9)).put (some 90) (Rg.out (Rg.opsOf Try.f6 19) b 10)).put (some 91) (Rg.out (Rg.opsOf Try.f6 19) b 11)).put (some 92) (Rg.out (Rg.opsOf Try.f6 19) b 12)).put (some 93) (Rg.out (Rg.opsOf Try.f6 19) b 13)).put (some 94) (Rg.out (Rg.opsOf Try.f6 19) b 14)).put (some 95) (Rg.out (Rg.opsOf Try.f6 19) b 15)).put (some 96) (Rg.out (Rg.opsOf Try.f6 19) b 16)).put (some 97) (Rg.out (Rg.opsOf Try.f6 19) b 17)).put (some 98) (Rg.out (Rg.opsOf Try.f6 19) b 18)).put (some 99) (Rg.out (Rg.opsOf Try.f6 19) b 19)).put (some 100) (Rg.out (Rg.opsOf Try.f6 19) b 20)).put (some 101) (Rg.out (Rg.opsOf Try.f6 19) b 21)).put (some 102) (Rg.out (Rg.opsOf Try.f6 19) b 22)).put (some 103) (Rg.out (Rg.opsOf Try.f6 19) b 23)).put (some 104) (Rg.out (Rg.opsOf Try.f6 19) b 24)).put (some 105) (Rg.out (Rg.opsOf Try.f6 19) b 25)) := by
  have h := hf.chain
  rw [sizes19, show List.range 26 = [0, 1, 2, 3, 4, 5, 6, 7, 8, 9, 10, 11, 12, 13, 14, 15, 16, 17, 18, 19, 20, 21, 22, 23, 24, 25] from by decide] at h
  simp only [List.foldl_cons, List.foldl_nil, d19_0, d19_1, d19_2, d19_3, d19_4, d19_5, d19_6, d19_7, d19_8, d19_9, d19_10, d19_11, d19_12, d19_13, d19_14, d19_15, d19_16, d19_17, d19_18, d19_19, d19_20, d19_21, d19_22, d19_23, d19_24, d19_25] at h
  exact h
end Go.Proofs.Ytklgadaefngnnaa
