/-
  The law on reflexes: the region that draws its order.
-/
import Derived.Test.YtldggndhdilncaaT56
import Derived.Test.YtldggndhdilncaaRs
namespace Go.Proofs.Ytldggndhdilncaa
open Go.RowKit Va Lb
set_option linter.all false

def FFx17 (g off n cap i : Nat) (y : Int) (t : Bool) (i9 : Nat) (v : Value) (w : World) : Prop :=
  match i9 with
  | 0 => v = .slice (some ⟨g, off, none⟩) n cap
  | 1 => v = .int .i64 (i : Nat)
  | 2 => v = .slice (some ⟨g, off, none⟩) i cap
  | 3 => v = .slice (some ⟨g, off, none⟩) n cap
  | 4 => v = .int .i64 (i : Nat)
  | 5 => v = .pointer (some ⟨g, off + i, none⟩)
  | 6 => v = .int .i64 y
  | 7 => v = .bool t
  | _ => True
theorem sizeFx17 : (Rg.opsOf Try.f3 17).size = 8 := by kernel_rfl

set_option maxRecDepth 20000 in
set_option maxHeartbeats 8000000 in
theorem regFx17 {Q : Exit → Act → World → Prop} {a : Act} {w9 : World} {g off n cap i : Nat} {y : Int} {t : Bool} (ha : a.tmps.size = 65)
    (k6 : a.tmps[6]? = some (.slice (some ⟨g, off, none⟩) n cap)) (k8 : a.tmps[8]? = some (.int .i64 (i : Nat))) (hin : i < n) (hil : i < 1000000) (hic : i ≤ cap) (hgl : g < w9.heap.size) (x0 : w9.cell? ⟨g, off + i, none⟩ = some (.int .i64 y)) (hK : ∀ W, Below w9.heap.size w9 W → Calls Try.prog 8 #[.slice (some ⟨g, off, none⟩) i cap, .int .i64 y] W fun e W' => e = .returned (.bool t) ∧ Below W.heap.size W W')
    (hend : ∀ b' w', Rg.Fr (Rg.opsOf Try.f3 17) a b' → Below w9.heap.size w9 w' → Rg.out (Rg.opsOf Try.f3 17) b' 7 = .bool t → Q .normal b' w') :
    (Code.region 17 (Rg.opsOf Try.f3 17) true).wp Try.prog Q a w9 := by
  refine Rg.region_set3 (by kernel_rfl) (fun _ w' => Below w9.heap.size w9 w') (FFx17 g off n cap i y t) (by rw [ha, sizeFx17]; kernel_rfl) (st_drew (Below.refl _ _)) ?_ ?_
  case refine_2 =>
    intro l b' w' hf hall hI hA
    rw [sizeFx17] at hA
    exact hend b' w' hf hI (hA 7 (by decide))
  case refine_1 =>
    clear hend
    have HS : ∀ {w w' : World}, Below w.heap.size w w' → ∀ k9 y9, FFx17 g off n cap i y t k9 y9 w → FFx17 g off n cap i y t k9 y9 w' := fun hb k9 y9 h => by
      unfold FFx17 at *
      split at h <;> exact h
    intro i' hi'
    rw [sizeFx17] at hi'
    rcases (show i' = 0 ∨ i' = 1 ∨ i' = 2 ∨ i' = 3 ∨ i' = 4 ∨ i' = 5 ∨ i' = 6 ∨ i' = 7 by omega) with rfl | rfl | rfl | rfl | rfl | rfl | rfl | rfl
    · intro ll bb w' hs hlf hN hO hf hI hA
      clear hi'
      have q0 := hf.kept (s := 6) (by rw [sizeFx17]; kernel_rfl) k6
      exact Rg.op_value (o := ⟨some 51, Op.move (Operand.tmp 6), _, _, _, _⟩) (x := .slice (some ⟨g, off, none⟩) n cap) rfl rfl (by clear hA HS hN hO hK; simp only [execOp]; go_simp) ⟨_, rfl, (fun h => by cases h), rfl, hI, fun _ _ _ _ h => h⟩
    · intro ll bb w' hs hlf hN hO hf hI hA
      clear hi'
      have q0 := hf.kept (s := 8) (by rw [sizeFx17]; kernel_rfl) k8
      exact Rg.op_value (o := ⟨some 52, Op.move (Operand.tmp 8), _, _, _, _⟩) (x := .int .i64 (i : Nat)) rfl rfl (by clear hA HS hN hO hK; simp only [execOp]; go_simp) ⟨_, rfl, (fun h => by cases h), rfl, hI, fun _ _ _ _ h => h⟩
    · intro ll bb w' hs hlf hN hO hf hI hA
      clear hi'
      have q51 : bb.tmps[51]? = some _ := hf.tmp (k := 0) rfl (by rw [ha]; decide) (hA 0 (by kernel_rfl))
      have q52 : bb.tmps[52]? = some _ := hf.tmp (k := 1) rfl (by rw [ha]; decide) (hA 1 (by kernel_rfl))
      have hi5 : ((i : Nat) : Int) ≤ (cap : Int) := by omega
      have hi6 : ¬ ((cap : Nat) : Int) < (i : Int) := by omega
      exact Rg.op_value (o := ⟨some 53, Op.slice 26 (Operand.tmp 51) none (some (Operand.tmp 52)) none, _, _, _, _⟩) (x := .slice (some ⟨g, off, none⟩) i cap) rfl rfl (by clear hA HS hN hO hK; simp only [execOp]; go_simp) ⟨_, rfl, (fun h => by cases h), rfl, hI, fun _ _ _ _ h => h⟩
    · intro ll bb w' hs hlf hN hO hf hI hA
      clear hi'
      have q0 := hf.kept (s := 6) (by rw [sizeFx17]; kernel_rfl) k6
      exact Rg.op_value (o := ⟨some 54, Op.move (Operand.tmp 6), _, _, _, _⟩) (x := .slice (some ⟨g, off, none⟩) n cap) rfl rfl (by clear hA HS hN hO hK; simp only [execOp]; go_simp) ⟨_, rfl, (fun h => by cases h), rfl, hI, fun _ _ _ _ h => h⟩
    · intro ll bb w' hs hlf hN hO hf hI hA
      clear hi'
      have q0 := hf.kept (s := 8) (by rw [sizeFx17]; kernel_rfl) k8
      exact Rg.op_value (o := ⟨some 55, Op.move (Operand.tmp 8), _, _, _, _⟩) (x := .int .i64 (i : Nat)) rfl rfl (by clear hA HS hN hO hK; simp only [execOp]; go_simp) ⟨_, rfl, (fun h => by cases h), rfl, hI, fun _ _ _ _ h => h⟩
    · intro ll bb w' hs hlf hN hO hf hI hA
      clear hi'
      have q54 : bb.tmps[54]? = some _ := hf.tmp (k := 3) rfl (by rw [ha]; decide) (hA 3 (by kernel_rfl))
      have q55 : bb.tmps[55]? = some _ := hf.tmp (k := 4) rfl (by rw [ha]; decide) (hA 4 (by kernel_rfl))
      have hi5 : ((i : Nat) : Int) < (n : Int) := by omega
      exact Rg.op_value (o := ⟨some 56, Op.indexAddr 26 (Operand.tmp 54) (Operand.tmp 55), _, _, _, _⟩) (x := .pointer (some ⟨g, off + i, none⟩)) rfl rfl (by clear hA HS hN hO hK; simp only [execOp]; go_simp) ⟨_, rfl, (fun h => by cases h), rfl, hI, fun _ _ _ _ h => h⟩
    · intro ll bb w' hs hlf hN hO hf hI hA
      clear hi'
      have q56 : bb.tmps[56]? = some _ := hf.tmp (k := 5) rfl (by rw [ha]; decide) (hA 5 (by kernel_rfl))
      have e8 := (hI.cell (p := ⟨g, off + i, none⟩) hgl).trans x0
      exact Rg.op_value (o := ⟨some 57, Op.load 2 (Operand.tmp 56), _, _, _, _⟩) (x := .int .i64 y) rfl rfl (by clear hA HS hN hO hK; simp only [execOp]; go_simp) ⟨_, rfl, (fun h => by cases h), rfl, hI, fun _ _ _ _ h => h⟩
    · intro ll bb w' hs hlf hN hO hf hI hA
      clear hi'
      have q53 : bb.tmps[53]? = some _ := hf.tmp (k := 2) rfl (by rw [ha]; decide) (hA 2 (by kernel_rfl))
      have q57 : bb.tmps[57]? = some _ := hf.tmp (k := 6) rfl (by rw [ha]; decide) (hA 6 (by kernel_rfl))
      refine Rg.op_call (o := ⟨some 58, Op.call { callee := Callee.value (Operand.func 8), args := #[(Operand.tmp 53), (Operand.tmp 57)], argTypes := _ }, _, _, _, _⟩) rfl rfl (by clear hA HS hN hO hK; simp only [execOp, resolve]; go_simp) (hK w' hI) ?_
      rintro e w2 ⟨rfl, hb2⟩
      exact ⟨_, rfl, _, rfl, (fun h => by cases h), rfl, onto hI hb2, fun k9 y9 _ _ h => HS hb2 k9 y9 h⟩

theorem dFx17_0 : Rg.dstAt (Rg.opsOf Try.f3 17) 0 = some 51 := by kernel_rfl
theorem dFx17_1 : Rg.dstAt (Rg.opsOf Try.f3 17) 1 = some 52 := by kernel_rfl
theorem dFx17_2 : Rg.dstAt (Rg.opsOf Try.f3 17) 2 = some 53 := by kernel_rfl
theorem dFx17_3 : Rg.dstAt (Rg.opsOf Try.f3 17) 3 = some 54 := by kernel_rfl
theorem dFx17_4 : Rg.dstAt (Rg.opsOf Try.f3 17) 4 = some 55 := by kernel_rfl
theorem dFx17_5 : Rg.dstAt (Rg.opsOf Try.f3 17) 5 = some 56 := by kernel_rfl
theorem dFx17_6 : Rg.dstAt (Rg.opsOf Try.f3 17) 6 = some 57 := by kernel_rfl
theorem dFx17_7 : Rg.dstAt (Rg.opsOf Try.f3 17) 7 = some 58 := by kernel_rfl
theorem layFx17 {a b : Act} (hf : Rg.Fr (Rg.opsOf Try.f3 17) a b) : b = ((((((((a.put (some 51) (Rg.out (Rg.opsOf Try.f3 17) b 0)).put (some 52) (Rg.out (Rg.opsOf Try.f3 17) b 1)).put (some 53) (Rg.out (Rg.opsOf Try.f3 17) b 2)).put (some 54) (Rg.out (Rg.opsOf Try.f3 17) b 3)).put (some 55) (Rg.out (Rg.opsOf Try.f3 17) b 4)).put (some 56) (Rg.out (Rg.opsOf Try.f3 17) b 5)).put (some 57) (Rg.out (Rg.opsOf Try.f3 17) b 6)).put (some 58) (Rg.out (Rg.opsOf Try.f3 17) b 7)) := by
  have h := hf.chain
  rw [sizeFx17, show List.range 8 = [0, 1, 2, 3, 4, 5, 6, 7] from by decide] at h
  simp only [List.foldl_cons, List.foldl_nil, dFx17_0, dFx17_1, dFx17_2, dFx17_3, dFx17_4, dFx17_5, dFx17_6, dFx17_7] at h
  exact h

end Go.Proofs.Ytldggndhdilncaa
