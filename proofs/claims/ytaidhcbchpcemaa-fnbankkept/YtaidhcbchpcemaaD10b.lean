/-
  Banks that are kept: the law's long test, a region that draws its order.
-/
import Derived.Test.YtaidhcbchpcemaaD10
import Derived.Test.YtaidhcbchpcemaaRs
namespace Go.Proofs.Ytaidhcbchpcemaa
open Go.RowKit Va Bl
set_option linter.all false

def FFb15 (B C ga oa gb ob nl cc1 cc2 i : Nat) (x y : Ut) (n : Nd) (a9 : Da) (nv9 : Value) (cd : Int) (ta : Option Addr) (tc : Nat) (i9 : Nat) (v : Value) (w : World) : Prop :=
  match i9 with
  | 0 => v = .int .i64 cd
  | 1 => v = .bool (cd != 0)
  | 2 => v = .bool (cd != 0)
  | 3 => v = cond (true && ((cd != 0) == false)) (.slice (some ⟨gb, ob, none⟩) nl cc2) undef
  | 4 => v = cond (true && ((cd != 0) == false)) (.int .i64 (i : Nat)) undef
  | 5 => v = cond (true && ((cd != 0) == false)) (.pointer (some ⟨gb, ob + i * 6, none⟩)) undef
  | 6 => v = cond (true && ((cd != 0) == false)) (.pointer (some ⟨gb, ob + i * 6, none⟩)) undef
  | 7 => v = cond (true && ((cd != 0) == false)) (.int .i64 y.id) undef
  | 8 => v = cond (true && ((cd != 0) == false)) (.pointer (some ⟨C, 1, none⟩)) undef
  | 9 => v = cond (true && ((cd != 0) == false)) (.int .i64 a9.id) undef
  | 10 => v = cond (true && ((cd != 0) == false)) (.bool (y.id != a9.id)) undef
  | 11 => v = .bool ((cd != 0) || (y.id != a9.id))
  | 12 => v = .bool ((cd != 0) || (y.id != a9.id))
  | 13 => v = cond (true && (((cd != 0) || (y.id != a9.id)) == true)) (.slice (some ⟨gb, ob, none⟩) nl cc2) undef
  | 14 => v = cond (true && (((cd != 0) || (y.id != a9.id)) == true)) (.int .i64 (i : Nat)) undef
  | 15 => v = cond (true && (((cd != 0) || (y.id != a9.id)) == true)) (.pointer (some ⟨gb, ob + i * 6, none⟩)) undef
  | 16 => v = cond (true && (((cd != 0) || (y.id != a9.id)) == true)) (.pointer (some ⟨gb, ob + i * 6 + 4, none⟩)) undef
  | 17 => v = cond (true && (((cd != 0) || (y.id != a9.id)) == true)) (.int .i64 y.st) undef
  | 18 => v = cond (true && (((cd != 0) || (y.id != a9.id)) == true)) (.slice (some ⟨ga, oa, none⟩) nl cc1) undef
  | 19 => v = cond (true && (((cd != 0) || (y.id != a9.id)) == true)) (.int .i64 (i : Nat)) undef
  | 20 => v = cond (true && (((cd != 0) || (y.id != a9.id)) == true)) (.pointer (some ⟨ga, oa + i * 6, none⟩)) undef
  | 21 => v = cond (true && (((cd != 0) || (y.id != a9.id)) == true)) (.pointer (some ⟨ga, oa + i * 6 + 4, none⟩)) undef
  | 22 => v = cond (true && (((cd != 0) || (y.id != a9.id)) == true)) (.int .i64 x.st) undef
  | 23 => v = cond (true && (((cd != 0) || (y.id != a9.id)) == true)) (.bool (y.st != x.st)) undef
  | 24 => v = cond (true && (((cd != 0) || (y.id != a9.id)) == true)) (.bool (y.st != x.st)) undef
  | 25 => v = cond ((true && (((cd != 0) || (y.id != a9.id)) == true)) && ((y.st != x.st) == false)) (.slice (some ⟨gb, ob, none⟩) nl cc2) undef
  | 26 => v = cond ((true && (((cd != 0) || (y.id != a9.id)) == true)) && ((y.st != x.st) == false)) (.int .i64 (i : Nat)) undef
  | 27 => v = cond ((true && (((cd != 0) || (y.id != a9.id)) == true)) && ((y.st != x.st) == false)) (.pointer (some ⟨gb, ob + i * 6, none⟩)) undef
  | 28 => v = cond ((true && (((cd != 0) || (y.id != a9.id)) == true)) && ((y.st != x.st) == false)) (.pointer (some ⟨gb, ob + i * 6 + 5, none⟩)) undef
  | 29 => v = cond ((true && (((cd != 0) || (y.id != a9.id)) == true)) && ((y.st != x.st) == false)) (.int .i64 y.fr) undef
  | 30 => v = cond ((true && (((cd != 0) || (y.id != a9.id)) == true)) && ((y.st != x.st) == false)) (.slice (some ⟨ga, oa, none⟩) nl cc1) undef
  | 31 => v = cond ((true && (((cd != 0) || (y.id != a9.id)) == true)) && ((y.st != x.st) == false)) (.int .i64 (i : Nat)) undef
  | 32 => v = cond ((true && (((cd != 0) || (y.id != a9.id)) == true)) && ((y.st != x.st) == false)) (.pointer (some ⟨ga, oa + i * 6, none⟩)) undef
  | 33 => v = cond ((true && (((cd != 0) || (y.id != a9.id)) == true)) && ((y.st != x.st) == false)) (.pointer (some ⟨ga, oa + i * 6 + 5, none⟩)) undef
  | 34 => v = cond ((true && (((cd != 0) || (y.id != a9.id)) == true)) && ((y.st != x.st) == false)) (.int .i64 x.fr) undef
  | 35 => v = cond ((true && (((cd != 0) || (y.id != a9.id)) == true)) && ((y.st != x.st) == false)) (.bool (y.fr != x.fr)) undef
  | 36 => v = cond (true && (((cd != 0) || (y.id != a9.id)) == true)) (.bool ((y.st != x.st) || (y.fr != x.fr))) undef
  | 37 => v = .bool (((cd != 0) || (y.id != a9.id)) && ((y.st != x.st) || (y.fr != x.fr)))
  | 38 => v = .bool (((cd != 0) || (y.id != a9.id)) && ((y.st != x.st) || (y.fr != x.fr)))
  | 39 => v = cond (true && ((((cd != 0) || (y.id != a9.id)) && ((y.st != x.st) || (y.fr != x.fr))) == false)) (.int .i64 cd) undef
  | 40 => v = cond (true && ((((cd != 0) || (y.id != a9.id)) && ((y.st != x.st) || (y.fr != x.fr))) == false)) (.bool (cd == 0)) undef
  | 41 => v = cond (true && ((((cd != 0) || (y.id != a9.id)) && ((y.st != x.st) || (y.fr != x.fr))) == false)) (.bool (cd == 0)) undef
  | 42 => v = cond ((true && ((((cd != 0) || (y.id != a9.id)) && ((y.st != x.st) || (y.fr != x.fr))) == false)) && ((cd == 0) == true)) (.slice (some ⟨gb, ob, none⟩) nl cc2) undef
  | 43 => v = cond ((true && ((((cd != 0) || (y.id != a9.id)) && ((y.st != x.st) || (y.fr != x.fr))) == false)) && ((cd == 0) == true)) (.int .i64 (i : Nat)) undef
  | 44 => v = cond ((true && ((((cd != 0) || (y.id != a9.id)) && ((y.st != x.st) || (y.fr != x.fr))) == false)) && ((cd == 0) == true)) (.pointer (some ⟨gb, ob + i * 6, none⟩)) undef
  | 45 => v = cond ((true && ((((cd != 0) || (y.id != a9.id)) && ((y.st != x.st) || (y.fr != x.fr))) == false)) && ((cd == 0) == true)) (.pointer (some ⟨gb, ob + i * 6, none⟩)) undef
  | 46 => v = cond ((true && ((((cd != 0) || (y.id != a9.id)) && ((y.st != x.st) || (y.fr != x.fr))) == false)) && ((cd == 0) == true)) (.int .i64 y.id) undef
  | 47 => v = cond ((true && ((((cd != 0) || (y.id != a9.id)) && ((y.st != x.st) || (y.fr != x.fr))) == false)) && ((cd == 0) == true)) (.pointer (some ⟨C, 1, none⟩)) undef
  | 48 => v = cond ((true && ((((cd != 0) || (y.id != a9.id)) && ((y.st != x.st) || (y.fr != x.fr))) == false)) && ((cd == 0) == true)) (.int .i64 a9.id) undef
  | 49 => v = cond ((true && ((((cd != 0) || (y.id != a9.id)) && ((y.st != x.st) || (y.fr != x.fr))) == false)) && ((cd == 0) == true)) (.bool (y.id == a9.id)) undef
  | 50 => v = cond (true && ((((cd != 0) || (y.id != a9.id)) && ((y.st != x.st) || (y.fr != x.fr))) == false)) (.bool ((cd == 0) && (y.id == a9.id))) undef
  | 51 => v = cond (true && ((((cd != 0) || (y.id != a9.id)) && ((y.st != x.st) || (y.fr != x.fr))) == false)) (.bool ((cd == 0) && (y.id == a9.id))) undef
  | 52 => v = cond ((true && ((((cd != 0) || (y.id != a9.id)) && ((y.st != x.st) || (y.fr != x.fr))) == false)) && (((cd == 0) && (y.id == a9.id)) == true)) (.pointer (some ⟨C, 0, none⟩)) undef
  | 53 => v = cond ((true && ((((cd != 0) || (y.id != a9.id)) && ((y.st != x.st) || (y.fr != x.fr))) == false)) && (((cd == 0) && (y.id == a9.id)) == true)) (.int .i64 a9.k) undef
  | 54 => v = cond ((true && ((((cd != 0) || (y.id != a9.id)) && ((y.st != x.st) || (y.fr != x.fr))) == false)) && (((cd == 0) && (y.id == a9.id)) == true)) (.bool (a9.k == 3)) undef
  | 55 => v = cond (true && ((((cd != 0) || (y.id != a9.id)) && ((y.st != x.st) || (y.fr != x.fr))) == false)) (.bool (((cd == 0) && (y.id == a9.id)) && (a9.k == 3))) undef
  | 56 => v = cond (true && ((((cd != 0) || (y.id != a9.id)) && ((y.st != x.st) || (y.fr != x.fr))) == false)) (.bool (((cd == 0) && (y.id == a9.id)) && (a9.k == 3))) undef
  | 57 => v = cond ((true && ((((cd != 0) || (y.id != a9.id)) && ((y.st != x.st) || (y.fr != x.fr))) == false)) && ((((cd == 0) && (y.id == a9.id)) && (a9.k == 3)) == true)) (.slice (some ⟨ga, oa, none⟩) nl cc1) undef
  | 58 => v = cond ((true && ((((cd != 0) || (y.id != a9.id)) && ((y.st != x.st) || (y.fr != x.fr))) == false)) && ((((cd == 0) && (y.id == a9.id)) && (a9.k == 3)) == true)) (.int .i64 (i : Nat)) undef
  | 59 => v = cond ((true && ((((cd != 0) || (y.id != a9.id)) && ((y.st != x.st) || (y.fr != x.fr))) == false)) && ((((cd == 0) && (y.id == a9.id)) && (a9.k == 3)) == true)) (.pointer (some ⟨ga, oa + i * 6, none⟩)) undef
  | 60 => v = cond ((true && ((((cd != 0) || (y.id != a9.id)) && ((y.st != x.st) || (y.fr != x.fr))) == false)) && ((((cd == 0) && (y.id == a9.id)) && (a9.k == 3)) == true)) (.agg #[.int .i64 x.id, .int .i64 x.grp, .slice ta x.ant.length tc, .int .i64 x.til, .int .i64 x.st, .int .i64 x.fr]) undef
  | 61 => v = cond ((true && ((((cd != 0) || (y.id != a9.id)) && ((y.st != x.st) || (y.fr != x.fr))) == false)) && ((((cd == 0) && (y.id == a9.id)) && (a9.k == 3)) == true)) (.agg #[.int .i64 n.p, .int .i64 n.g, nv9]) undef
  | 62 => v = cond ((true && ((((cd != 0) || (y.id != a9.id)) && ((y.st != x.st) || (y.fr != x.fr))) == false)) && ((((cd == 0) && (y.id == a9.id)) && (a9.k == 3)) == true)) (.bool (fitsB x n)) undef
  | 63 => v = cond ((true && ((((cd != 0) || (y.id != a9.id)) && ((y.st != x.st) || (y.fr != x.fr))) == false)) && ((((cd == 0) && (y.id == a9.id)) && (a9.k == 3)) == true)) (.bool (!(fitsB x n))) undef
  | 64 => v = cond (true && ((((cd != 0) || (y.id != a9.id)) && ((y.st != x.st) || (y.fr != x.fr))) == false)) (.bool ((((cd == 0) && (y.id == a9.id)) && (a9.k == 3)) && (!(fitsB x n)))) undef
  | 65 => v = .bool ((((cd != 0) || (y.id != a9.id)) && ((y.st != x.st) || (y.fr != x.fr))) || ((((cd == 0) && (y.id == a9.id)) && (a9.k == 3)) && (!(fitsB x n))))
  | _ => True
theorem sizeFb15 : (Rg.opsOf Try.f4 15).size = 66 := by kernel_rfl

set_option maxRecDepth 20000 in
set_option maxHeartbeats 8000000 in
theorem regFb15 {Q : Exit → Act → World → Prop} {a : Act} {w9 : World} {B C ga oa gb ob nl cc1 cc2 i : Nat} {x y : Ut} {n : Nd} {a9 : Da} {nv9 : Value} {cd : Int} {ta : Option Addr} {tc : Nat} (ha : a.tmps.size = 158)
    (k3 : a.tmps[3]? = some (.slice (some ⟨ga, oa, none⟩) nl cc1)) (k6 : a.tmps[6]? = some (.slice (some ⟨gb, ob, none⟩) nl cc2)) (k10 : a.tmps[10]? = some (.int .i64 (i : Nat))) (k7 : a.tmps[7]? = some (.int .i64 cd)) (k4 : a.tmps[4]? = some (.pointer (some ⟨B, 0, none⟩))) (k5 : a.tmps[5]? = some (.pointer (some ⟨C, 0, none⟩))) (hin : i < nl) (hga : ga < w9.heap.size) (hgb : gb < w9.heap.size) (u0 : w9.cell? ⟨ga, oa + i * 6, none⟩ = some (.int .i64 x.id)) (u1 : w9.cell? ⟨ga, oa + i * 6 + 1, none⟩ = some (.int .i64 x.grp)) (u2 : w9.cell? ⟨ga, oa + i * 6 + 2, none⟩ = some (.slice ta x.ant.length tc)) (u3 : w9.cell? ⟨ga, oa + i * 6 + 3, none⟩ = some (.int .i64 x.til)) (u4 : w9.cell? ⟨ga, oa + i * 6 + 4, none⟩ = some (.int .i64 x.st)) (u5 : w9.cell? ⟨ga, oa + i * 6 + 5, none⟩ = some (.int .i64 x.fr)) (v0 : w9.cell? ⟨gb, ob + i * 6, none⟩ = some (.int .i64 y.id)) (v4 : w9.cell? ⟨gb, ob + i * 6 + 4, none⟩ = some (.int .i64 y.st)) (v5 : w9.cell? ⟨gb, ob + i * 6 + 5, none⟩ = some (.int .i64 y.fr)) (hE : PB w9 B #[.int .i64 n.p, .int .i64 n.g, nv9] 28) (hD : PB w9 C #[.int .i64 a9.k, .int .i64 a9.id, .int .i64 a9.t] 30) (hK : ∀ W, Below w9.heap.size w9 W → Calls Try.prog 17 #[.agg #[.int .i64 x.id, .int .i64 x.grp, .slice ta x.ant.length tc, .int .i64 x.til, .int .i64 x.st, .int .i64 x.fr], .agg #[.int .i64 n.p, .int .i64 n.g, nv9]] W fun e W' => e = .returned (.bool (fitsB x n)) ∧ Below W.heap.size W W')
    (hend : ∀ b' w', Rg.Fr (Rg.opsOf Try.f4 15) a b' → Below w9.heap.size w9 w' → Rg.out (Rg.opsOf Try.f4 15) b' 65 = .bool ((((cd != 0) || (y.id != a9.id)) && ((y.st != x.st) || (y.fr != x.fr))) || ((((cd == 0) && (y.id == a9.id)) && (a9.k == 3)) && (!(fitsB x n)))) → Q .normal b' w') :
    (Code.region 15 (Rg.opsOf Try.f4 15) true).wp Try.prog Q a w9 := by
  refine Rg.region_set3 (by kernel_rfl) (fun _ w' => Below w9.heap.size w9 w') (FFb15 B C ga oa gb ob nl cc1 cc2 i x y n a9 nv9 cd ta tc) (by rw [ha, sizeFb15]; kernel_rfl) (st_drew (Below.refl _ _)) ?_ ?_
  case refine_2 =>
    intro l b' w' hf hall hI hA
    rw [sizeFb15] at hA
    exact hend b' w' hf hI (hA 65 (by decide))
  case refine_1 =>
    clear hend
    have HS : ∀ {w w' : World}, Below w.heap.size w w' → ∀ k9 y9, FFb15 B C ga oa gb ob nl cc1 cc2 i x y n a9 nv9 cd ta tc k9 y9 w → FFb15 B C ga oa gb ob nl cc1 cc2 i x y n a9 nv9 cd ta tc k9 y9 w' := fun hb k9 y9 h => by
      unfold FFb15 at *
      split at h <;> exact h
    intro i' hi'
    rw [sizeFb15] at hi'
    rcases (show i' = 0 ∨ i' = 1 ∨ i' = 2 ∨ i' = 3 ∨ i' = 4 ∨ i' = 5 ∨ i' = 6 ∨ i' = 7 ∨ i' = 8 ∨ i' = 9 ∨ i' = 10 ∨ i' = 11 ∨ i' = 12 ∨ i' = 13 ∨ i' = 14 ∨ i' = 15 ∨ i' = 16 ∨ i' = 17 ∨ i' = 18 ∨ i' = 19 ∨ i' = 20 ∨ i' = 21 ∨ i' = 22 ∨ i' = 23 ∨ i' = 24 ∨ i' = 25 ∨ i' = 26 ∨ i' = 27 ∨ i' = 28 ∨ i' = 29 ∨ i' = 30 ∨ i' = 31 ∨ i' = 32 ∨ i' = 33 ∨ i' = 34 ∨ i' = 35 ∨ i' = 36 ∨ i' = 37 ∨ i' = 38 ∨ i' = 39 ∨ i' = 40 ∨ i' = 41 ∨ i' = 42 ∨ i' = 43 ∨ i' = 44 ∨ i' = 45 ∨ i' = 46 ∨ i' = 47 ∨ i' = 48 ∨ i' = 49 ∨ i' = 50 ∨ i' = 51 ∨ i' = 52 ∨ i' = 53 ∨ i' = 54 ∨ i' = 55 ∨ i' = 56 ∨ i' = 57 ∨ i' = 58 ∨ i' = 59 ∨ i' = 60 ∨ i' = 61 ∨ i' = 62 ∨ i' = 63 ∨ i' = 64 ∨ i' = 65 by omega) with rfl | rfl | rfl | rfl | rfl | rfl | rfl | rfl | rfl | rfl | rfl | rfl | rfl | rfl | rfl | rfl | rfl | rfl | rfl | rfl | rfl | rfl | rfl | rfl | rfl | rfl | rfl | rfl | rfl | rfl | rfl | rfl | rfl | rfl | rfl | rfl | rfl | rfl | rfl | rfl | rfl | rfl | rfl | rfl | rfl | rfl | rfl | rfl | rfl | rfl | rfl | rfl | rfl | rfl | rfl | rfl | rfl | rfl | rfl | rfl | rfl | rfl | rfl | rfl | rfl | rfl
    · intro ll bb w' hs hlf hN hO hf hI hA
      clear hi'
      have q0 := hf.kept (s := 7) (by rw [sizeFb15]; kernel_rfl) k7
      exact Rg.op_value (o := ⟨some 60, Op.move (Operand.tmp 7), _, _, _, _⟩) (x := .int .i64 cd) rfl rfl (by clear hA HS hN hO hE hD hK; simp only [execOp]; go_simp) ⟨_, rfl, (fun h => by cases h), rfl, hI, fun _ _ _ _ h => h⟩
    · intro ll bb w' hs hlf hN hO hf hI hA
      clear hi'
      have q60 : bb.tmps[60]? = some _ := hf.tmp (k := 0) rfl (by rw [ha]; decide) (hA 0 (by kernel_rfl))
      exact Rg.op_value (o := ⟨some 61, Op.binOp BinOp.neq 2 (Operand.tmp 60) (Operand.const (Value.int .i64 0)) 2, _, _, _, _⟩) (x := .bool (cd != 0)) rfl rfl (by clear hA HS hN hO hE hD hK; simp only [execOp]; go_simp) ⟨_, rfl, (fun h => by cases h), rfl, hI, fun _ _ _ _ h => h⟩
    · intro ll bb w' hs hlf hN hO hf hI hA
      clear hi'
      have q61 : bb.tmps[61]? = some _ := hf.tmp (k := 1) rfl (by rw [ha]; decide) (hA 1 (by kernel_rfl))
      exact Rg.op_value (o := ⟨some 62, Op.move (Operand.tmp 61), _, _, _, _⟩) (x := .bool (cd != 0)) rfl rfl (by clear hA HS hN hO hE hD hK; simp only [execOp]; go_simp) ⟨_, rfl, (fun h => by cases h), rfl, hI, fun _ _ _ _ h => h⟩
    · intro ll bb w' hs hlf hN hO hf hI hA
      clear hi'
      have qg : bb.tmps[62]? = some (cond true (.bool (cd != 0)) undef) := hf.tmp (k := 2) rfl (by rw [ha]; decide) (hA 2 (by kernel_rfl))
      cases hP : (true && ((cd != 0) == false)) with
      | false => exact Rg.op_none (o := ⟨some 63, _, _, _, _, _⟩) rfl (Rg.unwanted_c (g := 2) rfl rfl qg hP) ⟨_, rfl, (fun h => by cases h), Rg.cond_f hP, hI, fun _ _ _ _ h => h⟩
      | true =>
        have hw := Rg.wanted_c (ops := (Rg.opsOf Try.f4 15)) (o := (Rg.opsOf Try.f4 15)[3]'(by rw [sizeFb15]; decide)) (g := 2) rfl rfl qg hP
        have g0 := Rg.pc_r hP
        have q0 := hf.kept (s := 6) (by rw [sizeFb15]; kernel_rfl) k6
        exact Rg.op_value (o := ⟨some 63, Op.move (Operand.tmp 6), _, _, _, _⟩) (x := .slice (some ⟨gb, ob, none⟩) nl cc2) rfl hw (by clear hA HS hN hO hE hD hK; simp only [execOp]; go_simp) ⟨_, rfl, (fun h => by cases h), (Rg.cond_t hP).symm, hI, fun _ _ _ _ h => h⟩
    · intro ll bb w' hs hlf hN hO hf hI hA
      clear hi'
      have qg : bb.tmps[62]? = some (cond true (.bool (cd != 0)) undef) := hf.tmp (k := 2) rfl (by rw [ha]; decide) (hA 2 (by kernel_rfl))
      cases hP : (true && ((cd != 0) == false)) with
      | false => exact Rg.op_none (o := ⟨some 64, _, _, _, _, _⟩) rfl (Rg.unwanted_c (g := 2) rfl rfl qg hP) ⟨_, rfl, (fun h => by cases h), Rg.cond_f hP, hI, fun _ _ _ _ h => h⟩
      | true =>
        have hw := Rg.wanted_c (ops := (Rg.opsOf Try.f4 15)) (o := (Rg.opsOf Try.f4 15)[4]'(by rw [sizeFb15]; decide)) (g := 2) rfl rfl qg hP
        have g0 := Rg.pc_r hP
        have q0 := hf.kept (s := 10) (by rw [sizeFb15]; kernel_rfl) k10
        exact Rg.op_value (o := ⟨some 64, Op.move (Operand.tmp 10), _, _, _, _⟩) (x := .int .i64 (i : Nat)) rfl hw (by clear hA HS hN hO hE hD hK; simp only [execOp]; go_simp) ⟨_, rfl, (fun h => by cases h), (Rg.cond_t hP).symm, hI, fun _ _ _ _ h => h⟩
    · intro ll bb w' hs hlf hN hO hf hI hA
      clear hi'
      have qg : bb.tmps[62]? = some (cond true (.bool (cd != 0)) undef) := hf.tmp (k := 2) rfl (by rw [ha]; decide) (hA 2 (by kernel_rfl))
      cases hP : (true && ((cd != 0) == false)) with
      | false => exact Rg.op_none (o := ⟨some 65, _, _, _, _, _⟩) rfl (Rg.unwanted_c (g := 2) rfl rfl qg hP) ⟨_, rfl, (fun h => by cases h), Rg.cond_f hP, hI, fun _ _ _ _ h => h⟩
      | true =>
        have hw := Rg.wanted_c (ops := (Rg.opsOf Try.f4 15)) (o := (Rg.opsOf Try.f4 15)[5]'(by rw [sizeFb15]; decide)) (g := 2) rfl rfl qg hP
        have g0 := Rg.pc_r hP
        have q63 : bb.tmps[63]? = some (.slice (some ⟨gb, ob, none⟩) nl cc2) := hf.tmp (k := 3) rfl (by rw [ha]; decide) (Eq.trans (hA 3 (by kernel_rfl)) (Rg.cond_t hP))
        have q64 : bb.tmps[64]? = some (.int .i64 (i : Nat)) := hf.tmp (k := 4) rfl (by rw [ha]; decide) (Eq.trans (hA 4 (by kernel_rfl)) (Rg.cond_t hP))
        have hi5 : ((i : Nat) : Int) < (nl : Int) := by omega
        exact Rg.op_value (o := ⟨some 65, Op.indexAddr 25 (Operand.tmp 63) (Operand.tmp 64), _, _, _, _⟩) (x := .pointer (some ⟨gb, ob + i * 6, none⟩)) rfl hw (by clear hA HS hN hO hE hD hK; simp only [execOp]; go_simp) ⟨_, rfl, (fun h => by cases h), (Rg.cond_t hP).symm, hI, fun _ _ _ _ h => h⟩
    · intro ll bb w' hs hlf hN hO hf hI hA
      clear hi'
      have qg : bb.tmps[62]? = some (cond true (.bool (cd != 0)) undef) := hf.tmp (k := 2) rfl (by rw [ha]; decide) (hA 2 (by kernel_rfl))
      cases hP : (true && ((cd != 0) == false)) with
      | false => exact Rg.op_none (o := ⟨some 66, _, _, _, _, _⟩) rfl (Rg.unwanted_c (g := 2) rfl rfl qg hP) ⟨_, rfl, (fun h => by cases h), Rg.cond_f hP, hI, fun _ _ _ _ h => h⟩
      | true =>
        have hw := Rg.wanted_c (ops := (Rg.opsOf Try.f4 15)) (o := (Rg.opsOf Try.f4 15)[6]'(by rw [sizeFb15]; decide)) (g := 2) rfl rfl qg hP
        have g0 := Rg.pc_r hP
        have q65 : bb.tmps[65]? = some (.pointer (some ⟨gb, ob + i * 6, none⟩)) := hf.tmp (k := 5) rfl (by rw [ha]; decide) (Eq.trans (hA 5 (by kernel_rfl)) (Rg.cond_t hP))
        exact Rg.op_value (o := ⟨some 66, Op.fieldAddr 37 (Operand.tmp 65) 0, _, _, _, _⟩) (x := .pointer (some ⟨gb, ob + i * 6, none⟩)) rfl hw (by clear hA HS hN hO hE hD hK; simp only [execOp]; go_simp) ⟨_, rfl, (fun h => by cases h), (Rg.cond_t hP).symm, hI, fun _ _ _ _ h => h⟩
    · intro ll bb w' hs hlf hN hO hf hI hA
      clear hi'
      have qg : bb.tmps[62]? = some (cond true (.bool (cd != 0)) undef) := hf.tmp (k := 2) rfl (by rw [ha]; decide) (hA 2 (by kernel_rfl))
      cases hP : (true && ((cd != 0) == false)) with
      | false => exact Rg.op_none (o := ⟨some 67, _, _, _, _, _⟩) rfl (Rg.unwanted_c (g := 2) rfl rfl qg hP) ⟨_, rfl, (fun h => by cases h), Rg.cond_f hP, hI, fun _ _ _ _ h => h⟩
      | true =>
        have hw := Rg.wanted_c (ops := (Rg.opsOf Try.f4 15)) (o := (Rg.opsOf Try.f4 15)[7]'(by rw [sizeFb15]; decide)) (g := 2) rfl rfl qg hP
        have g0 := Rg.pc_r hP
        have q66 : bb.tmps[66]? = some (.pointer (some ⟨gb, ob + i * 6, none⟩)) := hf.tmp (k := 6) rfl (by rw [ha]; decide) (Eq.trans (hA 6 (by kernel_rfl)) (Rg.cond_t hP))
        have e0 := (hI.cell (p := ⟨gb, ob + i * 6, none⟩) hgb).trans v0
        exact Rg.op_value (o := ⟨some 67, Op.load 2 (Operand.tmp 66), _, _, _, _⟩) (x := .int .i64 y.id) rfl hw (by clear hA HS hN hO hE hD hK; simp only [execOp]; go_simp) ⟨_, rfl, (fun h => by cases h), (Rg.cond_t hP).symm, hI, fun _ _ _ _ h => h⟩
    · intro ll bb w' hs hlf hN hO hf hI hA
      clear hi'
      have qg : bb.tmps[62]? = some (cond true (.bool (cd != 0)) undef) := hf.tmp (k := 2) rfl (by rw [ha]; decide) (hA 2 (by kernel_rfl))
      cases hP : (true && ((cd != 0) == false)) with
      | false => exact Rg.op_none (o := ⟨some 68, _, _, _, _, _⟩) rfl (Rg.unwanted_c (g := 2) rfl rfl qg hP) ⟨_, rfl, (fun h => by cases h), Rg.cond_f hP, hI, fun _ _ _ _ h => h⟩
      | true =>
        have hw := Rg.wanted_c (ops := (Rg.opsOf Try.f4 15)) (o := (Rg.opsOf Try.f4 15)[8]'(by rw [sizeFb15]; decide)) (g := 2) rfl rfl qg hP
        have g0 := Rg.pc_r hP
        have q5 := hf.kept (s := 5) (by rw [sizeFb15]; kernel_rfl) k5
        exact Rg.op_value (o := ⟨some 68, Op.fieldAddr 30 (Operand.tmp 5) 1, _, _, _, _⟩) (x := .pointer (some ⟨C, 1, none⟩)) rfl hw (by clear hA HS hN hO hE hD hK; simp only [execOp]; go_simp) ⟨_, rfl, (fun h => by cases h), (Rg.cond_t hP).symm, hI, fun _ _ _ _ h => h⟩
    · intro ll bb w' hs hlf hN hO hf hI hA
      clear hi'
      have qg : bb.tmps[62]? = some (cond true (.bool (cd != 0)) undef) := hf.tmp (k := 2) rfl (by rw [ha]; decide) (hA 2 (by kernel_rfl))
      cases hP : (true && ((cd != 0) == false)) with
      | false => exact Rg.op_none (o := ⟨some 69, _, _, _, _, _⟩) rfl (Rg.unwanted_c (g := 2) rfl rfl qg hP) ⟨_, rfl, (fun h => by cases h), Rg.cond_f hP, hI, fun _ _ _ _ h => h⟩
      | true =>
        have hw := Rg.wanted_c (ops := (Rg.opsOf Try.f4 15)) (o := (Rg.opsOf Try.f4 15)[9]'(by rw [sizeFb15]; decide)) (g := 2) rfl rfl qg hP
        have g0 := Rg.pc_r hP
        have q68 : bb.tmps[68]? = some (.pointer (some ⟨C, 1, none⟩)) := hf.tmp (k := 8) rfl (by rw [ha]; decide) (Eq.trans (hA 8 (by kernel_rfl)) (Rg.cond_t hP))
        obtain ⟨b0, b1, b2⟩ := (hD.below hI).three
        exact Rg.op_value (o := ⟨some 69, Op.load 2 (Operand.tmp 68), _, _, _, _⟩) (x := .int .i64 a9.id) rfl hw (by clear hA HS hN hO hE hD hK; simp only [execOp]; go_simp) ⟨_, rfl, (fun h => by cases h), (Rg.cond_t hP).symm, hI, fun _ _ _ _ h => h⟩
    · intro ll bb w' hs hlf hN hO hf hI hA
      clear hi'
      have qg : bb.tmps[62]? = some (cond true (.bool (cd != 0)) undef) := hf.tmp (k := 2) rfl (by rw [ha]; decide) (hA 2 (by kernel_rfl))
      cases hP : (true && ((cd != 0) == false)) with
      | false => exact Rg.op_none (o := ⟨some 70, _, _, _, _, _⟩) rfl (Rg.unwanted_c (g := 2) rfl rfl qg hP) ⟨_, rfl, (fun h => by cases h), Rg.cond_f hP, hI, fun _ _ _ _ h => h⟩
      | true =>
        have hw := Rg.wanted_c (ops := (Rg.opsOf Try.f4 15)) (o := (Rg.opsOf Try.f4 15)[10]'(by rw [sizeFb15]; decide)) (g := 2) rfl rfl qg hP
        have g0 := Rg.pc_r hP
        have q67 : bb.tmps[67]? = some (.int .i64 y.id) := hf.tmp (k := 7) rfl (by rw [ha]; decide) (Eq.trans (hA 7 (by kernel_rfl)) (Rg.cond_t hP))
        have q69 : bb.tmps[69]? = some (.int .i64 a9.id) := hf.tmp (k := 9) rfl (by rw [ha]; decide) (Eq.trans (hA 9 (by kernel_rfl)) (Rg.cond_t hP))
        exact Rg.op_value (o := ⟨some 70, Op.binOp BinOp.neq 2 (Operand.tmp 67) (Operand.tmp 69) 2, _, _, _, _⟩) (x := .bool (y.id != a9.id)) rfl hw (by clear hA HS hN hO hE hD hK; simp only [execOp]; go_simp) ⟨_, rfl, (fun h => by cases h), (Rg.cond_t hP).symm, hI, fun _ _ _ _ h => h⟩
    · intro ll bb w' hs hlf hN hO hf hI hA
      clear hi'
      have q62 : bb.tmps[62]? = some _ := hf.tmp (k := 2) rfl (by rw [ha]; decide) (hA 2 (by kernel_rfl))
      cases hC : (cd != 0) with
      | false =>
        have hB : (true && ((cd != 0) == false)) = true := by rw [hC]; rfl
        have q70 : bb.tmps[70]? = some (.bool (y.id != a9.id)) := hf.tmp (k := 10) rfl (by rw [ha]; decide) (Eq.trans (hA 10 (by kernel_rfl)) (Rg.cond_t hB))
        have hval : ((.bool ((cd != 0) || (y.id != a9.id)) : Value)) = .bool (y.id != a9.id) := by rw [hC]; rfl
        exact Rg.op_value (o := ⟨some 71, Op.pick (Operand.tmp 62) (Operand.const (Value.bool true)) (Operand.tmp 70), _, _, _, _⟩) (x := .bool (y.id != a9.id)) rfl rfl (by rw [hC] at q62; clear hA HS hN hO hE hD hK hval; simp only [execOp]; go_simp) ⟨_, rfl, (fun h => by cases h), (by show ((.bool (y.id != a9.id) : Value)) = _; exact hval.symm), hI, fun _ _ _ _ h => h⟩
      | true =>
        have hval : ((.bool ((cd != 0) || (y.id != a9.id)) : Value)) = .bool true := by rw [hC]; rfl
        exact Rg.op_value (o := ⟨some 71, Op.pick (Operand.tmp 62) (Operand.const (Value.bool true)) (Operand.tmp 70), _, _, _, _⟩) (x := .bool true) rfl rfl (by rw [hC] at q62; clear hA HS hN hO hE hD hK hval; simp only [execOp]; go_simp) ⟨_, rfl, (fun h => by cases h), (by show ((.bool true : Value)) = _; exact hval.symm), hI, fun _ _ _ _ h => h⟩
    · intro ll bb w' hs hlf hN hO hf hI hA
      clear hi'
      have q71 : bb.tmps[71]? = some _ := hf.tmp (k := 11) rfl (by rw [ha]; decide) (hA 11 (by kernel_rfl))
      exact Rg.op_value (o := ⟨some 72, Op.move (Operand.tmp 71), _, _, _, _⟩) (x := .bool ((cd != 0) || (y.id != a9.id))) rfl rfl (by clear hA HS hN hO hE hD hK; simp only [execOp]; go_simp) ⟨_, rfl, (fun h => by cases h), rfl, hI, fun _ _ _ _ h => h⟩
    · intro ll bb w' hs hlf hN hO hf hI hA
      clear hi'
      have qg : bb.tmps[72]? = some (cond true (.bool ((cd != 0) || (y.id != a9.id))) undef) := hf.tmp (k := 12) rfl (by rw [ha]; decide) (hA 12 (by kernel_rfl))
      cases hP : (true && (((cd != 0) || (y.id != a9.id)) == true)) with
      | false => exact Rg.op_none (o := ⟨some 73, _, _, _, _, _⟩) rfl (Rg.unwanted_c (g := 12) rfl rfl qg hP) ⟨_, rfl, (fun h => by cases h), Rg.cond_f hP, hI, fun _ _ _ _ h => h⟩
      | true =>
        have hw := Rg.wanted_c (ops := (Rg.opsOf Try.f4 15)) (o := (Rg.opsOf Try.f4 15)[13]'(by rw [sizeFb15]; decide)) (g := 12) rfl rfl qg hP
        have g0 := Rg.pc_r hP
        have q0 := hf.kept (s := 6) (by rw [sizeFb15]; kernel_rfl) k6
        exact Rg.op_value (o := ⟨some 73, Op.move (Operand.tmp 6), _, _, _, _⟩) (x := .slice (some ⟨gb, ob, none⟩) nl cc2) rfl hw (by clear hA HS hN hO hE hD hK; simp only [execOp]; go_simp) ⟨_, rfl, (fun h => by cases h), (Rg.cond_t hP).symm, hI, fun _ _ _ _ h => h⟩
    · intro ll bb w' hs hlf hN hO hf hI hA
      clear hi'
      have qg : bb.tmps[72]? = some (cond true (.bool ((cd != 0) || (y.id != a9.id))) undef) := hf.tmp (k := 12) rfl (by rw [ha]; decide) (hA 12 (by kernel_rfl))
      cases hP : (true && (((cd != 0) || (y.id != a9.id)) == true)) with
      | false => exact Rg.op_none (o := ⟨some 74, _, _, _, _, _⟩) rfl (Rg.unwanted_c (g := 12) rfl rfl qg hP) ⟨_, rfl, (fun h => by cases h), Rg.cond_f hP, hI, fun _ _ _ _ h => h⟩
      | true =>
        have hw := Rg.wanted_c (ops := (Rg.opsOf Try.f4 15)) (o := (Rg.opsOf Try.f4 15)[14]'(by rw [sizeFb15]; decide)) (g := 12) rfl rfl qg hP
        have g0 := Rg.pc_r hP
        have q0 := hf.kept (s := 10) (by rw [sizeFb15]; kernel_rfl) k10
        exact Rg.op_value (o := ⟨some 74, Op.move (Operand.tmp 10), _, _, _, _⟩) (x := .int .i64 (i : Nat)) rfl hw (by clear hA HS hN hO hE hD hK; simp only [execOp]; go_simp) ⟨_, rfl, (fun h => by cases h), (Rg.cond_t hP).symm, hI, fun _ _ _ _ h => h⟩
    · intro ll bb w' hs hlf hN hO hf hI hA
      clear hi'
      have qg : bb.tmps[72]? = some (cond true (.bool ((cd != 0) || (y.id != a9.id))) undef) := hf.tmp (k := 12) rfl (by rw [ha]; decide) (hA 12 (by kernel_rfl))
      cases hP : (true && (((cd != 0) || (y.id != a9.id)) == true)) with
      | false => exact Rg.op_none (o := ⟨some 75, _, _, _, _, _⟩) rfl (Rg.unwanted_c (g := 12) rfl rfl qg hP) ⟨_, rfl, (fun h => by cases h), Rg.cond_f hP, hI, fun _ _ _ _ h => h⟩
      | true =>
        have hw := Rg.wanted_c (ops := (Rg.opsOf Try.f4 15)) (o := (Rg.opsOf Try.f4 15)[15]'(by rw [sizeFb15]; decide)) (g := 12) rfl rfl qg hP
        have g0 := Rg.pc_r hP
        have q73 : bb.tmps[73]? = some (.slice (some ⟨gb, ob, none⟩) nl cc2) := hf.tmp (k := 13) rfl (by rw [ha]; decide) (Eq.trans (hA 13 (by kernel_rfl)) (Rg.cond_t hP))
        have q74 : bb.tmps[74]? = some (.int .i64 (i : Nat)) := hf.tmp (k := 14) rfl (by rw [ha]; decide) (Eq.trans (hA 14 (by kernel_rfl)) (Rg.cond_t hP))
        have hi5 : ((i : Nat) : Int) < (nl : Int) := by omega
        exact Rg.op_value (o := ⟨some 75, Op.indexAddr 25 (Operand.tmp 73) (Operand.tmp 74), _, _, _, _⟩) (x := .pointer (some ⟨gb, ob + i * 6, none⟩)) rfl hw (by clear hA HS hN hO hE hD hK; simp only [execOp]; go_simp) ⟨_, rfl, (fun h => by cases h), (Rg.cond_t hP).symm, hI, fun _ _ _ _ h => h⟩
    · intro ll bb w' hs hlf hN hO hf hI hA
      clear hi'
      have qg : bb.tmps[72]? = some (cond true (.bool ((cd != 0) || (y.id != a9.id))) undef) := hf.tmp (k := 12) rfl (by rw [ha]; decide) (hA 12 (by kernel_rfl))
      cases hP : (true && (((cd != 0) || (y.id != a9.id)) == true)) with
      | false => exact Rg.op_none (o := ⟨some 76, _, _, _, _, _⟩) rfl (Rg.unwanted_c (g := 12) rfl rfl qg hP) ⟨_, rfl, (fun h => by cases h), Rg.cond_f hP, hI, fun _ _ _ _ h => h⟩
      | true =>
        have hw := Rg.wanted_c (ops := (Rg.opsOf Try.f4 15)) (o := (Rg.opsOf Try.f4 15)[16]'(by rw [sizeFb15]; decide)) (g := 12) rfl rfl qg hP
        have g0 := Rg.pc_r hP
        have q75 : bb.tmps[75]? = some (.pointer (some ⟨gb, ob + i * 6, none⟩)) := hf.tmp (k := 15) rfl (by rw [ha]; decide) (Eq.trans (hA 15 (by kernel_rfl)) (Rg.cond_t hP))
        exact Rg.op_value (o := ⟨some 76, Op.fieldAddr 37 (Operand.tmp 75) 4, _, _, _, _⟩) (x := .pointer (some ⟨gb, ob + i * 6 + 4, none⟩)) rfl hw (by clear hA HS hN hO hE hD hK; simp only [execOp]; go_simp) ⟨_, rfl, (fun h => by cases h), (Rg.cond_t hP).symm, hI, fun _ _ _ _ h => h⟩
    · intro ll bb w' hs hlf hN hO hf hI hA
      clear hi'
      have qg : bb.tmps[72]? = some (cond true (.bool ((cd != 0) || (y.id != a9.id))) undef) := hf.tmp (k := 12) rfl (by rw [ha]; decide) (hA 12 (by kernel_rfl))
      cases hP : (true && (((cd != 0) || (y.id != a9.id)) == true)) with
      | false => exact Rg.op_none (o := ⟨some 77, _, _, _, _, _⟩) rfl (Rg.unwanted_c (g := 12) rfl rfl qg hP) ⟨_, rfl, (fun h => by cases h), Rg.cond_f hP, hI, fun _ _ _ _ h => h⟩
      | true =>
        have hw := Rg.wanted_c (ops := (Rg.opsOf Try.f4 15)) (o := (Rg.opsOf Try.f4 15)[17]'(by rw [sizeFb15]; decide)) (g := 12) rfl rfl qg hP
        have g0 := Rg.pc_r hP
        have q76 : bb.tmps[76]? = some (.pointer (some ⟨gb, ob + i * 6 + 4, none⟩)) := hf.tmp (k := 16) rfl (by rw [ha]; decide) (Eq.trans (hA 16 (by kernel_rfl)) (Rg.cond_t hP))
        have e4 := (hI.cell (p := ⟨gb, ob + i * 6 + 4, none⟩) hgb).trans v4
        exact Rg.op_value (o := ⟨some 77, Op.load 2 (Operand.tmp 76), _, _, _, _⟩) (x := .int .i64 y.st) rfl hw (by clear hA HS hN hO hE hD hK; simp only [execOp]; go_simp) ⟨_, rfl, (fun h => by cases h), (Rg.cond_t hP).symm, hI, fun _ _ _ _ h => h⟩
    · intro ll bb w' hs hlf hN hO hf hI hA
      clear hi'
      have qg : bb.tmps[72]? = some (cond true (.bool ((cd != 0) || (y.id != a9.id))) undef) := hf.tmp (k := 12) rfl (by rw [ha]; decide) (hA 12 (by kernel_rfl))
      cases hP : (true && (((cd != 0) || (y.id != a9.id)) == true)) with
      | false => exact Rg.op_none (o := ⟨some 78, _, _, _, _, _⟩) rfl (Rg.unwanted_c (g := 12) rfl rfl qg hP) ⟨_, rfl, (fun h => by cases h), Rg.cond_f hP, hI, fun _ _ _ _ h => h⟩
      | true =>
        have hw := Rg.wanted_c (ops := (Rg.opsOf Try.f4 15)) (o := (Rg.opsOf Try.f4 15)[18]'(by rw [sizeFb15]; decide)) (g := 12) rfl rfl qg hP
        have g0 := Rg.pc_r hP
        have q0 := hf.kept (s := 3) (by rw [sizeFb15]; kernel_rfl) k3
        exact Rg.op_value (o := ⟨some 78, Op.move (Operand.tmp 3), _, _, _, _⟩) (x := .slice (some ⟨ga, oa, none⟩) nl cc1) rfl hw (by clear hA HS hN hO hE hD hK; simp only [execOp]; go_simp) ⟨_, rfl, (fun h => by cases h), (Rg.cond_t hP).symm, hI, fun _ _ _ _ h => h⟩
    · intro ll bb w' hs hlf hN hO hf hI hA
      clear hi'
      have qg : bb.tmps[72]? = some (cond true (.bool ((cd != 0) || (y.id != a9.id))) undef) := hf.tmp (k := 12) rfl (by rw [ha]; decide) (hA 12 (by kernel_rfl))
      cases hP : (true && (((cd != 0) || (y.id != a9.id)) == true)) with
      | false => exact Rg.op_none (o := ⟨some 79, _, _, _, _, _⟩) rfl (Rg.unwanted_c (g := 12) rfl rfl qg hP) ⟨_, rfl, (fun h => by cases h), Rg.cond_f hP, hI, fun _ _ _ _ h => h⟩
      | true =>
        have hw := Rg.wanted_c (ops := (Rg.opsOf Try.f4 15)) (o := (Rg.opsOf Try.f4 15)[19]'(by rw [sizeFb15]; decide)) (g := 12) rfl rfl qg hP
        have g0 := Rg.pc_r hP
        have q0 := hf.kept (s := 10) (by rw [sizeFb15]; kernel_rfl) k10
        exact Rg.op_value (o := ⟨some 79, Op.move (Operand.tmp 10), _, _, _, _⟩) (x := .int .i64 (i : Nat)) rfl hw (by clear hA HS hN hO hE hD hK; simp only [execOp]; go_simp) ⟨_, rfl, (fun h => by cases h), (Rg.cond_t hP).symm, hI, fun _ _ _ _ h => h⟩
    · intro ll bb w' hs hlf hN hO hf hI hA
      clear hi'
      have qg : bb.tmps[72]? = some (cond true (.bool ((cd != 0) || (y.id != a9.id))) undef) := hf.tmp (k := 12) rfl (by rw [ha]; decide) (hA 12 (by kernel_rfl))
      cases hP : (true && (((cd != 0) || (y.id != a9.id)) == true)) with
      | false => exact Rg.op_none (o := ⟨some 80, _, _, _, _, _⟩) rfl (Rg.unwanted_c (g := 12) rfl rfl qg hP) ⟨_, rfl, (fun h => by cases h), Rg.cond_f hP, hI, fun _ _ _ _ h => h⟩
      | true =>
        have hw := Rg.wanted_c (ops := (Rg.opsOf Try.f4 15)) (o := (Rg.opsOf Try.f4 15)[20]'(by rw [sizeFb15]; decide)) (g := 12) rfl rfl qg hP
        have g0 := Rg.pc_r hP
        have q78 : bb.tmps[78]? = some (.slice (some ⟨ga, oa, none⟩) nl cc1) := hf.tmp (k := 18) rfl (by rw [ha]; decide) (Eq.trans (hA 18 (by kernel_rfl)) (Rg.cond_t hP))
        have q79 : bb.tmps[79]? = some (.int .i64 (i : Nat)) := hf.tmp (k := 19) rfl (by rw [ha]; decide) (Eq.trans (hA 19 (by kernel_rfl)) (Rg.cond_t hP))
        have hi5 : ((i : Nat) : Int) < (nl : Int) := by omega
        exact Rg.op_value (o := ⟨some 80, Op.indexAddr 25 (Operand.tmp 78) (Operand.tmp 79), _, _, _, _⟩) (x := .pointer (some ⟨ga, oa + i * 6, none⟩)) rfl hw (by clear hA HS hN hO hE hD hK; simp only [execOp]; go_simp) ⟨_, rfl, (fun h => by cases h), (Rg.cond_t hP).symm, hI, fun _ _ _ _ h => h⟩
    · intro ll bb w' hs hlf hN hO hf hI hA
      clear hi'
      have qg : bb.tmps[72]? = some (cond true (.bool ((cd != 0) || (y.id != a9.id))) undef) := hf.tmp (k := 12) rfl (by rw [ha]; decide) (hA 12 (by kernel_rfl))
      cases hP : (true && (((cd != 0) || (y.id != a9.id)) == true)) with
      | false => exact Rg.op_none (o := ⟨some 81, _, _, _, _, _⟩) rfl (Rg.unwanted_c (g := 12) rfl rfl qg hP) ⟨_, rfl, (fun h => by cases h), Rg.cond_f hP, hI, fun _ _ _ _ h => h⟩
      | true =>
        have hw := Rg.wanted_c (ops := (Rg.opsOf Try.f4 15)) (o := (Rg.opsOf Try.f4 15)[21]'(by rw [sizeFb15]; decide)) (g := 12) rfl rfl qg hP
        have g0 := Rg.pc_r hP
        have q80 : bb.tmps[80]? = some (.pointer (some ⟨ga, oa + i * 6, none⟩)) := hf.tmp (k := 20) rfl (by rw [ha]; decide) (Eq.trans (hA 20 (by kernel_rfl)) (Rg.cond_t hP))
        exact Rg.op_value (o := ⟨some 81, Op.fieldAddr 37 (Operand.tmp 80) 4, _, _, _, _⟩) (x := .pointer (some ⟨ga, oa + i * 6 + 4, none⟩)) rfl hw (by clear hA HS hN hO hE hD hK; simp only [execOp]; go_simp) ⟨_, rfl, (fun h => by cases h), (Rg.cond_t hP).symm, hI, fun _ _ _ _ h => h⟩
    · intro ll bb w' hs hlf hN hO hf hI hA
      clear hi'
      have qg : bb.tmps[72]? = some (cond true (.bool ((cd != 0) || (y.id != a9.id))) undef) := hf.tmp (k := 12) rfl (by rw [ha]; decide) (hA 12 (by kernel_rfl))
      cases hP : (true && (((cd != 0) || (y.id != a9.id)) == true)) with
      | false => exact Rg.op_none (o := ⟨some 82, _, _, _, _, _⟩) rfl (Rg.unwanted_c (g := 12) rfl rfl qg hP) ⟨_, rfl, (fun h => by cases h), Rg.cond_f hP, hI, fun _ _ _ _ h => h⟩
      | true =>
        have hw := Rg.wanted_c (ops := (Rg.opsOf Try.f4 15)) (o := (Rg.opsOf Try.f4 15)[22]'(by rw [sizeFb15]; decide)) (g := 12) rfl rfl qg hP
        have g0 := Rg.pc_r hP
        have q81 : bb.tmps[81]? = some (.pointer (some ⟨ga, oa + i * 6 + 4, none⟩)) := hf.tmp (k := 21) rfl (by rw [ha]; decide) (Eq.trans (hA 21 (by kernel_rfl)) (Rg.cond_t hP))
        have e4 := (hI.cell (p := ⟨ga, oa + i * 6 + 4, none⟩) hga).trans u4
        exact Rg.op_value (o := ⟨some 82, Op.load 2 (Operand.tmp 81), _, _, _, _⟩) (x := .int .i64 x.st) rfl hw (by clear hA HS hN hO hE hD hK; simp only [execOp]; go_simp) ⟨_, rfl, (fun h => by cases h), (Rg.cond_t hP).symm, hI, fun _ _ _ _ h => h⟩
    · intro ll bb w' hs hlf hN hO hf hI hA
      clear hi'
      have qg : bb.tmps[72]? = some (cond true (.bool ((cd != 0) || (y.id != a9.id))) undef) := hf.tmp (k := 12) rfl (by rw [ha]; decide) (hA 12 (by kernel_rfl))
      cases hP : (true && (((cd != 0) || (y.id != a9.id)) == true)) with
      | false => exact Rg.op_none (o := ⟨some 83, _, _, _, _, _⟩) rfl (Rg.unwanted_c (g := 12) rfl rfl qg hP) ⟨_, rfl, (fun h => by cases h), Rg.cond_f hP, hI, fun _ _ _ _ h => h⟩
      | true =>
        have hw := Rg.wanted_c (ops := (Rg.opsOf Try.f4 15)) (o := (Rg.opsOf Try.f4 15)[23]'(by rw [sizeFb15]; decide)) (g := 12) rfl rfl qg hP
        have g0 := Rg.pc_r hP
        have q77 : bb.tmps[77]? = some (.int .i64 y.st) := hf.tmp (k := 17) rfl (by rw [ha]; decide) (Eq.trans (hA 17 (by kernel_rfl)) (Rg.cond_t hP))
        have q82 : bb.tmps[82]? = some (.int .i64 x.st) := hf.tmp (k := 22) rfl (by rw [ha]; decide) (Eq.trans (hA 22 (by kernel_rfl)) (Rg.cond_t hP))
        exact Rg.op_value (o := ⟨some 83, Op.binOp BinOp.neq 2 (Operand.tmp 77) (Operand.tmp 82) 2, _, _, _, _⟩) (x := .bool (y.st != x.st)) rfl hw (by clear hA HS hN hO hE hD hK; simp only [execOp]; go_simp) ⟨_, rfl, (fun h => by cases h), (Rg.cond_t hP).symm, hI, fun _ _ _ _ h => h⟩
    · intro ll bb w' hs hlf hN hO hf hI hA
      clear hi'
      have qg : bb.tmps[72]? = some (cond true (.bool ((cd != 0) || (y.id != a9.id))) undef) := hf.tmp (k := 12) rfl (by rw [ha]; decide) (hA 12 (by kernel_rfl))
      cases hP : (true && (((cd != 0) || (y.id != a9.id)) == true)) with
      | false => exact Rg.op_none (o := ⟨some 84, _, _, _, _, _⟩) rfl (Rg.unwanted_c (g := 12) rfl rfl qg hP) ⟨_, rfl, (fun h => by cases h), Rg.cond_f hP, hI, fun _ _ _ _ h => h⟩
      | true =>
        have hw := Rg.wanted_c (ops := (Rg.opsOf Try.f4 15)) (o := (Rg.opsOf Try.f4 15)[24]'(by rw [sizeFb15]; decide)) (g := 12) rfl rfl qg hP
        have g0 := Rg.pc_r hP
        have q83 : bb.tmps[83]? = some (.bool (y.st != x.st)) := hf.tmp (k := 23) rfl (by rw [ha]; decide) (Eq.trans (hA 23 (by kernel_rfl)) (Rg.cond_t hP))
        exact Rg.op_value (o := ⟨some 84, Op.move (Operand.tmp 83), _, _, _, _⟩) (x := .bool (y.st != x.st)) rfl hw (by clear hA HS hN hO hE hD hK; simp only [execOp]; go_simp) ⟨_, rfl, (fun h => by cases h), (Rg.cond_t hP).symm, hI, fun _ _ _ _ h => h⟩
    · intro ll bb w' hs hlf hN hO hf hI hA
      clear hi'
      have qg : bb.tmps[84]? = some (cond (true && (((cd != 0) || (y.id != a9.id)) == true)) (.bool (y.st != x.st)) undef) := hf.tmp (k := 24) rfl (by rw [ha]; decide) (hA 24 (by kernel_rfl))
      cases hP : ((true && (((cd != 0) || (y.id != a9.id)) == true)) && ((y.st != x.st) == false)) with
      | false => exact Rg.op_none (o := ⟨some 85, _, _, _, _, _⟩) rfl (Rg.unwanted_c (g := 24) rfl rfl qg hP) ⟨_, rfl, (fun h => by cases h), Rg.cond_f hP, hI, fun _ _ _ _ h => h⟩
      | true =>
        have hw := Rg.wanted_c (ops := (Rg.opsOf Try.f4 15)) (o := (Rg.opsOf Try.f4 15)[25]'(by rw [sizeFb15]; decide)) (g := 24) rfl rfl qg hP
        have g1 := Rg.pc_r hP
        have p1 := Rg.pc_l hP
        have g0 := Rg.pc_r p1
        have q0 := hf.kept (s := 6) (by rw [sizeFb15]; kernel_rfl) k6
        exact Rg.op_value (o := ⟨some 85, Op.move (Operand.tmp 6), _, _, _, _⟩) (x := .slice (some ⟨gb, ob, none⟩) nl cc2) rfl hw (by clear hA HS hN hO hE hD hK; simp only [execOp]; go_simp) ⟨_, rfl, (fun h => by cases h), (Rg.cond_t hP).symm, hI, fun _ _ _ _ h => h⟩
    · intro ll bb w' hs hlf hN hO hf hI hA
      clear hi'
      have qg : bb.tmps[84]? = some (cond (true && (((cd != 0) || (y.id != a9.id)) == true)) (.bool (y.st != x.st)) undef) := hf.tmp (k := 24) rfl (by rw [ha]; decide) (hA 24 (by kernel_rfl))
      cases hP : ((true && (((cd != 0) || (y.id != a9.id)) == true)) && ((y.st != x.st) == false)) with
      | false => exact Rg.op_none (o := ⟨some 86, _, _, _, _, _⟩) rfl (Rg.unwanted_c (g := 24) rfl rfl qg hP) ⟨_, rfl, (fun h => by cases h), Rg.cond_f hP, hI, fun _ _ _ _ h => h⟩
      | true =>
        have hw := Rg.wanted_c (ops := (Rg.opsOf Try.f4 15)) (o := (Rg.opsOf Try.f4 15)[26]'(by rw [sizeFb15]; decide)) (g := 24) rfl rfl qg hP
        have g1 := Rg.pc_r hP
        have p1 := Rg.pc_l hP
        have g0 := Rg.pc_r p1
        have q0 := hf.kept (s := 10) (by rw [sizeFb15]; kernel_rfl) k10
        exact Rg.op_value (o := ⟨some 86, Op.move (Operand.tmp 10), _, _, _, _⟩) (x := .int .i64 (i : Nat)) rfl hw (by clear hA HS hN hO hE hD hK; simp only [execOp]; go_simp) ⟨_, rfl, (fun h => by cases h), (Rg.cond_t hP).symm, hI, fun _ _ _ _ h => h⟩
    · intro ll bb w' hs hlf hN hO hf hI hA
      clear hi'
      have qg : bb.tmps[84]? = some (cond (true && (((cd != 0) || (y.id != a9.id)) == true)) (.bool (y.st != x.st)) undef) := hf.tmp (k := 24) rfl (by rw [ha]; decide) (hA 24 (by kernel_rfl))
      cases hP : ((true && (((cd != 0) || (y.id != a9.id)) == true)) && ((y.st != x.st) == false)) with
      | false => exact Rg.op_none (o := ⟨some 87, _, _, _, _, _⟩) rfl (Rg.unwanted_c (g := 24) rfl rfl qg hP) ⟨_, rfl, (fun h => by cases h), Rg.cond_f hP, hI, fun _ _ _ _ h => h⟩
      | true =>
        have hw := Rg.wanted_c (ops := (Rg.opsOf Try.f4 15)) (o := (Rg.opsOf Try.f4 15)[27]'(by rw [sizeFb15]; decide)) (g := 24) rfl rfl qg hP
        have g1 := Rg.pc_r hP
        have p1 := Rg.pc_l hP
        have g0 := Rg.pc_r p1
        have q85 : bb.tmps[85]? = some (.slice (some ⟨gb, ob, none⟩) nl cc2) := hf.tmp (k := 25) rfl (by rw [ha]; decide) (Eq.trans (hA 25 (by kernel_rfl)) (Rg.cond_t hP))
        have q86 : bb.tmps[86]? = some (.int .i64 (i : Nat)) := hf.tmp (k := 26) rfl (by rw [ha]; decide) (Eq.trans (hA 26 (by kernel_rfl)) (Rg.cond_t hP))
        have hi5 : ((i : Nat) : Int) < (nl : Int) := by omega
        exact Rg.op_value (o := ⟨some 87, Op.indexAddr 25 (Operand.tmp 85) (Operand.tmp 86), _, _, _, _⟩) (x := .pointer (some ⟨gb, ob + i * 6, none⟩)) rfl hw (by clear hA HS hN hO hE hD hK; simp only [execOp]; go_simp) ⟨_, rfl, (fun h => by cases h), (Rg.cond_t hP).symm, hI, fun _ _ _ _ h => h⟩
    · intro ll bb w' hs hlf hN hO hf hI hA
      clear hi'
      have qg : bb.tmps[84]? = some (cond (true && (((cd != 0) || (y.id != a9.id)) == true)) (.bool (y.st != x.st)) undef) := hf.tmp (k := 24) rfl (by rw [ha]; decide) (hA 24 (by kernel_rfl))
      cases hP : ((true && (((cd != 0) || (y.id != a9.id)) == true)) && ((y.st != x.st) == false)) with
      | false => exact Rg.op_none (o := ⟨some 88, _, _, _, _, _⟩) rfl (Rg.unwanted_c (g := 24) rfl rfl qg hP) ⟨_, rfl, (fun h => by cases h), Rg.cond_f hP, hI, fun _ _ _ _ h => h⟩
      | true =>
        have hw := Rg.wanted_c (ops := (Rg.opsOf Try.f4 15)) (o := (Rg.opsOf Try.f4 15)[28]'(by rw [sizeFb15]; decide)) (g := 24) rfl rfl qg hP
        have g1 := Rg.pc_r hP
        have p1 := Rg.pc_l hP
        have g0 := Rg.pc_r p1
        have q87 : bb.tmps[87]? = some (.pointer (some ⟨gb, ob + i * 6, none⟩)) := hf.tmp (k := 27) rfl (by rw [ha]; decide) (Eq.trans (hA 27 (by kernel_rfl)) (Rg.cond_t hP))
        exact Rg.op_value (o := ⟨some 88, Op.fieldAddr 37 (Operand.tmp 87) 5, _, _, _, _⟩) (x := .pointer (some ⟨gb, ob + i * 6 + 5, none⟩)) rfl hw (by clear hA HS hN hO hE hD hK; simp only [execOp]; go_simp) ⟨_, rfl, (fun h => by cases h), (Rg.cond_t hP).symm, hI, fun _ _ _ _ h => h⟩
    · intro ll bb w' hs hlf hN hO hf hI hA
      clear hi'
      have qg : bb.tmps[84]? = some (cond (true && (((cd != 0) || (y.id != a9.id)) == true)) (.bool (y.st != x.st)) undef) := hf.tmp (k := 24) rfl (by rw [ha]; decide) (hA 24 (by kernel_rfl))
      cases hP : ((true && (((cd != 0) || (y.id != a9.id)) == true)) && ((y.st != x.st) == false)) with
      | false => exact Rg.op_none (o := ⟨some 89, _, _, _, _, _⟩) rfl (Rg.unwanted_c (g := 24) rfl rfl qg hP) ⟨_, rfl, (fun h => by cases h), Rg.cond_f hP, hI, fun _ _ _ _ h => h⟩
      | true =>
        have hw := Rg.wanted_c (ops := (Rg.opsOf Try.f4 15)) (o := (Rg.opsOf Try.f4 15)[29]'(by rw [sizeFb15]; decide)) (g := 24) rfl rfl qg hP
        have g1 := Rg.pc_r hP
        have p1 := Rg.pc_l hP
        have g0 := Rg.pc_r p1
        have q88 : bb.tmps[88]? = some (.pointer (some ⟨gb, ob + i * 6 + 5, none⟩)) := hf.tmp (k := 28) rfl (by rw [ha]; decide) (Eq.trans (hA 28 (by kernel_rfl)) (Rg.cond_t hP))
        have e5 := (hI.cell (p := ⟨gb, ob + i * 6 + 5, none⟩) hgb).trans v5
        exact Rg.op_value (o := ⟨some 89, Op.load 2 (Operand.tmp 88), _, _, _, _⟩) (x := .int .i64 y.fr) rfl hw (by clear hA HS hN hO hE hD hK; simp only [execOp]; go_simp) ⟨_, rfl, (fun h => by cases h), (Rg.cond_t hP).symm, hI, fun _ _ _ _ h => h⟩
    · intro ll bb w' hs hlf hN hO hf hI hA
      clear hi'
      have qg : bb.tmps[84]? = some (cond (true && (((cd != 0) || (y.id != a9.id)) == true)) (.bool (y.st != x.st)) undef) := hf.tmp (k := 24) rfl (by rw [ha]; decide) (hA 24 (by kernel_rfl))
      cases hP : ((true && (((cd != 0) || (y.id != a9.id)) == true)) && ((y.st != x.st) == false)) with
      | false => exact Rg.op_none (o := ⟨some 90, _, _, _, _, _⟩) rfl (Rg.unwanted_c (g := 24) rfl rfl qg hP) ⟨_, rfl, (fun h => by cases h), Rg.cond_f hP, hI, fun _ _ _ _ h => h⟩
      | true =>
        have hw := Rg.wanted_c (ops := (Rg.opsOf Try.f4 15)) (o := (Rg.opsOf Try.f4 15)[30]'(by rw [sizeFb15]; decide)) (g := 24) rfl rfl qg hP
        have g1 := Rg.pc_r hP
        have p1 := Rg.pc_l hP
        have g0 := Rg.pc_r p1
        have q0 := hf.kept (s := 3) (by rw [sizeFb15]; kernel_rfl) k3
        exact Rg.op_value (o := ⟨some 90, Op.move (Operand.tmp 3), _, _, _, _⟩) (x := .slice (some ⟨ga, oa, none⟩) nl cc1) rfl hw (by clear hA HS hN hO hE hD hK; simp only [execOp]; go_simp) ⟨_, rfl, (fun h => by cases h), (Rg.cond_t hP).symm, hI, fun _ _ _ _ h => h⟩
    · intro ll bb w' hs hlf hN hO hf hI hA
      clear hi'
      have qg : bb.tmps[84]? = some (cond (true && (((cd != 0) || (y.id != a9.id)) == true)) (.bool (y.st != x.st)) undef) := hf.tmp (k := 24) rfl (by rw [ha]; decide) (hA 24 (by kernel_rfl))
      cases hP : ((true && (((cd != 0) || (y.id != a9.id)) == true)) && ((y.st != x.st) == false)) with
      | false => exact Rg.op_none (o := ⟨some 91, _, _, _, _, _⟩) rfl (Rg.unwanted_c (g := 24) rfl rfl qg hP) ⟨_, rfl, (fun h => by cases h), Rg.cond_f hP, hI, fun _ _ _ _ h => h⟩
      | true =>
        have hw := Rg.wanted_c (ops := (Rg.opsOf Try.f4 15)) (o := (Rg.opsOf Try.f4 15)[31]'(by rw [sizeFb15]; decide)) (g := 24) rfl rfl qg hP
        have g1 := Rg.pc_r hP
        have p1 := Rg.pc_l hP
        have g0 := Rg.pc_r p1
        have q0 := hf.kept (s := 10) (by rw [sizeFb15]; kernel_rfl) k10
        exact Rg.op_value (o := ⟨some 91, Op.move (Operand.tmp 10), _, _, _, _⟩) (x := .int .i64 (i : Nat)) rfl hw (by clear hA HS hN hO hE hD hK; simp only [execOp]; go_simp) ⟨_, rfl, (fun h => by cases h), (Rg.cond_t hP).symm, hI, fun _ _ _ _ h => h⟩
    · intro ll bb w' hs hlf hN hO hf hI hA
      clear hi'
      have qg : bb.tmps[84]? = some (cond (true && (((cd != 0) || (y.id != a9.id)) == true)) (.bool (y.st != x.st)) undef) := hf.tmp (k := 24) rfl (by rw [ha]; decide) (hA 24 (by kernel_rfl))
      cases hP : ((true && (((cd != 0) || (y.id != a9.id)) == true)) && ((y.st != x.st) == false)) with
      | false => exact Rg.op_none (o := ⟨some 92, _, _, _, _, _⟩) rfl (Rg.unwanted_c (g := 24) rfl rfl qg hP) ⟨_, rfl, (fun h => by cases h), Rg.cond_f hP, hI, fun _ _ _ _ h => h⟩
      | true =>
        have hw := Rg.wanted_c (ops := (Rg.opsOf Try.f4 15)) (o := (Rg.opsOf Try.f4 15)[32]'(by rw [sizeFb15]; decide)) (g := 24) rfl rfl qg hP
        have g1 := Rg.pc_r hP
        have p1 := Rg.pc_l hP
        have g0 := Rg.pc_r p1
        have q90 : bb.tmps[90]? = some (.slice (some ⟨ga, oa, none⟩) nl cc1) := hf.tmp (k := 30) rfl (by rw [ha]; decide) (Eq.trans (hA 30 (by kernel_rfl)) (Rg.cond_t hP))
        have q91 : bb.tmps[91]? = some (.int .i64 (i : Nat)) := hf.tmp (k := 31) rfl (by rw [ha]; decide) (Eq.trans (hA 31 (by kernel_rfl)) (Rg.cond_t hP))
        have hi5 : ((i : Nat) : Int) < (nl : Int) := by omega
        exact Rg.op_value (o := ⟨some 92, Op.indexAddr 25 (Operand.tmp 90) (Operand.tmp 91), _, _, _, _⟩) (x := .pointer (some ⟨ga, oa + i * 6, none⟩)) rfl hw (by clear hA HS hN hO hE hD hK; simp only [execOp]; go_simp) ⟨_, rfl, (fun h => by cases h), (Rg.cond_t hP).symm, hI, fun _ _ _ _ h => h⟩
    · intro ll bb w' hs hlf hN hO hf hI hA
      clear hi'
      have qg : bb.tmps[84]? = some (cond (true && (((cd != 0) || (y.id != a9.id)) == true)) (.bool (y.st != x.st)) undef) := hf.tmp (k := 24) rfl (by rw [ha]; decide) (hA 24 (by kernel_rfl))
      cases hP : ((true && (((cd != 0) || (y.id != a9.id)) == true)) && ((y.st != x.st) == false)) with
      | false => exact Rg.op_none (o := ⟨some 93, _, _, _, _, _⟩) rfl (Rg.unwanted_c (g := 24) rfl rfl qg hP) ⟨_, rfl, (fun h => by cases h), Rg.cond_f hP, hI, fun _ _ _ _ h => h⟩
      | true =>
        have hw := Rg.wanted_c (ops := (Rg.opsOf Try.f4 15)) (o := (Rg.opsOf Try.f4 15)[33]'(by rw [sizeFb15]; decide)) (g := 24) rfl rfl qg hP
        have g1 := Rg.pc_r hP
        have p1 := Rg.pc_l hP
        have g0 := Rg.pc_r p1
        have q92 : bb.tmps[92]? = some (.pointer (some ⟨ga, oa + i * 6, none⟩)) := hf.tmp (k := 32) rfl (by rw [ha]; decide) (Eq.trans (hA 32 (by kernel_rfl)) (Rg.cond_t hP))
        exact Rg.op_value (o := ⟨some 93, Op.fieldAddr 37 (Operand.tmp 92) 5, _, _, _, _⟩) (x := .pointer (some ⟨ga, oa + i * 6 + 5, none⟩)) rfl hw (by clear hA HS hN hO hE hD hK; simp only [execOp]; go_simp) ⟨_, rfl, (fun h => by cases h), (Rg.cond_t hP).symm, hI, fun _ _ _ _ h => h⟩
    · intro ll bb w' hs hlf hN hO hf hI hA
      clear hi'
      have qg : bb.tmps[84]? = some (cond (true && (((cd != 0) || (y.id != a9.id)) == true)) (.bool (y.st != x.st)) undef) := hf.tmp (k := 24) rfl (by rw [ha]; decide) (hA 24 (by kernel_rfl))
      cases hP : ((true && (((cd != 0) || (y.id != a9.id)) == true)) && ((y.st != x.st) == false)) with
      | false => exact Rg.op_none (o := ⟨some 94, _, _, _, _, _⟩) rfl (Rg.unwanted_c (g := 24) rfl rfl qg hP) ⟨_, rfl, (fun h => by cases h), Rg.cond_f hP, hI, fun _ _ _ _ h => h⟩
      | true =>
        have hw := Rg.wanted_c (ops := (Rg.opsOf Try.f4 15)) (o := (Rg.opsOf Try.f4 15)[34]'(by rw [sizeFb15]; decide)) (g := 24) rfl rfl qg hP
        have g1 := Rg.pc_r hP
        have p1 := Rg.pc_l hP
        have g0 := Rg.pc_r p1
        have q93 : bb.tmps[93]? = some (.pointer (some ⟨ga, oa + i * 6 + 5, none⟩)) := hf.tmp (k := 33) rfl (by rw [ha]; decide) (Eq.trans (hA 33 (by kernel_rfl)) (Rg.cond_t hP))
        have e5 := (hI.cell (p := ⟨ga, oa + i * 6 + 5, none⟩) hga).trans u5
        exact Rg.op_value (o := ⟨some 94, Op.load 2 (Operand.tmp 93), _, _, _, _⟩) (x := .int .i64 x.fr) rfl hw (by clear hA HS hN hO hE hD hK; simp only [execOp]; go_simp) ⟨_, rfl, (fun h => by cases h), (Rg.cond_t hP).symm, hI, fun _ _ _ _ h => h⟩
    · intro ll bb w' hs hlf hN hO hf hI hA
      clear hi'
      have qg : bb.tmps[84]? = some (cond (true && (((cd != 0) || (y.id != a9.id)) == true)) (.bool (y.st != x.st)) undef) := hf.tmp (k := 24) rfl (by rw [ha]; decide) (hA 24 (by kernel_rfl))
      cases hP : ((true && (((cd != 0) || (y.id != a9.id)) == true)) && ((y.st != x.st) == false)) with
      | false => exact Rg.op_none (o := ⟨some 95, _, _, _, _, _⟩) rfl (Rg.unwanted_c (g := 24) rfl rfl qg hP) ⟨_, rfl, (fun h => by cases h), Rg.cond_f hP, hI, fun _ _ _ _ h => h⟩
      | true =>
        have hw := Rg.wanted_c (ops := (Rg.opsOf Try.f4 15)) (o := (Rg.opsOf Try.f4 15)[35]'(by rw [sizeFb15]; decide)) (g := 24) rfl rfl qg hP
        have g1 := Rg.pc_r hP
        have p1 := Rg.pc_l hP
        have g0 := Rg.pc_r p1
        have q89 : bb.tmps[89]? = some (.int .i64 y.fr) := hf.tmp (k := 29) rfl (by rw [ha]; decide) (Eq.trans (hA 29 (by kernel_rfl)) (Rg.cond_t hP))
        have q94 : bb.tmps[94]? = some (.int .i64 x.fr) := hf.tmp (k := 34) rfl (by rw [ha]; decide) (Eq.trans (hA 34 (by kernel_rfl)) (Rg.cond_t hP))
        exact Rg.op_value (o := ⟨some 95, Op.binOp BinOp.neq 2 (Operand.tmp 89) (Operand.tmp 94) 2, _, _, _, _⟩) (x := .bool (y.fr != x.fr)) rfl hw (by clear hA HS hN hO hE hD hK; simp only [execOp]; go_simp) ⟨_, rfl, (fun h => by cases h), (Rg.cond_t hP).symm, hI, fun _ _ _ _ h => h⟩
    · intro ll bb w' hs hlf hN hO hf hI hA
      clear hi'
      have qg : bb.tmps[72]? = some (cond true (.bool ((cd != 0) || (y.id != a9.id))) undef) := hf.tmp (k := 12) rfl (by rw [ha]; decide) (hA 12 (by kernel_rfl))
      cases hP : (true && (((cd != 0) || (y.id != a9.id)) == true)) with
      | false => exact Rg.op_none (o := ⟨some 96, _, _, _, _, _⟩) rfl (Rg.unwanted_c (g := 12) rfl rfl qg hP) ⟨_, rfl, (fun h => by cases h), Rg.cond_f hP, hI, fun _ _ _ _ h => h⟩
      | true =>
        have hw := Rg.wanted_c (ops := (Rg.opsOf Try.f4 15)) (o := (Rg.opsOf Try.f4 15)[36]'(by rw [sizeFb15]; decide)) (g := 12) rfl rfl qg hP
        have g0 := Rg.pc_r hP
        have q84 : bb.tmps[84]? = some (.bool (y.st != x.st)) := hf.tmp (k := 24) rfl (by rw [ha]; decide) (Eq.trans (hA 24 (by kernel_rfl)) (Rg.cond_t hP))
        cases hC : (y.st != x.st) with
        | false =>
          have hB : ((true && (((cd != 0) || (y.id != a9.id)) == true)) && ((y.st != x.st) == false)) = true := by
            rw [hC]; first | rfl | (rw [hP]; rfl) | simp_all
          have q95 : bb.tmps[95]? = some (.bool (y.fr != x.fr)) := hf.tmp (k := 35) rfl (by rw [ha]; decide) (Eq.trans (hA 35 (by kernel_rfl)) (Rg.cond_t hB))
          have hval : ((.bool ((y.st != x.st) || (y.fr != x.fr)) : Value)) = .bool (y.fr != x.fr) := by rw [hC]; rfl
          exact Rg.op_value (o := ⟨some 96, Op.pick (Operand.tmp 84) (Operand.const (Value.bool true)) (Operand.tmp 95), _, _, _, _⟩) (x := .bool (y.fr != x.fr)) rfl hw (by rw [hC] at q84; clear hA HS hN hO hE hD hK hval; simp only [execOp]; go_simp) ⟨_, rfl, (fun h => by cases h), (by show ((.bool (y.fr != x.fr) : Value)) = _; exact hval.symm.trans (Rg.cond_t hP).symm), hI, fun _ _ _ _ h => h⟩
        | true =>
          have hval : ((.bool ((y.st != x.st) || (y.fr != x.fr)) : Value)) = .bool true := by rw [hC]; rfl
          exact Rg.op_value (o := ⟨some 96, Op.pick (Operand.tmp 84) (Operand.const (Value.bool true)) (Operand.tmp 95), _, _, _, _⟩) (x := .bool true) rfl hw (by rw [hC] at q84; clear hA HS hN hO hE hD hK hval; simp only [execOp]; go_simp) ⟨_, rfl, (fun h => by cases h), (by show ((.bool true : Value)) = _; exact hval.symm.trans (Rg.cond_t hP).symm), hI, fun _ _ _ _ h => h⟩
    · intro ll bb w' hs hlf hN hO hf hI hA
      clear hi'
      have q72 : bb.tmps[72]? = some _ := hf.tmp (k := 12) rfl (by rw [ha]; decide) (hA 12 (by kernel_rfl))
      cases hC : ((cd != 0) || (y.id != a9.id)) with
      | false =>
        have hval : ((.bool (((cd != 0) || (y.id != a9.id)) && ((y.st != x.st) || (y.fr != x.fr))) : Value)) = .bool false := by rw [hC]; rfl
        exact Rg.op_value (o := ⟨some 97, Op.pick (Operand.tmp 72) (Operand.tmp 96) (Operand.const (Value.bool false)), _, _, _, _⟩) (x := .bool false) rfl rfl (by rw [hC] at q72; clear hA HS hN hO hE hD hK hval; simp only [execOp]; go_simp) ⟨_, rfl, (fun h => by cases h), (by show ((.bool false : Value)) = _; exact hval.symm), hI, fun _ _ _ _ h => h⟩
      | true =>
        have hB : (true && (((cd != 0) || (y.id != a9.id)) == true)) = true := by rw [hC]; rfl
        have q96 : bb.tmps[96]? = some (.bool ((y.st != x.st) || (y.fr != x.fr))) := hf.tmp (k := 36) rfl (by rw [ha]; decide) (Eq.trans (hA 36 (by kernel_rfl)) (Rg.cond_t hB))
        have hval : ((.bool (((cd != 0) || (y.id != a9.id)) && ((y.st != x.st) || (y.fr != x.fr))) : Value)) = .bool ((y.st != x.st) || (y.fr != x.fr)) := by rw [hC]; rfl
        exact Rg.op_value (o := ⟨some 97, Op.pick (Operand.tmp 72) (Operand.tmp 96) (Operand.const (Value.bool false)), _, _, _, _⟩) (x := .bool ((y.st != x.st) || (y.fr != x.fr))) rfl rfl (by rw [hC] at q72; clear hA HS hN hO hE hD hK hval; simp only [execOp]; go_simp) ⟨_, rfl, (fun h => by cases h), (by show ((.bool ((y.st != x.st) || (y.fr != x.fr)) : Value)) = _; exact hval.symm), hI, fun _ _ _ _ h => h⟩
    · intro ll bb w' hs hlf hN hO hf hI hA
      clear hi'
      have q97 : bb.tmps[97]? = some _ := hf.tmp (k := 37) rfl (by rw [ha]; decide) (hA 37 (by kernel_rfl))
      exact Rg.op_value (o := ⟨some 98, Op.move (Operand.tmp 97), _, _, _, _⟩) (x := .bool (((cd != 0) || (y.id != a9.id)) && ((y.st != x.st) || (y.fr != x.fr)))) rfl rfl (by clear hA HS hN hO hE hD hK; simp only [execOp]; go_simp) ⟨_, rfl, (fun h => by cases h), rfl, hI, fun _ _ _ _ h => h⟩
    · intro ll bb w' hs hlf hN hO hf hI hA
      clear hi'
      have qg : bb.tmps[98]? = some (cond true (.bool (((cd != 0) || (y.id != a9.id)) && ((y.st != x.st) || (y.fr != x.fr)))) undef) := hf.tmp (k := 38) rfl (by rw [ha]; decide) (hA 38 (by kernel_rfl))
      cases hP : (true && ((((cd != 0) || (y.id != a9.id)) && ((y.st != x.st) || (y.fr != x.fr))) == false)) with
      | false => exact Rg.op_none (o := ⟨some 99, _, _, _, _, _⟩) rfl (Rg.unwanted_c (g := 38) rfl rfl qg hP) ⟨_, rfl, (fun h => by cases h), Rg.cond_f hP, hI, fun _ _ _ _ h => h⟩
      | true =>
        have hw := Rg.wanted_c (ops := (Rg.opsOf Try.f4 15)) (o := (Rg.opsOf Try.f4 15)[39]'(by rw [sizeFb15]; decide)) (g := 38) rfl rfl qg hP
        have g0 := Rg.pc_r hP
        have q0 := hf.kept (s := 7) (by rw [sizeFb15]; kernel_rfl) k7
        exact Rg.op_value (o := ⟨some 99, Op.move (Operand.tmp 7), _, _, _, _⟩) (x := .int .i64 cd) rfl hw (by clear hA HS hN hO hE hD hK; simp only [execOp]; go_simp) ⟨_, rfl, (fun h => by cases h), (Rg.cond_t hP).symm, hI, fun _ _ _ _ h => h⟩
    · intro ll bb w' hs hlf hN hO hf hI hA
      clear hi'
      have qg : bb.tmps[98]? = some (cond true (.bool (((cd != 0) || (y.id != a9.id)) && ((y.st != x.st) || (y.fr != x.fr)))) undef) := hf.tmp (k := 38) rfl (by rw [ha]; decide) (hA 38 (by kernel_rfl))
      cases hP : (true && ((((cd != 0) || (y.id != a9.id)) && ((y.st != x.st) || (y.fr != x.fr))) == false)) with
      | false => exact Rg.op_none (o := ⟨some 100, _, _, _, _, _⟩) rfl (Rg.unwanted_c (g := 38) rfl rfl qg hP) ⟨_, rfl, (fun h => by cases h), Rg.cond_f hP, hI, fun _ _ _ _ h => h⟩
      | true =>
        have hw := Rg.wanted_c (ops := (Rg.opsOf Try.f4 15)) (o := (Rg.opsOf Try.f4 15)[40]'(by rw [sizeFb15]; decide)) (g := 38) rfl rfl qg hP
        have g0 := Rg.pc_r hP
        have q99 : bb.tmps[99]? = some (.int .i64 cd) := hf.tmp (k := 39) rfl (by rw [ha]; decide) (Eq.trans (hA 39 (by kernel_rfl)) (Rg.cond_t hP))
        exact Rg.op_value (o := ⟨some 100, Op.binOp BinOp.eql 2 (Operand.tmp 99) (Operand.const (Value.int .i64 0)) 2, _, _, _, _⟩) (x := .bool (cd == 0)) rfl hw (by clear hA HS hN hO hE hD hK; simp only [execOp]; go_simp) ⟨_, rfl, (fun h => by cases h), (Rg.cond_t hP).symm, hI, fun _ _ _ _ h => h⟩
    · intro ll bb w' hs hlf hN hO hf hI hA
      clear hi'
      have qg : bb.tmps[98]? = some (cond true (.bool (((cd != 0) || (y.id != a9.id)) && ((y.st != x.st) || (y.fr != x.fr)))) undef) := hf.tmp (k := 38) rfl (by rw [ha]; decide) (hA 38 (by kernel_rfl))
      cases hP : (true && ((((cd != 0) || (y.id != a9.id)) && ((y.st != x.st) || (y.fr != x.fr))) == false)) with
      | false => exact Rg.op_none (o := ⟨some 101, _, _, _, _, _⟩) rfl (Rg.unwanted_c (g := 38) rfl rfl qg hP) ⟨_, rfl, (fun h => by cases h), Rg.cond_f hP, hI, fun _ _ _ _ h => h⟩
      | true =>
        have hw := Rg.wanted_c (ops := (Rg.opsOf Try.f4 15)) (o := (Rg.opsOf Try.f4 15)[41]'(by rw [sizeFb15]; decide)) (g := 38) rfl rfl qg hP
        have g0 := Rg.pc_r hP
        have q100 : bb.tmps[100]? = some (.bool (cd == 0)) := hf.tmp (k := 40) rfl (by rw [ha]; decide) (Eq.trans (hA 40 (by kernel_rfl)) (Rg.cond_t hP))
        exact Rg.op_value (o := ⟨some 101, Op.move (Operand.tmp 100), _, _, _, _⟩) (x := .bool (cd == 0)) rfl hw (by clear hA HS hN hO hE hD hK; simp only [execOp]; go_simp) ⟨_, rfl, (fun h => by cases h), (Rg.cond_t hP).symm, hI, fun _ _ _ _ h => h⟩
    · intro ll bb w' hs hlf hN hO hf hI hA
      clear hi'
      have qg : bb.tmps[101]? = some (cond (true && ((((cd != 0) || (y.id != a9.id)) && ((y.st != x.st) || (y.fr != x.fr))) == false)) (.bool (cd == 0)) undef) := hf.tmp (k := 41) rfl (by rw [ha]; decide) (hA 41 (by kernel_rfl))
      cases hP : ((true && ((((cd != 0) || (y.id != a9.id)) && ((y.st != x.st) || (y.fr != x.fr))) == false)) && ((cd == 0) == true)) with
      | false => exact Rg.op_none (o := ⟨some 102, _, _, _, _, _⟩) rfl (Rg.unwanted_c (g := 41) rfl rfl qg hP) ⟨_, rfl, (fun h => by cases h), Rg.cond_f hP, hI, fun _ _ _ _ h => h⟩
      | true =>
        have hw := Rg.wanted_c (ops := (Rg.opsOf Try.f4 15)) (o := (Rg.opsOf Try.f4 15)[42]'(by rw [sizeFb15]; decide)) (g := 41) rfl rfl qg hP
        have g1 := Rg.pc_r hP
        have p1 := Rg.pc_l hP
        have g0 := Rg.pc_r p1
        have q0 := hf.kept (s := 6) (by rw [sizeFb15]; kernel_rfl) k6
        exact Rg.op_value (o := ⟨some 102, Op.move (Operand.tmp 6), _, _, _, _⟩) (x := .slice (some ⟨gb, ob, none⟩) nl cc2) rfl hw (by clear hA HS hN hO hE hD hK; simp only [execOp]; go_simp) ⟨_, rfl, (fun h => by cases h), (Rg.cond_t hP).symm, hI, fun _ _ _ _ h => h⟩
    · intro ll bb w' hs hlf hN hO hf hI hA
      clear hi'
      have qg : bb.tmps[101]? = some (cond (true && ((((cd != 0) || (y.id != a9.id)) && ((y.st != x.st) || (y.fr != x.fr))) == false)) (.bool (cd == 0)) undef) := hf.tmp (k := 41) rfl (by rw [ha]; decide) (hA 41 (by kernel_rfl))
      cases hP : ((true && ((((cd != 0) || (y.id != a9.id)) && ((y.st != x.st) || (y.fr != x.fr))) == false)) && ((cd == 0) == true)) with
      | false => exact Rg.op_none (o := ⟨some 103, _, _, _, _, _⟩) rfl (Rg.unwanted_c (g := 41) rfl rfl qg hP) ⟨_, rfl, (fun h => by cases h), Rg.cond_f hP, hI, fun _ _ _ _ h => h⟩
      | true =>
        have hw := Rg.wanted_c (ops := (Rg.opsOf Try.f4 15)) (o := (Rg.opsOf Try.f4 15)[43]'(by rw [sizeFb15]; decide)) (g := 41) rfl rfl qg hP
        have g1 := Rg.pc_r hP
        have p1 := Rg.pc_l hP
        have g0 := Rg.pc_r p1
        have q0 := hf.kept (s := 10) (by rw [sizeFb15]; kernel_rfl) k10
        exact Rg.op_value (o := ⟨some 103, Op.move (Operand.tmp 10), _, _, _, _⟩) (x := .int .i64 (i : Nat)) rfl hw (by clear hA HS hN hO hE hD hK; simp only [execOp]; go_simp) ⟨_, rfl, (fun h => by cases h), (Rg.cond_t hP).symm, hI, fun _ _ _ _ h => h⟩
    · intro ll bb w' hs hlf hN hO hf hI hA
      clear hi'
      have qg : bb.tmps[101]? = some (cond (true && ((((cd != 0) || (y.id != a9.id)) && ((y.st != x.st) || (y.fr != x.fr))) == false)) (.bool (cd == 0)) undef) := hf.tmp (k := 41) rfl (by rw [ha]; decide) (hA 41 (by kernel_rfl))
      cases hP : ((true && ((((cd != 0) || (y.id != a9.id)) && ((y.st != x.st) || (y.fr != x.fr))) == false)) && ((cd == 0) == true)) with
      | false => exact Rg.op_none (o := ⟨some 104, _, _, _, _, _⟩) rfl (Rg.unwanted_c (g := 41) rfl rfl qg hP) ⟨_, rfl, (fun h => by cases h), Rg.cond_f hP, hI, fun _ _ _ _ h => h⟩
      | true =>
        have hw := Rg.wanted_c (ops := (Rg.opsOf Try.f4 15)) (o := (Rg.opsOf Try.f4 15)[44]'(by rw [sizeFb15]; decide)) (g := 41) rfl rfl qg hP
        have g1 := Rg.pc_r hP
        have p1 := Rg.pc_l hP
        have g0 := Rg.pc_r p1
        have q102 : bb.tmps[102]? = some (.slice (some ⟨gb, ob, none⟩) nl cc2) := hf.tmp (k := 42) rfl (by rw [ha]; decide) (Eq.trans (hA 42 (by kernel_rfl)) (Rg.cond_t hP))
        have q103 : bb.tmps[103]? = some (.int .i64 (i : Nat)) := hf.tmp (k := 43) rfl (by rw [ha]; decide) (Eq.trans (hA 43 (by kernel_rfl)) (Rg.cond_t hP))
        have hi5 : ((i : Nat) : Int) < (nl : Int) := by omega
        exact Rg.op_value (o := ⟨some 104, Op.indexAddr 25 (Operand.tmp 102) (Operand.tmp 103), _, _, _, _⟩) (x := .pointer (some ⟨gb, ob + i * 6, none⟩)) rfl hw (by clear hA HS hN hO hE hD hK; simp only [execOp]; go_simp) ⟨_, rfl, (fun h => by cases h), (Rg.cond_t hP).symm, hI, fun _ _ _ _ h => h⟩
    · intro ll bb w' hs hlf hN hO hf hI hA
      clear hi'
      have qg : bb.tmps[101]? = some (cond (true && ((((cd != 0) || (y.id != a9.id)) && ((y.st != x.st) || (y.fr != x.fr))) == false)) (.bool (cd == 0)) undef) := hf.tmp (k := 41) rfl (by rw [ha]; decide) (hA 41 (by kernel_rfl))
      cases hP : ((true && ((((cd != 0) || (y.id != a9.id)) && ((y.st != x.st) || (y.fr != x.fr))) == false)) && ((cd == 0) == true)) with
      | false => exact Rg.op_none (o := ⟨some 105, _, _, _, _, _⟩) rfl (Rg.unwanted_c (g := 41) rfl rfl qg hP) ⟨_, rfl, (fun h => by cases h), Rg.cond_f hP, hI, fun _ _ _ _ h => h⟩
      | true =>
        have hw := Rg.wanted_c (ops := (Rg.opsOf Try.f4 15)) (o := (Rg.opsOf Try.f4 15)[45]'(by rw [sizeFb15]; decide)) (g := 41) rfl rfl qg hP
        have g1 := Rg.pc_r hP
        have p1 := Rg.pc_l hP
        have g0 := Rg.pc_r p1
        have q104 : bb.tmps[104]? = some (.pointer (some ⟨gb, ob + i * 6, none⟩)) := hf.tmp (k := 44) rfl (by rw [ha]; decide) (Eq.trans (hA 44 (by kernel_rfl)) (Rg.cond_t hP))
        exact Rg.op_value (o := ⟨some 105, Op.fieldAddr 37 (Operand.tmp 104) 0, _, _, _, _⟩) (x := .pointer (some ⟨gb, ob + i * 6, none⟩)) rfl hw (by clear hA HS hN hO hE hD hK; simp only [execOp]; go_simp) ⟨_, rfl, (fun h => by cases h), (Rg.cond_t hP).symm, hI, fun _ _ _ _ h => h⟩
    · intro ll bb w' hs hlf hN hO hf hI hA
      clear hi'
      have qg : bb.tmps[101]? = some (cond (true && ((((cd != 0) || (y.id != a9.id)) && ((y.st != x.st) || (y.fr != x.fr))) == false)) (.bool (cd == 0)) undef) := hf.tmp (k := 41) rfl (by rw [ha]; decide) (hA 41 (by kernel_rfl))
      cases hP : ((true && ((((cd != 0) || (y.id != a9.id)) && ((y.st != x.st) || (y.fr != x.fr))) == false)) && ((cd == 0) == true)) with
      | false => exact Rg.op_none (o := ⟨some 106, _, _, _, _, _⟩) rfl (Rg.unwanted_c (g := 41) rfl rfl qg hP) ⟨_, rfl, (fun h => by cases h), Rg.cond_f hP, hI, fun _ _ _ _ h => h⟩
      | true =>
        have hw := Rg.wanted_c (ops := (Rg.opsOf Try.f4 15)) (o := (Rg.opsOf Try.f4 15)[46]'(by rw [sizeFb15]; decide)) (g := 41) rfl rfl qg hP
        have g1 := Rg.pc_r hP
        have p1 := Rg.pc_l hP
        have g0 := Rg.pc_r p1
        have q105 : bb.tmps[105]? = some (.pointer (some ⟨gb, ob + i * 6, none⟩)) := hf.tmp (k := 45) rfl (by rw [ha]; decide) (Eq.trans (hA 45 (by kernel_rfl)) (Rg.cond_t hP))
        have e0 := (hI.cell (p := ⟨gb, ob + i * 6, none⟩) hgb).trans v0
        exact Rg.op_value (o := ⟨some 106, Op.load 2 (Operand.tmp 105), _, _, _, _⟩) (x := .int .i64 y.id) rfl hw (by clear hA HS hN hO hE hD hK; simp only [execOp]; go_simp) ⟨_, rfl, (fun h => by cases h), (Rg.cond_t hP).symm, hI, fun _ _ _ _ h => h⟩
    · intro ll bb w' hs hlf hN hO hf hI hA
      clear hi'
      have qg : bb.tmps[101]? = some (cond (true && ((((cd != 0) || (y.id != a9.id)) && ((y.st != x.st) || (y.fr != x.fr))) == false)) (.bool (cd == 0)) undef) := hf.tmp (k := 41) rfl (by rw [ha]; decide) (hA 41 (by kernel_rfl))
      cases hP : ((true && ((((cd != 0) || (y.id != a9.id)) && ((y.st != x.st) || (y.fr != x.fr))) == false)) && ((cd == 0) == true)) with
      | false => exact Rg.op_none (o := ⟨some 107, _, _, _, _, _⟩) rfl (Rg.unwanted_c (g := 41) rfl rfl qg hP) ⟨_, rfl, (fun h => by cases h), Rg.cond_f hP, hI, fun _ _ _ _ h => h⟩
      | true =>
        have hw := Rg.wanted_c (ops := (Rg.opsOf Try.f4 15)) (o := (Rg.opsOf Try.f4 15)[47]'(by rw [sizeFb15]; decide)) (g := 41) rfl rfl qg hP
        have g1 := Rg.pc_r hP
        have p1 := Rg.pc_l hP
        have g0 := Rg.pc_r p1
        have q5 := hf.kept (s := 5) (by rw [sizeFb15]; kernel_rfl) k5
        exact Rg.op_value (o := ⟨some 107, Op.fieldAddr 30 (Operand.tmp 5) 1, _, _, _, _⟩) (x := .pointer (some ⟨C, 1, none⟩)) rfl hw (by clear hA HS hN hO hE hD hK; simp only [execOp]; go_simp) ⟨_, rfl, (fun h => by cases h), (Rg.cond_t hP).symm, hI, fun _ _ _ _ h => h⟩
    · intro ll bb w' hs hlf hN hO hf hI hA
      clear hi'
      have qg : bb.tmps[101]? = some (cond (true && ((((cd != 0) || (y.id != a9.id)) && ((y.st != x.st) || (y.fr != x.fr))) == false)) (.bool (cd == 0)) undef) := hf.tmp (k := 41) rfl (by rw [ha]; decide) (hA 41 (by kernel_rfl))
      cases hP : ((true && ((((cd != 0) || (y.id != a9.id)) && ((y.st != x.st) || (y.fr != x.fr))) == false)) && ((cd == 0) == true)) with
      | false => exact Rg.op_none (o := ⟨some 108, _, _, _, _, _⟩) rfl (Rg.unwanted_c (g := 41) rfl rfl qg hP) ⟨_, rfl, (fun h => by cases h), Rg.cond_f hP, hI, fun _ _ _ _ h => h⟩
      | true =>
        have hw := Rg.wanted_c (ops := (Rg.opsOf Try.f4 15)) (o := (Rg.opsOf Try.f4 15)[48]'(by rw [sizeFb15]; decide)) (g := 41) rfl rfl qg hP
        have g1 := Rg.pc_r hP
        have p1 := Rg.pc_l hP
        have g0 := Rg.pc_r p1
        have q107 : bb.tmps[107]? = some (.pointer (some ⟨C, 1, none⟩)) := hf.tmp (k := 47) rfl (by rw [ha]; decide) (Eq.trans (hA 47 (by kernel_rfl)) (Rg.cond_t hP))
        obtain ⟨b0, b1, b2⟩ := (hD.below hI).three
        exact Rg.op_value (o := ⟨some 108, Op.load 2 (Operand.tmp 107), _, _, _, _⟩) (x := .int .i64 a9.id) rfl hw (by clear hA HS hN hO hE hD hK; simp only [execOp]; go_simp) ⟨_, rfl, (fun h => by cases h), (Rg.cond_t hP).symm, hI, fun _ _ _ _ h => h⟩
    · intro ll bb w' hs hlf hN hO hf hI hA
      clear hi'
      have qg : bb.tmps[101]? = some (cond (true && ((((cd != 0) || (y.id != a9.id)) && ((y.st != x.st) || (y.fr != x.fr))) == false)) (.bool (cd == 0)) undef) := hf.tmp (k := 41) rfl (by rw [ha]; decide) (hA 41 (by kernel_rfl))
      cases hP : ((true && ((((cd != 0) || (y.id != a9.id)) && ((y.st != x.st) || (y.fr != x.fr))) == false)) && ((cd == 0) == true)) with
      | false => exact Rg.op_none (o := ⟨some 109, _, _, _, _, _⟩) rfl (Rg.unwanted_c (g := 41) rfl rfl qg hP) ⟨_, rfl, (fun h => by cases h), Rg.cond_f hP, hI, fun _ _ _ _ h => h⟩
      | true =>
        have hw := Rg.wanted_c (ops := (Rg.opsOf Try.f4 15)) (o := (Rg.opsOf Try.f4 15)[49]'(by rw [sizeFb15]; decide)) (g := 41) rfl rfl qg hP
        have g1 := Rg.pc_r hP
        have p1 := Rg.pc_l hP
        have g0 := Rg.pc_r p1
        have q106 : bb.tmps[106]? = some (.int .i64 y.id) := hf.tmp (k := 46) rfl (by rw [ha]; decide) (Eq.trans (hA 46 (by kernel_rfl)) (Rg.cond_t hP))
        have q108 : bb.tmps[108]? = some (.int .i64 a9.id) := hf.tmp (k := 48) rfl (by rw [ha]; decide) (Eq.trans (hA 48 (by kernel_rfl)) (Rg.cond_t hP))
        exact Rg.op_value (o := ⟨some 109, Op.binOp BinOp.eql 2 (Operand.tmp 106) (Operand.tmp 108) 2, _, _, _, _⟩) (x := .bool (y.id == a9.id)) rfl hw (by clear hA HS hN hO hE hD hK; simp only [execOp]; go_simp) ⟨_, rfl, (fun h => by cases h), (Rg.cond_t hP).symm, hI, fun _ _ _ _ h => h⟩
    · intro ll bb w' hs hlf hN hO hf hI hA
      clear hi'
      have qg : bb.tmps[98]? = some (cond true (.bool (((cd != 0) || (y.id != a9.id)) && ((y.st != x.st) || (y.fr != x.fr)))) undef) := hf.tmp (k := 38) rfl (by rw [ha]; decide) (hA 38 (by kernel_rfl))
      cases hP : (true && ((((cd != 0) || (y.id != a9.id)) && ((y.st != x.st) || (y.fr != x.fr))) == false)) with
      | false => exact Rg.op_none (o := ⟨some 110, _, _, _, _, _⟩) rfl (Rg.unwanted_c (g := 38) rfl rfl qg hP) ⟨_, rfl, (fun h => by cases h), Rg.cond_f hP, hI, fun _ _ _ _ h => h⟩
      | true =>
        have hw := Rg.wanted_c (ops := (Rg.opsOf Try.f4 15)) (o := (Rg.opsOf Try.f4 15)[50]'(by rw [sizeFb15]; decide)) (g := 38) rfl rfl qg hP
        have g0 := Rg.pc_r hP
        have q101 : bb.tmps[101]? = some (.bool (cd == 0)) := hf.tmp (k := 41) rfl (by rw [ha]; decide) (Eq.trans (hA 41 (by kernel_rfl)) (Rg.cond_t hP))
        cases hC : (cd == 0) with
        | false =>
          have hval : ((.bool ((cd == 0) && (y.id == a9.id)) : Value)) = .bool false := by rw [hC]; rfl
          exact Rg.op_value (o := ⟨some 110, Op.pick (Operand.tmp 101) (Operand.tmp 109) (Operand.const (Value.bool false)), _, _, _, _⟩) (x := .bool false) rfl hw (by rw [hC] at q101; clear hA HS hN hO hE hD hK hval; simp only [execOp]; go_simp) ⟨_, rfl, (fun h => by cases h), (by show ((.bool false : Value)) = _; exact hval.symm.trans (Rg.cond_t hP).symm), hI, fun _ _ _ _ h => h⟩
        | true =>
          have hB : ((true && ((((cd != 0) || (y.id != a9.id)) && ((y.st != x.st) || (y.fr != x.fr))) == false)) && ((cd == 0) == true)) = true := by
            rw [hC]; first | rfl | (rw [hP]; rfl) | simp_all
          have q109 : bb.tmps[109]? = some (.bool (y.id == a9.id)) := hf.tmp (k := 49) rfl (by rw [ha]; decide) (Eq.trans (hA 49 (by kernel_rfl)) (Rg.cond_t hB))
          have hval : ((.bool ((cd == 0) && (y.id == a9.id)) : Value)) = .bool (y.id == a9.id) := by rw [hC]; rfl
          exact Rg.op_value (o := ⟨some 110, Op.pick (Operand.tmp 101) (Operand.tmp 109) (Operand.const (Value.bool false)), _, _, _, _⟩) (x := .bool (y.id == a9.id)) rfl hw (by rw [hC] at q101; clear hA HS hN hO hE hD hK hval; simp only [execOp]; go_simp) ⟨_, rfl, (fun h => by cases h), (by show ((.bool (y.id == a9.id) : Value)) = _; exact hval.symm.trans (Rg.cond_t hP).symm), hI, fun _ _ _ _ h => h⟩
    · intro ll bb w' hs hlf hN hO hf hI hA
      clear hi'
      have qg : bb.tmps[98]? = some (cond true (.bool (((cd != 0) || (y.id != a9.id)) && ((y.st != x.st) || (y.fr != x.fr)))) undef) := hf.tmp (k := 38) rfl (by rw [ha]; decide) (hA 38 (by kernel_rfl))
      cases hP : (true && ((((cd != 0) || (y.id != a9.id)) && ((y.st != x.st) || (y.fr != x.fr))) == false)) with
      | false => exact Rg.op_none (o := ⟨some 111, _, _, _, _, _⟩) rfl (Rg.unwanted_c (g := 38) rfl rfl qg hP) ⟨_, rfl, (fun h => by cases h), Rg.cond_f hP, hI, fun _ _ _ _ h => h⟩
      | true =>
        have hw := Rg.wanted_c (ops := (Rg.opsOf Try.f4 15)) (o := (Rg.opsOf Try.f4 15)[51]'(by rw [sizeFb15]; decide)) (g := 38) rfl rfl qg hP
        have g0 := Rg.pc_r hP
        have q110 : bb.tmps[110]? = some (.bool ((cd == 0) && (y.id == a9.id))) := hf.tmp (k := 50) rfl (by rw [ha]; decide) (Eq.trans (hA 50 (by kernel_rfl)) (Rg.cond_t hP))
        exact Rg.op_value (o := ⟨some 111, Op.move (Operand.tmp 110), _, _, _, _⟩) (x := .bool ((cd == 0) && (y.id == a9.id))) rfl hw (by clear hA HS hN hO hE hD hK; simp only [execOp]; go_simp) ⟨_, rfl, (fun h => by cases h), (Rg.cond_t hP).symm, hI, fun _ _ _ _ h => h⟩
    · intro ll bb w' hs hlf hN hO hf hI hA
      clear hi'
      have qg : bb.tmps[111]? = some (cond (true && ((((cd != 0) || (y.id != a9.id)) && ((y.st != x.st) || (y.fr != x.fr))) == false)) (.bool ((cd == 0) && (y.id == a9.id))) undef) := hf.tmp (k := 51) rfl (by rw [ha]; decide) (hA 51 (by kernel_rfl))
      cases hP : ((true && ((((cd != 0) || (y.id != a9.id)) && ((y.st != x.st) || (y.fr != x.fr))) == false)) && (((cd == 0) && (y.id == a9.id)) == true)) with
      | false => exact Rg.op_none (o := ⟨some 112, _, _, _, _, _⟩) rfl (Rg.unwanted_c (g := 51) rfl rfl qg hP) ⟨_, rfl, (fun h => by cases h), Rg.cond_f hP, hI, fun _ _ _ _ h => h⟩
      | true =>
        have hw := Rg.wanted_c (ops := (Rg.opsOf Try.f4 15)) (o := (Rg.opsOf Try.f4 15)[52]'(by rw [sizeFb15]; decide)) (g := 51) rfl rfl qg hP
        have g1 := Rg.pc_r hP
        have p1 := Rg.pc_l hP
        have g0 := Rg.pc_r p1
        have q5 := hf.kept (s := 5) (by rw [sizeFb15]; kernel_rfl) k5
        exact Rg.op_value (o := ⟨some 112, Op.fieldAddr 30 (Operand.tmp 5) 0, _, _, _, _⟩) (x := .pointer (some ⟨C, 0, none⟩)) rfl hw (by clear hA HS hN hO hE hD hK; simp only [execOp]; go_simp) ⟨_, rfl, (fun h => by cases h), (Rg.cond_t hP).symm, hI, fun _ _ _ _ h => h⟩
    · intro ll bb w' hs hlf hN hO hf hI hA
      clear hi'
      have qg : bb.tmps[111]? = some (cond (true && ((((cd != 0) || (y.id != a9.id)) && ((y.st != x.st) || (y.fr != x.fr))) == false)) (.bool ((cd == 0) && (y.id == a9.id))) undef) := hf.tmp (k := 51) rfl (by rw [ha]; decide) (hA 51 (by kernel_rfl))
      cases hP : ((true && ((((cd != 0) || (y.id != a9.id)) && ((y.st != x.st) || (y.fr != x.fr))) == false)) && (((cd == 0) && (y.id == a9.id)) == true)) with
      | false => exact Rg.op_none (o := ⟨some 113, _, _, _, _, _⟩) rfl (Rg.unwanted_c (g := 51) rfl rfl qg hP) ⟨_, rfl, (fun h => by cases h), Rg.cond_f hP, hI, fun _ _ _ _ h => h⟩
      | true =>
        have hw := Rg.wanted_c (ops := (Rg.opsOf Try.f4 15)) (o := (Rg.opsOf Try.f4 15)[53]'(by rw [sizeFb15]; decide)) (g := 51) rfl rfl qg hP
        have g1 := Rg.pc_r hP
        have p1 := Rg.pc_l hP
        have g0 := Rg.pc_r p1
        have q112 : bb.tmps[112]? = some (.pointer (some ⟨C, 0, none⟩)) := hf.tmp (k := 52) rfl (by rw [ha]; decide) (Eq.trans (hA 52 (by kernel_rfl)) (Rg.cond_t hP))
        obtain ⟨b0, b1, b2⟩ := (hD.below hI).three
        exact Rg.op_value (o := ⟨some 113, Op.load 2 (Operand.tmp 112), _, _, _, _⟩) (x := .int .i64 a9.k) rfl hw (by clear hA HS hN hO hE hD hK; simp only [execOp]; go_simp) ⟨_, rfl, (fun h => by cases h), (Rg.cond_t hP).symm, hI, fun _ _ _ _ h => h⟩
    · intro ll bb w' hs hlf hN hO hf hI hA
      clear hi'
      have qg : bb.tmps[111]? = some (cond (true && ((((cd != 0) || (y.id != a9.id)) && ((y.st != x.st) || (y.fr != x.fr))) == false)) (.bool ((cd == 0) && (y.id == a9.id))) undef) := hf.tmp (k := 51) rfl (by rw [ha]; decide) (hA 51 (by kernel_rfl))
      cases hP : ((true && ((((cd != 0) || (y.id != a9.id)) && ((y.st != x.st) || (y.fr != x.fr))) == false)) && (((cd == 0) && (y.id == a9.id)) == true)) with
      | false => exact Rg.op_none (o := ⟨some 114, _, _, _, _, _⟩) rfl (Rg.unwanted_c (g := 51) rfl rfl qg hP) ⟨_, rfl, (fun h => by cases h), Rg.cond_f hP, hI, fun _ _ _ _ h => h⟩
      | true =>
        have hw := Rg.wanted_c (ops := (Rg.opsOf Try.f4 15)) (o := (Rg.opsOf Try.f4 15)[54]'(by rw [sizeFb15]; decide)) (g := 51) rfl rfl qg hP
        have g1 := Rg.pc_r hP
        have p1 := Rg.pc_l hP
        have g0 := Rg.pc_r p1
        have q113 : bb.tmps[113]? = some (.int .i64 a9.k) := hf.tmp (k := 53) rfl (by rw [ha]; decide) (Eq.trans (hA 53 (by kernel_rfl)) (Rg.cond_t hP))
        exact Rg.op_value (o := ⟨some 114, Op.binOp BinOp.eql 2 (Operand.tmp 113) (Operand.const (Value.int .i64 3)) 2, _, _, _, _⟩) (x := .bool (a9.k == 3)) rfl hw (by clear hA HS hN hO hE hD hK; simp only [execOp]; go_simp) ⟨_, rfl, (fun h => by cases h), (Rg.cond_t hP).symm, hI, fun _ _ _ _ h => h⟩
    · intro ll bb w' hs hlf hN hO hf hI hA
      clear hi'
      have qg : bb.tmps[98]? = some (cond true (.bool (((cd != 0) || (y.id != a9.id)) && ((y.st != x.st) || (y.fr != x.fr)))) undef) := hf.tmp (k := 38) rfl (by rw [ha]; decide) (hA 38 (by kernel_rfl))
      cases hP : (true && ((((cd != 0) || (y.id != a9.id)) && ((y.st != x.st) || (y.fr != x.fr))) == false)) with
      | false => exact Rg.op_none (o := ⟨some 115, _, _, _, _, _⟩) rfl (Rg.unwanted_c (g := 38) rfl rfl qg hP) ⟨_, rfl, (fun h => by cases h), Rg.cond_f hP, hI, fun _ _ _ _ h => h⟩
      | true =>
        have hw := Rg.wanted_c (ops := (Rg.opsOf Try.f4 15)) (o := (Rg.opsOf Try.f4 15)[55]'(by rw [sizeFb15]; decide)) (g := 38) rfl rfl qg hP
        have g0 := Rg.pc_r hP
        have q111 : bb.tmps[111]? = some (.bool ((cd == 0) && (y.id == a9.id))) := hf.tmp (k := 51) rfl (by rw [ha]; decide) (Eq.trans (hA 51 (by kernel_rfl)) (Rg.cond_t hP))
        cases hC : ((cd == 0) && (y.id == a9.id)) with
        | false =>
          have hval : ((.bool (((cd == 0) && (y.id == a9.id)) && (a9.k == 3)) : Value)) = .bool false := by rw [hC]; rfl
          exact Rg.op_value (o := ⟨some 115, Op.pick (Operand.tmp 111) (Operand.tmp 114) (Operand.const (Value.bool false)), _, _, _, _⟩) (x := .bool false) rfl hw (by rw [hC] at q111; clear hA HS hN hO hE hD hK hval; simp only [execOp]; go_simp) ⟨_, rfl, (fun h => by cases h), (by show ((.bool false : Value)) = _; exact hval.symm.trans (Rg.cond_t hP).symm), hI, fun _ _ _ _ h => h⟩
        | true =>
          have hB : ((true && ((((cd != 0) || (y.id != a9.id)) && ((y.st != x.st) || (y.fr != x.fr))) == false)) && (((cd == 0) && (y.id == a9.id)) == true)) = true := by
            rw [hC]; first | rfl | (rw [hP]; rfl) | simp_all
          have q114 : bb.tmps[114]? = some (.bool (a9.k == 3)) := hf.tmp (k := 54) rfl (by rw [ha]; decide) (Eq.trans (hA 54 (by kernel_rfl)) (Rg.cond_t hB))
          have hval : ((.bool (((cd == 0) && (y.id == a9.id)) && (a9.k == 3)) : Value)) = .bool (a9.k == 3) := by rw [hC]; rfl
          exact Rg.op_value (o := ⟨some 115, Op.pick (Operand.tmp 111) (Operand.tmp 114) (Operand.const (Value.bool false)), _, _, _, _⟩) (x := .bool (a9.k == 3)) rfl hw (by rw [hC] at q111; clear hA HS hN hO hE hD hK hval; simp only [execOp]; go_simp) ⟨_, rfl, (fun h => by cases h), (by show ((.bool (a9.k == 3) : Value)) = _; exact hval.symm.trans (Rg.cond_t hP).symm), hI, fun _ _ _ _ h => h⟩
    · intro ll bb w' hs hlf hN hO hf hI hA
      clear hi'
      have qg : bb.tmps[98]? = some (cond true (.bool (((cd != 0) || (y.id != a9.id)) && ((y.st != x.st) || (y.fr != x.fr)))) undef) := hf.tmp (k := 38) rfl (by rw [ha]; decide) (hA 38 (by kernel_rfl))
      cases hP : (true && ((((cd != 0) || (y.id != a9.id)) && ((y.st != x.st) || (y.fr != x.fr))) == false)) with
      | false => exact Rg.op_none (o := ⟨some 116, _, _, _, _, _⟩) rfl (Rg.unwanted_c (g := 38) rfl rfl qg hP) ⟨_, rfl, (fun h => by cases h), Rg.cond_f hP, hI, fun _ _ _ _ h => h⟩
      | true =>
        have hw := Rg.wanted_c (ops := (Rg.opsOf Try.f4 15)) (o := (Rg.opsOf Try.f4 15)[56]'(by rw [sizeFb15]; decide)) (g := 38) rfl rfl qg hP
        have g0 := Rg.pc_r hP
        have q115 : bb.tmps[115]? = some (.bool (((cd == 0) && (y.id == a9.id)) && (a9.k == 3))) := hf.tmp (k := 55) rfl (by rw [ha]; decide) (Eq.trans (hA 55 (by kernel_rfl)) (Rg.cond_t hP))
        exact Rg.op_value (o := ⟨some 116, Op.move (Operand.tmp 115), _, _, _, _⟩) (x := .bool (((cd == 0) && (y.id == a9.id)) && (a9.k == 3))) rfl hw (by clear hA HS hN hO hE hD hK; simp only [execOp]; go_simp) ⟨_, rfl, (fun h => by cases h), (Rg.cond_t hP).symm, hI, fun _ _ _ _ h => h⟩
    · intro ll bb w' hs hlf hN hO hf hI hA
      clear hi'
      have qg : bb.tmps[116]? = some (cond (true && ((((cd != 0) || (y.id != a9.id)) && ((y.st != x.st) || (y.fr != x.fr))) == false)) (.bool (((cd == 0) && (y.id == a9.id)) && (a9.k == 3))) undef) := hf.tmp (k := 56) rfl (by rw [ha]; decide) (hA 56 (by kernel_rfl))
      cases hP : ((true && ((((cd != 0) || (y.id != a9.id)) && ((y.st != x.st) || (y.fr != x.fr))) == false)) && ((((cd == 0) && (y.id == a9.id)) && (a9.k == 3)) == true)) with
      | false => exact Rg.op_none (o := ⟨some 117, _, _, _, _, _⟩) rfl (Rg.unwanted_c (g := 56) rfl rfl qg hP) ⟨_, rfl, (fun h => by cases h), Rg.cond_f hP, hI, fun _ _ _ _ h => h⟩
      | true =>
        have hw := Rg.wanted_c (ops := (Rg.opsOf Try.f4 15)) (o := (Rg.opsOf Try.f4 15)[57]'(by rw [sizeFb15]; decide)) (g := 56) rfl rfl qg hP
        have g1 := Rg.pc_r hP
        have p1 := Rg.pc_l hP
        have g0 := Rg.pc_r p1
        have q0 := hf.kept (s := 3) (by rw [sizeFb15]; kernel_rfl) k3
        exact Rg.op_value (o := ⟨some 117, Op.move (Operand.tmp 3), _, _, _, _⟩) (x := .slice (some ⟨ga, oa, none⟩) nl cc1) rfl hw (by clear hA HS hN hO hE hD hK; simp only [execOp]; go_simp) ⟨_, rfl, (fun h => by cases h), (Rg.cond_t hP).symm, hI, fun _ _ _ _ h => h⟩
    · intro ll bb w' hs hlf hN hO hf hI hA
      clear hi'
      have qg : bb.tmps[116]? = some (cond (true && ((((cd != 0) || (y.id != a9.id)) && ((y.st != x.st) || (y.fr != x.fr))) == false)) (.bool (((cd == 0) && (y.id == a9.id)) && (a9.k == 3))) undef) := hf.tmp (k := 56) rfl (by rw [ha]; decide) (hA 56 (by kernel_rfl))
      cases hP : ((true && ((((cd != 0) || (y.id != a9.id)) && ((y.st != x.st) || (y.fr != x.fr))) == false)) && ((((cd == 0) && (y.id == a9.id)) && (a9.k == 3)) == true)) with
      | false => exact Rg.op_none (o := ⟨some 118, _, _, _, _, _⟩) rfl (Rg.unwanted_c (g := 56) rfl rfl qg hP) ⟨_, rfl, (fun h => by cases h), Rg.cond_f hP, hI, fun _ _ _ _ h => h⟩
      | true =>
        have hw := Rg.wanted_c (ops := (Rg.opsOf Try.f4 15)) (o := (Rg.opsOf Try.f4 15)[58]'(by rw [sizeFb15]; decide)) (g := 56) rfl rfl qg hP
        have g1 := Rg.pc_r hP
        have p1 := Rg.pc_l hP
        have g0 := Rg.pc_r p1
        have q0 := hf.kept (s := 10) (by rw [sizeFb15]; kernel_rfl) k10
        exact Rg.op_value (o := ⟨some 118, Op.move (Operand.tmp 10), _, _, _, _⟩) (x := .int .i64 (i : Nat)) rfl hw (by clear hA HS hN hO hE hD hK; simp only [execOp]; go_simp) ⟨_, rfl, (fun h => by cases h), (Rg.cond_t hP).symm, hI, fun _ _ _ _ h => h⟩
    · intro ll bb w' hs hlf hN hO hf hI hA
      clear hi'
      have qg : bb.tmps[116]? = some (cond (true && ((((cd != 0) || (y.id != a9.id)) && ((y.st != x.st) || (y.fr != x.fr))) == false)) (.bool (((cd == 0) && (y.id == a9.id)) && (a9.k == 3))) undef) := hf.tmp (k := 56) rfl (by rw [ha]; decide) (hA 56 (by kernel_rfl))
      cases hP : ((true && ((((cd != 0) || (y.id != a9.id)) && ((y.st != x.st) || (y.fr != x.fr))) == false)) && ((((cd == 0) && (y.id == a9.id)) && (a9.k == 3)) == true)) with
      | false => exact Rg.op_none (o := ⟨some 119, _, _, _, _, _⟩) rfl (Rg.unwanted_c (g := 56) rfl rfl qg hP) ⟨_, rfl, (fun h => by cases h), Rg.cond_f hP, hI, fun _ _ _ _ h => h⟩
      | true =>
        have hw := Rg.wanted_c (ops := (Rg.opsOf Try.f4 15)) (o := (Rg.opsOf Try.f4 15)[59]'(by rw [sizeFb15]; decide)) (g := 56) rfl rfl qg hP
        have g1 := Rg.pc_r hP
        have p1 := Rg.pc_l hP
        have g0 := Rg.pc_r p1
        have q117 : bb.tmps[117]? = some (.slice (some ⟨ga, oa, none⟩) nl cc1) := hf.tmp (k := 57) rfl (by rw [ha]; decide) (Eq.trans (hA 57 (by kernel_rfl)) (Rg.cond_t hP))
        have q118 : bb.tmps[118]? = some (.int .i64 (i : Nat)) := hf.tmp (k := 58) rfl (by rw [ha]; decide) (Eq.trans (hA 58 (by kernel_rfl)) (Rg.cond_t hP))
        have hi5 : ((i : Nat) : Int) < (nl : Int) := by omega
        exact Rg.op_value (o := ⟨some 119, Op.indexAddr 25 (Operand.tmp 117) (Operand.tmp 118), _, _, _, _⟩) (x := .pointer (some ⟨ga, oa + i * 6, none⟩)) rfl hw (by clear hA HS hN hO hE hD hK; simp only [execOp]; go_simp) ⟨_, rfl, (fun h => by cases h), (Rg.cond_t hP).symm, hI, fun _ _ _ _ h => h⟩
    · intro ll bb w' hs hlf hN hO hf hI hA
      clear hi'
      have qg : bb.tmps[116]? = some (cond (true && ((((cd != 0) || (y.id != a9.id)) && ((y.st != x.st) || (y.fr != x.fr))) == false)) (.bool (((cd == 0) && (y.id == a9.id)) && (a9.k == 3))) undef) := hf.tmp (k := 56) rfl (by rw [ha]; decide) (hA 56 (by kernel_rfl))
      cases hP : ((true && ((((cd != 0) || (y.id != a9.id)) && ((y.st != x.st) || (y.fr != x.fr))) == false)) && ((((cd == 0) && (y.id == a9.id)) && (a9.k == 3)) == true)) with
      | false => exact Rg.op_none (o := ⟨some 120, _, _, _, _, _⟩) rfl (Rg.unwanted_c (g := 56) rfl rfl qg hP) ⟨_, rfl, (fun h => by cases h), Rg.cond_f hP, hI, fun _ _ _ _ h => h⟩
      | true =>
        have hw := Rg.wanted_c (ops := (Rg.opsOf Try.f4 15)) (o := (Rg.opsOf Try.f4 15)[60]'(by rw [sizeFb15]; decide)) (g := 56) rfl rfl qg hP
        have g1 := Rg.pc_r hP
        have p1 := Rg.pc_l hP
        have g0 := Rg.pc_r p1
        have q119 : bb.tmps[119]? = some (.pointer (some ⟨ga, oa + i * 6, none⟩)) := hf.tmp (k := 59) rfl (by rw [ha]; decide) (Eq.trans (hA 59 (by kernel_rfl)) (Rg.cond_t hP))
        have e0 := (hI.cell (p := ⟨ga, oa + i * 6, none⟩) hga).trans u0
        have e1 := (hI.cell (p := ⟨ga, oa + i * 6 + 1, none⟩) hga).trans u1
        have e2 := (hI.cell (p := ⟨ga, oa + i * 6 + 2, none⟩) hga).trans u2
        have e3 := (hI.cell (p := ⟨ga, oa + i * 6 + 3, none⟩) hga).trans u3
        have e4 := (hI.cell (p := ⟨ga, oa + i * 6 + 4, none⟩) hga).trans u4
        have e5 := (hI.cell (p := ⟨ga, oa + i * 6 + 5, none⟩) hga).trans u5
        exact Rg.op_value (o := ⟨some 120, Op.load 37 (Operand.tmp 119), _, _, _, _⟩) (x := .agg #[.int .i64 x.id, .int .i64 x.grp, .slice ta x.ant.length tc, .int .i64 x.til, .int .i64 x.st, .int .i64 x.fr]) rfl hw (by clear hA HS hN hO hE hD hK; simp only [execOp]; go_simp) ⟨_, rfl, (fun h => by cases h), (Rg.cond_t hP).symm, hI, fun _ _ _ _ h => h⟩
    · intro ll bb w' hs hlf hN hO hf hI hA
      clear hi'
      have qg : bb.tmps[116]? = some (cond (true && ((((cd != 0) || (y.id != a9.id)) && ((y.st != x.st) || (y.fr != x.fr))) == false)) (.bool (((cd == 0) && (y.id == a9.id)) && (a9.k == 3))) undef) := hf.tmp (k := 56) rfl (by rw [ha]; decide) (hA 56 (by kernel_rfl))
      cases hP : ((true && ((((cd != 0) || (y.id != a9.id)) && ((y.st != x.st) || (y.fr != x.fr))) == false)) && ((((cd == 0) && (y.id == a9.id)) && (a9.k == 3)) == true)) with
      | false => exact Rg.op_none (o := ⟨some 121, _, _, _, _, _⟩) rfl (Rg.unwanted_c (g := 56) rfl rfl qg hP) ⟨_, rfl, (fun h => by cases h), Rg.cond_f hP, hI, fun _ _ _ _ h => h⟩
      | true =>
        have hw := Rg.wanted_c (ops := (Rg.opsOf Try.f4 15)) (o := (Rg.opsOf Try.f4 15)[61]'(by rw [sizeFb15]; decide)) (g := 56) rfl rfl qg hP
        have g1 := Rg.pc_r hP
        have p1 := Rg.pc_l hP
        have g0 := Rg.pc_r p1
        have q4 := hf.kept (s := 4) (by rw [sizeFb15]; kernel_rfl) k4
        obtain ⟨d0, d1, d2⟩ := (hE.below hI).three
        exact Rg.op_value (o := ⟨some 121, Op.load 28 (Operand.tmp 4), _, _, _, _⟩) (x := .agg #[.int .i64 n.p, .int .i64 n.g, nv9]) rfl hw (by clear hA HS hN hO hE hD hK; simp only [execOp]; go_simp) ⟨_, rfl, (fun h => by cases h), (Rg.cond_t hP).symm, hI, fun _ _ _ _ h => h⟩
    · intro ll bb w' hs hlf hN hO hf hI hA
      clear hi'
      have qg : bb.tmps[116]? = some (cond (true && ((((cd != 0) || (y.id != a9.id)) && ((y.st != x.st) || (y.fr != x.fr))) == false)) (.bool (((cd == 0) && (y.id == a9.id)) && (a9.k == 3))) undef) := hf.tmp (k := 56) rfl (by rw [ha]; decide) (hA 56 (by kernel_rfl))
      cases hP : ((true && ((((cd != 0) || (y.id != a9.id)) && ((y.st != x.st) || (y.fr != x.fr))) == false)) && ((((cd == 0) && (y.id == a9.id)) && (a9.k == 3)) == true)) with
      | false => exact Rg.op_none (o := ⟨some 122, _, _, _, _, _⟩) rfl (Rg.unwanted_c (g := 56) rfl rfl qg hP) ⟨_, rfl, (fun h => by cases h), Rg.cond_f hP, hI, fun _ _ _ _ h => h⟩
      | true =>
        have hw := Rg.wanted_c (ops := (Rg.opsOf Try.f4 15)) (o := (Rg.opsOf Try.f4 15)[62]'(by rw [sizeFb15]; decide)) (g := 56) rfl rfl qg hP
        have g1 := Rg.pc_r hP
        have p1 := Rg.pc_l hP
        have g0 := Rg.pc_r p1
        have q120 : bb.tmps[120]? = some (.agg #[.int .i64 x.id, .int .i64 x.grp, .slice ta x.ant.length tc, .int .i64 x.til, .int .i64 x.st, .int .i64 x.fr]) := hf.tmp (k := 60) rfl (by rw [ha]; decide) (Eq.trans (hA 60 (by kernel_rfl)) (Rg.cond_t hP))
        have q121 : bb.tmps[121]? = some (.agg #[.int .i64 n.p, .int .i64 n.g, nv9]) := hf.tmp (k := 61) rfl (by rw [ha]; decide) (Eq.trans (hA 61 (by kernel_rfl)) (Rg.cond_t hP))
        refine Rg.op_call (o := ⟨some 122, Op.call { callee := Callee.value (Operand.func 17), args := #[(Operand.tmp 120), (Operand.tmp 121)], argTypes := _ }, _, _, _, _⟩) rfl hw (by clear hA HS hN hO hE hD hK; simp only [execOp, resolve]; go_simp) (hK w' hI) ?_
        rintro e w2 ⟨rfl, hb2⟩
        exact ⟨_, rfl, _, rfl, (fun h => by cases h), (Rg.cond_t hP).symm, onto hI hb2, fun k9 y9 _ _ h => HS hb2 k9 y9 h⟩
    · intro ll bb w' hs hlf hN hO hf hI hA
      clear hi'
      have qg : bb.tmps[116]? = some (cond (true && ((((cd != 0) || (y.id != a9.id)) && ((y.st != x.st) || (y.fr != x.fr))) == false)) (.bool (((cd == 0) && (y.id == a9.id)) && (a9.k == 3))) undef) := hf.tmp (k := 56) rfl (by rw [ha]; decide) (hA 56 (by kernel_rfl))
      cases hP : ((true && ((((cd != 0) || (y.id != a9.id)) && ((y.st != x.st) || (y.fr != x.fr))) == false)) && ((((cd == 0) && (y.id == a9.id)) && (a9.k == 3)) == true)) with
      | false => exact Rg.op_none (o := ⟨some 123, _, _, _, _, _⟩) rfl (Rg.unwanted_c (g := 56) rfl rfl qg hP) ⟨_, rfl, (fun h => by cases h), Rg.cond_f hP, hI, fun _ _ _ _ h => h⟩
      | true =>
        have hw := Rg.wanted_c (ops := (Rg.opsOf Try.f4 15)) (o := (Rg.opsOf Try.f4 15)[63]'(by rw [sizeFb15]; decide)) (g := 56) rfl rfl qg hP
        have g1 := Rg.pc_r hP
        have p1 := Rg.pc_l hP
        have g0 := Rg.pc_r p1
        have q122 : bb.tmps[122]? = some (.bool (fitsB x n)) := hf.tmp (k := 62) rfl (by rw [ha]; decide) (Eq.trans (hA 62 (by kernel_rfl)) (Rg.cond_t hP))
        exact Rg.op_value (o := ⟨some 123, Op.unOp UnOp.not 4 (Operand.tmp 122), _, _, _, _⟩) (x := .bool (!(fitsB x n))) rfl hw (by clear hA HS hN hO hE hD hK; simp only [execOp]; go_simp) ⟨_, rfl, (fun h => by cases h), (Rg.cond_t hP).symm, hI, fun _ _ _ _ h => h⟩
    · intro ll bb w' hs hlf hN hO hf hI hA
      clear hi'
      have qg : bb.tmps[98]? = some (cond true (.bool (((cd != 0) || (y.id != a9.id)) && ((y.st != x.st) || (y.fr != x.fr)))) undef) := hf.tmp (k := 38) rfl (by rw [ha]; decide) (hA 38 (by kernel_rfl))
      cases hP : (true && ((((cd != 0) || (y.id != a9.id)) && ((y.st != x.st) || (y.fr != x.fr))) == false)) with
      | false => exact Rg.op_none (o := ⟨some 124, _, _, _, _, _⟩) rfl (Rg.unwanted_c (g := 38) rfl rfl qg hP) ⟨_, rfl, (fun h => by cases h), Rg.cond_f hP, hI, fun _ _ _ _ h => h⟩
      | true =>
        have hw := Rg.wanted_c (ops := (Rg.opsOf Try.f4 15)) (o := (Rg.opsOf Try.f4 15)[64]'(by rw [sizeFb15]; decide)) (g := 38) rfl rfl qg hP
        have g0 := Rg.pc_r hP
        have q116 : bb.tmps[116]? = some (.bool (((cd == 0) && (y.id == a9.id)) && (a9.k == 3))) := hf.tmp (k := 56) rfl (by rw [ha]; decide) (Eq.trans (hA 56 (by kernel_rfl)) (Rg.cond_t hP))
        cases hC : (((cd == 0) && (y.id == a9.id)) && (a9.k == 3)) with
        | false =>
          have hval : ((.bool ((((cd == 0) && (y.id == a9.id)) && (a9.k == 3)) && (!(fitsB x n))) : Value)) = .bool false := by rw [hC]; rfl
          exact Rg.op_value (o := ⟨some 124, Op.pick (Operand.tmp 116) (Operand.tmp 123) (Operand.const (Value.bool false)), _, _, _, _⟩) (x := .bool false) rfl hw (by rw [hC] at q116; clear hA HS hN hO hE hD hK hval; simp only [execOp]; go_simp) ⟨_, rfl, (fun h => by cases h), (by show ((.bool false : Value)) = _; exact hval.symm.trans (Rg.cond_t hP).symm), hI, fun _ _ _ _ h => h⟩
        | true =>
          have hB : ((true && ((((cd != 0) || (y.id != a9.id)) && ((y.st != x.st) || (y.fr != x.fr))) == false)) && ((((cd == 0) && (y.id == a9.id)) && (a9.k == 3)) == true)) = true := by
            rw [hC]; first | rfl | (rw [hP]; rfl) | simp_all
          have q123 : bb.tmps[123]? = some (.bool (!(fitsB x n))) := hf.tmp (k := 63) rfl (by rw [ha]; decide) (Eq.trans (hA 63 (by kernel_rfl)) (Rg.cond_t hB))
          have hval : ((.bool ((((cd == 0) && (y.id == a9.id)) && (a9.k == 3)) && (!(fitsB x n))) : Value)) = .bool (!(fitsB x n)) := by rw [hC]; rfl
          exact Rg.op_value (o := ⟨some 124, Op.pick (Operand.tmp 116) (Operand.tmp 123) (Operand.const (Value.bool false)), _, _, _, _⟩) (x := .bool (!(fitsB x n))) rfl hw (by rw [hC] at q116; clear hA HS hN hO hE hD hK hval; simp only [execOp]; go_simp) ⟨_, rfl, (fun h => by cases h), (by show ((.bool (!(fitsB x n)) : Value)) = _; exact hval.symm.trans (Rg.cond_t hP).symm), hI, fun _ _ _ _ h => h⟩
    · intro ll bb w' hs hlf hN hO hf hI hA
      clear hi'
      have q98 : bb.tmps[98]? = some _ := hf.tmp (k := 38) rfl (by rw [ha]; decide) (hA 38 (by kernel_rfl))
      cases hC : (((cd != 0) || (y.id != a9.id)) && ((y.st != x.st) || (y.fr != x.fr))) with
      | false =>
        have hB : (true && ((((cd != 0) || (y.id != a9.id)) && ((y.st != x.st) || (y.fr != x.fr))) == false)) = true := by rw [hC]; rfl
        have q124 : bb.tmps[124]? = some (.bool ((((cd == 0) && (y.id == a9.id)) && (a9.k == 3)) && (!(fitsB x n)))) := hf.tmp (k := 64) rfl (by rw [ha]; decide) (Eq.trans (hA 64 (by kernel_rfl)) (Rg.cond_t hB))
        have hval : ((.bool ((((cd != 0) || (y.id != a9.id)) && ((y.st != x.st) || (y.fr != x.fr))) || ((((cd == 0) && (y.id == a9.id)) && (a9.k == 3)) && (!(fitsB x n)))) : Value)) = .bool ((((cd == 0) && (y.id == a9.id)) && (a9.k == 3)) && (!(fitsB x n))) := by rw [hC]; rfl
        exact Rg.op_value (o := ⟨some 125, Op.pick (Operand.tmp 98) (Operand.const (Value.bool true)) (Operand.tmp 124), _, _, _, _⟩) (x := .bool ((((cd == 0) && (y.id == a9.id)) && (a9.k == 3)) && (!(fitsB x n)))) rfl rfl (by rw [hC] at q98; clear hA HS hN hO hE hD hK hval; simp only [execOp]; go_simp) ⟨_, rfl, (fun h => by cases h), (by show ((.bool ((((cd == 0) && (y.id == a9.id)) && (a9.k == 3)) && (!(fitsB x n))) : Value)) = _; exact hval.symm), hI, fun _ _ _ _ h => h⟩
      | true =>
        have hval : ((.bool ((((cd != 0) || (y.id != a9.id)) && ((y.st != x.st) || (y.fr != x.fr))) || ((((cd == 0) && (y.id == a9.id)) && (a9.k == 3)) && (!(fitsB x n)))) : Value)) = .bool true := by rw [hC]; rfl
        exact Rg.op_value (o := ⟨some 125, Op.pick (Operand.tmp 98) (Operand.const (Value.bool true)) (Operand.tmp 124), _, _, _, _⟩) (x := .bool true) rfl rfl (by rw [hC] at q98; clear hA HS hN hO hE hD hK hval; simp only [execOp]; go_simp) ⟨_, rfl, (fun h => by cases h), (by show ((.bool true : Value)) = _; exact hval.symm), hI, fun _ _ _ _ h => h⟩

theorem dFb15_0 : Rg.dstAt (Rg.opsOf Try.f4 15) 0 = some 60 := by kernel_rfl
theorem dFb15_1 : Rg.dstAt (Rg.opsOf Try.f4 15) 1 = some 61 := by kernel_rfl
theorem dFb15_2 : Rg.dstAt (Rg.opsOf Try.f4 15) 2 = some 62 := by kernel_rfl
theorem dFb15_3 : Rg.dstAt (Rg.opsOf Try.f4 15) 3 = some 63 := by kernel_rfl
theorem dFb15_4 : Rg.dstAt (Rg.opsOf Try.f4 15) 4 = some 64 := by kernel_rfl
theorem dFb15_5 : Rg.dstAt (Rg.opsOf Try.f4 15) 5 = some 65 := by kernel_rfl
theorem dFb15_6 : Rg.dstAt (Rg.opsOf Try.f4 15) 6 = some 66 := by kernel_rfl
theorem dFb15_7 : Rg.dstAt (Rg.opsOf Try.f4 15) 7 = some 67 := by kernel_rfl
theorem dFb15_8 : Rg.dstAt (Rg.opsOf Try.f4 15) 8 = some 68 := by kernel_rfl
theorem dFb15_9 : Rg.dstAt (Rg.opsOf Try.f4 15) 9 = some 69 := by kernel_rfl
theorem dFb15_10 : Rg.dstAt (Rg.opsOf Try.f4 15) 10 = some 70 := by kernel_rfl
theorem dFb15_11 : Rg.dstAt (Rg.opsOf Try.f4 15) 11 = some 71 := by kernel_rfl
theorem dFb15_12 : Rg.dstAt (Rg.opsOf Try.f4 15) 12 = some 72 := by kernel_rfl
theorem dFb15_13 : Rg.dstAt (Rg.opsOf Try.f4 15) 13 = some 73 := by kernel_rfl
theorem dFb15_14 : Rg.dstAt (Rg.opsOf Try.f4 15) 14 = some 74 := by kernel_rfl
theorem dFb15_15 : Rg.dstAt (Rg.opsOf Try.f4 15) 15 = some 75 := by kernel_rfl
theorem dFb15_16 : Rg.dstAt (Rg.opsOf Try.f4 15) 16 = some 76 := by kernel_rfl
theorem dFb15_17 : Rg.dstAt (Rg.opsOf Try.f4 15) 17 = some 77 := by kernel_rfl
theorem dFb15_18 : Rg.dstAt (Rg.opsOf Try.f4 15) 18 = some 78 := by kernel_rfl
theorem dFb15_19 : Rg.dstAt (Rg.opsOf Try.f4 15) 19 = some 79 := by kernel_rfl
theorem dFb15_20 : Rg.dstAt (Rg.opsOf Try.f4 15) 20 = some 80 := by kernel_rfl
theorem dFb15_21 : Rg.dstAt (Rg.opsOf Try.f4 15) 21 = some 81 := by kernel_rfl
theorem dFb15_22 : Rg.dstAt (Rg.opsOf Try.f4 15) 22 = some 82 := by kernel_rfl
theorem dFb15_23 : Rg.dstAt (Rg.opsOf Try.f4 15) 23 = some 83 := by kernel_rfl
theorem dFb15_24 : Rg.dstAt (Rg.opsOf Try.f4 15) 24 = some 84 := by kernel_rfl
theorem dFb15_25 : Rg.dstAt (Rg.opsOf Try.f4 15) 25 = some 85 := by kernel_rfl
theorem dFb15_26 : Rg.dstAt (Rg.opsOf Try.f4 15) 26 = some 86 := by kernel_rfl
theorem dFb15_27 : Rg.dstAt (Rg.opsOf Try.f4 15) 27 = some 87 := by kernel_rfl
theorem dFb15_28 : Rg.dstAt (Rg.opsOf Try.f4 15) 28 = some 88 := by kernel_rfl
theorem dFb15_29 : Rg.dstAt (Rg.opsOf Try.f4 15) 29 = some 89 := by kernel_rfl
theorem dFb15_30 : Rg.dstAt (Rg.opsOf Try.f4 15) 30 = some 90 := by kernel_rfl
theorem dFb15_31 : Rg.dstAt (Rg.opsOf Try.f4 15) 31 = some 91 := by kernel_rfl
theorem dFb15_32 : Rg.dstAt (Rg.opsOf Try.f4 15) 32 = some 92 := by kernel_rfl
theorem dFb15_33 : Rg.dstAt (Rg.opsOf Try.f4 15) 33 = some 93 := by kernel_rfl
theorem dFb15_34 : Rg.dstAt (Rg.opsOf Try.f4 15) 34 = some 94 := by kernel_rfl
theorem dFb15_35 : Rg.dstAt (Rg.opsOf Try.f4 15) 35 = some 95 := by kernel_rfl
theorem dFb15_36 : Rg.dstAt (Rg.opsOf Try.f4 15) 36 = some 96 := by kernel_rfl
theorem dFb15_37 : Rg.dstAt (Rg.opsOf Try.f4 15) 37 = some 97 := by kernel_rfl
theorem dFb15_38 : Rg.dstAt (Rg.opsOf Try.f4 15) 38 = some 98 := by kernel_rfl
theorem dFb15_39 : Rg.dstAt (Rg.opsOf Try.f4 15) 39 = some 99 := by kernel_rfl
theorem dFb15_40 : Rg.dstAt (Rg.opsOf Try.f4 15) 40 = some 100 := by kernel_rfl
theorem dFb15_41 : Rg.dstAt (Rg.opsOf Try.f4 15) 41 = some 101 := by kernel_rfl
theorem dFb15_42 : Rg.dstAt (Rg.opsOf Try.f4 15) 42 = some 102 := by kernel_rfl
theorem dFb15_43 : Rg.dstAt (Rg.opsOf Try.f4 15) 43 = some 103 := by kernel_rfl
theorem dFb15_44 : Rg.dstAt (Rg.opsOf Try.f4 15) 44 = some 104 := by kernel_rfl
theorem dFb15_45 : Rg.dstAt (Rg.opsOf Try.f4 15) 45 = some 105 := by kernel_rfl
theorem dFb15_46 : Rg.dstAt (Rg.opsOf Try.f4 15) 46 = some 106 := by kernel_rfl
theorem dFb15_47 : Rg.dstAt (Rg.opsOf Try.f4 15) 47 = some 107 := by kernel_rfl
theorem dFb15_48 : Rg.dstAt (Rg.opsOf Try.f4 15) 48 = some 108 := by kernel_rfl
theorem dFb15_49 : Rg.dstAt (Rg.opsOf Try.f4 15) 49 = some 109 := by kernel_rfl
theorem dFb15_50 : Rg.dstAt (Rg.opsOf Try.f4 15) 50 = some 110 := by kernel_rfl
theorem dFb15_51 : Rg.dstAt (Rg.opsOf Try.f4 15) 51 = some 111 := by kernel_rfl
theorem dFb15_52 : Rg.dstAt (Rg.opsOf Try.f4 15) 52 = some 112 := by kernel_rfl
theorem dFb15_53 : Rg.dstAt (Rg.opsOf Try.f4 15) 53 = some 113 := by kernel_rfl
theorem dFb15_54 : Rg.dstAt (Rg.opsOf Try.f4 15) 54 = some 114 := by kernel_rfl
theorem dFb15_55 : Rg.dstAt (Rg.opsOf Try.f4 15) 55 = some 115 := by kernel_rfl
theorem dFb15_56 : Rg.dstAt (Rg.opsOf Try.f4 15) 56 = some 116 := by kernel_rfl
theorem dFb15_57 : Rg.dstAt (Rg.opsOf Try.f4 15) 57 = some 117 := by kernel_rfl
theorem dFb15_58 : Rg.dstAt (Rg.opsOf Try.f4 15) 58 = some 118 := by kernel_rfl
theorem dFb15_59 : Rg.dstAt (Rg.opsOf Try.f4 15) 59 = some 119 := by kernel_rfl
theorem dFb15_60 : Rg.dstAt (Rg.opsOf Try.f4 15) 60 = some 120 := by kernel_rfl
theorem dFb15_61 : Rg.dstAt (Rg.opsOf Try.f4 15) 61 = some 121 := by kernel_rfl
theorem dFb15_62 : Rg.dstAt (Rg.opsOf Try.f4 15) 62 = some 122 := by kernel_rfl
theorem dFb15_63 : Rg.dstAt (Rg.opsOf Try.f4 15) 63 = some 123 := by kernel_rfl
theorem dFb15_64 : Rg.dstAt (Rg.opsOf Try.f4 15) 64 = some 124 := by kernel_rfl
theorem dFb15_65 : Rg.dstAt (Rg.opsOf Try.f4 15) 65 = some 125 := by kernel_rfl
theorem layFb15 {a b : Act} (hf : Rg.Fr (Rg.opsOf Try.f4 15) a b) : b = ((((((((((((((((((((((((((((((((((((((((((((((((((((((((((((((((((a.put (some 60) (Rg.out (Rg.opsOf Try.f4 15) b 0)).put (some 61) (Rg.out (Rg.opsOf Try.f4 15) b 1)).put (some 62) (Rg.out (Rg.opsOf Try.f4 15) b 2)).put (some 63) (Rg.out (Rg.opsOf Try.f4 15) b 3)).put (some 64) (Rg.out (Rg.opsOf Try.f4 15) b 4)).put (some 65) (Rg.out (Rg.opsOf Try.f4 15) b 5)).put (some 66) (Rg.out (Rg.opsOf Try.f4 15) b 6)).put (some 67) (Rg.out (Rg.opsOf Try.f4 15) b 7)).put (some 68) (Rg.out (Rg.opsOf Try.f4 15) b 8)).put (some 69) (Rg.out (Rg.opsOf Try.f4 15) b 9)).put (some 70) (Rg.out (Rg.opsOf Try.f4 15) b 10)).put (some 71) (Rg.out (Rg.opsOf Try.f4 15) b 11)).put (some 72) (Rg.out (Rg.opsOf Try.f4 15) b 12)).put (some 73) (Rg.out (Rg.opsOf Try.f4 15) b 13)).put (some 74) (Rg.out (Rg.opsOf Try.f4 15) b 14)).put (some 75) (Rg.out (Rg.opsOf Try.f4 15) b 15)).put (some 76) (Rg.out (Rg.opsOf Try.f4 15) b 16)).put (some 77) (Rg.out (Rg.opsOf Try.f4 15) b 17)).put (some 78) (Rg.out (Rg.opsOf Try.f4 15) b 18)).put (some 79) (Rg.out (Rg.opsOf Try.f4 15) b 19)).put (some 80) (Rg.out (Rg.opsOf Try.f4 15) b 20)).put (some 81) (Rg.out (Rg.opsOf Try.f4 15) b 21)).put (some 82) (Rg.out (Rg.opsOf Try.f4 15) b 22)).put (some 83) (Rg.out (Rg.opsOf Try.f4 15) b 23)).put (some 84) (Rg.out (Rg.opsOf Try.f4 15) b 24)).put (some 85) (Rg.out (Rg.opsOf Try.f4 15) b 25)).put (some 86) (Rg.out (Rg.opsOf Try.f4 15) b 26)).put (some 87) (Rg.out (Rg.opsOf Try.f4 15) b 27)).put (some 88) (Rg.out (Rg.opsOf Try.f4 15) b 28)).put (some 89) (Rg.out (Rg.opsOf Try.f4 15) b 29)).put (some 90) (Rg.out (Rg.opsOf Try.f4 15) b 30)).put (some 91) (Rg.out (Rg.opsOf Try.f4 15) b 31)).put (some 92) (Rg.out (Rg.opsOf Try.f4 15) b 32)).put (some 93) (Rg.out (Rg.opsOf Try.f4 15) b 33)).put (some 94) (Rg.out (Rg.opsOf Try.f4 15) b 34)).put (some 95) (Rg.out (Rg.opsOf Try.f4 15) b 35)).put (some 96) (Rg.out (Rg.opsOf Try.f4 15) b 36)).put (some 97) (Rg.out (Rg.opsOf Try.f4 15) b 37)).put (some 98) (Rg.out (Rg.opsOf Try.f4 15) b 38)).put (some 99) (Rg.out (Rg.opsOf Try.f4 15) b 39)).put (some 100) (Rg.out (Rg.opsOf Try.f4 15) b 40)).put (some 101) (Rg.out (Rg.opsOf Try.f4 15) b 41)).put (some 102) (Rg.out (Rg.opsOf Try.f4 15) b 42)).put (some 103) (Rg.out (Rg.opsOf Try.f4 15) b 43)).put (some 104) (Rg.out (Rg.opsOf Try.f4 15) b 44)).put (some 105) (Rg.out (Rg.opsOf Try.f4 15) b 45)).put (some 106) (Rg.out (Rg.opsOf Try.f4 15) b 46)).put (some 107) (Rg.out (Rg.opsOf Try.f4 15) b 47)).put (some 108) (Rg.out (Rg.opsOf Try.f4 15) b 48)).put (some 109) (Rg.out (Rg.opsOf Try.f4 15) b 49)).put (some 110) (Rg.out (Rg.opsOf Try.f4 15) b 50)).put (some 111) (Rg.out (Rg.opsOf Try.f4 15) b 51)).put (some 112) (Rg.out (Rg.opsOf Try.f4 15) b 52)).put (some 113) (Rg.out (Rg.opsOf Try.f4 15) b 53)).put (some 114) (Rg.out (Rg.opsOf Try.f4 15) b 54)).put (some 115) (Rg.out (Rg.opsOf Try.f4 15) b 55)).put (some 116) (Rg.out (Rg.opsOf Try.f4 15) b 56)).put (some 117) (Rg.out (Rg.opsOf Try.f4 15) b 57)).put (some 118) (Rg.out (Rg.opsOf Try.f4 15) b 58)).put (some 119) (Rg.out (Rg.opsOf Try.f4 15) b 59)).put (some 120) (Rg.out (Rg.opsOf Try.f4 15) b 60)).put (some 121) (Rg.out (Rg.opsOf Try.f4 15) b 61)).put (some 122) (Rg.out (Rg.opsOf Try.f4 15) b 62)).put (some 123) (Rg.out (Rg.opsOf Try.f4 15) b 63)).put (some 124) (Rg.out (Rg.opsOf Try.f4 15) b 64)).put (some 125) (Rg.out (Rg.opsOf Try.f4 15) b 65)) := by
  have h := hf.chain
  rw [sizeFb15, show List.range 66 = [0, 1, 2, 3, 4, 5, 6, 7, 8, 9, 10, 11, 12, 13, 14, 15, 16, 17, 18, 19, 20, 21, 22, 23, 24, 25, 26, 27, 28, 29, 30, 31, 32, 33, 34, 35, 36, 37, 38, 39, 40, 41, 42, 43, 44, 45, 46, 47, 48, 49, 50, 51, 52, 53, 54, 55, 56, 57, 58, 59, 60, 61, 62, 63, 64, 65] from by decide] at h
  simp only [List.foldl_cons, List.foldl_nil, dFb15_0, dFb15_1, dFb15_2, dFb15_3, dFb15_4, dFb15_5, dFb15_6, dFb15_7, dFb15_8, dFb15_9, dFb15_10, dFb15_11, dFb15_12, dFb15_13, dFb15_14, dFb15_15, dFb15_16, dFb15_17, dFb15_18, dFb15_19, dFb15_20, dFb15_21, dFb15_22, dFb15_23, dFb15_24, dFb15_25, dFb15_26, dFb15_27, dFb15_28, dFb15_29, dFb15_30, dFb15_31, dFb15_32, dFb15_33, dFb15_34, dFb15_35, dFb15_36, dFb15_37, dFb15_38, dFb15_39, dFb15_40, dFb15_41, dFb15_42, dFb15_43, dFb15_44, dFb15_45, dFb15_46, dFb15_47, dFb15_48, dFb15_49, dFb15_50, dFb15_51, dFb15_52, dFb15_53, dFb15_54, dFb15_55, dFb15_56, dFb15_57, dFb15_58, dFb15_59, dFb15_60, dFb15_61, dFb15_62, dFb15_63, dFb15_64, dFb15_65] at h
  exact h

end Go.Proofs.Ytaidhcbchpcemaa
