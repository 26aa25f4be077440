/-
  A criterion, drawn: the region that draws its order.
-/
import Derived.Test.YthenphbmkmagaaaTr32
import Derived.Test.YthenphbmkmagaaaRs
namespace Go.Proofs.Ythenphbmkmagaaa
open Go.RowKit Go.WideShapes Va Lb El Go.Maps
set_option linter.all false

def FDe14 (w0 : World) (g cap B : Nat) (ao : Option Addr) (bs : List Int) (v1 v2 v3 : Value) (l1 : List Int) (l2 : List Bool) (l3 : List Cr) (f lo : Int) (mu : Bool) (i9 : Nat) (v : Value) (w : World) : Prop :=
  match i9 with
  | 0 => v = .pointer (some ⟨B, 1, none⟩)
  | 1 => v = .int .i64 lo
  | 2 => v = .pointer (some ⟨g, 0, none⟩)
  | 3 => ∃ z : Int, v = .int .i64 z
  | 4 => ∃ z : Int, v = .int .i64 z
  | 5 => v = .pointer (some ⟨B, 2, none⟩)
  | 6 => v = undef
  | _ => True
theorem sizeDe14 : (Rg.opsOf Try.f8 14).size = 7 := by kernel_rfl

set_option maxRecDepth 20000 in
set_option maxHeartbeats 8000000 in
theorem regDe14 {Q : Exit → Act → World → Prop} {a : Act} {w9 : World} {w0 : World} {g cap B : Nat} {ao : Option Addr} {bs : List Int} {v1 v2 v3 : Value} {l1 : List Int} {l2 : List Bool} {l3 : List Cr} {f lo : Int} {mu : Bool} (ha : a.tmps.size = 109)
    (k5 : a.tmps[5]? = some (.pointer (some ⟨g, 0, none⟩))) (k11 : a.tmps[11]? = some (.pointer (some ⟨B, 0, none⟩))) (h0I : D3 w0 { w9 with drawn := w9.drawn + 1 } g ao cap bs v1 l1 v2 l2 v3 l3 ∧ ∃ hi, PB { w9 with drawn := w9.drawn + 1 } B #[.int .i64 f, .int .i64 lo, .int .i64 hi, .bool mu] 31) (hB0 : w0.heap.size ≤ B) (hB1 : ∀ j, v1.ownBlock = some j → j ≠ B) (hB2 : ∀ j, v2.ownBlock = some j → j ≠ B) (hB3 : ∀ j, v3.ownBlock = some j → j ≠ B)
    (hend : ∀ b' w', Rg.Fr (Rg.opsOf Try.f8 14) a b' → D3 w0 w' g ao cap bs v1 l1 v2 l2 v3 l3 ∧ (∃ hi, PB w' B #[.int .i64 f, .int .i64 lo, .int .i64 hi, .bool mu] 31) → Q .normal b' w') :
    (Code.region 14 (Rg.opsOf Try.f8 14) true).wp Try.prog Q a w9 := by
  refine Rg.region_set3 (by kernel_rfl) (fun _ w' => D3 w0 w' g ao cap bs v1 l1 v2 l2 v3 l3 ∧ (∃ hi, PB w' B #[.int .i64 f, .int .i64 lo, .int .i64 hi, .bool mu] 31)) (FDe14 w0 g cap B ao bs v1 v2 v3 l1 l2 l3 f lo mu) (by rw [ha, sizeDe14]; kernel_rfl) (h0I) ?_ ?_
  case refine_2 =>
    intro l b' w' hf hall hI hA
    rw [sizeDe14] at hA
    exact hend b' w' hf hI
  case refine_1 =>
    clear hend
    intro i' hi'
    rw [sizeDe14] at hi'
    rcases (show i' = 0 ∨ i' = 1 ∨ i' = 2 ∨ i' = 3 ∨ i' = 4 ∨ i' = 5 ∨ i' = 6 by omega) with rfl | rfl | rfl | rfl | rfl | rfl | rfl
    · intro ll bb w' hs hlf hN hO hf hI hA
      clear hi'
      have q11 := hf.kept (s := 11) (by rw [sizeDe14]; kernel_rfl) k11
      exact Rg.op_value (o := ⟨some 51, Op.fieldAddr 31 (Operand.tmp 11) 1, _, _, _, _⟩) (x := .pointer (some ⟨B, 1, none⟩)) rfl rfl (by clear hA hN hO ; simp only [execOp]; go_simp) ⟨_, rfl, (fun h => by cases h), rfl, hI, fun _ _ _ _ h => h⟩
    · intro ll bb w' hs hlf hN hO hf hI hA
      clear hi'
      have q51 : bb.tmps[51]? = some _ := hf.tmp (k := 0) rfl (by rw [ha]; decide) (hA 0 (by kernel_rfl))
      obtain ⟨hD, hi, hp⟩ := id hI
      have e0 : w'.cell? ⟨B, 1, none⟩ = some (.int .i64 lo) := hp.cell 1
      clear hD hp
      exact Rg.op_value (o := ⟨some 52, Op.load 2 (Operand.tmp 51), _, _, _, _⟩) (x := .int .i64 lo) rfl rfl (by clear hA hN hO ; simp only [execOp]; go_simp) ⟨_, rfl, (fun h => by cases h), rfl, hI, fun _ _ _ _ h => h⟩
    · intro ll bb w' hs hlf hN hO hf hI hA
      clear hi'
      have q0 := hf.kept (s := 5) (by rw [sizeDe14]; kernel_rfl) k5
      exact Rg.op_value (o := ⟨some 53, Op.move (Operand.tmp 5), _, _, _, _⟩) (x := .pointer (some ⟨g, 0, none⟩)) rfl rfl (by clear hA hN hO ; simp only [execOp]; go_simp) ⟨_, rfl, (fun h => by cases h), rfl, hI, fun _ _ _ _ h => h⟩
    · intro ll bb w' hs hlf hN hO hf hI hA
      clear hi'
      have q53 : bb.tmps[53]? = some _ := hf.tmp (k := 2) rfl (by rw [ha]; decide) (hA 2 (by kernel_rfl))
      obtain ⟨hD, hi, hp⟩ := hI
      refine Rg.op_call (o := ⟨some 54, Op.call { callee := Callee.value (Operand.func 27), args := #[(Operand.tmp 53), (Operand.const (Value.int IntKind.i64 (-1))), (Operand.const (Value.int .i64 20))], argTypes := _ }, _, _, _, _⟩) rfl rfl (by clear hA hN hO hD hp; simp only [execOp, resolve]; go_simp) (from_any g ao cap bs (-1) 20 w' hD.cur (by omega) (by omega) (by omega)) ?_
      rintro e w2 ⟨y, rfl, y0, y1, hc2, hk2⟩
      exact ⟨_, rfl, _, rfl, (fun h => by cases h), ⟨y, rfl⟩, ⟨hD.call hc2 hk2, hi, (hk2.block B hp.lt (by have := hD.gg; omega)).trans hp⟩, fun k9 y9 _ _ h => by
        unfold FDe14 at *
        split at h <;> first | exact h | (skip)⟩
    · intro ll bb w' hs hlf hN hO hf hI hA
      clear hi'
      have q52 : bb.tmps[52]? = some _ := hf.tmp (k := 1) rfl (by rw [ha]; decide) (hA 1 (by kernel_rfl))
      obtain ⟨z, h1⟩ := hA 3 (by kernel_rfl)
      have q54 : bb.tmps[54]? = some (.int .i64 z) := hf.tmp (k := 3) rfl (by rw [ha]; decide) h1
      exact Rg.op_value (o := ⟨some 55, Op.binOp BinOp.add 2 (Operand.tmp 52) (Operand.tmp 54) 2, _, _, _, _⟩) (x := .int .i64 (IntKind.i64.wrap (lo + z))) rfl rfl (by clear hA hN hO h1; simp only [execOp]; go_simp) ⟨_, rfl, (fun h => by cases h), ⟨_, rfl⟩, hI, fun _ _ _ _ h => h⟩
    · intro ll bb w' hs hlf hN hO hf hI hA
      clear hi'
      have q11 := hf.kept (s := 11) (by rw [sizeDe14]; kernel_rfl) k11
      exact Rg.op_value (o := ⟨some 56, Op.fieldAddr 31 (Operand.tmp 11) 2, _, _, _, _⟩) (x := .pointer (some ⟨B, 2, none⟩)) rfl rfl (by clear hA hN hO ; simp only [execOp]; go_simp) ⟨_, rfl, (fun h => by cases h), rfl, hI, fun _ _ _ _ h => h⟩
    · intro ll bb w' hs hlf hN hO hf hI hA
      clear hi'
      have q56 : bb.tmps[56]? = some _ := hf.tmp (k := 5) rfl (by rw [ha]; decide) (hA 5 (by kernel_rfl))
      obtain ⟨hD, hi, hp⟩ := hI
      obtain ⟨z, h1⟩ := hA 4 (by kernel_rfl)
      have q55 : bb.tmps[55]? = some (.int .i64 z) := hf.tmp (k := 4) rfl (by rw [ha]; decide) h1
      have e0 : w'.cell? ⟨B, 2, none⟩ = some _ := hp.cell 2
      have e1 := hp.frozen 2
      exact Rg.op_skip (w' := w'.setCell ⟨B, 2, none⟩ (.int .i64 z)) (o := ⟨none, Op.store 2 (Operand.tmp 56) (Operand.tmp 55), _, _, _, _⟩) rfl rfl (by clear hA hN hO h1 hD hp; simp only [execOp]; go_simp) ⟨undef, rfl, (fun _ => rfl), rfl, ⟨hD.put hB0 hB1 hB2 hB3 2 _, z, hp.put 2 (.int .i64 z) (by simp)⟩, fun k9 y9 _ _ h => by
        unfold FDe14 at *
        split at h <;> first | exact h | (skip)⟩

theorem dDe14_0 : Rg.dstAt (Rg.opsOf Try.f8 14) 0 = some 51 := by kernel_rfl
theorem dDe14_1 : Rg.dstAt (Rg.opsOf Try.f8 14) 1 = some 52 := by kernel_rfl
theorem dDe14_2 : Rg.dstAt (Rg.opsOf Try.f8 14) 2 = some 53 := by kernel_rfl
theorem dDe14_3 : Rg.dstAt (Rg.opsOf Try.f8 14) 3 = some 54 := by kernel_rfl
theorem dDe14_4 : Rg.dstAt (Rg.opsOf Try.f8 14) 4 = some 55 := by kernel_rfl
theorem dDe14_5 : Rg.dstAt (Rg.opsOf Try.f8 14) 5 = some 56 := by kernel_rfl
theorem dDe14_6 : Rg.dstAt (Rg.opsOf Try.f8 14) 6 = none := by kernel_rfl
theorem layDe14 {a b : Act} (hf : Rg.Fr (Rg.opsOf Try.f8 14) a b) : b = (((((((a.put (some 51) (Rg.out (Rg.opsOf Try.f8 14) b 0)).put (some 52) (Rg.out (Rg.opsOf Try.f8 14) b 1)).put (some 53) (Rg.out (Rg.opsOf Try.f8 14) b 2)).put (some 54) (Rg.out (Rg.opsOf Try.f8 14) b 3)).put (some 55) (Rg.out (Rg.opsOf Try.f8 14) b 4)).put (some 56) (Rg.out (Rg.opsOf Try.f8 14) b 5)).put none (Rg.out (Rg.opsOf Try.f8 14) b 6)) := by
  have h := hf.chain
  rw [sizeDe14, show List.range 7 = [0, 1, 2, 3, 4, 5, 6] from by decide] at h
  simp only [List.foldl_cons, List.foldl_nil, dDe14_0, dDe14_1, dDe14_2, dDe14_3, dDe14_4, dDe14_5, dDe14_6] at h
  exact h
end Go.Proofs.Ythenphbmkmagaaa
