/-
  A day behind each worker: the region that draws its order.
-/
import Derived.Test.YtgcpiinmcbdkmaaRo5
import Derived.Test.YtgcpiinmcbdkmaaRs
namespace Go.Proofs.Ytgcpiinmcbdkmaa
open Go.RowKit Go.WideShapes Va Lb Sy Ro Go.Maps
set_option linter.all false
theorem flag_other {ll : Array Bool} {i j : Nat} (h : i ≠ j) : (ll.setIfInBounds i true).getD j false = ll.getD j false := by
  rw [Array.getD_eq_getD_getElem?, Array.getElem?_setIfInBounds_ne h, Array.getD_eq_getD_getElem?]
theorem flag_keep {ll : Array Bool} {i j : Nat} (h : i ≠ j) (q : (ll.setIfInBounds i true).getD j false = false) : ll.getD j false = false := by
  rw [Array.getD_eq_getD_getElem?, Array.getElem?_setIfInBounds_ne h] at q
  rw [Array.getD_eq_getD_getElem?]; exact q
theorem flag_set {ll : Array Bool} {i : Nat} (h : i < ll.size) : (ll.setIfInBounds i true).getD i false = true := by
  rw [Array.getD_eq_getD_getElem?, Array.getElem?_setIfInBounds_self_of_lt h]; rfl

def FRs12 (H X G n m c0 c i : Nat) (x1 x2 r1 r2 : Int) (cb : Bool) (i9 : Nat) (v : Value) (w : World) : Prop :=
  match i9 with
  | 0 => v = .slice (some ⟨H, 0, none⟩) n c0
  | 1 => v = .int .i64 (i : Nat)
  | 2 => v = .agg #[.int .i64 x1, .int .i64 x2]
  | 3 => v = .slice (some ⟨G, 0, none⟩) m c
  | 4 => v = .int .i64 (i : Nat)
  | 5 => v = .bool cb
  | 6 => v = .agg #[.int .i64 r1, .int .i64 r2]
  | 7 => v = .pointer (some ⟨H, i * 2, none⟩)
  | 8 => v = undef
  | _ => True
theorem sizeRs12 : (Rg.opsOf Try.f17 12).size = 9 := by kernel_rfl

set_option maxRecDepth 20000 in
set_option maxHeartbeats 8000000 in
theorem regRs12 {Q : Exit → Act → World → Prop} {a : Act} {w9 : World} {H X G n m c0 c i : Nat} {x1 x2 r1 r2 : Int} {cb : Bool} (ha : a.tmps.size = 52)
    (k10 : a.tmps[10]? = some (.slice (some ⟨H, 0, none⟩) n c0)) (k12 : a.tmps[12]? = some (.int .i64 (i : Nat))) (k13 : a.tmps[13]? = some (.pointer (some ⟨X, 0, none⟩))) (k11 : a.tmps[11]? = some (.slice (some ⟨G, 0, none⟩) m c)) (hXl : X < w9.heap.size) (y0 : w9.cell? ⟨X, 0, none⟩ = some (.int .i64 x1)) (y1 : w9.cell? ⟨X, 1, none⟩ = some (.int .i64 x2)) (hHl : H < w9.heap.size) (z0 : w9.cell? ⟨H, i * 2, none⟩ = some (.int .i64 x1)) (z1 : w9.cell? ⟨H, i * 2 + 1, none⟩ = some (.int .i64 x2)) (z2 : w9.frozen? ⟨H, i * 2, none⟩ = false) (z3 : w9.frozen? ⟨H, i * 2 + 1, none⟩ = false) (hin : i < n) (hn : n ≤ 30) (HC : ∀ W, Below w9.heap.size w9 W → Calls Try.prog 61 #[.slice (some ⟨G, 0, none⟩) m c, .int .i64 (i : Nat)] W fun e w' => e = .returned (.bool cb) ∧ w' = W) (HBh : ∀ W, Calls Try.prog 60 #[.agg #[.int .i64 x1, .int .i64 x2], .bool cb] W fun e w' => e = .returned (.agg #[.int .i64 r1, .int .i64 r2]) ∧ Below W.heap.size W w')
    (hend : ∀ b' w', Rg.Fr (Rg.opsOf Try.f17 12) a b' → (∃ w8, Below w9.heap.size w9 w8 ∧ w' = (w8.setCell ⟨H, i * 2, none⟩ (.int .i64 r1)).setCell ⟨H, i * 2 + 1, none⟩ (.int .i64 r2)) → Q .normal b' w') :
    (Code.region 12 (Rg.opsOf Try.f17 12) true).wp Try.prog Q a w9 := by
  refine Rg.region_set3 (by kernel_rfl) (fun ll9 w' => (ll9.getD 8 false = false → Below w9.heap.size w9 w') ∧ (ll9.getD 8 false = true → ∃ w8, Below w9.heap.size w9 w8 ∧ w' = (w8.setCell ⟨H, i * 2, none⟩ (.int .i64 r1)).setCell ⟨H, i * 2 + 1, none⟩ (.int .i64 r2))) (FRs12 H X G n m c0 c i x1 x2 r1 r2 cb) (by rw [ha, sizeRs12]; kernel_rfl) ⟨fun _ => st_drew (Below.refl _ _), fun q => by rw [sizeRs12] at q; exact absurd q (by decide)⟩ ?_ ?_
  case refine_2 =>
    intro l b' w' hf hall hI hA
    rw [sizeRs12] at hA
    exact hend b' w' hf (hI.2 (hall 8 (by rw [sizeRs12]; decide)))
  case refine_1 =>
    clear hend
    have HS : ∀ {w w' : World}, Below w.heap.size w w' → ∀ k9 y9, FRs12 H X G n m c0 c i x1 x2 r1 r2 cb k9 y9 w → FRs12 H X G n m c0 c i x1 x2 r1 r2 cb k9 y9 w' := fun hb k9 y9 h => by
      unfold FRs12 at *
      split at h <;> exact h
    intro i' hi'
    rw [sizeRs12] at hi'
    rcases (show i' = 0 ∨ i' = 1 ∨ i' = 2 ∨ i' = 3 ∨ i' = 4 ∨ i' = 5 ∨ i' = 6 ∨ i' = 7 ∨ i' = 8 by omega) with rfl | rfl | rfl | rfl | rfl | rfl | rfl | rfl | rfl
    · intro ll bb w' hs hlf hN hO hf hI hA
      clear hi'
      have q0 := hf.kept (s := 10) (by rw [sizeRs12]; kernel_rfl) k10
      exact Rg.op_value (o := ⟨some 41, Op.move (Operand.tmp 10), _, _, _, _⟩) (x := .slice (some ⟨H, 0, none⟩) n c0) rfl rfl (by clear hA HS hN hO HC HBh; simp only [execOp]; go_simp) ⟨_, rfl, (fun h => by cases h), rfl, ⟨fun q => hI.1 (flag_keep (by decide) q), fun q => absurd q (by rw [flag_other (by decide), hN 8 (by kernel_rfl)]; decide)⟩, fun _ _ _ _ h => h⟩
    · intro ll bb w' hs hlf hN hO hf hI hA
      clear hi'
      have q0 := hf.kept (s := 12) (by rw [sizeRs12]; kernel_rfl) k12
      exact Rg.op_value (o := ⟨some 42, Op.move (Operand.tmp 12), _, _, _, _⟩) (x := .int .i64 (i : Nat)) rfl rfl (by clear hA HS hN hO HC HBh; simp only [execOp]; go_simp) ⟨_, rfl, (fun h => by cases h), rfl, ⟨fun q => hI.1 (flag_keep (by decide) q), fun q => absurd q (by rw [flag_other (by decide), hN 8 (by kernel_rfl)]; decide)⟩, fun _ _ _ _ h => h⟩
    · intro ll bb w' hs hlf hN hO hf hI hA
      clear hi'
      have q13 := hf.kept (s := 13) (by rw [sizeRs12]; kernel_rfl) k13
      have e0 := ((hI.1 (hN 8 (by kernel_rfl))).cell (p := ⟨X, 0, none⟩) hXl).trans y0
      have e1 := ((hI.1 (hN 8 (by kernel_rfl))).cell (p := ⟨X, 1, none⟩) hXl).trans y1
      exact Rg.op_value (o := ⟨some 43, Op.load 95 (Operand.tmp 13), _, _, _, _⟩) (x := .agg #[.int .i64 x1, .int .i64 x2]) rfl rfl (by clear hA HS hN hO HC HBh; simp only [execOp]; go_simp) ⟨_, rfl, (fun h => by cases h), rfl, ⟨fun q => hI.1 (flag_keep (by decide) q), fun q => absurd q (by rw [flag_other (by decide), hN 8 (by kernel_rfl)]; decide)⟩, fun _ _ _ _ h => h⟩
    · intro ll bb w' hs hlf hN hO hf hI hA
      clear hi'
      have q0 := hf.kept (s := 11) (by rw [sizeRs12]; kernel_rfl) k11
      exact Rg.op_value (o := ⟨some 44, Op.move (Operand.tmp 11), _, _, _, _⟩) (x := .slice (some ⟨G, 0, none⟩) m c) rfl rfl (by clear hA HS hN hO HC HBh; simp only [execOp]; go_simp) ⟨_, rfl, (fun h => by cases h), rfl, ⟨fun q => hI.1 (flag_keep (by decide) q), fun q => absurd q (by rw [flag_other (by decide), hN 8 (by kernel_rfl)]; decide)⟩, fun _ _ _ _ h => h⟩
    · intro ll bb w' hs hlf hN hO hf hI hA
      clear hi'
      have q0 := hf.kept (s := 12) (by rw [sizeRs12]; kernel_rfl) k12
      exact Rg.op_value (o := ⟨some 45, Op.move (Operand.tmp 12), _, _, _, _⟩) (x := .int .i64 (i : Nat)) rfl rfl (by clear hA HS hN hO HC HBh; simp only [execOp]; go_simp) ⟨_, rfl, (fun h => by cases h), rfl, ⟨fun q => hI.1 (flag_keep (by decide) q), fun q => absurd q (by rw [flag_other (by decide), hN 8 (by kernel_rfl)]; decide)⟩, fun _ _ _ _ h => h⟩
    · intro ll bb w' hs hlf hN hO hf hI hA
      clear hi'
      have q44 : bb.tmps[44]? = some _ := hf.tmp (k := 3) rfl (by rw [ha]; decide) (hA 3 (by kernel_rfl))
      have q45 : bb.tmps[45]? = some _ := hf.tmp (k := 4) rfl (by rw [ha]; decide) (hA 4 (by kernel_rfl))
      refine Rg.op_call (o := ⟨some 46, Op.call { callee := Callee.value (Operand.func 61), args := #[(Operand.tmp 44), (Operand.tmp 45)], argTypes := _ }, _, _, _, _⟩) rfl rfl (by clear hA HS hN hO HC HBh; simp only [execOp, resolve]; go_simp) (HC _ (hI.1 (hN 8 (by kernel_rfl)))) ?_
      rintro e w2 ⟨rfl, rfl⟩
      exact ⟨_, rfl, _, rfl, (fun h => by cases h), rfl, ⟨fun q => hI.1 (flag_keep (by decide) q), fun q => absurd q (by rw [flag_other (by decide), hN 8 (by kernel_rfl)]; decide)⟩, fun _ _ _ _ h => h⟩
    · intro ll bb w' hs hlf hN hO hf hI hA
      clear hi'
      have q43 : bb.tmps[43]? = some _ := hf.tmp (k := 2) rfl (by rw [ha]; decide) (hA 2 (by kernel_rfl))
      have q46 : bb.tmps[46]? = some _ := hf.tmp (k := 5) rfl (by rw [ha]; decide) (hA 5 (by kernel_rfl))
      refine Rg.op_call (o := ⟨some 47, Op.call { callee := Callee.value (Operand.func 60), args := #[(Operand.tmp 43), (Operand.tmp 46)], argTypes := _ }, _, _, _, _⟩) rfl rfl (by clear hA HS hN hO HC HBh; simp only [execOp, resolve]; go_simp) (HBh _) ?_
      rintro e w2 ⟨rfl, hb2⟩
      exact ⟨_, rfl, _, rfl, (fun h => by cases h), rfl, ⟨fun q => onto (hI.1 (flag_keep (by decide) q)) hb2, fun q => absurd q (by rw [flag_other (by decide), hN 8 (by kernel_rfl)]; decide)⟩, fun k9 y9 _ _ h => HS hb2 k9 y9 h⟩
    · intro ll bb w' hs hlf hN hO hf hI hA
      clear hi'
      have q41 : bb.tmps[41]? = some _ := hf.tmp (k := 0) rfl (by rw [ha]; decide) (hA 0 (by kernel_rfl))
      have q42 : bb.tmps[42]? = some _ := hf.tmp (k := 1) rfl (by rw [ha]; decide) (hA 1 (by kernel_rfl))
      have hi3 : (i : Int) < (n : Int) := by omega
      exact Rg.op_value (o := ⟨some 48, Op.indexAddr 92 (Operand.tmp 41) (Operand.tmp 42), _, _, _, _⟩) (x := .pointer (some ⟨H, i * 2, none⟩)) rfl rfl (by clear hA HS hN hO HC HBh; simp only [execOp]; go_simp) ⟨_, rfl, (fun h => by cases h), rfl, ⟨fun q => hI.1 (flag_keep (by decide) q), fun q => absurd q (by rw [flag_other (by decide), hN 8 (by kernel_rfl)]; decide)⟩, fun _ _ _ _ h => h⟩
    · intro ll bb w' hs hlf hN hO hf hI hA
      clear hi'
      have q48 : bb.tmps[48]? = some _ := hf.tmp (k := 7) rfl (by rw [ha]; decide) (hA 7 (by kernel_rfl))
      have q47 : bb.tmps[47]? = some _ := hf.tmp (k := 6) rfl (by rw [ha]; decide) (hA 6 (by kernel_rfl))
      have hB := hI.1 hlf
      have e0 := (hB.cell (p := ⟨H, i * 2, none⟩) hHl).trans z0
      have e1 := (hB.cell (p := ⟨H, i * 2 + 1, none⟩) hHl).trans z1
      have e2 := (hB.frozen (p := ⟨H, i * 2, none⟩) hHl).trans z2
      have e3 := (hB.frozen (p := ⟨H, i * 2 + 1, none⟩) hHl).trans z3
      exact Rg.op_skip (o := ⟨none, Op.store 95 (Operand.tmp 48) (Operand.tmp 47), _, _, _, _⟩) rfl rfl (by clear hA HS hN hO HC HBh; simp only [execOp]; go_simp) ⟨undef, rfl, (fun _ => rfl), rfl, ⟨fun q => absurd q (by rw [flag_set (by rw [hs, sizeRs12]; decide)]; decide), fun _ => ⟨w', hB, rfl⟩⟩, fun k9 y9 _ _ h => by
        unfold FRs12 at *
        split at h <;> exact h⟩

theorem dRs12_0 : Rg.dstAt (Rg.opsOf Try.f17 12) 0 = some 41 := by kernel_rfl
theorem dRs12_1 : Rg.dstAt (Rg.opsOf Try.f17 12) 1 = some 42 := by kernel_rfl
theorem dRs12_2 : Rg.dstAt (Rg.opsOf Try.f17 12) 2 = some 43 := by kernel_rfl
theorem dRs12_3 : Rg.dstAt (Rg.opsOf Try.f17 12) 3 = some 44 := by kernel_rfl
theorem dRs12_4 : Rg.dstAt (Rg.opsOf Try.f17 12) 4 = some 45 := by kernel_rfl
theorem dRs12_5 : Rg.dstAt (Rg.opsOf Try.f17 12) 5 = some 46 := by kernel_rfl
theorem dRs12_6 : Rg.dstAt (Rg.opsOf Try.f17 12) 6 = some 47 := by kernel_rfl
theorem dRs12_7 : Rg.dstAt (Rg.opsOf Try.f17 12) 7 = some 48 := by kernel_rfl
theorem dRs12_8 : Rg.dstAt (Rg.opsOf Try.f17 12) 8 = none := by kernel_rfl
theorem layRs12 {a b : Act} (hf : Rg.Fr (Rg.opsOf Try.f17 12) a b) : b = (((((((((a.put (some 41) (Rg.out (Rg.opsOf Try.f17 12) b 0)).put (some 42) (Rg.out (Rg.opsOf Try.f17 12) b 1)).put (some 43) (Rg.out (Rg.opsOf Try.f17 12) b 2)).put (some 44) (Rg.out (Rg.opsOf Try.f17 12) b 3)).put (some 45) (Rg.out (Rg.opsOf Try.f17 12) b 4)).put (some 46) (Rg.out (Rg.opsOf Try.f17 12) b 5)).put (some 47) (Rg.out (Rg.opsOf Try.f17 12) b 6)).put (some 48) (Rg.out (Rg.opsOf Try.f17 12) b 7)).put none (Rg.out (Rg.opsOf Try.f17 12) b 8)) := by
  have h := hf.chain
  rw [sizeRs12, show List.range 9 = [0, 1, 2, 3, 4, 5, 6, 7, 8] from by decide] at h
  simp only [List.foldl_cons, List.foldl_nil, dRs12_0, dRs12_1, dRs12_2, dRs12_3, dRs12_4, dRs12_5, dRs12_6, dRs12_7, dRs12_8] at h
  exact h
end Go.Proofs.Ytgcpiinmcbdkmaa
