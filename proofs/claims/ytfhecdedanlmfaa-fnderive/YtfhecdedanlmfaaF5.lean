/-
  The law that is wrong on purpose: a region of nineteen operations that draws its order.
-/
import Derived.Test.YtfhecdedanlmfaaF4
import Derived.Test.YtfhecdedanlmfaaRn
namespace Go.Proofs.Ytfhecdedanlmfaa
open Go.RowKit Va Rc
set_option linter.all false

def FW (w0 : World) (n1 g : Nat) (ao : Option Addr) (cap : Nat) (bs : List Int) (ad : Option Addr) (c : Nat) (L : List Lp) (k : Nat) (v : Value) (w : World) : Prop :=
  match k with
  | 0 => v = .slice ad L.length c
  | 1 => ∃ p : Lp, v = .agg (cells3 p).toArray ∧ AOw w n1 p
  | 2 => ∃ p : Lp, v = .agg (cells3 p).toArray ∧ AOw w n1 p
  | 3 => ∃ l : List Int, NOw w n1 v l
  | 4 => ∃ p : Lp, v = .agg (cells3 p).toArray ∧ AOw w n1 p
  | 5 => ∃ l : List Int, NOw w n1 v l
  | 6 => ∃ p : Lp, v = .agg (cells3 p).toArray ∧ AOw w n1 p
  | 7 => ∃ l : List Int, NOw w n1 v l
  | 8 => ∃ p : Lp, v = .agg (cells3 p).toArray ∧ AOw w n1 p
  | 9 => ∃ l : List Int, NOw w n1 v l
  | 10 => ∃ p : Lp, v = .agg (cells3 p).toArray ∧ AOw w n1 p
  | 11 => ∃ B ps, v = .slice (some ⟨B, 0, none⟩) 6 6 ∧ ps.length = 6 ∧ n1 ≤ B ∧ PB w B (cellsLw ps).toArray 31 ∧ ∀ p ∈ ps, AOw w n1 p
  | 12 => v = .pointer (some ⟨g, 0, none⟩)
  | 13 => ∃ n : Nat, v = .int .i64 n ∧ n < 6
  | 14 => ∃ (B n : Nat) (p : Lp), v = .pointer (some ⟨B, n * 3, none⟩) ∧ n1 ≤ B ∧ w.cell? ⟨B, n * 3, none⟩ = some p.2.1 ∧ w.cell? ⟨B, n * 3 + 1, none⟩ = some p.2.2 ∧ w.cell? ⟨B, n * 3 + 2, none⟩ = some (.int .i64 p.1.thn) ∧ B < w.heap.size ∧ AOw w n1 p
  | 15 => ∃ p : Lp, v = .agg (cells3 p).toArray ∧ AOw w n1 p
  | 16 => ∃ (B : Nat) (p : Lp), v = .slice (some ⟨B, 0, none⟩) 1 1 ∧ n1 ≤ B ∧ PB w B (cells3 p).toArray 31 ∧ AOw w n1 p
  | 17 => ∃ ad' c' p, v = .slice ad' (L.length + 1) c' ∧ DL w0 w g ao cap bs (.slice ad' (L.length + 1) c') (L ++ [p])
  | 18 => ∃ ad' c' p, v = .slice ad' (L.length + 1) c' ∧ DL w0 w g ao cap bs (.slice ad' (L.length + 1) c') (L ++ [p])
  | _ => True
def IW (w0 : World) (n1 g : Nat) (ao : Option Addr) (cap : Nat) (bs : List Int) (ad : Option Addr) (c : Nat) (L : List Lp) (l : Array Bool) (w : World) : Prop :=
  Cur w g ao cap bs ∧ Keep g w0 w ∧ n1 ≤ w.heap.size ∧ (l.getD 17 false = false → DL w0 w g ao cap bs (.slice ad L.length c) L)
theorem keepW {w0 : World} {n1 g : Nat} {ao : Option Addr} {cap : Nat} {bs : List Int} {ad : Option Addr} {c : Nat} {L : List Lp} {w w' : World} (hg : g < n1) (hc : Cur w' g ao cap bs) (hk : Keep g w w') (k : Nat) (v : Value) (h : FW w0 n1 g ao cap bs ad c L k v w) : FW w0 n1 g ao cap bs ad c L k v w' := by
  unfold FW at *
  split at h <;> first
    | exact h
    | (obtain ⟨p, h1, h2⟩ := h; exact ⟨p, h1, h2.keep hk hg⟩)
    | (obtain ⟨l, h1⟩ := h; exact ⟨l, h1.keep hk hg⟩)
    | (obtain ⟨B, ps, h1, h2, h3, h4, h5⟩ := h; exact ⟨B, ps, h1, h2, h3, h4.keep hk (by omega), fun p hp => (h5 p hp).keep hk hg⟩)
    | (obtain ⟨B, n, p, h1, h2, h3, h4, h5, h6, h7⟩ := h; exact ⟨B, n, p, h1, h2, (hk.cell h6 (by omega)).trans h3, (hk.cell h6 (by omega)).trans h4, (hk.cell h6 (by omega)).trans h5, Nat.lt_of_lt_of_le h6 hk.size, h7.keep hk hg⟩)
    | (obtain ⟨B, p, h1, h2, h3, h4⟩ := h; exact ⟨B, p, h1, h2, h3.keep hk (by omega), h4.keep hk hg⟩)
    | (obtain ⟨a', c', p, h1, h2⟩ := h; exact ⟨a', c', p, h1, h2.call hc hk⟩)
theorem stayW {w0 : World} {n1 g : Nat} {ao : Option Addr} {cap : Nat} {bs : List Int} {ad : Option Addr} {c : Nat} {L : List Lp} {l : Array Bool} {w w' : World} {i : Nat} (hi : i ≠ 17) (hI : IW w0 n1 g ao cap bs ad c L l w) (hc : Cur w' g ao cap bs) (hk : Keep g w w') : IW w0 n1 g ao cap bs ad c L (l.setIfInBounds i true) w' :=
  ⟨hc, hI.2.1.trans hk, Nat.le_trans hI.2.2.1 hk.size, fun h => (hI.2.2.2 (by rwa [Rg.set_ne hi] at h)).call hc hk⟩
theorem sameW {w0 : World} {n1 g : Nat} {ao : Option Addr} {cap : Nat} {bs : List Int} {ad : Option Addr} {c : Nat} {L : List Lp} {l : Array Bool} {w : World} {i : Nat} (hi : i ≠ 17) (hI : IW w0 n1 g ao cap bs ad c L l w) : IW w0 n1 g ao cap bs ad c L (l.setIfInBounds i true) w :=
  ⟨hI.1, hI.2.1, hI.2.2.1, fun h => hI.2.2.2 (by rwa [Rg.set_ne hi] at h)⟩
theorem sizeW : (Rg.opsOf Try.f18 14).size = 19 := by kernel_rfl

set_option maxRecDepth 20000 in
set_option maxHeartbeats 16000000 in
theorem regW {Q : Exit → Act → World → Prop} {a : Act} {w1 w0 : World} {g : Nat} {ao : Option Addr} {cap : Nat} {bs : List Int} {ad : Option Addr} {c : Nat} {L : List Lp} (ha : a.tmps.size = 84)
    (k0 : a.tmps[0]? = some (.pointer (some ⟨g, 0, none⟩))) (k3 : a.tmps[3]? = some (.slice ad L.length c)) (hd : DL w0 w1 g ao cap bs (.slice ad L.length c) L) (hL : L.length ≤ 100)
    (hend : ∀ b' w' ad' c' p, Rg.Fr (Rg.opsOf Try.f18 14) a b' → Rg.out (Rg.opsOf Try.f18 14) b' 18 = .slice ad' (L.length + 1) c' → DL w0 w' g ao cap bs (.slice ad' (L.length + 1) c') (L ++ [p]) → Q .normal b' w') :
    (Code.region 14 (Rg.opsOf Try.f18 14) true).wp Try.prog Q a w1 := by
  obtain ⟨i0, hi0, hv0, hv1, hv2⟩ := info_partsW infoW64
  obtain ⟨j0, hj0, hy0, hy1, hy2⟩ := info_partsW infoL3
  have hg1 : g < w1.heap.size := hd.cur.1
  have hrk : ∀ k, (Value.slice ad L.length c).ownBlock = some k → w0.heap.size ≤ k ∧ k < w1.heap.size := ownW_lt hd.own
  have hgg := hd.gg
  have hks := hd.keep.size
  refine Rg.region_set3 (by kernel_rfl) (IW w0 w1.heap.size g ao cap bs ad c L) (FW w0 w1.heap.size g ao cap bs ad c L) (by rw [ha, sizeW]; kernel_rfl) ⟨hd.cur.drewN 1, hd.keep.drewN 1, Nat.le_refl _, fun _ => hd.drewN 1⟩ ?_ ?_
  case refine_2 =>
    intro l b' w' hf hall hI hA
    obtain ⟨ad', c', p, h1, h2⟩ := hA 18 (by rw [sizeW]; omega)
    exact hend b' w' ad' c' p hf h1 h2
  case refine_1 =>
    clear hend
    intro i' hi'
    rw [sizeW] at hi'
    rcases (show i' = 0 ∨ i' = 1 ∨ i' = 2 ∨ i' = 3 ∨ i' = 4 ∨ i' = 5 ∨ i' = 6 ∨ i' = 7 ∨ i' = 8 ∨ i' = 9 ∨ i' = 10 ∨ i' = 11 ∨ i' = 12 ∨ i' = 13 ∨ i' = 14 ∨ i' = 15 ∨ i' = 16 ∨ i' = 17 ∨ i' = 18 by omega) with rfl | rfl | rfl | rfl | rfl | rfl | rfl | rfl | rfl | rfl | rfl | rfl | rfl | rfl | rfl | rfl | rfl | rfl | rfl
    · intro ll bb w' hs hlf hN hO hf hIl hA
      clear hi'
      have q0 : bb.tmps[3]? = some _ := hf.tmp (k := 18) rfl (by rw [ha]; decide) ((hO 18 (hN 18 (by kernel_rfl))).trans (Rg.out_of (k := 18) rfl k3))
      exact Rg.op_value (o := ⟨some 59, Op.move (Operand.tmp 3), _, _, _, _⟩) rfl rfl rfl ⟨_, rfl, (fun h => by cases h), (by show Act.eval bb _ = _; simp [Act.eval, q0]), sameW (by decide) hIl, fun _ _ _ _ h => h⟩
    · intro ll bb w' hs hlf hN hO hf hIl hA
      clear hi'
      exact Rg.op_value (o := ⟨some 60, Op.build 31 #[(2, Operand.const (Value.int .i64 (-1)))], _, _, _, _⟩) (x := .agg #[.slice none 0 0, .slice none 0 0, .int .i64 (-1)]) rfl rfl (by clear hA hN; simp only [execOp]; go_simp) ⟨_, rfl, (fun h => by cases h), ⟨(⟨[], [], -1⟩, .slice none 0 0, .slice none 0 0), rfl, NOw.none _ _, NOw.none _ _⟩, sameW (by decide) hIl, fun _ _ _ _ h => h⟩
    · intro ll bb w' hs hlf hN hO hf hIl hA
      clear hi'
      exact Rg.op_value (o := ⟨some 61, Op.build 31 #[(2, Operand.const (Value.int .i64 (64)))], _, _, _, _⟩) (x := .agg #[.slice none 0 0, .slice none 0 0, .int .i64 (64)]) rfl rfl (by clear hA hN; simp only [execOp]; go_simp) ⟨_, rfl, (fun h => by cases h), ⟨(⟨[], [], 64⟩, .slice none 0 0, .slice none 0 0), rfl, NOw.none _ _, NOw.none _ _⟩, sameW (by decide) hIl, fun _ _ _ _ h => h⟩
    · intro ll bb w' hs hlf hN hO hf hIl hA
      clear hi'
      have hcu := hIl.1
      have hK : Keep g w' (w'.alloc (.cells #[.int .i64 (3)] 2)) := (Keep.refl g w').alloc _
      exact Rg.op_value (o := ⟨some 62, Op.buildSlice 24 1 #[(0, Operand.const (Value.int .i64 (3)))], _, _, _, _⟩) (x := .slice (some ⟨w'.heap.size, 0, none⟩) 1 1) (w' := w'.alloc (.cells #[.int .i64 (3)] 2)) rfl rfl (by clear hA hN; simp only [execOp]; go_simp) ⟨_, rfl, (fun h => by cases h), ⟨[3], ⟨rfl, Or.inr ⟨w'.heap.size, 1, #[.int .i64 (3)], rfl, hIl.2.2.1, heap_alloc_new _ _, Nat.le_refl _, by first | decide | (unfold maxLen; omega), rfl, rfl⟩⟩, by decide⟩, stayW (by decide) hIl (hcu.alloc _) hK, fun k y _ _ h => keepW hg1 (hcu.alloc _) hK k y h⟩
    · intro ll bb w' hs hlf hN hO hf hIl hA
      clear hi'
      obtain ⟨l9, h9⟩ := hA 3 (by kernel_rfl)
      obtain ⟨x9, hx9⟩ : ∃ x, x = Rg.out (Rg.opsOf Try.f18 14) bb 3 := ⟨_, rfl⟩
      rw [← hx9] at h9
      have q9 : bb.tmps[62]? = some x9 := hf.tmp (k := 3) rfl (by rw [ha]; decide) hx9.symm
      obtain ⟨a9, c9, rfl⟩ := h9.form
      exact Rg.op_value (o := ⟨some 63, Op.build 31 #[(2, Operand.const (Value.int .i64 3)), (0, Operand.tmp 62)], _, _, _, _⟩) (x := .agg #[.slice a9 l9.length c9, .slice none 0 0, .int .i64 3]) rfl rfl (by clear hA hN h9 hx9; simp only [execOp]; go_simp) ⟨_, rfl, (fun h => by cases h), ⟨(⟨l9, [], 3⟩, .slice a9 l9.length c9, .slice none 0 0), rfl, h9, NOw.none _ _⟩, sameW (by decide) hIl, fun _ _ _ _ h => h⟩
    · intro ll bb w' hs hlf hN hO hf hIl hA
      clear hi'
      have hcu := hIl.1
      have hK : Keep g w' (w'.alloc (.cells #[.int .i64 (-1)] 2)) := (Keep.refl g w').alloc _
      exact Rg.op_value (o := ⟨some 64, Op.buildSlice 24 1 #[(0, Operand.const (Value.int .i64 (-1)))], _, _, _, _⟩) (x := .slice (some ⟨w'.heap.size, 0, none⟩) 1 1) (w' := w'.alloc (.cells #[.int .i64 (-1)] 2)) rfl rfl (by clear hA hN; simp only [execOp]; go_simp) ⟨_, rfl, (fun h => by cases h), ⟨[-1], ⟨rfl, Or.inr ⟨w'.heap.size, 1, #[.int .i64 (-1)], rfl, hIl.2.2.1, heap_alloc_new _ _, Nat.le_refl _, by first | decide | (unfold maxLen; omega), rfl, rfl⟩⟩, by decide⟩, stayW (by decide) hIl (hcu.alloc _) hK, fun k y _ _ h => keepW hg1 (hcu.alloc _) hK k y h⟩
    · intro ll bb w' hs hlf hN hO hf hIl hA
      clear hi'
      obtain ⟨l9, h9⟩ := hA 5 (by kernel_rfl)
      obtain ⟨x9, hx9⟩ : ∃ x, x = Rg.out (Rg.opsOf Try.f18 14) bb 5 := ⟨_, rfl⟩
      rw [← hx9] at h9
      have q9 : bb.tmps[64]? = some x9 := hf.tmp (k := 5) rfl (by rw [ha]; decide) hx9.symm
      obtain ⟨a9, c9, rfl⟩ := h9.form
      exact Rg.op_value (o := ⟨some 65, Op.build 31 #[(2, Operand.const (Value.int .i64 3)), (1, Operand.tmp 64)], _, _, _, _⟩) (x := .agg #[.slice none 0 0, .slice a9 l9.length c9, .int .i64 3]) rfl rfl (by clear hA hN h9 hx9; simp only [execOp]; go_simp) ⟨_, rfl, (fun h => by cases h), ⟨(⟨[], l9, 3⟩, .slice none 0 0, .slice a9 l9.length c9), rfl, NOw.none _ _, h9⟩, sameW (by decide) hIl, fun _ _ _ _ h => h⟩
    · intro ll bb w' hs hlf hN hO hf hIl hA
      clear hi'
      have hcu := hIl.1
      obtain ⟨w2, hrun, r1, r2⟩ := run_make_full (P := Try.prog) w' w1.heap.size 24 2 i0 (.int .i64 0) 1 Try.underlying24 hi0 hv0 hv1 .i64 .i64 65 (by rw [hv2]; omega) (by unfold maxLen; omega) hIl.2.2.1
      have hB : Below w'.heap.size w' w2 := (Below.refl _ _).grown r2 (Nat.le_refl _) (fun k hk => by cases hk)
      have hK : Keep g w' w2 := Keep.of_below hB
      have hc2 := hcu.below (hB.mono hcu.1)
      rw [show (Value.int .i64 0).cells = #[Value.int .i64 0] from rfl, Nat.mul_one, toList_madeCells_one] at r1
      have hrun2 : Sem.run Try.prog (Instr.makeSlice 24 (.int .i64 65) (.int .i64 65)) w' = .ok (.slice (some ⟨w'.heap.size, 0, none⟩) 65 65) w2 := hrun
      exact Rg.op_value (o := ⟨some 66, Op.makeSlice 24 (Operand.const (Value.int .i64 65)) (Operand.const (Value.int .i64 65)), _, _, _, _⟩) (x := .slice (some ⟨w'.heap.size, 0, none⟩) 65 65) (w' := w2) rfl rfl (by simp only [execOp, Act.eval, Sem.run_bind]; rw [hrun2]; rfl) ⟨_, rfl, (fun h => by cases h), ⟨List.replicate 65 0, by rw [List.map_replicate, List.length_replicate]; exact r1, by rw [List.length_replicate]; omega⟩, stayW (by decide) hIl hc2 hK, fun k y _ _ h => keepW hg1 hc2 hK k y h⟩
    · intro ll bb w' hs hlf hN hO hf hIl hA
      clear hi'
      obtain ⟨l9, h9⟩ := hA 7 (by kernel_rfl)
      obtain ⟨x9, hx9⟩ : ∃ x, x = Rg.out (Rg.opsOf Try.f18 14) bb 7 := ⟨_, rfl⟩
      rw [← hx9] at h9
      have q9 : bb.tmps[66]? = some x9 := hf.tmp (k := 7) rfl (by rw [ha]; decide) hx9.symm
      obtain ⟨a9, c9, rfl⟩ := h9.form
      exact Rg.op_value (o := ⟨some 67, Op.build 31 #[(2, Operand.const (Value.int .i64 63)), (0, Operand.tmp 66)], _, _, _, _⟩) (x := .agg #[.slice a9 l9.length c9, .slice none 0 0, .int .i64 63]) rfl rfl (by clear hA hN h9 hx9; simp only [execOp]; go_simp) ⟨_, rfl, (fun h => by cases h), ⟨(⟨l9, [], 63⟩, .slice a9 l9.length c9, .slice none 0 0), rfl, h9, NOw.none _ _⟩, sameW (by decide) hIl, fun _ _ _ _ h => h⟩
    · intro ll bb w' hs hlf hN hO hf hIl hA
      clear hi'
      have hcu := hIl.1
      obtain ⟨w2, hrun, r1, r2⟩ := run_make_full (P := Try.prog) w' w1.heap.size 24 2 i0 (.int .i64 0) 1 Try.underlying24 hi0 hv0 hv1 .i64 .i64 64 (by rw [hv2]; omega) (by unfold maxLen; omega) hIl.2.2.1
      have hB : Below w'.heap.size w' w2 := (Below.refl _ _).grown r2 (Nat.le_refl _) (fun k hk => by cases hk)
      have hK : Keep g w' w2 := Keep.of_below hB
      have hc2 := hcu.below (hB.mono hcu.1)
      rw [show (Value.int .i64 0).cells = #[Value.int .i64 0] from rfl, Nat.mul_one, toList_madeCells_one] at r1
      have hrun2 : Sem.run Try.prog (Instr.makeSlice 24 (.int .i64 64) (.int .i64 64)) w' = .ok (.slice (some ⟨w'.heap.size, 0, none⟩) 64 64) w2 := hrun
      exact Rg.op_value (o := ⟨some 68, Op.makeSlice 24 (Operand.const (Value.int .i64 64)) (Operand.const (Value.int .i64 64)), _, _, _, _⟩) (x := .slice (some ⟨w'.heap.size, 0, none⟩) 64 64) (w' := w2) rfl rfl (by simp only [execOp, Act.eval, Sem.run_bind]; rw [hrun2]; rfl) ⟨_, rfl, (fun h => by cases h), ⟨List.replicate 64 0, by rw [List.map_replicate, List.length_replicate]; exact r1, by rw [List.length_replicate]; omega⟩, stayW (by decide) hIl hc2 hK, fun k y _ _ h => keepW hg1 hc2 hK k y h⟩
    · intro ll bb w' hs hlf hN hO hf hIl hA
      clear hi'
      obtain ⟨l9, h9⟩ := hA 9 (by kernel_rfl)
      obtain ⟨x9, hx9⟩ : ∃ x, x = Rg.out (Rg.opsOf Try.f18 14) bb 9 := ⟨_, rfl⟩
      rw [← hx9] at h9
      have q9 : bb.tmps[68]? = some x9 := hf.tmp (k := 9) rfl (by rw [ha]; decide) hx9.symm
      obtain ⟨a9, c9, rfl⟩ := h9.form
      exact Rg.op_value (o := ⟨some 69, Op.build 31 #[(2, Operand.const (Value.int .i64 63)), (1, Operand.tmp 68)], _, _, _, _⟩) (x := .agg #[.slice none 0 0, .slice a9 l9.length c9, .int .i64 63]) rfl rfl (by clear hA hN h9 hx9; simp only [execOp]; go_simp) ⟨_, rfl, (fun h => by cases h), ⟨(⟨[], l9, 63⟩, .slice none 0 0, .slice a9 l9.length c9), rfl, NOw.none _ _, h9⟩, sameW (by decide) hIl, fun _ _ _ _ h => h⟩
    · intro ll bb w' hs hlf hN hO hf hIl hA
      clear hi'
      have hcu := hIl.1
      obtain ⟨p0, e0, h0⟩ := hA 1 (by kernel_rfl)
      have q0 : bb.tmps[60]? = some _ := hf.tmp (k := 1) rfl (by rw [ha]; decide) e0
      obtain ⟨p1, e1, h1⟩ := hA 2 (by kernel_rfl)
      have q1 : bb.tmps[61]? = some _ := hf.tmp (k := 2) rfl (by rw [ha]; decide) e1
      obtain ⟨p2, e2, h2⟩ := hA 4 (by kernel_rfl)
      have q2 : bb.tmps[63]? = some _ := hf.tmp (k := 4) rfl (by rw [ha]; decide) e2
      obtain ⟨p3, e3, h3⟩ := hA 6 (by kernel_rfl)
      have q3 : bb.tmps[65]? = some _ := hf.tmp (k := 6) rfl (by rw [ha]; decide) e3
      obtain ⟨p4, e4, h4⟩ := hA 8 (by kernel_rfl)
      have q4 : bb.tmps[67]? = some _ := hf.tmp (k := 8) rfl (by rw [ha]; decide) e4
      obtain ⟨p5, e5, h5⟩ := hA 10 (by kernel_rfl)
      have q5 : bb.tmps[69]? = some _ := hf.tmp (k := 10) rfl (by rw [ha]; decide) e5
      unfold cells3 at q0 q1 q2 q3 q4 q5
      have hK : Keep g w' (w'.alloc (.cells #[p0.2.1, p0.2.2, .int .i64 p0.1.thn, p1.2.1, p1.2.2, .int .i64 p1.1.thn, p2.2.1, p2.2.2, .int .i64 p2.1.thn, p3.2.1, p3.2.2, .int .i64 p3.1.thn, p4.2.1, p4.2.2, .int .i64 p4.1.thn, p5.2.1, p5.2.2, .int .i64 p5.1.thn] 31)) := (Keep.refl g w').alloc _
      exact Rg.op_value (o := ⟨some 70, Op.buildSlice 25 6 #[(0, Operand.tmp 60), (1, Operand.tmp 61), (2, Operand.tmp 63), (3, Operand.tmp 65), (4, Operand.tmp 67), (5, Operand.tmp 69)], _, _, _, _⟩) (x := .slice (some ⟨w'.heap.size, 0, none⟩) 6 6) (w' := w'.alloc (.cells #[p0.2.1, p0.2.2, .int .i64 p0.1.thn, p1.2.1, p1.2.2, .int .i64 p1.1.thn, p2.2.1, p2.2.2, .int .i64 p2.1.thn, p3.2.1, p3.2.2, .int .i64 p3.1.thn, p4.2.1, p4.2.2, .int .i64 p4.1.thn, p5.2.1, p5.2.2, .int .i64 p5.1.thn] 31)) rfl rfl (by clear hA hN e0 h0 e1 h1 e2 h2 e3 h3 e4 h4 e5 h5; simp only [execOp]; go_simp) ⟨_, rfl, (fun h => by cases h), ⟨w'.heap.size, [p0, p1, p2, p3, p4, p5], rfl, rfl, hIl.2.2.1, PB.new _ _ _, fun p hp => by
        simp only [List.mem_cons, List.not_mem_nil, or_false] at hp
        rcases hp with rfl | rfl | rfl | rfl | rfl | rfl <;> first | exact h0.keep hK hg1 | exact h1.keep hK hg1 | exact h2.keep hK hg1 | exact h3.keep hK hg1 | exact h4.keep hK hg1 | exact h5.keep hK hg1⟩, stayW (by decide) hIl (hcu.alloc _) hK, fun k y _ _ h => keepW hg1 (hcu.alloc _) hK k y h⟩
    · intro ll bb w' hs hlf hN hO hf hIl hA
      clear hi'
      have q0 := hf.kept (s := 0) (by rw [sizeW]; kernel_rfl) k0
      exact Rg.op_value (o := ⟨some 71, Op.move (Operand.tmp 0), _, _, _, _⟩) rfl rfl rfl ⟨_, rfl, (fun h => by cases h), (by show Act.eval bb _ = _; simp [Act.eval, q0]), sameW (by decide) hIl, fun _ _ _ _ h => h⟩
    · intro ll bb w' hs hlf hN hO hf hIl hA
      clear hi'
      have hcu := hIl.1
      have q3 : bb.tmps[71]? = some _ := hf.tmp (k := 12) rfl (by rw [ha]; decide) (hA 12 (by kernel_rfl))
      refine Rg.op_call (o := ⟨some 72, Op.call { callee := Callee.value (Operand.func 26), args := #[Operand.tmp 71, Operand.const (Value.int .i64 6)], argTypes := _ }, _, _, _, _⟩) rfl rfl (by clear hA hN; simp only [execOp, resolve]; go_simp) (below_any g ao cap bs 6 w' hcu (by omega)) ?_
      rintro e w2 ⟨y, rfl, hx0, hx1, hc2, hk2⟩
      obtain ⟨n, rfl⟩ := Int.eq_ofNat_of_zero_le hx0
      exact ⟨_, rfl, _, rfl, (fun h => by cases h), ⟨n, rfl, by omega⟩, stayW (by decide) hIl hc2 hk2, fun k y _ _ h => keepW hg1 hc2 hk2 k y h⟩
    · intro ll bb w' hs hlf hN hO hf hIl hA
      clear hi'
      obtain ⟨B, ps, hv, hpl, hB, hPB, hrows⟩ := hA 11 (by kernel_rfl)
      obtain ⟨n, hn, hn6⟩ := hA 13 (by kernel_rfl)
      have qt : bb.tmps[70]? = some _ := hf.tmp (k := 11) rfl (by rw [ha]; decide) hv
      have qn : bb.tmps[72]? = some _ := hf.tmp (k := 13) rfl (by rw [ha]; decide) hn
      have hn62 : (n : Int) < 6 := by omega
      obtain ⟨p, hp⟩ := some_of ps n (by omega)
      have hcell : ∀ k, k < 3 → w'.cell? ⟨B, n * 3 + k, none⟩ = (cells3 p)[k]? := fun k hk => by
        rw [hPB.cell, ← cellsLw_get ps n p k hp hk]; simp
      exact Rg.op_value (o := ⟨some 73, Op.indexAddr 25 (Operand.tmp 70) (Operand.tmp 72), _, _, _, _⟩) (x := .pointer (some ⟨B, n * 3, none⟩)) rfl rfl (by clear hA hN hv hn hPB hrows hpl hcell hp; simp only [execOp]; go_simp) ⟨_, rfl, (fun h => by cases h), ⟨B, n, p, rfl, hB, hcell 0 (by omega), hcell 1 (by omega), hcell 2 (by omega), hPB.lt, hrows p (List.mem_of_getElem? hp)⟩, sameW (by decide) hIl, fun _ _ _ _ h => h⟩
    · intro ll bb w' hs hlf hN hO hf hIl hA
      clear hi'
      obtain ⟨B, n, p, hv, hB, c0, c1, c2, hlt, hrow⟩ := hA 14 (by kernel_rfl)
      have qp : bb.tmps[73]? = some _ := hf.tmp (k := 14) rfl (by rw [ha]; decide) hv
      exact Rg.op_value (o := ⟨some 74, Op.load 31 (Operand.tmp 73), _, _, _, _⟩) (x := .agg #[p.2.1, p.2.2, .int .i64 p.1.thn]) rfl rfl (by clear hA hN hv hrow; simp only [execOp]; go_simp) ⟨_, rfl, (fun h => by cases h), ⟨p, rfl, hrow⟩, sameW (by decide) hIl, fun _ _ _ _ h => h⟩
    · intro ll bb w' hs hlf hN hO hf hIl hA
      clear hi'
      have hcu := hIl.1
      obtain ⟨p, hv, hrow⟩ := hA 15 (by kernel_rfl)
      have qp : bb.tmps[74]? = some _ := hf.tmp (k := 15) rfl (by rw [ha]; decide) hv
      unfold cells3 at qp
      have hK : Keep g w' (w'.alloc (.cells #[p.2.1, p.2.2, .int .i64 p.1.thn] 31)) := (Keep.refl g w').alloc _
      exact Rg.op_value (o := ⟨some 75, Op.buildSlice 25 1 #[(0, Operand.tmp 74)], _, _, _, _⟩) (x := .slice (some ⟨w'.heap.size, 0, none⟩) 1 1) (w' := w'.alloc (.cells #[p.2.1, p.2.2, .int .i64 p.1.thn] 31)) rfl rfl (by clear hA hN hv hrow; simp only [execOp]; go_simp) ⟨_, rfl, (fun h => by cases h), ⟨_, p, rfl, hIl.2.2.1, PB.new _ _ _, hrow.keep hK hg1⟩, stayW (by decide) hIl (hcu.alloc _) hK, fun k y _ _ h => keepW hg1 (hcu.alloc _) hK k y h⟩
    · intro ll bb w' hs hlf hN hO hf hIl hA
      clear hi'
      have hdl := hIl.2.2.2 hlf
      have q1 : bb.tmps[59]? = some _ := hf.tmp (k := 0) rfl (by rw [ha]; decide) (hA 0 (by kernel_rfl))
      obtain ⟨B, p, hz, hB, hPB, hrow⟩ := hA 16 (by kernel_rfl)
      have q7 : bb.tmps[75]? = some _ := hf.tmp (k := 16) rfl (by rw [ha]; decide) hz
      have hsz := hIl.2.2.1
      refine Rg.op_append (o := ⟨some 76, Op.call { callee := Callee.builtin Builtin.append, args := #[Operand.tmp 59, Operand.tmp 75], argTypes := #[25, 25] }, _, _, _, _⟩) rfl rfl (Operand.tmp 59) (Operand.tmp 75) 25 rfl w0.heap.size 31 j0 (.agg #[.slice none 0 0, .slice none 0 0, .int .i64 0]) 3 56 Try.underlying25 hj0 hy0 hy1 hy2 rfl (by decide) (.slice ad L.length c) L.length (cellsLw L) (by simp [Act.eval, q1]) hdl.own ⟨B, 0, none⟩ 1 1 (cells3 p) (by simp [Act.eval, q7]) rfl (fun j u hu => by rw [Addr.add_lit, Nat.zero_add, hPB.cell]; simpa using hu) hrow.one (by unfold maxLen; omega) (by omega) (Nat.le_trans hks hsz) ?_
      intro v2 w2 ho2 hg2 hat2
      obtain ⟨ad2, c2, rfl⟩ := ownW_slice ho2
      have hdl2 := hdl.app (p := p) ho2 hg2 (hrow.base hks)
      refine ⟨_, rfl, (fun h => by cases h), ⟨ad2, c2, p, rfl, hdl2⟩, ⟨hdl2.cur, hdl2.keep, Nat.le_trans hsz hg2.size, fun h => (by rw [Rg.set_self hs (by rw [sizeW]; decide)] at h; cases h)⟩, fun k y hk hkA h => ?_⟩
      have hfar : ∀ T, w1.heap.size ≤ T → ∀ k, (Value.slice ad L.length c).ownBlock = some k → k ≠ T := fun T hT k hk => by have := (hrk k hk).2; omega
      have hno : ∀ v l, NOw w' w1.heap.size v l → NOw w2 w1.heap.size v l := fun v l h => ⟨ownQ_grown h.1 hg2 (fun k hk => ownQ_apart h.1 hdl.own (by decide) k hk), h.2⟩
      have hao : ∀ p, AOw w' w1.heap.size p → AOw w2 w1.heap.size p := fun p h => h.grown hdl.own hg2
      have hcl : ∀ B o, w1.heap.size ≤ B → B < w'.heap.size → w2.cell? ⟨B, o, none⟩ = w'.cell? ⟨B, o, none⟩ := fun B o h1 h2 => World.cell?_of_block (hg2.block B h2 (fun e => hfar B h1 B e.symm rfl))
      clear hA hN
      unfold FW at h ⊢
      split at h <;> first
        | exact h
        | (obtain ⟨p, h1, h2⟩ := h; exact ⟨p, h1, hao p h2⟩)
        | (obtain ⟨l, h1⟩ := h; exact ⟨l, hno _ l h1⟩)
        | (obtain ⟨B, ps, h1, h2, h3, h4, h5⟩ := h; exact ⟨B, ps, h1, h2, h3, h4.grown hg2 (hfar B h3), fun p hp => hao p (h5 p hp)⟩)
        | (obtain ⟨B, n, p, h1, h2, h3, h4, h5, h6, h7⟩ := h; exact ⟨B, n, p, h1, h2, (hcl _ _ h2 h6).trans h3, (hcl _ _ h2 h6).trans h4, (hcl _ _ h2 h6).trans h5, Nat.lt_of_lt_of_le h6 hg2.size, hao p h7⟩)
        | (obtain ⟨B, p, h1, h2, h3, h4⟩ := h; exact ⟨B, p, h1, h2, h3.grown hg2 (hfar B h2), hao p h4⟩)
        | exact absurd rfl hk
        | (exfalso; have q : Rg.aftOf .any (Rg.opsOf Try.f18 14) 18 17 = true := by kernel_rfl
           rw [q] at hkA; cases hkA)
    · intro ll bb w' hs hlf hN hO hf hIl hA
      clear hi'
      obtain ⟨ad2, c2, p, hv, hdl⟩ := hA 17 (by kernel_rfl)
      have q7 : bb.tmps[76]? = some _ := hf.tmp (k := 17) rfl (by rw [ha]; decide) hv
      exact Rg.op_value (o := ⟨some 3, Op.assign (Operand.tmp 76), _, _, _, _⟩) rfl rfl rfl ⟨_, rfl, (fun h => by cases h), ⟨ad2, c2, p, (by show Act.eval bb _ = _; simp [Act.eval, q7]), hdl⟩, sameW (by decide) hIl, fun _ _ _ _ h => h⟩
theorem dW_0 : Rg.dstAt (Rg.opsOf Try.f18 14) 0 = some 59 := by kernel_rfl
theorem dW_1 : Rg.dstAt (Rg.opsOf Try.f18 14) 1 = some 60 := by kernel_rfl
theorem dW_2 : Rg.dstAt (Rg.opsOf Try.f18 14) 2 = some 61 := by kernel_rfl
theorem dW_3 : Rg.dstAt (Rg.opsOf Try.f18 14) 3 = some 62 := by kernel_rfl
theorem dW_4 : Rg.dstAt (Rg.opsOf Try.f18 14) 4 = some 63 := by kernel_rfl
theorem dW_5 : Rg.dstAt (Rg.opsOf Try.f18 14) 5 = some 64 := by kernel_rfl
theorem dW_6 : Rg.dstAt (Rg.opsOf Try.f18 14) 6 = some 65 := by kernel_rfl
theorem dW_7 : Rg.dstAt (Rg.opsOf Try.f18 14) 7 = some 66 := by kernel_rfl
theorem dW_8 : Rg.dstAt (Rg.opsOf Try.f18 14) 8 = some 67 := by kernel_rfl
theorem dW_9 : Rg.dstAt (Rg.opsOf Try.f18 14) 9 = some 68 := by kernel_rfl
theorem dW_10 : Rg.dstAt (Rg.opsOf Try.f18 14) 10 = some 69 := by kernel_rfl
theorem dW_11 : Rg.dstAt (Rg.opsOf Try.f18 14) 11 = some 70 := by kernel_rfl
theorem dW_12 : Rg.dstAt (Rg.opsOf Try.f18 14) 12 = some 71 := by kernel_rfl
theorem dW_13 : Rg.dstAt (Rg.opsOf Try.f18 14) 13 = some 72 := by kernel_rfl
theorem dW_14 : Rg.dstAt (Rg.opsOf Try.f18 14) 14 = some 73 := by kernel_rfl
theorem dW_15 : Rg.dstAt (Rg.opsOf Try.f18 14) 15 = some 74 := by kernel_rfl
theorem dW_16 : Rg.dstAt (Rg.opsOf Try.f18 14) 16 = some 75 := by kernel_rfl
theorem dW_17 : Rg.dstAt (Rg.opsOf Try.f18 14) 17 = some 76 := by kernel_rfl
theorem dW_18 : Rg.dstAt (Rg.opsOf Try.f18 14) 18 = some 3 := by kernel_rfl
theorem layW {a b : Act} (hf : Rg.Fr (Rg.opsOf Try.f18 14) a b) : b = (((((((((((((((((((a.put (some 59) (Rg.out (Rg.opsOf Try.f18 14) b 0)).put (some 60) (Rg.out (Rg.opsOf Try.f18 14) b 1)).put (some 61) (Rg.out (Rg.opsOf Try.f18 14) b 2)).put (some 62) (Rg.out (Rg.opsOf Try.f18 14) b 3)).put (some 63) (Rg.out (Rg.opsOf Try.f18 14) b 4)).put (some 64) (Rg.out (Rg.opsOf Try.f18 14) b 5)).put (some 65) (Rg.out (Rg.opsOf Try.f18 14) b 6)).put (some 66) (Rg.out (Rg.opsOf Try.f18 14) b 7)).put (some 67) (Rg.out (Rg.opsOf Try.f18 14) b 8)).put (some 68) (Rg.out (Rg.opsOf Try.f18 14) b 9)).put (some 69) (Rg.out (Rg.opsOf Try.f18 14) b 10)).put (some 70) (Rg.out (Rg.opsOf Try.f18 14) b 11)).put (some 71) (Rg.out (Rg.opsOf Try.f18 14) b 12)).put (some 72) (Rg.out (Rg.opsOf Try.f18 14) b 13)).put (some 73) (Rg.out (Rg.opsOf Try.f18 14) b 14)).put (some 74) (Rg.out (Rg.opsOf Try.f18 14) b 15)).put (some 75) (Rg.out (Rg.opsOf Try.f18 14) b 16)).put (some 76) (Rg.out (Rg.opsOf Try.f18 14) b 17)).put (some 3) (Rg.out (Rg.opsOf Try.f18 14) b 18)) := by
  have h := hf.chain
  rw [sizeW, show List.range 19 = [0, 1, 2, 3, 4, 5, 6, 7, 8, 9, 10, 11, 12, 13, 14, 15, 16, 17, 18] from by decide] at h
  simp only [List.foldl_cons, List.foldl_nil, dW_0, dW_1, dW_2, dW_3, dW_4, dW_5, dW_6, dW_7, dW_8, dW_9, dW_10, dW_11, dW_12, dW_13, dW_14, dW_15, dW_16, dW_17, dW_18] at h
  exact h
end Go.Proofs.Ytfhecdedanlmfaa
