/-
  A deed of the blood bank that is drawn of a cursor.
-/
import Derived.Test.YtaidhcbchpcemaaD7
namespace Go.Proofs.Ytaidhcbchpcemaa
open Go.RowKit Va Bl
set_option linter.all false

def FDb4 (n1 g : Nat)  (i9 : Nat) (v : Value) (w : World) : Prop :=
  match i9 with
  | 0 => ∃ T zs, v = .slice (some ⟨T, 0, none⟩) 6 6 ∧ zs.length = 6 ∧ n1 ≤ T ∧ Tb g w T zs
  | 1 => v = .pointer (some ⟨g, 0, none⟩)
  | 2 => ∃ n : Nat, v = .int .i64 n ∧ n < 6
  | 3 => ∃ T n zs, v = .pointer (some ⟨T, n, none⟩) ∧ n < zs.length ∧ n1 ≤ T ∧ Tb g w T zs
  | 4 => ∃ z : Int, v = .int .i64 z
  | 5 => v = .pointer (some ⟨g, 0, none⟩)
  | 6 => ∃ n : Nat, v = .int .i64 n ∧ n < 20
  | 7 => ∃ z : Int, v = .int .i64 z
  | 8 => v = .pointer (some ⟨g, 0, none⟩)
  | 9 => ∃ n : Nat, v = .int .i64 n ∧ n < 20
  | 10 => ∃ z : Int, v = .int .i64 z
  | 11 => ∃ z0 z1 z2 : Int, v = .agg #[.int .i64 z0, .int .i64 z1, .int .i64 z2]
  | 12 => ∃ B, v = .pointer (some ⟨B, 0, none⟩) ∧ n1 ≤ B ∧ PB w B #[.int .i64 0, .int .i64 0, .int .i64 0] 30
  | 13 => True
  | _ => True
theorem keepDb4 {n1 g : Nat}  {w w' : World} (hg : g < n1) (hk : Keep g w w') (k9 : Nat) (v : Value) (h : FDb4 n1 g  k9 v w) : FDb4 n1 g  k9 v w' := by
  unfold FDb4 at *
  split at h <;> first
    | exact h
    | (obtain ⟨T, zs, h1, h2, h3, h4⟩ := h; exact ⟨T, zs, h1, h2, h3, h4.keep hk⟩)
    | (obtain ⟨T, n, zs, h1, h2, h3, h4⟩ := h; exact ⟨T, n, zs, h1, h2, h3, h4.keep hk⟩)
    | (obtain ⟨B, h1, h2, h3⟩ := h; exact ⟨B, h1, h2, h3.keep hk (by omega)⟩)
    | (obtain ⟨B, y1, h1, h2, h3⟩ := h; exact ⟨B, y1, h1, h2, h3.keep hk (by omega)⟩)
    | (obtain ⟨B, y1, y2, h1, h2, h3⟩ := h; exact ⟨B, y1, y2, h1, h2, h3.keep hk (by omega)⟩)
    | (obtain ⟨B, y1, y2, y3, h1, h2, h3⟩ := h; exact ⟨B, y1, y2, y3, h1, h2, h3.keep hk (by omega)⟩)
    | (obtain ⟨B, y1, y2, y3, y4, h1, h2, h3⟩ := h; exact ⟨B, y1, y2, y3, y4, h1, h2, h3.keep hk (by omega)⟩)
theorem sizeDb4 : (Rg.opsOf Try.f13 4).size = 14 := by kernel_rfl

set_option maxRecDepth 20000 in
set_option maxHeartbeats 8000000 in
theorem regDb4 {Q : Exit → Act → World → Prop} {a : Act} {w1 : World} {g : Nat} {ao : Option Addr} {cap : Nat} {bs : List Int}  (ha : a.tmps.size = 85)
    (k5 : a.tmps[5]? = some (.pointer (some ⟨g, 0, none⟩))) (hc : Cur w1 g ao cap bs) 
    (hend : ∀ b' w' (B : Nat) (y : Da), Rg.Fr (Rg.opsOf Try.f13 4) a b' → Cur w' g ao cap bs → Keep g w1 w' → Rg.out (Rg.opsOf Try.f13 4) b' 12 = .pointer (some ⟨B, 0, none⟩) → w1.heap.size ≤ B → PB w' B #[.int .i64 0, .int .i64 0, .int .i64 0] 30 → Q .normal b' (((w'.setCell ⟨B, 0, none⟩ (.int .i64 y.k)).setCell ⟨B, 1, none⟩ (.int .i64 y.id)).setCell ⟨B, 2, none⟩ (.int .i64 y.t))) :
    (Code.region 4 (Rg.opsOf Try.f13 4) true).wp Try.prog Q a w1 := by
  have hg1 : g < w1.heap.size := hc.1
  refine Rg.region_by 13 (by kernel_rfl) (fun w' => Cur w' g ao cap bs ∧ Keep g w1 w') (FDb4 w1.heap.size g ) (by rw [ha]; kernel_rfl) ⟨hc.drewN 1, (Keep.refl g w1).drewN 1⟩ ?_ ?_ ?_
  case refine_3 => exact fun h => absurd h (by rw [sizeDb4]; decide)
  case refine_2 =>
    intro _ bb w' hf hI hA
    rw [sizeDb4] at hA
    obtain ⟨z27_0, z27_1, z27_2, hv27⟩ := hA 11 (by decide) (by decide)
    have q27 : bb.tmps[27]? = some _ := hf.tmp (k := 11) rfl (by rw [ha]; decide) hv27
    obtain ⟨B8, hv8, hB8, hP8⟩ := hA 12 (by decide) (by decide)
    have q8 : bb.tmps[8]? = some _ := hf.tmp (k := 12) rfl (by rw [ha]; decide) hv8
    have hE := hend bb w' B8 ⟨z27_0, z27_1, z27_2⟩ hf hI.1 hI.2 hv8 hB8 hP8
    obtain ⟨e0, e1, e2⟩ := hP8.three
    obtain ⟨f0, f1, f2, -⟩ := hP8.cold
    clear hA hend hf hI hv8 hv27 hP8
    refine Rg.op_skip (o := ⟨none, Op.store 30 (Operand.tmp 8) (Operand.tmp 27), _, _, _, _⟩) (w' := ((w'.setCell ⟨B8, 0, none⟩ (.int .i64 z27_0)).setCell ⟨B8, 1, none⟩ (.int .i64 z27_1)).setCell ⟨B8, 2, none⟩ (.int .i64 z27_2)) rfl rfl ?_ hE
    clear hE
    simp only [execOp]
    go_simp

  case refine_1 =>
    clear hend
    have HS : ∀ {w w' : World}, Keep g w w' → ∀ k9 y9, FDb4 w1.heap.size g  k9 y9 w → FDb4 w1.heap.size g  k9 y9 w' := fun hb k9 y9 h => keepDb4 hg1 hb k9 y9 h
    intro i' hi' hne
    rw [sizeDb4] at hi'
    rcases (show i' = 0 ∨ i' = 1 ∨ i' = 2 ∨ i' = 3 ∨ i' = 4 ∨ i' = 5 ∨ i' = 6 ∨ i' = 7 ∨ i' = 8 ∨ i' = 9 ∨ i' = 10 ∨ i' = 11 ∨ i' = 12 by omega) with rfl | rfl | rfl | rfl | rfl | rfl | rfl | rfl | rfl | rfl | rfl | rfl | rfl
    · intro bb w' hf hI hA
      clear hi' hne
      have hK : Keep g w' (w'.alloc (.cells #[.int .i64 1, .int .i64 1, .int .i64 2, .int .i64 3, .int .i64 3, .int .i64 4] 2)) := (Keep.refl g w').alloc _
      have hT := Tb.new (g := g) (w := w') [1, 1, 2, 3, 3, 4] hI.1.1
      exact Rg.op_value (o := ⟨some 16, Op.buildSlice 26 6 #[(0, (Operand.const (Value.int .i64 1))), (1, (Operand.const (Value.int .i64 1))), (2, (Operand.const (Value.int .i64 2))), (3, (Operand.const (Value.int .i64 3))), (4, (Operand.const (Value.int .i64 3))), (5, (Operand.const (Value.int .i64 4)))], _, _, _, _⟩) (x := .slice (some ⟨w'.heap.size, 0, none⟩) 6 6) (w' := w'.alloc (.cells #[.int .i64 1, .int .i64 1, .int .i64 2, .int .i64 3, .int .i64 3, .int .i64 4] 2)) rfl rfl (by clear hA HS; simp only [execOp]; go_simp) ⟨_, rfl, (fun h => by cases h), ⟨_, _, rfl, rfl, hI.2.size, hT⟩, ⟨(hI.1.alloc _), hI.2.trans hK⟩, HS hK⟩
    · intro bb w' hf hI hA
      clear hi' hne
      have q5 := hf.kept (s := 5) (by rw [sizeDb4]; kernel_rfl) k5
      exact Rg.op_value (o := ⟨some 17, Op.move (Operand.tmp 5), _, _, _, _⟩) (x := .pointer (some ⟨g, 0, none⟩)) rfl rfl (by clear hA HS ; simp only [execOp]; go_simp) ⟨_, rfl, (fun h => by cases h), rfl, hI, fun _ _ h => h⟩
    · intro bb w' hf hI hA
      clear hi' hne
      have q17 : bb.tmps[17]? = some _ := hf.tmp (k := 1) rfl (by rw [ha]; decide) (hA 1 (by kernel_rfl))
      refine Rg.op_call (o := ⟨some 18, Op.call { callee := Callee.value (Operand.func 34), args := #[(Operand.tmp 17), (Operand.const (Value.int .i64 6))], argTypes := _ }, _, _, _, _⟩) rfl rfl (by clear hA HS  ; simp only [execOp, resolve]; go_simp) (below_any g ao cap bs 6 w' hI.1 (by omega)) ?_
      rintro e w2 ⟨y, rfl, hx0, hx1, hc2, hk2⟩
      obtain ⟨n, rfl⟩ := Int.eq_ofNat_of_zero_le hx0
      exact ⟨_, rfl, _, rfl, (fun h => by cases h), ⟨n, rfl, by omega⟩, ⟨hc2, hI.2.trans hk2⟩, HS hk2⟩
    · intro bb w' hf hI hA
      clear hi' hne
      obtain ⟨T16, zs16, hv16, hl16, hT16, hb16⟩ := hA 0 (by kernel_rfl)
      have q16 : bb.tmps[16]? = some _ := hf.tmp (k := 0) rfl (by rw [ha]; decide) hv16
      obtain ⟨n18, hv18, hn18⟩ := hA 2 (by kernel_rfl)
      have q18 : bb.tmps[18]? = some _ := hf.tmp (k := 2) rfl (by rw [ha]; decide) hv18
      have hnl : (n18 : Int) < 6 := by omega
      exact Rg.op_value (o := ⟨some 19, Op.indexAddr 26 (Operand.tmp 16) (Operand.tmp 18), _, _, _, _⟩) (x := .pointer (some ⟨T16, n18, none⟩)) rfl rfl (by clear hA HS hv16  hv18  hb16 hl16; simp only [execOp]; go_simp) ⟨_, rfl, (fun h => by cases h), ⟨T16, n18, zs16, rfl, by omega, hT16, hb16⟩, hI, fun _ _ h => h⟩
    · intro bb w' hf hI hA
      clear hi' hne
      obtain ⟨T19, n19, zs19, hv19, hl19, hT19, hb19⟩ := hA 3 (by kernel_rfl)
      have q19 : bb.tmps[19]? = some _ := hf.tmp (k := 3) rfl (by rw [ha]; decide) hv19
      have hcell := hb19.at hl19
      generalize hz : zs19[n19] = z at hcell
      exact Rg.op_value (o := ⟨some 20, Op.load 2 (Operand.tmp 19), _, _, _, _⟩) (x := .int .i64 z) rfl rfl (by clear hA HS hv19  hb19 hz; simp only [execOp]; go_simp) ⟨_, rfl, (fun h => by cases h), ⟨z, rfl⟩, hI, fun _ _ h => h⟩
    · intro bb w' hf hI hA
      clear hi' hne
      have q5 := hf.kept (s := 5) (by rw [sizeDb4]; kernel_rfl) k5
      exact Rg.op_value (o := ⟨some 21, Op.move (Operand.tmp 5), _, _, _, _⟩) (x := .pointer (some ⟨g, 0, none⟩)) rfl rfl (by clear hA HS ; simp only [execOp]; go_simp) ⟨_, rfl, (fun h => by cases h), rfl, hI, fun _ _ h => h⟩
    · intro bb w' hf hI hA
      clear hi' hne
      have q21 : bb.tmps[21]? = some _ := hf.tmp (k := 5) rfl (by rw [ha]; decide) (hA 5 (by kernel_rfl))
      refine Rg.op_call (o := ⟨some 22, Op.call { callee := Callee.value (Operand.func 34), args := #[(Operand.tmp 21), (Operand.const (Value.int .i64 20))], argTypes := _ }, _, _, _, _⟩) rfl rfl (by clear hA HS  ; simp only [execOp, resolve]; go_simp) (below_any g ao cap bs 20 w' hI.1 (by omega)) ?_
      rintro e w2 ⟨y, rfl, hx0, hx1, hc2, hk2⟩
      obtain ⟨n, rfl⟩ := Int.eq_ofNat_of_zero_le hx0
      exact ⟨_, rfl, _, rfl, (fun h => by cases h), ⟨n, rfl, by omega⟩, ⟨hc2, hI.2.trans hk2⟩, HS hk2⟩
    · intro bb w' hf hI hA
      clear hi' hne
      obtain ⟨n22, hv22, hn22⟩ := hA 6 (by kernel_rfl)
      have q22 : bb.tmps[22]? = some _ := hf.tmp (k := 6) rfl (by rw [ha]; decide) hv22
      exact Rg.op_value (o := ⟨some 23, Op.binOp BinOp.add 2 (Operand.const (Value.int .i64 1)) (Operand.tmp 22) 2, _, _, _, _⟩) (x := .int .i64 (IntKind.i64.wrap (1 + (n22 : Nat)))) rfl rfl (by clear hA HS  hv22 ; simp only [execOp]; go_simp) ⟨_, rfl, (fun h => by cases h), ⟨_, rfl⟩, hI, fun _ _ h => h⟩
    · intro bb w' hf hI hA
      clear hi' hne
      have q5 := hf.kept (s := 5) (by rw [sizeDb4]; kernel_rfl) k5
      exact Rg.op_value (o := ⟨some 24, Op.move (Operand.tmp 5), _, _, _, _⟩) (x := .pointer (some ⟨g, 0, none⟩)) rfl rfl (by clear hA HS ; simp only [execOp]; go_simp) ⟨_, rfl, (fun h => by cases h), rfl, hI, fun _ _ h => h⟩
    · intro bb w' hf hI hA
      clear hi' hne
      have q24 : bb.tmps[24]? = some _ := hf.tmp (k := 8) rfl (by rw [ha]; decide) (hA 8 (by kernel_rfl))
      refine Rg.op_call (o := ⟨some 25, Op.call { callee := Callee.value (Operand.func 34), args := #[(Operand.tmp 24), (Operand.const (Value.int .i64 20))], argTypes := _ }, _, _, _, _⟩) rfl rfl (by clear hA HS  ; simp only [execOp, resolve]; go_simp) (below_any g ao cap bs 20 w' hI.1 (by omega)) ?_
      rintro e w2 ⟨y, rfl, hx0, hx1, hc2, hk2⟩
      obtain ⟨n, rfl⟩ := Int.eq_ofNat_of_zero_le hx0
      exact ⟨_, rfl, _, rfl, (fun h => by cases h), ⟨n, rfl, by omega⟩, ⟨hc2, hI.2.trans hk2⟩, HS hk2⟩
    · intro bb w' hf hI hA
      clear hi' hne
      obtain ⟨n25, hv25, hn25⟩ := hA 9 (by kernel_rfl)
      have q25 : bb.tmps[25]? = some _ := hf.tmp (k := 9) rfl (by rw [ha]; decide) hv25
      exact Rg.op_value (o := ⟨some 26, Op.binOp BinOp.mul 2 (Operand.const (Value.int .i64 10)) (Operand.tmp 25) 2, _, _, _, _⟩) (x := .int .i64 (IntKind.i64.wrap (10 * (n25 : Nat)))) rfl rfl (by clear hA HS  hv25 ; simp only [execOp]; go_simp) ⟨_, rfl, (fun h => by cases h), ⟨_, rfl⟩, hI, fun _ _ h => h⟩
    · intro bb w' hf hI hA
      clear hi' hne
      obtain ⟨z20, hv20⟩ := hA 4 (by kernel_rfl)
      have q20 : bb.tmps[20]? = some _ := hf.tmp (k := 4) rfl (by rw [ha]; decide) hv20
      obtain ⟨z23, hv23⟩ := hA 7 (by kernel_rfl)
      have q23 : bb.tmps[23]? = some _ := hf.tmp (k := 7) rfl (by rw [ha]; decide) hv23
      obtain ⟨z26, hv26⟩ := hA 10 (by kernel_rfl)
      have q26 : bb.tmps[26]? = some _ := hf.tmp (k := 10) rfl (by rw [ha]; decide) hv26
      exact Rg.op_value (o := ⟨some 27, Op.build 30 #[(0, (Operand.tmp 20)), (1, (Operand.tmp 23)), (2, (Operand.tmp 26))], _, _, _, _⟩) (x := .agg #[.int .i64 z20, .int .i64 z23, .int .i64 z26]) rfl rfl (by clear hA HS hv20  hv23  hv26 ; simp only [execOp]; go_simp) ⟨_, rfl, (fun h => by cases h), ⟨_, _, _, rfl⟩, hI, fun _ _ h => h⟩
    · intro bb w' hf hI hA
      clear hi' hne
      have hK : Keep g w' (w'.alloc (.cells #[.int .i64 0, .int .i64 0, .int .i64 0] 30)) := (Keep.refl g w').alloc _
      exact Rg.op_value (o := ⟨some 8, Op.alloc 30, _, _, _, _⟩) (x := .pointer (some ⟨w'.heap.size, 0, none⟩)) (w' := w'.alloc (.cells #[.int .i64 0, .int .i64 0, .int .i64 0] 30)) rfl rfl (by clear hA HS; simp only [execOp]; go_simp) ⟨_, rfl, (fun h => by cases h), ⟨_, rfl, hI.2.size, PB.new _ _ _⟩, ⟨(hI.1.alloc _), hI.2.trans hK⟩, HS hK⟩

theorem dDb4_0 : Rg.dstAt (Rg.opsOf Try.f13 4) 0 = some 16 := by kernel_rfl
theorem dDb4_1 : Rg.dstAt (Rg.opsOf Try.f13 4) 1 = some 17 := by kernel_rfl
theorem dDb4_2 : Rg.dstAt (Rg.opsOf Try.f13 4) 2 = some 18 := by kernel_rfl
theorem dDb4_3 : Rg.dstAt (Rg.opsOf Try.f13 4) 3 = some 19 := by kernel_rfl
theorem dDb4_4 : Rg.dstAt (Rg.opsOf Try.f13 4) 4 = some 20 := by kernel_rfl
theorem dDb4_5 : Rg.dstAt (Rg.opsOf Try.f13 4) 5 = some 21 := by kernel_rfl
theorem dDb4_6 : Rg.dstAt (Rg.opsOf Try.f13 4) 6 = some 22 := by kernel_rfl
theorem dDb4_7 : Rg.dstAt (Rg.opsOf Try.f13 4) 7 = some 23 := by kernel_rfl
theorem dDb4_8 : Rg.dstAt (Rg.opsOf Try.f13 4) 8 = some 24 := by kernel_rfl
theorem dDb4_9 : Rg.dstAt (Rg.opsOf Try.f13 4) 9 = some 25 := by kernel_rfl
theorem dDb4_10 : Rg.dstAt (Rg.opsOf Try.f13 4) 10 = some 26 := by kernel_rfl
theorem dDb4_11 : Rg.dstAt (Rg.opsOf Try.f13 4) 11 = some 27 := by kernel_rfl
theorem dDb4_12 : Rg.dstAt (Rg.opsOf Try.f13 4) 12 = some 8 := by kernel_rfl
theorem dDb4_13 : Rg.dstAt (Rg.opsOf Try.f13 4) 13 = none := by kernel_rfl
theorem pnDb4 (a : Act) (v : Value) : a.put none v = a := rfl
theorem layDb4 {a b : Act} (hf : Rg.Fr (Rg.opsOf Try.f13 4) a b) : b = (((((((((((((a.put (some 16) (Rg.out (Rg.opsOf Try.f13 4) b 0)).put (some 17) (Rg.out (Rg.opsOf Try.f13 4) b 1)).put (some 18) (Rg.out (Rg.opsOf Try.f13 4) b 2)).put (some 19) (Rg.out (Rg.opsOf Try.f13 4) b 3)).put (some 20) (Rg.out (Rg.opsOf Try.f13 4) b 4)).put (some 21) (Rg.out (Rg.opsOf Try.f13 4) b 5)).put (some 22) (Rg.out (Rg.opsOf Try.f13 4) b 6)).put (some 23) (Rg.out (Rg.opsOf Try.f13 4) b 7)).put (some 24) (Rg.out (Rg.opsOf Try.f13 4) b 8)).put (some 25) (Rg.out (Rg.opsOf Try.f13 4) b 9)).put (some 26) (Rg.out (Rg.opsOf Try.f13 4) b 10)).put (some 27) (Rg.out (Rg.opsOf Try.f13 4) b 11)).put (some 8) (Rg.out (Rg.opsOf Try.f13 4) b 12)) := by
  have h := hf.chain
  rw [sizeDb4, show List.range 14 = [0, 1, 2, 3, 4, 5, 6, 7, 8, 9, 10, 11, 12, 13] from by decide] at h
  simp only [List.foldl_cons, List.foldl_nil, dDb4_0, dDb4_1, dDb4_2, dDb4_3, dDb4_4, dDb4_5, dDb4_6, dDb4_7, dDb4_8, dDb4_9, dDb4_10, dDb4_11, dDb4_12, dDb4_13, pnDb4] at h
  exact h
end Go.Proofs.Ytaidhcbchpcemaa
