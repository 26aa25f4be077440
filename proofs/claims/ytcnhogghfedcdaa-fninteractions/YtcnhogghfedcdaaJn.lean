/-
  A dose given, drawn: the region that draws its order.
-/
import Derived.Test.YtcnhogghfedcdaaJm
namespace Go.Proofs.Ytcnhogghfedcdaa
open Go.RowKit Va Ga
set_option linter.unusedVariables false

def FG8 (n1 g : Nat) (V : Nat) (x : Dg) (ad : Option Addr) (c : Nat) (t : Int) (i9 : Nat) (v : Value) (w : World) : Prop :=
  match i9 with
  | 0 => v = .pointer (some ⟨V, 0, none⟩)
  | 1 => v = .int .i64 x.id
  | 2 => v = .int .i64 t
  | 3 => v = .pointer (some ⟨g, 0, none⟩)
  | 4 => ∃ z : Int, v = .int .i64 z
  | 5 => ∃ z : Int, v = .int .i64 z
  | 6 => ∃ z : Int, v = .int .i64 z
  | 7 => ∃ z : Int, v = .int .i64 z
  | 8 => v = .pointer (some ⟨g, 0, none⟩)
  | 9 => ∃ n : Nat, v = .int .i64 n ∧ n < 300
  | 10 => ∃ z : Int, v = .int .i64 z
  | 11 => ∃ z0 z1 z2 : Int, v = .agg #[.int .i64 z0, .int .i64 z1, .int .i64 z2]
  | 12 => ∃ B, v = .pointer (some ⟨B, 0, none⟩) ∧ n1 ≤ B ∧ PB w B #[.int .i64 0, .int .i64 0, .int .i64 0] 49
  | 13 => True
  | _ => True
theorem keepG8 {n1 g : Nat} {V : Nat} {x : Dg} {ad : Option Addr} {c : Nat} {t : Int} {w w' : World} (hg : g < n1) (hk : Keep g w w') (k9 : Nat) (v : Value) (h : FG8 n1 g V x ad c t k9 v w) : FG8 n1 g V x ad c t k9 v w' := by
  unfold FG8 at *
  split at h <;> first
    | exact h
    | (obtain ⟨T, zs, h1, h2, h3, h4⟩ := h; exact ⟨T, zs, h1, h2, h3, h4.keep hk⟩)
    | (obtain ⟨T, n, zs, h1, h2, h3, h4⟩ := h; exact ⟨T, n, zs, h1, h2, h3, h4.keep hk⟩)
    | (obtain ⟨B, h1, h2, h3⟩ := h; exact ⟨B, h1, h2, h3.keep hk (by omega)⟩)
    | (obtain ⟨B, y1, h1, h2, h3⟩ := h; exact ⟨B, y1, h1, h2, h3.keep hk (by omega)⟩)
    | (obtain ⟨B, y1, y2, h1, h2, h3⟩ := h; exact ⟨B, y1, y2, h1, h2, h3.keep hk (by omega)⟩)
    | (obtain ⟨B, y1, y2, y3, h1, h2, h3⟩ := h; exact ⟨B, y1, y2, y3, h1, h2, h3.keep hk (by omega)⟩)
    | (obtain ⟨B, y1, y2, y3, y4, h1, h2, h3⟩ := h; exact ⟨B, y1, y2, y3, y4, h1, h2, h3.keep hk (by omega)⟩)
theorem sizeG8 : (Rg.opsOf Try.f17 8).size = 14 := by kernel_rfl

set_option maxRecDepth 20000 in
set_option maxHeartbeats 8000000 in
theorem regG8 {Q : Exit → Act → World → Prop} {a : Act} {w1 : World} {g : Nat} {ao : Option Addr} {cap : Nat} {bs : List Int} {V : Nat} {x : Dg} {ad : Option Addr} {c : Nat} {t : Int} (ha : a.tmps.size = 113)
    (k7 : a.tmps[7]? = some (.pointer (some ⟨V, 0, none⟩))) (k8 : a.tmps[8]? = some (.int .i64 t)) (k6 : a.tmps[6]? = some (.pointer (some ⟨g, 0, none⟩))) (hc : Cur w1 g ao cap bs) (hV : PB w1 V #[.int .i64 x.id, .slice ad x.cls.length c, .int .i64 x.pk, .int .i64 x.most, .int .i64 x.day, .int .i64 x.kid] 26) (hVg : V ≠ g)
    (hend : ∀ b' w' (B : Nat) (y : Gv), Rg.Fr (Rg.opsOf Try.f17 8) a b' → Cur w' g ao cap bs → Keep g w1 w' → Rg.out (Rg.opsOf Try.f17 8) b' 12 = .pointer (some ⟨B, 0, none⟩) → w1.heap.size ≤ B → PB w' B #[.int .i64 0, .int .i64 0, .int .i64 0] 49 → Q .normal b' (((w'.setCell ⟨B, 0, none⟩ (.int .i64 y.d)).setCell ⟨B, 1, none⟩ (.int .i64 y.t)).setCell ⟨B, 2, none⟩ (.int .i64 y.n))) :
    (Code.region 8 (Rg.opsOf Try.f17 8) true).wp Try.prog Q a w1 := by
  have hg1 : g < w1.heap.size := hc.1
  refine Rg.region_by 13 (by kernel_rfl) (fun w' => Cur w' g ao cap bs ∧ Keep g w1 w') (FG8 w1.heap.size g V x ad c t) (by rw [ha]; kernel_rfl) ⟨hc.drewN 1, (Keep.refl g w1).drewN 1⟩ ?_ ?_ ?_
  case refine_3 => exact fun h => absurd h (by rw [sizeG8]; decide)
  case refine_2 =>
    intro _ bb w' hf hI hA
    rw [sizeG8] at hA
    obtain ⟨z39_0, z39_1, z39_2, hv39⟩ := hA 11 (by decide) (by decide)
    have q39 : bb.tmps[39]? = some _ := hf.tmp (k := 11) rfl (by rw [ha]; decide) hv39
    obtain ⟨B11, hv11, hB11, hP11⟩ := hA 12 (by decide) (by decide)
    have q11 : bb.tmps[11]? = some _ := hf.tmp (k := 12) rfl (by rw [ha]; decide) hv11
    have hE := hend bb w' B11 ⟨z39_0, z39_1, z39_2⟩ hf hI.1 hI.2 hv11 hB11 hP11
    obtain ⟨e0, e1, e2⟩ := hP11.three
    obtain ⟨f0, f1, f2, -⟩ := hP11.cold
    clear hA hend hf hI hv11 hv39 hP11
    refine Rg.op_skip (o := ⟨none, Op.store 49 (Operand.tmp 11) (Operand.tmp 39), _, _, _, _⟩) (w' := ((w'.setCell ⟨B11, 0, none⟩ (.int .i64 z39_0)).setCell ⟨B11, 1, none⟩ (.int .i64 z39_1)).setCell ⟨B11, 2, none⟩ (.int .i64 z39_2)) rfl rfl ?_ hE
    clear hE
    simp only [execOp]
    go_simp
  case refine_1 =>
    clear hend
    have HS : ∀ {w w' : World}, Keep g w w' → ∀ k9 y9, FG8 w1.heap.size g V x ad c t k9 y9 w → FG8 w1.heap.size g V x ad c t k9 y9 w' := fun hb k9 y9 h => keepG8 hg1 hb k9 y9 h
    intro i' hi' hne
    rw [sizeG8] at hi'
    rcases (show i' = 0 ∨ i' = 1 ∨ i' = 2 ∨ i' = 3 ∨ i' = 4 ∨ i' = 5 ∨ i' = 6 ∨ i' = 7 ∨ i' = 8 ∨ i' = 9 ∨ i' = 10 ∨ i' = 11 ∨ i' = 12 by omega) with rfl | rfl | rfl | rfl | rfl | rfl | rfl | rfl | rfl | rfl | rfl | rfl | rfl
    · intro bb w' hf hI hA
      clear hi' hne
      have q7 := hf.kept (s := 7) (by rw [sizeG8]; kernel_rfl) k7
      exact Rg.op_value (o := ⟨some 28, Op.fieldAddr 26 (Operand.tmp 7) 0, _, _, _, _⟩) (x := .pointer (some ⟨V, 0, none⟩)) rfl rfl (by clear hA HS ; simp only [execOp]; go_simp) ⟨_, rfl, (fun h => by cases h), rfl, hI, fun _ _ h => h⟩
    · intro bb w' hf hI hA
      clear hi' hne
      have q28 : bb.tmps[28]? = some _ := hf.tmp (k := 0) rfl (by rw [ha]; decide) (hA 0 (by kernel_rfl))
      obtain ⟨e0, e1, e2, e3, e4, e5⟩ := (hV.keep hI.2 hVg).six
      exact Rg.op_value (o := ⟨some 29, Op.load 2 (Operand.tmp 28), _, _, _, _⟩) (x := .int .i64 x.id) rfl rfl (by clear hA HS ; simp only [execOp]; go_simp) ⟨_, rfl, (fun h => by cases h), rfl, hI, fun _ _ h => h⟩
    · intro bb w' hf hI hA
      clear hi' hne
      have q8 := hf.kept (s := 8) (by rw [sizeG8]; kernel_rfl) k8
      exact Rg.op_value (o := ⟨some 30, Op.move (Operand.tmp 8), _, _, _, _⟩) (x := .int .i64 t) rfl rfl (by clear hA HS ; simp only [execOp]; go_simp) ⟨_, rfl, (fun h => by cases h), rfl, hI, fun _ _ h => h⟩
    · intro bb w' hf hI hA
      clear hi' hne
      have q6 := hf.kept (s := 6) (by rw [sizeG8]; kernel_rfl) k6
      exact Rg.op_value (o := ⟨some 31, Op.move (Operand.tmp 6), _, _, _, _⟩) (x := .pointer (some ⟨g, 0, none⟩)) rfl rfl (by clear hA HS ; simp only [execOp]; go_simp) ⟨_, rfl, (fun h => by cases h), rfl, hI, fun _ _ h => h⟩
    · intro bb w' hf hI hA
      clear hi' hne
      have q31 : bb.tmps[31]? = some _ := hf.tmp (k := 3) rfl (by rw [ha]; decide) (hA 3 (by kernel_rfl))
      refine Rg.op_call (o := ⟨some 32, Op.call { callee := Callee.value (Operand.func 44), args := #[(Operand.tmp 31), (Operand.const (Value.int IntKind.i64 (-60))), (Operand.const (Value.int .i64 60))], argTypes := _ }, _, _, _, _⟩) rfl rfl (by clear hA HS   ; simp only [execOp, resolve]; go_simp) (from_any g ao cap bs (-60) 60 w' hI.1 (by omega) (by omega) (by omega)) ?_
      rintro e w2 ⟨y, rfl, hx0, hx1, hc2, hk2⟩
      exact ⟨_, rfl, _, rfl, (fun h => by cases h), ⟨_, rfl⟩, ⟨hc2, hI.2.trans hk2⟩, HS hk2⟩
    · intro bb w' hf hI hA
      clear hi' hne
      obtain ⟨z32, hv32⟩ := hA 4 (by kernel_rfl)
      have q32 : bb.tmps[32]? = some _ := hf.tmp (k := 4) rfl (by rw [ha]; decide) hv32
      exact Rg.op_value (o := ⟨some 33, Op.binOp BinOp.mul 2 (Operand.const (Value.int .i64 30)) (Operand.tmp 32) 2, _, _, _, _⟩) (x := .int .i64 (IntKind.i64.wrap (30 * z32))) rfl rfl (by clear hA HS  hv32 ; simp only [execOp]; go_simp) ⟨_, rfl, (fun h => by cases h), ⟨_, rfl⟩, hI, fun _ _ h => h⟩
    · intro bb w' hf hI hA
      clear hi' hne
      have q30 : bb.tmps[30]? = some _ := hf.tmp (k := 2) rfl (by rw [ha]; decide) (hA 2 (by kernel_rfl))
      obtain ⟨z33, hv33⟩ := hA 5 (by kernel_rfl)
      have q33 : bb.tmps[33]? = some _ := hf.tmp (k := 5) rfl (by rw [ha]; decide) hv33
      exact Rg.op_value (o := ⟨some 34, Op.binOp BinOp.add 2 (Operand.tmp 30) (Operand.tmp 33) 2, _, _, _, _⟩) (x := .int .i64 (IntKind.i64.wrap (t + z33))) rfl rfl (by clear hA HS  hv33 ; simp only [execOp]; go_simp) ⟨_, rfl, (fun h => by cases h), ⟨_, rfl⟩, hI, fun _ _ h => h⟩
    · intro bb w' hf hI hA
      clear hi' hne
      obtain ⟨z34, hv34⟩ := hA 6 (by kernel_rfl)
      have q34 : bb.tmps[34]? = some _ := hf.tmp (k := 6) rfl (by rw [ha]; decide) hv34
      refine Rg.op_call (o := ⟨some 35, Op.call { callee := Callee.value (Operand.func 43), args := #[(Operand.const (Value.int .i64 0)), (Operand.tmp 34)], argTypes := _ }, _, _, _, _⟩) rfl rfl (by clear hA HS  hv34 ; simp only [execOp, resolve]; go_simp) (smax_any (0) (z34) w') ?_
      rintro e w2 ⟨rfl, rfl⟩
      exact ⟨_, rfl, _, rfl, (fun h => by cases h), ⟨_, rfl⟩, hI, fun _ _ h => h⟩
    · intro bb w' hf hI hA
      clear hi' hne
      have q6 := hf.kept (s := 6) (by rw [sizeG8]; kernel_rfl) k6
      exact Rg.op_value (o := ⟨some 36, Op.move (Operand.tmp 6), _, _, _, _⟩) (x := .pointer (some ⟨g, 0, none⟩)) rfl rfl (by clear hA HS ; simp only [execOp]; go_simp) ⟨_, rfl, (fun h => by cases h), rfl, hI, fun _ _ h => h⟩
    · intro bb w' hf hI hA
      clear hi' hne
      have q36 : bb.tmps[36]? = some _ := hf.tmp (k := 8) rfl (by rw [ha]; decide) (hA 8 (by kernel_rfl))
      refine Rg.op_call (o := ⟨some 37, Op.call { callee := Callee.value (Operand.func 31), args := #[(Operand.tmp 36), (Operand.const (Value.int .i64 300))], argTypes := _ }, _, _, _, _⟩) rfl rfl (by clear hA HS  ; simp only [execOp, resolve]; go_simp) (below_any g ao cap bs 300 w' hI.1 (by omega)) ?_
      rintro e w2 ⟨y, rfl, hx0, hx1, hc2, hk2⟩
      obtain ⟨n, rfl⟩ := Int.eq_ofNat_of_zero_le hx0
      exact ⟨_, rfl, _, rfl, (fun h => by cases h), ⟨n, rfl, by omega⟩, ⟨hc2, hI.2.trans hk2⟩, HS hk2⟩
    · intro bb w' hf hI hA
      clear hi' hne
      obtain ⟨n37, hv37, hn37⟩ := hA 9 (by kernel_rfl)
      have q37 : bb.tmps[37]? = some _ := hf.tmp (k := 9) rfl (by rw [ha]; decide) hv37
      exact Rg.op_value (o := ⟨some 38, Op.binOp BinOp.add 2 (Operand.const (Value.int .i64 1)) (Operand.tmp 37) 2, _, _, _, _⟩) (x := .int .i64 (IntKind.i64.wrap (1 + (n37 : Nat)))) rfl rfl (by clear hA HS  hv37 ; simp only [execOp]; go_simp) ⟨_, rfl, (fun h => by cases h), ⟨_, rfl⟩, hI, fun _ _ h => h⟩
    · intro bb w' hf hI hA
      clear hi' hne
      have q29 : bb.tmps[29]? = some _ := hf.tmp (k := 1) rfl (by rw [ha]; decide) (hA 1 (by kernel_rfl))
      obtain ⟨z35, hv35⟩ := hA 7 (by kernel_rfl)
      have q35 : bb.tmps[35]? = some _ := hf.tmp (k := 7) rfl (by rw [ha]; decide) hv35
      obtain ⟨z38, hv38⟩ := hA 10 (by kernel_rfl)
      have q38 : bb.tmps[38]? = some _ := hf.tmp (k := 10) rfl (by rw [ha]; decide) hv38
      exact Rg.op_value (o := ⟨some 39, Op.build 49 #[(0, (Operand.tmp 29)), (1, (Operand.tmp 35)), (2, (Operand.tmp 38))], _, _, _, _⟩) (x := .agg #[.int .i64 x.id, .int .i64 z35, .int .i64 z38]) rfl rfl (by clear hA HS  hv35  hv38 ; simp only [execOp]; go_simp) ⟨_, rfl, (fun h => by cases h), ⟨_, _, _, rfl⟩, hI, fun _ _ h => h⟩
    · intro bb w' hf hI hA
      clear hi' hne
      have hK : Keep g w' (w'.alloc (.cells #[.int .i64 0, .int .i64 0, .int .i64 0] 49)) := (Keep.refl g w').alloc _
      exact Rg.op_value (o := ⟨some 11, Op.alloc 49, _, _, _, _⟩) (x := .pointer (some ⟨w'.heap.size, 0, none⟩)) (w' := w'.alloc (.cells #[.int .i64 0, .int .i64 0, .int .i64 0] 49)) rfl rfl (by clear hA HS; simp only [execOp]; go_simp) ⟨_, rfl, (fun h => by cases h), ⟨_, rfl, hI.2.size, PB.new _ _ _⟩, ⟨(hI.1.alloc _), hI.2.trans hK⟩, HS hK⟩

theorem dG8_0 : Rg.dstAt (Rg.opsOf Try.f17 8) 0 = some 28 := by kernel_rfl
theorem dG8_1 : Rg.dstAt (Rg.opsOf Try.f17 8) 1 = some 29 := by kernel_rfl
theorem dG8_2 : Rg.dstAt (Rg.opsOf Try.f17 8) 2 = some 30 := by kernel_rfl
theorem dG8_3 : Rg.dstAt (Rg.opsOf Try.f17 8) 3 = some 31 := by kernel_rfl
theorem dG8_4 : Rg.dstAt (Rg.opsOf Try.f17 8) 4 = some 32 := by kernel_rfl
theorem dG8_5 : Rg.dstAt (Rg.opsOf Try.f17 8) 5 = some 33 := by kernel_rfl
theorem dG8_6 : Rg.dstAt (Rg.opsOf Try.f17 8) 6 = some 34 := by kernel_rfl
theorem dG8_7 : Rg.dstAt (Rg.opsOf Try.f17 8) 7 = some 35 := by kernel_rfl
theorem dG8_8 : Rg.dstAt (Rg.opsOf Try.f17 8) 8 = some 36 := by kernel_rfl
theorem dG8_9 : Rg.dstAt (Rg.opsOf Try.f17 8) 9 = some 37 := by kernel_rfl
theorem dG8_10 : Rg.dstAt (Rg.opsOf Try.f17 8) 10 = some 38 := by kernel_rfl
theorem dG8_11 : Rg.dstAt (Rg.opsOf Try.f17 8) 11 = some 39 := by kernel_rfl
theorem dG8_12 : Rg.dstAt (Rg.opsOf Try.f17 8) 12 = some 11 := by kernel_rfl
theorem dG8_13 : Rg.dstAt (Rg.opsOf Try.f17 8) 13 = none := by kernel_rfl
theorem pnG8 (a : Act) (v : Value) : a.put none v = a := rfl
theorem layG8 {a b : Act} (hf : Rg.Fr (Rg.opsOf Try.f17 8) a b) : b = (((((((((((((a.put (some 28) (Rg.out (Rg.opsOf Try.f17 8) b 0)).put (some 29) (Rg.out (Rg.opsOf Try.f17 8) b 1)).put (some 30) (Rg.out (Rg.opsOf Try.f17 8) b 2)).put (some 31) (Rg.out (Rg.opsOf Try.f17 8) b 3)).put (some 32) (Rg.out (Rg.opsOf Try.f17 8) b 4)).put (some 33) (Rg.out (Rg.opsOf Try.f17 8) b 5)).put (some 34) (Rg.out (Rg.opsOf Try.f17 8) b 6)).put (some 35) (Rg.out (Rg.opsOf Try.f17 8) b 7)).put (some 36) (Rg.out (Rg.opsOf Try.f17 8) b 8)).put (some 37) (Rg.out (Rg.opsOf Try.f17 8) b 9)).put (some 38) (Rg.out (Rg.opsOf Try.f17 8) b 10)).put (some 39) (Rg.out (Rg.opsOf Try.f17 8) b 11)).put (some 11) (Rg.out (Rg.opsOf Try.f17 8) b 12)) := by
  have h := hf.chain
  rw [sizeG8, show List.range 14 = [0, 1, 2, 3, 4, 5, 6, 7, 8, 9, 10, 11, 12, 13] from by decide] at h
  simp only [List.foldl_cons, List.foldl_nil, dG8_0, dG8_1, dG8_2, dG8_3, dG8_4, dG8_5, dG8_6, dG8_7, dG8_8, dG8_9, dG8_10, dG8_11, dG8_12, dG8_13, pnG8] at h
  exact h
end Go.Proofs.Ytcnhogghfedcdaa
