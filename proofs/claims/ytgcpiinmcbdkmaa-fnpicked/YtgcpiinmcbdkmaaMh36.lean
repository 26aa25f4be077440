/-
  Merged: D5 D6.
-/
import Derived.Test.YtgcpiinmcbdkmaaMh35
import Derived.Test.YtgcpiinmcbdkmaaMh7
import Derived.Deep.DeepCutAuto
namespace Go.Proofs.Ytgcpiinmcbdkmaa
open Go.RowKit Va Bl
set_option linter.all false
theorem ownK_keep {base e s n g : Nat} {w w' : World} {v : Value} {xs : List Value} (h : w.ownsRow base e s v n xs) (hk : Keep g w w') (hg : g < base) : w'.ownsRow base e s v n xs := by
  obtain ⟨q, ⟨q1, q2⟩ | ⟨b, c, cur, rfl, hb, hh, r⟩⟩ := h
  · exact ⟨q, Or.inl ⟨q1, q2⟩⟩
  · exact ⟨q, Or.inr ⟨b, c, cur, rfl, hb, (hk.block b (Array.getElem?_eq_some_iff.1 hh).1 (by omega)).trans hh, r⟩⟩
def FNd1 (n1 g : Nat)  (i9 : Nat) (v : Value) (w : World) : Prop :=
  match i9 with
  | 0 => v = .pointer (some ⟨g, 0, none⟩)
  | 1 => ∃ n : Nat, v = .int .i64 n ∧ n < 3
  | 2 => ∃ T zs, v = .slice (some ⟨T, 0, none⟩) 9 9 ∧ zs.length = 9 ∧ n1 ≤ T ∧ Tb g w T zs
  | 3 => v = .pointer (some ⟨g, 0, none⟩)
  | 4 => ∃ n : Nat, v = .int .i64 n ∧ n < 9
  | 5 => ∃ T n zs, v = .pointer (some ⟨T, n, none⟩) ∧ n < zs.length ∧ n1 ≤ T ∧ Tb g w T zs
  | 6 => ∃ z : Int, v = .int .i64 z
  | 7 => v = .pointer (some ⟨g, 0, none⟩)
  | 8 => v = .pointer (some ⟨g, 0, none⟩)
  | 9 => ∃ n : Nat, v = .int .i64 n ∧ n < 3
  | 10 => ∃ (ad : Option Addr) (c : Nat) (l : List Int), v = .slice ad l.length c ∧ l.length ≤ 3 ∧ w.ownsRow n1 2 1 (.slice ad l.length c) l.length (l.map fun z => Value.int .i64 z)
  | 11 => ∃ (z0 z1 : Int) (ad : Option Addr) (c : Nat) (l : List Int), v = .agg #[.int .i64 z0, .int .i64 z1, .slice ad l.length c] ∧ l.length ≤ 3 ∧ w.ownsRow n1 2 1 (.slice ad l.length c) l.length (l.map fun z => Value.int .i64 z)
  | 12 => ∃ B, v = .pointer (some ⟨B, 0, none⟩) ∧ n1 ≤ B ∧ PB w B #[.int .i64 0, .int .i64 0, .slice none 0 0] 27
  | 13 => True
  | _ => True
theorem keepNd1 {n1 g : Nat}  {w w' : World} (hg : g < n1) (hk : Keep g w w') (k9 : Nat) (v : Value) (h : FNd1 n1 g  k9 v w) : FNd1 n1 g  k9 v w' := by
  unfold FNd1 at *
  split at h <;> first
    | exact h
    | (obtain ⟨T, zs, h1, h2, h3, h4⟩ := h; exact ⟨T, zs, h1, h2, h3, h4.keep hk⟩)
    | (obtain ⟨T, n, zs, h1, h2, h3, h4⟩ := h; exact ⟨T, n, zs, h1, h2, h3, h4.keep hk⟩)
    | (obtain ⟨B, h1, h2, h3⟩ := h; exact ⟨B, h1, h2, h3.keep hk (by omega)⟩)
    | (obtain ⟨B, y1, h1, h2, h3⟩ := h; exact ⟨B, y1, h1, h2, h3.keep hk (by omega)⟩)
    | (obtain ⟨B, y1, y2, h1, h2, h3⟩ := h; exact ⟨B, y1, y2, h1, h2, h3.keep hk (by omega)⟩)
    | (obtain ⟨B, y1, y2, y3, h1, h2, h3⟩ := h; exact ⟨B, y1, y2, y3, h1, h2, h3.keep hk (by omega)⟩)
    | (obtain ⟨B, y1, y2, y3, y4, h1, h2, h3⟩ := h; exact ⟨B, y1, y2, y3, y4, h1, h2, h3.keep hk (by omega)⟩)
    | (obtain ⟨ad, c, l, h1, h2, h3⟩ := h; exact ⟨ad, c, l, h1, h2, ownK_keep h3 hk hg⟩)
    | (obtain ⟨z0, z1, ad, c, l, h1, h2, h3⟩ := h; exact ⟨z0, z1, ad, c, l, h1, h2, ownK_keep h3 hk hg⟩)
theorem sizeNd1 : (Rg.opsOf Try.f37 1).size = 14 := by kernel_rfl
set_option maxRecDepth 20000 in
set_option maxHeartbeats 8000000 in
theorem regNd1 {Q : Exit → Act → World → Prop} {a : Act} {w1 : World} {g : Nat} {ao : Option Addr} {cap : Nat} {bs : List Int}  (ha : a.tmps.size = 49)
    (k0 : a.tmps[0]? = some (.pointer (some ⟨g, 0, none⟩))) (hc : Cur w1 g ao cap bs) 
    (hend : ∀ b' w' (B : Nat) (y : Nd) (ad : Option Addr) (c : Nat), Rg.Fr (Rg.opsOf Try.f37 1) a b' → Cur w' g ao cap bs → Keep g w1 w' → Rg.out (Rg.opsOf Try.f37 1) b' 12 = .pointer (some ⟨B, 0, none⟩) → w1.heap.size ≤ B → PB w' B #[.int .i64 0, .int .i64 0, .slice none 0 0] 27 → w'.ownsRow w1.heap.size 2 1 (.slice ad y.ag.length c) y.ag.length (y.ag.map fun z => Value.int .i64 z) → y.ag.length ≤ 3 → Q .normal b' (((w'.setCell ⟨B, 0, none⟩ (.int .i64 y.p)).setCell ⟨B, 1, none⟩ (.int .i64 y.g)).setCell ⟨B, 2, none⟩ (.slice ad y.ag.length c))) :
    (Code.region 1 (Rg.opsOf Try.f37 1) true).wp Try.prog Q a w1 := by
  have hg1 : g < w1.heap.size := hc.1
  refine Rg.region_by 13 (by kernel_rfl) (fun w' => Cur w' g ao cap bs ∧ Keep g w1 w') (FNd1 w1.heap.size g ) (by rw [ha]; kernel_rfl) ⟨hc.drewN 1, (Keep.refl g w1).drewN 1⟩ ?_ ?_ ?_
  case refine_3 => exact fun h => absurd h (by rw [sizeNd1]; decide)
  case refine_2 =>
    intro _ bb w' hf hI hA
    rw [sizeNd1] at hA
    obtain ⟨za15, zb15, ad15, c15, l15, hv15, hL15, hO15⟩ := hA 11 (by decide) (by decide)
    have q15 : bb.tmps[15]? = some _ := hf.tmp (k := 11) rfl (by rw [ha]; decide) hv15
    obtain ⟨B3, hv3, hB3, hP3⟩ := hA 12 (by decide) (by decide)
    have q3 : bb.tmps[3]? = some _ := hf.tmp (k := 12) rfl (by rw [ha]; decide) hv3
    have hE := hend bb w' B3 ⟨za15, zb15, l15⟩ ad15 c15 hf hI.1 hI.2 hv3 hB3 hP3 hO15 hL15
    obtain ⟨e0, e1, e2⟩ := hP3.three
    obtain ⟨f0, f1, f2, -⟩ := hP3.cold
    clear hA hend hf hI hv3 hv15 hP3 hO15 hL15
    refine Rg.op_skip (o := ⟨none, Op.store 27 (Operand.tmp 3) (Operand.tmp 15), _, _, _, _⟩) (w' := ((w'.setCell ⟨B3, 0, none⟩ (.int .i64 za15)).setCell ⟨B3, 1, none⟩ (.int .i64 zb15)).setCell ⟨B3, 2, none⟩ (.slice ad15 l15.length c15)) rfl rfl ?_ hE
    clear hE
    simp only [execOp]
    go_simp

  case refine_1 =>
    clear hend
    have HS : ∀ {w w' : World}, Keep g w w' → ∀ k9 y9, FNd1 w1.heap.size g  k9 y9 w → FNd1 w1.heap.size g  k9 y9 w' := fun hb k9 y9 h => keepNd1 hg1 hb k9 y9 h
    intro i' hi' hne
    rw [sizeNd1] at hi'
    rcases (show i' = 0 ∨ i' = 1 ∨ i' = 2 ∨ i' = 3 ∨ i' = 4 ∨ i' = 5 ∨ i' = 6 ∨ i' = 7 ∨ i' = 8 ∨ i' = 9 ∨ i' = 10 ∨ i' = 11 ∨ i' = 12 by omega) with rfl | rfl | rfl | rfl | rfl | rfl | rfl | rfl | rfl | rfl | rfl | rfl | rfl
    · intro bb w' hf hI hA
      clear hi' hne
      have q0 := hf.kept (s := 0) (by rw [sizeNd1]; kernel_rfl) k0
      exact Rg.op_value (o := ⟨some 4, Op.move (Operand.tmp 0), _, _, _, _⟩) (x := .pointer (some ⟨g, 0, none⟩)) rfl rfl (by clear hA HS ; simp only [execOp]; go_simp) ⟨_, rfl, (fun h => by cases h), rfl, hI, fun _ _ h => h⟩
    · intro bb w' hf hI hA
      clear hi' hne
      have q4 : bb.tmps[4]? = some _ := hf.tmp (k := 0) rfl (by rw [ha]; decide) (hA 0 (by kernel_rfl))
      refine Rg.op_call (o := ⟨some 5, Op.call { callee := Callee.value (Operand.func 39), args := #[(Operand.tmp 4), (Operand.const (Value.int .i64 3))], argTypes := _ }, _, _, _, _⟩) rfl rfl (by clear hA HS  ; simp only [execOp, resolve]; go_simp) (below_any g ao cap bs 3 w' hI.1 (by omega)) ?_
      rintro e w2 ⟨y, rfl, hx0, hx1, hc2, hk2⟩
      obtain ⟨n, rfl⟩ := Int.eq_ofNat_of_zero_le hx0
      exact ⟨_, rfl, _, rfl, (fun h => by cases h), ⟨n, rfl, by omega⟩, ⟨hc2, hI.2.trans hk2⟩, HS hk2⟩
    · intro bb w' hf hI hA
      clear hi' hne
      have hK : Keep g w' (w'.alloc (.cells #[.int .i64 7, .int .i64 7, .int .i64 5, .int .i64 4, .int .i64 3, .int .i64 1, .int .i64 2, .int .i64 0, .int .i64 6] 2)) := (Keep.refl g w').alloc _
      have hT := Tb.new (g := g) (w := w') [7, 7, 5, 4, 3, 1, 2, 0, 6] hI.1.1
      exact Rg.op_value (o := ⟨some 6, Op.buildSlice 25 9 #[(0, (Operand.const (Value.int .i64 7))), (1, (Operand.const (Value.int .i64 7))), (2, (Operand.const (Value.int .i64 5))), (3, (Operand.const (Value.int .i64 4))), (4, (Operand.const (Value.int .i64 3))), (5, (Operand.const (Value.int .i64 1))), (6, (Operand.const (Value.int .i64 2))), (7, (Operand.const (Value.int .i64 0))), (8, (Operand.const (Value.int .i64 6)))], _, _, _, _⟩) (x := .slice (some ⟨w'.heap.size, 0, none⟩) 9 9) (w' := w'.alloc (.cells #[.int .i64 7, .int .i64 7, .int .i64 5, .int .i64 4, .int .i64 3, .int .i64 1, .int .i64 2, .int .i64 0, .int .i64 6] 2)) rfl rfl (by clear hA HS; simp only [execOp]; go_simp) ⟨_, rfl, (fun h => by cases h), ⟨_, _, rfl, rfl, hI.2.size, hT⟩, ⟨(hI.1.alloc _), hI.2.trans hK⟩, HS hK⟩
    · intro bb w' hf hI hA
      clear hi' hne
      have q0 := hf.kept (s := 0) (by rw [sizeNd1]; kernel_rfl) k0
      exact Rg.op_value (o := ⟨some 7, Op.move (Operand.tmp 0), _, _, _, _⟩) (x := .pointer (some ⟨g, 0, none⟩)) rfl rfl (by clear hA HS ; simp only [execOp]; go_simp) ⟨_, rfl, (fun h => by cases h), rfl, hI, fun _ _ h => h⟩
    · intro bb w' hf hI hA
      clear hi' hne
      have q7 : bb.tmps[7]? = some _ := hf.tmp (k := 3) rfl (by rw [ha]; decide) (hA 3 (by kernel_rfl))
      refine Rg.op_call (o := ⟨some 8, Op.call { callee := Callee.value (Operand.func 39), args := #[(Operand.tmp 7), (Operand.const (Value.int .i64 9))], argTypes := _ }, _, _, _, _⟩) rfl rfl (by clear hA HS  ; simp only [execOp, resolve]; go_simp) (below_any g ao cap bs 9 w' hI.1 (by omega)) ?_
      rintro e w2 ⟨y, rfl, hx0, hx1, hc2, hk2⟩
      obtain ⟨n, rfl⟩ := Int.eq_ofNat_of_zero_le hx0
      exact ⟨_, rfl, _, rfl, (fun h => by cases h), ⟨n, rfl, by omega⟩, ⟨hc2, hI.2.trans hk2⟩, HS hk2⟩
    · intro bb w' hf hI hA
      clear hi' hne
      obtain ⟨T6, zs6, hv6, hl6, hT6, hb6⟩ := hA 2 (by kernel_rfl)
      have q6 : bb.tmps[6]? = some _ := hf.tmp (k := 2) rfl (by rw [ha]; decide) hv6
      obtain ⟨n8, hv8, hn8⟩ := hA 4 (by kernel_rfl)
      have q8 : bb.tmps[8]? = some _ := hf.tmp (k := 4) rfl (by rw [ha]; decide) hv8
      have hnl : (n8 : Int) < 9 := by omega
      exact Rg.op_value (o := ⟨some 9, Op.indexAddr 25 (Operand.tmp 6) (Operand.tmp 8), _, _, _, _⟩) (x := .pointer (some ⟨T6, n8, none⟩)) rfl rfl (by clear hA HS hv6  hv8  hb6 hl6; simp only [execOp]; go_simp) ⟨_, rfl, (fun h => by cases h), ⟨T6, n8, zs6, rfl, by omega, hT6, hb6⟩, hI, fun _ _ h => h⟩
    · intro bb w' hf hI hA
      clear hi' hne
      obtain ⟨T9, n9, zs9, hv9, hl9, hT9, hb9⟩ := hA 5 (by kernel_rfl)
      have q9 : bb.tmps[9]? = some _ := hf.tmp (k := 5) rfl (by rw [ha]; decide) hv9
      have hcell := hb9.at hl9
      generalize hz : zs9[n9] = z at hcell
      exact Rg.op_value (o := ⟨some 10, Op.load 2 (Operand.tmp 9), _, _, _, _⟩) (x := .int .i64 z) rfl rfl (by clear hA HS hv9  hb9 hz; simp only [execOp]; go_simp) ⟨_, rfl, (fun h => by cases h), ⟨z, rfl⟩, hI, fun _ _ h => h⟩
    · intro bb w' hf hI hA
      clear hi' hne
      have q0 := hf.kept (s := 0) (by rw [sizeNd1]; kernel_rfl) k0
      exact Rg.op_value (o := ⟨some 11, Op.move (Operand.tmp 0), _, _, _, _⟩) (x := .pointer (some ⟨g, 0, none⟩)) rfl rfl (by clear hA HS ; simp only [execOp]; go_simp) ⟨_, rfl, (fun h => by cases h), rfl, hI, fun _ _ h => h⟩
    · intro bb w' hf hI hA
      clear hi' hne
      have q0 := hf.kept (s := 0) (by rw [sizeNd1]; kernel_rfl) k0
      exact Rg.op_value (o := ⟨some 12, Op.move (Operand.tmp 0), _, _, _, _⟩) (x := .pointer (some ⟨g, 0, none⟩)) rfl rfl (by clear hA HS ; simp only [execOp]; go_simp) ⟨_, rfl, (fun h => by cases h), rfl, hI, fun _ _ h => h⟩
    · intro bb w' hf hI hA
      clear hi' hne
      have q12 : bb.tmps[12]? = some _ := hf.tmp (k := 8) rfl (by rw [ha]; decide) (hA 8 (by kernel_rfl))
      refine Rg.op_call (o := ⟨some 13, Op.call { callee := Callee.value (Operand.func 39), args := #[(Operand.tmp 12), (Operand.const (Value.int .i64 3))], argTypes := _ }, _, _, _, _⟩) rfl rfl (by clear hA HS  ; simp only [execOp, resolve]; go_simp) (below_any g ao cap bs 3 w' hI.1 (by omega)) ?_
      rintro e w2 ⟨y, rfl, hx0, hx1, hc2, hk2⟩
      obtain ⟨n, rfl⟩ := Int.eq_ofNat_of_zero_le hx0
      exact ⟨_, rfl, _, rfl, (fun h => by cases h), ⟨n, rfl, by omega⟩, ⟨hc2, hI.2.trans hk2⟩, HS hk2⟩
    · intro bb w' hf hI hA
      clear hi' hne
      have q11 : bb.tmps[11]? = some _ := hf.tmp (k := 7) rfl (by rw [ha]; decide) (hA 7 (by kernel_rfl))
      obtain ⟨n13, hv13, hn13⟩ := hA 9 (by kernel_rfl)
      have q13 : bb.tmps[13]? = some _ := hf.tmp (k := 9) rfl (by rw [ha]; decide) hv13
      refine Rg.op_call (o := ⟨some 14, Op.call { callee := Callee.value (Operand.func 75), args := #[(Operand.tmp 11), (Operand.tmp 13)], argTypes := _ }, _, _, _, _⟩) rfl rfl (by clear hA HS  hv13 ; simp only [execOp, resolve]; go_simp) (dants_any g ao cap bs n13 w' hI.1 (by omega)) ?_
      rintro e w2 ⟨ad, c, l, rfl, hl3, hdi⟩
      exact ⟨_, rfl, _, rfl, (fun h => by cases h), ⟨ad, c, l, rfl, hl3, ownW_base hdi.own hI.2.size⟩, ⟨hdi.cur, hI.2.trans hdi.keep⟩, HS hdi.keep⟩
    · intro bb w' hf hI hA
      clear hi' hne
      obtain ⟨n5, hv5, hn5⟩ := hA 1 (by kernel_rfl)
      have q5 : bb.tmps[5]? = some _ := hf.tmp (k := 1) rfl (by rw [ha]; decide) hv5
      obtain ⟨z10, hv10⟩ := hA 6 (by kernel_rfl)
      have q10 : bb.tmps[10]? = some _ := hf.tmp (k := 6) rfl (by rw [ha]; decide) hv10
      obtain ⟨ad14, c14, l14, hv14, hL14, hO14⟩ := hA 10 (by kernel_rfl)
      have q14 : bb.tmps[14]? = some _ := hf.tmp (k := 10) rfl (by rw [ha]; decide) hv14
      exact Rg.op_value (o := ⟨some 15, Op.build 27 #[(0, (Operand.tmp 5)), (1, (Operand.tmp 10)), (2, (Operand.tmp 14))], _, _, _, _⟩) (x := .agg #[.int .i64 (n5 : Nat), .int .i64 z10, .slice ad14 l14.length c14]) rfl rfl (by clear hA HS hv5  hv10  hv14 ; simp only [execOp]; go_simp) ⟨_, rfl, (fun h => by cases h), ⟨_, _, _, _, _, rfl, hL14, hO14⟩, hI, fun _ _ h => h⟩
    · intro bb w' hf hI hA
      clear hi' hne
      have hK : Keep g w' (w'.alloc (.cells #[.int .i64 0, .int .i64 0, .slice none 0 0] 27)) := (Keep.refl g w').alloc _
      exact Rg.op_value (o := ⟨some 3, Op.alloc 27, _, _, _, _⟩) (x := .pointer (some ⟨w'.heap.size, 0, none⟩)) (w' := w'.alloc (.cells #[.int .i64 0, .int .i64 0, .slice none 0 0] 27)) rfl rfl (by clear hA HS; simp only [execOp]; go_simp) ⟨_, rfl, (fun h => by cases h), ⟨_, rfl, hI.2.size, PB.new _ _ _⟩, ⟨(hI.1.alloc _), hI.2.trans hK⟩, HS hK⟩
theorem dNd1_0 : Rg.dstAt (Rg.opsOf Try.f37 1) 0 = some 4 := by kernel_rfl
theorem dNd1_1 : Rg.dstAt (Rg.opsOf Try.f37 1) 1 = some 5 := by kernel_rfl
theorem dNd1_2 : Rg.dstAt (Rg.opsOf Try.f37 1) 2 = some 6 := by kernel_rfl
theorem dNd1_3 : Rg.dstAt (Rg.opsOf Try.f37 1) 3 = some 7 := by kernel_rfl
theorem dNd1_4 : Rg.dstAt (Rg.opsOf Try.f37 1) 4 = some 8 := by kernel_rfl
theorem dNd1_5 : Rg.dstAt (Rg.opsOf Try.f37 1) 5 = some 9 := by kernel_rfl
theorem dNd1_6 : Rg.dstAt (Rg.opsOf Try.f37 1) 6 = some 10 := by kernel_rfl
theorem dNd1_7 : Rg.dstAt (Rg.opsOf Try.f37 1) 7 = some 11 := by kernel_rfl
theorem dNd1_8 : Rg.dstAt (Rg.opsOf Try.f37 1) 8 = some 12 := by kernel_rfl
theorem dNd1_9 : Rg.dstAt (Rg.opsOf Try.f37 1) 9 = some 13 := by kernel_rfl
theorem dNd1_10 : Rg.dstAt (Rg.opsOf Try.f37 1) 10 = some 14 := by kernel_rfl
theorem dNd1_11 : Rg.dstAt (Rg.opsOf Try.f37 1) 11 = some 15 := by kernel_rfl
theorem dNd1_12 : Rg.dstAt (Rg.opsOf Try.f37 1) 12 = some 3 := by kernel_rfl
theorem dNd1_13 : Rg.dstAt (Rg.opsOf Try.f37 1) 13 = none := by kernel_rfl
theorem pnNd1 (a : Act) (v : Value) : a.put none v = a := rfl
theorem layNd1 {a b : Act} (hf : Rg.Fr (Rg.opsOf Try.f37 1) a b) : b = (((((((((((((a.put (some 4) (Rg.out (Rg.opsOf Try.f37 1) b 0)).put (some 5) (Rg.out (Rg.opsOf Try.f37 1) b 1)).put (some 6) (Rg.out (Rg.opsOf Try.f37 1) b 2)).put (some 7) (Rg.out (Rg.opsOf Try.f37 1) b 3)).put (some 8) (Rg.out (Rg.opsOf Try.f37 1) b 4)).put (some 9) (Rg.out (Rg.opsOf Try.f37 1) b 5)).put (some 10) (Rg.out (Rg.opsOf Try.f37 1) b 6)).put (some 11) (Rg.out (Rg.opsOf Try.f37 1) b 7)).put (some 12) (Rg.out (Rg.opsOf Try.f37 1) b 8)).put (some 13) (Rg.out (Rg.opsOf Try.f37 1) b 9)).put (some 14) (Rg.out (Rg.opsOf Try.f37 1) b 10)).put (some 15) (Rg.out (Rg.opsOf Try.f37 1) b 11)).put (some 3) (Rg.out (Rg.opsOf Try.f37 1) b 12)) := by
  have h := hf.chain
  rw [sizeNd1, show List.range 14 = [0, 1, 2, 3, 4, 5, 6, 7, 8, 9, 10, 11, 12, 13] from by decide] at h
  simp only [List.foldl_cons, List.foldl_nil, dNd1_0, dNd1_1, dNd1_2, dNd1_3, dNd1_4, dNd1_5, dNd1_6, dNd1_7, dNd1_8, dNd1_9, dNd1_10, dNd1_11, dNd1_12, dNd1_13, pnNd1] at h
  exact h
end Go.Proofs.Ytgcpiinmcbdkmaa

namespace Go.Proofs.Ytgcpiinmcbdkmaa
open Go.RowKit Va Bl
set_option linter.all false
theorem PB.fill3 {W : World} {B : Nat} {t : TypeId} {v0 v1 v2 : Value} (h : PB W B #[v0, v1, v2] t) (x0 x1 x2 : Value) : PB (((W.setCell ⟨B, 0, none⟩ x0).setCell ⟨B, 1, none⟩ x1).setCell ⟨B, 2, none⟩ x2) B #[x0, x1, x2] t :=
  ((h.put 0 x0 (vs' := #[x0, v1, v2]) (by simp)).put 1 x1 (vs' := #[x0, x1, v2]) (by simp)).put 2 x2 (by simp)
theorem Ap.of {w : World} {base B R n : Nat} {t : TypeId} {v : Value} {vs : Array Value} {xs : List Value} (h : w.ownsRow base 2 1 v n xs) (hP : PB w B vs t) (ht : t ≠ 2) (hR : R < base) : Ap v B R := by
  intro k hk
  rcases h.2 with ⟨rfl, -⟩ | ⟨b, c, cur, rfl, hb, hh, -⟩
  · simp [Value.ownBlock] at hk
  · simp only [Value.ownBlock, Option.map_some, Option.some.injEq] at hk
    have e : b = k := hk
    subst e
    refine ⟨?_, by omega⟩
    rintro rfl
    have e2 := hh.symm.trans hP
    simp only [Option.some.injEq, Obj.cells.injEq] at e2
    exact ht e2.2.1.symm
set_option maxRecDepth 20000 in
set_option maxHeartbeats 16000000 in
theorem dneed_any (g : Nat) (ao : Option Addr) (cap : Nat) (bs : List Int) (w : World) (hc : Cur w g ao cap bs) :
    Calls Try.prog 37 #[.pointer (some ⟨g, 0, none⟩)] w fun e w' => ∃ (x : Nd) (ad : Option Addr) (c : Nat), e = .returned (aN x (.slice ad x.ag.length c)) ∧ x.ag.length ≤ 4 ∧ DI w w' g ao cap bs (.slice ad x.ag.length c) x.ag := by
  have hgl := hc.1
  have hcR := hc.alloc (.cells #[.int .i64 0, .int .i64 0, .slice none 0 0] 27)
  have hkR : Keep g w (w.alloc (.cells #[.int .i64 0, .int .i64 0, .slice none 0 0] 27)) := (Keep.refl g w).alloc _
  have hbR := PB.new w #[.int .i64 0, .int .i64 0, .slice none 0 0] 27
  have hzR : (w.alloc (.cells #[.int .i64 0, .int .i64 0, .slice none 0 0] 27)).heap.size = w.heap.size + 1 := by simp
  clear hc
  go_enter Try.func37, Try.ntmps37
  go_upto_region 1 with fail
  generalize w.alloc (.cells #[.int .i64 0, .int .i64 0, .slice none 0 0] 27) = wR at *
  refine regNd1 rfl rfl hcR ?_
  intro b' w1 V x ad c hf hc1 hk1 hv12 hVl hP1 hO1 hL1
  rw [layNd1 hf, hv12]
  clear hf hv12
  generalize Rg.out (Rg.opsOf Try.f37 1) b' 0 = y0
  generalize Rg.out (Rg.opsOf Try.f37 1) b' 1 = y1
  generalize Rg.out (Rg.opsOf Try.f37 1) b' 2 = y2
  generalize Rg.out (Rg.opsOf Try.f37 1) b' 3 = y3
  generalize Rg.out (Rg.opsOf Try.f37 1) b' 4 = y4
  generalize Rg.out (Rg.opsOf Try.f37 1) b' 5 = y5
  generalize Rg.out (Rg.opsOf Try.f37 1) b' 6 = y6
  generalize Rg.out (Rg.opsOf Try.f37 1) b' 7 = y7
  generalize Rg.out (Rg.opsOf Try.f37 1) b' 8 = y8
  generalize Rg.out (Rg.opsOf Try.f37 1) b' 9 = y9
  generalize Rg.out (Rg.opsOf Try.f37 1) b' 10 = y10
  generalize Rg.out (Rg.opsOf Try.f37 1) b' 11 = y11
  have hK1 := hkR.trans hk1
  have hR1 := hbR.keep hk1 (by omega)
  have hap := Ap.of (R := w.heap.size) hO1 hP1 (by decide) (by omega)
  have hd1 : DX w w1 g ao cap bs w.heap.size V #[.int .i64 0, .int .i64 0, .slice none 0 0] #[.int .i64 0, .int .i64 0, .slice none 0 0] 27 := ⟨hc1, hK1, hR1, hP1, hgl, Nat.le_refl _, by omega, by omega⟩
  have hi1 : DI w w1 g ao cap bs (.slice ad x.ag.length c) x.ag := ⟨hc1, hK1, ownW_base hO1 (by omega), hgl⟩
  have hd := ((hd1.put 0 (.int .i64 x.p) (vs' := #[.int .i64 x.p, .int .i64 0, .slice none 0 0]) (by simp)).put 1 (.int .i64 x.g) (vs' := #[.int .i64 x.p, .int .i64 x.g, .slice none 0 0]) (by simp)).put 2 (.slice ad x.ag.length c) (vs' := #[.int .i64 x.p, .int .i64 x.g, .slice ad x.ag.length c]) (by simp)
  have hi := ((hi1.far hd1.vv hap 0 (.int .i64 x.p)).far hd1.vv hap 1 (.int .i64 x.g)).far hd1.vv hap 2 (.slice ad x.ag.length c)
  have hlen := hL1
  clear hd1 hi1 hK1 hR1 hO1 hP1 hk1 hc1 hVl hL1 hcR hkR hbR hzR
  generalize (((w1.setCell ⟨V, 0, none⟩ (.int .i64 x.p)).setCell ⟨V, 1, none⟩ (.int .i64 x.g)).setCell ⟨V, 2, none⟩ (.slice ad x.ag.length c)) = w7 at *
  go_frame
  go_wp2_with fail
  refine (once_any g ao cap bs 30 _ hd.cur (by omega)).mono ?_
  rintro e w8 ⟨t8, rfl, hc8, hk8⟩
  have hd8 := hd.call hc8 hk8
  have hi8 := hi.call hc8 hk8
  clear hc8 hk8 hd hi
  have hd := hd8
  have hi := hi8
  clear hd8 hi8
  go_upto_if 17 with fail
  go_cut [] (fun wx => ∃ (x : Nd) (ad : Option Addr) (c : Nat), DX w wx g ao cap bs w.heap.size V #[.int .i64 0, .int .i64 0, .slice none 0 0] #[.int .i64 x.p, .int .i64 x.g, .slice ad x.ag.length c] 27 ∧ DI w wx g ao cap bs (.slice ad x.ag.length c) x.ag ∧ Ap (.slice ad x.ag.length c) V w.heap.size ∧ x.ag.length ≤ 4)
  case first =>
    rcases t8 with _ | _
    · go_wp2_with fail
      go_meet
      case rel => exact ⟨x, ad, c, hd, hi, hap, by omega⟩
    · go_wp2_with fail
      refine (below_any g ao cap bs 3 _ hd.cur (by omega)).mono ?_
      rintro e w9 ⟨y9, rfl, y90, y91, hc9, hk9⟩
      have hd9 := hd.call hc9 hk9
      have hi9 := hi.call hc9 hk9
      clear hc9 hk9 hd hi
      have hd := hd9
      have hi := hi9
      clear hd9 hi9
      have hlen2 : x.ag.length ≤ 4 := by omega
      have hlen3 := hlen
      clear hlen
      have hlen := hlen2
      clear hlen2
      rcases (show y9 = 0 ∨ y9 = 1 ∨ y9 = 2 by omega) with rfl | rfl | rfl
      · have hT := Tb.new (g := g) (w := w9) [(-1), 1000] hd.cur.1
        have HD := hidden (hd.alloc (.cells #[.int .i64 (-1), .int .i64 1000] 2))
        have HI := hidden (hi.alloc (.cells #[.int .i64 (-1), .int .i64 1000] 2))
        have HT := hidden hT
        clear hT hd hi
        go_wp2_with fail
        refine (below_any g ao cap bs 2 _ HD.out.cur (by omega)).mono ?_
        rintro e wA ⟨aA, rfl, aA0, aA1, hcA, hkA⟩
        obtain ⟨k, rfl⟩ := Int.eq_ofNat_of_zero_le aA0
        have hkl : k < 2 := by omega
        have hcell := (HT.out.keep hkA).at (k := k) hkl
        generalize hz : ([(-1), 1000] : List Int)[k] = z at hcell
        have hd8 := hidden ((HD.out.call hcA hkA).put 0 (.int .i64 z) (vs' := #[.int .i64 z, .int .i64 x.g, .slice ad x.ag.length c]) (by simp))
        have hi8 := hidden ((HI.out.call hcA hkA).far HD.out.vv hap 0 (.int .i64 z))
        obtain ⟨e0, e1, e2⟩ := (HD.out.call hcA hkA).box.three
        obtain ⟨f0, f1, f2, -⟩ := (HD.out.call hcA hkA).box.cold
        clear hz HT hcA hkA HD HI
        go_wp2_with fail
        go_meet
        case rel => exact ⟨{ x with p := z }, ad, c, hd8.out, hi8.out, hap, hlen⟩
      · have hT := Tb.new (g := g) (w := w9) [(-1), 8] hd.cur.1
        have HD := hidden (hd.alloc (.cells #[.int .i64 (-1), .int .i64 8] 2))
        have HI := hidden (hi.alloc (.cells #[.int .i64 (-1), .int .i64 8] 2))
        have HT := hidden hT
        clear hT hd hi
        go_wp2_with fail
        refine (below_any g ao cap bs 2 _ HD.out.cur (by omega)).mono ?_
        rintro e wA ⟨aA, rfl, aA0, aA1, hcA, hkA⟩
        obtain ⟨k, rfl⟩ := Int.eq_ofNat_of_zero_le aA0
        have hkl : k < 2 := by omega
        have hcell := (HT.out.keep hkA).at (k := k) hkl
        generalize hz : ([(-1), 8] : List Int)[k] = z at hcell
        have hd8 := hidden ((HD.out.call hcA hkA).put 1 (.int .i64 z) (vs' := #[.int .i64 x.p, .int .i64 z, .slice ad x.ag.length c]) (by simp))
        have hi8 := hidden ((HI.out.call hcA hkA).far HD.out.vv hap 1 (.int .i64 z))
        obtain ⟨e0, e1, e2⟩ := (HD.out.call hcA hkA).box.three
        obtain ⟨f0, f1, f2, -⟩ := (HD.out.call hcA hkA).box.cold
        clear hz HT hcA hkA HD HI
        go_wp2_with fail
        go_meet
        case rel => exact ⟨{ x with g := z }, ad, c, hd8.out, hi8.out, hap, hlen⟩
      · clear y90 y91
        go_upto_region 9 with fail
        refine regDn9 (x := x) rfl rfl rfl hd hi hap (by omega) ?_
        intro b' wB ad' c' z hf hdB hiB hapB
        have HDB := hidden hdB
        have HIB := hidden hiB
        have HAB := hidden hapB
        rw [layDn9 hf]
        clear hdB hiB hapB hd hi
        generalize Rg.out (Rg.opsOf Try.f37 9) b' 0 = y0
        generalize Rg.out (Rg.opsOf Try.f37 9) b' 1 = y1
        generalize Rg.out (Rg.opsOf Try.f37 9) b' 2 = y2
        generalize Rg.out (Rg.opsOf Try.f37 9) b' 3 = y3
        generalize Rg.out (Rg.opsOf Try.f37 9) b' 4 = y4
        generalize Rg.out (Rg.opsOf Try.f37 9) b' 5 = y5
        generalize Rg.out (Rg.opsOf Try.f37 9) b' 6 = y6
        generalize Rg.out (Rg.opsOf Try.f37 9) b' 7 = y7
        generalize Rg.out (Rg.opsOf Try.f37 9) b' 8 = y8
        generalize Rg.out (Rg.opsOf Try.f37 9) b' 9 = y9
        go_frame
        go_wp2_with fail
        go_meet
        case rel => exact ⟨{ x with ag := x.ag ++ [z] }, ad', c', by simpa using HDB.out, by simpa using HIB.out, by simpa using HAB.out, by simp; omega⟩
  case rest =>
  clear hd hi hap hlen
  obtain ⟨x, ad, c, hd, hi, hap, hlen⟩ := hcut
  obtain ⟨e0, e1, e2⟩ := hd.box.three
  obtain ⟨z0, z1, z2⟩ := hd.res.three
  obtain ⟨f0, f1, f2, -⟩ := hd.res.cold
  have HR := hidden (hd.res.fill3 (.int .i64 x.p) (.int .i64 x.g) (.slice ad x.ag.length c))
  have HI := hidden (((hi.far (Nat.le_refl _) hap.swap 0 (.int .i64 x.p)).far (Nat.le_refl _) hap.swap 1 (.int .i64 x.g)).far (Nat.le_refl _) hap.swap 2 (.slice ad x.ag.length c))
  clear hd hi
  go_wp2_with fail
  try simp only [Exit.inBlock, Exit.then]
  exact bodyPost_ret (v := aN x (.slice ad x.ag.length c)) (results_cell_row Try.results37 _ _ w.heap.size 27 _ (0, 0) _ rfl HR.out Try.underlying27 rfl (by kernel_rfl)) rfl ⟨x, ad, c, rfl, hlen, HI.out⟩
end Go.Proofs.Ytgcpiinmcbdkmaa
