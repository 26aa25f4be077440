/-
  The regions of the draws of limits and acts, whatever their order.
-/
import Derived.Test.YtamghmnibfbgaaaFa
import Derived.BigQuiet
namespace Go.Proofs.Ytamghmnibfbgaaa
open Go.RowKit Va Ba
set_option linter.all false

theorem put_none (a : Act) (v : Value) : a.put none v = a := rfl

def FL2 (g n0 : Nat) (V : Nat) (l : Lm) (k : Nat) (v : Value) (w : World) : Prop :=
  match k with
  | 0 => v = .pointer (some ⟨V, 2, none⟩)
  | 1 => ∃ z : Int, v = .int .i64 z
  | 2 => v = .pointer (some ⟨g, 0, none⟩)
  | 3 => ∃ n : Nat, v = .int .i64 n ∧ n < 4
  | 4 => ∃ z : Int, v = .int .i64 z
  | 5 => v = .pointer (some ⟨V, 0, none⟩)
  | _ => True
theorem keepL2 {g n0 : Nat} {V : Nat} {l : Lm} {w w' : World} (hk : Keep g w w') (k : Nat) (v : Value) (h : FL2 g n0 V l k v w) : FL2 g n0 V l k v w' := by
  unfold FL2 at *
  split at h <;> first
    | exact h
    | (obtain ⟨T, zs, h1, h2, h3⟩ := h; exact ⟨T, zs, h1, h2, h3.keep hk⟩)
    | (obtain ⟨T, n, zs, h1, h2, h3⟩ := h; exact ⟨T, n, zs, h1, h2, h3.keep hk⟩)
    | (obtain ⟨B, h1, h2, h3, h4⟩ := h; exact ⟨B, h1, h2, h3, h4.keep hk h2⟩)
theorem sizeL2 : (Rg.opsOf Try.f38 2).size = 7 := by kernel_rfl

set_option maxRecDepth 20000 in
set_option maxHeartbeats 8000000 in
theorem regL2 {Q : Exit → Act → World → Prop} {a : Act} {w1 : World} {g : Nat} {ao : Option Addr} {cap : Nat} {bs : List Int} {V : Nat} {l : Lm} (ha : a.tmps.size = 61)
    (k0 : a.tmps[0]? = some (.pointer (some ⟨g, 0, none⟩))) (hc : Cur w1 g ao cap bs) (k3 : a.tmps[3]? = some (.pointer (some ⟨V, 0, none⟩))) (hV : PB w1 V #[.int .i64 l.sl, .int .i64 l.sh, .int .i64 l.hl, .int .i64 l.hh] 25) (hVg : V ≠ g)
    (hend : ∀ b' w' z, Rg.Fr (Rg.opsOf Try.f38 2) a b' → Cur w' g ao cap bs → Keep g w1 w' → Q .normal b' (w'.setCell ⟨V, 0, none⟩ (.int .i64 z))) :
    (Code.region 2 (Rg.opsOf Try.f38 2) true).wp Try.prog Q a w1 := by
  refine Rg.region_by 6 (by kernel_rfl) (fun w' => Cur w' g ao cap bs ∧ Keep g w1 w') (FL2 g w1.heap.size V l) (by rw [ha]; kernel_rfl) ⟨hc.drewN 1, (Keep.refl g w1).drewN 1⟩ ?_ ?_ (fun h => absurd h (by rw [sizeL2]; decide))
  case refine_2 =>
    intro _ bb w' hf hI hA
    rw [sizeL2] at hA
    obtain ⟨z, hz⟩ := hA 4 (by decide) (by decide)
    have qf : bb.tmps[12]? = some _ := hf.tmp (k := 5) rfl (by rw [ha]; decide) (hA 5 (by decide) (by decide))
    have qv : bb.tmps[11]? = some _ := hf.tmp (k := 4) rfl (by rw [ha]; decide) hz
    have hE := hend bb w' z hf hI.1 hI.2
    have hbx := hV.keep hI.2 hVg
    obtain ⟨e0, e1, e2, e3⟩ := hbx.four
    have ef := hbx.frozen 0
    clear hA hend hf hI hz hbx
    refine Rg.op_skip (o := ⟨none, Op.store 2 (Operand.tmp 12) (Operand.tmp 11), _, _, _, _⟩) (w' := w'.setCell ⟨V, 0, none⟩ (.int .i64 z)) rfl rfl ?_ hE
    clear hE
    simp only [execOp]
    go_simp
  case refine_1 =>
    clear hend
    have HS : ∀ {w w' : World}, Keep g w w' → ∀ k y, FL2 g w1.heap.size V l k y w → FL2 g w1.heap.size V l k y w' := fun hb k y h => keepL2 hb k y h
    intro i' hi' hne
    rw [sizeL2] at hi'
    rcases (show i' = 0 ∨ i' = 1 ∨ i' = 2 ∨ i' = 3 ∨ i' = 4 ∨ i' = 5 by omega) with rfl | rfl | rfl | rfl | rfl | rfl
    · intro bb w' hf hI hA
      clear hi' hne
      have qs := hf.kept (s := 3) (by rw [sizeL2]; kernel_rfl) k3
      exact Rg.op_value (o := ⟨some 7, Op.fieldAddr 25 (Operand.tmp 3) 2, _, _, _, _⟩) (x := .pointer (some ⟨V, 2, none⟩)) rfl rfl (by clear hA HS; simp only [execOp]; go_simp) ⟨_, rfl, (fun h => by cases h), rfl, hI, fun _ _ h => h⟩
    · intro bb w' hf hI hA
      clear hi' hne
      have q0 : bb.tmps[7]? = some _ := hf.tmp (k := 0) rfl (by rw [ha]; decide) (hA 0 (by kernel_rfl))
      obtain ⟨e0, e1, e2, e3⟩ := (hV.keep hI.2 hVg).four
      exact Rg.op_value (o := ⟨some 8, Op.load 2 (Operand.tmp 7), _, _, _, _⟩) (x := .int .i64 l.hl) rfl rfl (by clear hA HS; simp only [execOp]; go_simp) ⟨_, rfl, (fun h => by cases h), ⟨_, rfl⟩, hI, fun _ _ h => h⟩
    · intro bb w' hf hI hA
      clear hi' hne
      have q0 := hf.kept (s := 0) (by rw [sizeL2]; kernel_rfl) k0
      exact Rg.op_value (o := ⟨some 9, Op.move (Operand.tmp 0), _, _, _, _⟩) rfl rfl rfl ⟨_, rfl, (fun h => by cases h), (by show Act.eval bb _ = _; simp [Act.eval, q0]), hI, fun _ _ h => h⟩
    · intro bb w' hf hI hA
      clear hi' hne
      have q2 : bb.tmps[9]? = some _ := hf.tmp (k := 2) rfl (by rw [ha]; decide) (hA 2 (by kernel_rfl))
      refine Rg.op_call (o := ⟨some 10, Op.call { callee := Callee.value (Operand.func 40), args := #[Operand.tmp 9, Operand.const (Value.int .i64 4)], argTypes := _ }, _, _, _, _⟩) rfl rfl (by clear hA HS; simp only [execOp, resolve]; go_simp) (below_any g ao cap bs 4 w' hI.1 (by omega)) ?_
      rintro e w2 ⟨x, rfl, hx0, hx1, hc2, hk2⟩
      obtain ⟨n, rfl⟩ := Int.eq_ofNat_of_zero_le hx0
      exact ⟨_, rfl, _, rfl, (fun h => by cases h), ⟨n, rfl, by omega⟩, ⟨hc2, hI.2.trans hk2⟩, HS hk2⟩
    · intro bb w' hf hI hA
      clear hi' hne
      obtain ⟨zx, hv1⟩ := hA 1 (by kernel_rfl)
      have q1 : bb.tmps[8]? = some _ := hf.tmp (k := 1) rfl (by rw [ha]; decide) hv1
      obtain ⟨zy, hv3, -⟩ := hA 3 (by kernel_rfl)
      have q3 : bb.tmps[10]? = some _ := hf.tmp (k := 3) rfl (by rw [ha]; decide) hv3
      exact Rg.op_value (o := ⟨some 11, Op.binOp BinOp.add 2 (Operand.tmp 8) (Operand.tmp 10) 2, _, _, _, _⟩) (x := .int .i64 (IntKind.i64.wrap (zx + zy))) rfl rfl (by clear hA HS; simp only [execOp]; go_simp) ⟨_, rfl, (fun h => by cases h), ⟨_, rfl⟩, hI, fun _ _ h => h⟩
    · intro bb w' hf hI hA
      clear hi' hne
      have qs := hf.kept (s := 3) (by rw [sizeL2]; kernel_rfl) k3
      exact Rg.op_value (o := ⟨some 12, Op.fieldAddr 25 (Operand.tmp 3) 0, _, _, _, _⟩) (x := .pointer (some ⟨V, 0, none⟩)) rfl rfl (by clear hA HS; simp only [execOp]; go_simp) ⟨_, rfl, (fun h => by cases h), rfl, hI, fun _ _ h => h⟩

theorem dL2_0 : Rg.dstAt (Rg.opsOf Try.f38 2) 0 = some 7 := by kernel_rfl
theorem dL2_1 : Rg.dstAt (Rg.opsOf Try.f38 2) 1 = some 8 := by kernel_rfl
theorem dL2_2 : Rg.dstAt (Rg.opsOf Try.f38 2) 2 = some 9 := by kernel_rfl
theorem dL2_3 : Rg.dstAt (Rg.opsOf Try.f38 2) 3 = some 10 := by kernel_rfl
theorem dL2_4 : Rg.dstAt (Rg.opsOf Try.f38 2) 4 = some 11 := by kernel_rfl
theorem dL2_5 : Rg.dstAt (Rg.opsOf Try.f38 2) 5 = some 12 := by kernel_rfl
theorem dL2_6 : Rg.dstAt (Rg.opsOf Try.f38 2) 6 = none := by kernel_rfl
theorem layL2 {a b : Act} (hf : Rg.Fr (Rg.opsOf Try.f38 2) a b) : b = ((((((a.put (some 7) (Rg.out (Rg.opsOf Try.f38 2) b 0)).put (some 8) (Rg.out (Rg.opsOf Try.f38 2) b 1)).put (some 9) (Rg.out (Rg.opsOf Try.f38 2) b 2)).put (some 10) (Rg.out (Rg.opsOf Try.f38 2) b 3)).put (some 11) (Rg.out (Rg.opsOf Try.f38 2) b 4)).put (some 12) (Rg.out (Rg.opsOf Try.f38 2) b 5)) := by
  have h := hf.chain
  rw [sizeL2, show List.range 7 = [0, 1, 2, 3, 4, 5, 6] from by decide] at h
  simp only [List.foldl_cons, List.foldl_nil, dL2_0, dL2_1, dL2_2, dL2_3, dL2_4, dL2_5, dL2_6, put_none] at h
  exact h

def FL3 (g n0 : Nat) (V : Nat) (l : Lm) (k : Nat) (v : Value) (w : World) : Prop :=
  match k with
  | 0 => v = .pointer (some ⟨V, 0, none⟩)
  | 1 => ∃ z : Int, v = .int .i64 z
  | 2 => v = .pointer (some ⟨g, 0, none⟩)
  | 3 => ∃ n : Nat, v = .int .i64 n ∧ n < 8
  | 4 => ∃ z : Int, v = .int .i64 z
  | 5 => v = .pointer (some ⟨V, 1, none⟩)
  | _ => True
theorem keepL3 {g n0 : Nat} {V : Nat} {l : Lm} {w w' : World} (hk : Keep g w w') (k : Nat) (v : Value) (h : FL3 g n0 V l k v w) : FL3 g n0 V l k v w' := by
  unfold FL3 at *
  split at h <;> first
    | exact h
    | (obtain ⟨T, zs, h1, h2, h3⟩ := h; exact ⟨T, zs, h1, h2, h3.keep hk⟩)
    | (obtain ⟨T, n, zs, h1, h2, h3⟩ := h; exact ⟨T, n, zs, h1, h2, h3.keep hk⟩)
    | (obtain ⟨B, h1, h2, h3, h4⟩ := h; exact ⟨B, h1, h2, h3, h4.keep hk h2⟩)
theorem sizeL3 : (Rg.opsOf Try.f38 3).size = 7 := by kernel_rfl

set_option maxRecDepth 20000 in
set_option maxHeartbeats 8000000 in
theorem regL3 {Q : Exit → Act → World → Prop} {a : Act} {w1 : World} {g : Nat} {ao : Option Addr} {cap : Nat} {bs : List Int} {V : Nat} {l : Lm} (ha : a.tmps.size = 61)
    (k0 : a.tmps[0]? = some (.pointer (some ⟨g, 0, none⟩))) (hc : Cur w1 g ao cap bs) (k3 : a.tmps[3]? = some (.pointer (some ⟨V, 0, none⟩))) (hV : PB w1 V #[.int .i64 l.sl, .int .i64 l.sh, .int .i64 l.hl, .int .i64 l.hh] 25) (hVg : V ≠ g)
    (hend : ∀ b' w' z, Rg.Fr (Rg.opsOf Try.f38 3) a b' → Cur w' g ao cap bs → Keep g w1 w' → Q .normal b' (w'.setCell ⟨V, 1, none⟩ (.int .i64 z))) :
    (Code.region 3 (Rg.opsOf Try.f38 3) true).wp Try.prog Q a w1 := by
  refine Rg.region_by 6 (by kernel_rfl) (fun w' => Cur w' g ao cap bs ∧ Keep g w1 w') (FL3 g w1.heap.size V l) (by rw [ha]; kernel_rfl) ⟨hc.drewN 1, (Keep.refl g w1).drewN 1⟩ ?_ ?_ (fun h => absurd h (by rw [sizeL3]; decide))
  case refine_2 =>
    intro _ bb w' hf hI hA
    rw [sizeL3] at hA
    obtain ⟨z, hz⟩ := hA 4 (by decide) (by decide)
    have qf : bb.tmps[18]? = some _ := hf.tmp (k := 5) rfl (by rw [ha]; decide) (hA 5 (by decide) (by decide))
    have qv : bb.tmps[17]? = some _ := hf.tmp (k := 4) rfl (by rw [ha]; decide) hz
    have hE := hend bb w' z hf hI.1 hI.2
    have hbx := hV.keep hI.2 hVg
    obtain ⟨e0, e1, e2, e3⟩ := hbx.four
    have ef := hbx.frozen 1
    clear hA hend hf hI hz hbx
    refine Rg.op_skip (o := ⟨none, Op.store 2 (Operand.tmp 18) (Operand.tmp 17), _, _, _, _⟩) (w' := w'.setCell ⟨V, 1, none⟩ (.int .i64 z)) rfl rfl ?_ hE
    clear hE
    simp only [execOp]
    go_simp
  case refine_1 =>
    clear hend
    have HS : ∀ {w w' : World}, Keep g w w' → ∀ k y, FL3 g w1.heap.size V l k y w → FL3 g w1.heap.size V l k y w' := fun hb k y h => keepL3 hb k y h
    intro i' hi' hne
    rw [sizeL3] at hi'
    rcases (show i' = 0 ∨ i' = 1 ∨ i' = 2 ∨ i' = 3 ∨ i' = 4 ∨ i' = 5 by omega) with rfl | rfl | rfl | rfl | rfl | rfl
    · intro bb w' hf hI hA
      clear hi' hne
      have qs := hf.kept (s := 3) (by rw [sizeL3]; kernel_rfl) k3
      exact Rg.op_value (o := ⟨some 13, Op.fieldAddr 25 (Operand.tmp 3) 0, _, _, _, _⟩) (x := .pointer (some ⟨V, 0, none⟩)) rfl rfl (by clear hA HS; simp only [execOp]; go_simp) ⟨_, rfl, (fun h => by cases h), rfl, hI, fun _ _ h => h⟩
    · intro bb w' hf hI hA
      clear hi' hne
      have q0 : bb.tmps[13]? = some _ := hf.tmp (k := 0) rfl (by rw [ha]; decide) (hA 0 (by kernel_rfl))
      obtain ⟨e0, e1, e2, e3⟩ := (hV.keep hI.2 hVg).four
      exact Rg.op_value (o := ⟨some 14, Op.load 2 (Operand.tmp 13), _, _, _, _⟩) (x := .int .i64 l.sl) rfl rfl (by clear hA HS; simp only [execOp]; go_simp) ⟨_, rfl, (fun h => by cases h), ⟨_, rfl⟩, hI, fun _ _ h => h⟩
    · intro bb w' hf hI hA
      clear hi' hne
      have q0 := hf.kept (s := 0) (by rw [sizeL3]; kernel_rfl) k0
      exact Rg.op_value (o := ⟨some 15, Op.move (Operand.tmp 0), _, _, _, _⟩) rfl rfl rfl ⟨_, rfl, (fun h => by cases h), (by show Act.eval bb _ = _; simp [Act.eval, q0]), hI, fun _ _ h => h⟩
    · intro bb w' hf hI hA
      clear hi' hne
      have q2 : bb.tmps[15]? = some _ := hf.tmp (k := 2) rfl (by rw [ha]; decide) (hA 2 (by kernel_rfl))
      refine Rg.op_call (o := ⟨some 16, Op.call { callee := Callee.value (Operand.func 40), args := #[Operand.tmp 15, Operand.const (Value.int .i64 8)], argTypes := _ }, _, _, _, _⟩) rfl rfl (by clear hA HS; simp only [execOp, resolve]; go_simp) (below_any g ao cap bs 8 w' hI.1 (by omega)) ?_
      rintro e w2 ⟨x, rfl, hx0, hx1, hc2, hk2⟩
      obtain ⟨n, rfl⟩ := Int.eq_ofNat_of_zero_le hx0
      exact ⟨_, rfl, _, rfl, (fun h => by cases h), ⟨n, rfl, by omega⟩, ⟨hc2, hI.2.trans hk2⟩, HS hk2⟩
    · intro bb w' hf hI hA
      clear hi' hne
      obtain ⟨zx, hv1⟩ := hA 1 (by kernel_rfl)
      have q1 : bb.tmps[14]? = some _ := hf.tmp (k := 1) rfl (by rw [ha]; decide) hv1
      obtain ⟨zy, hv3, -⟩ := hA 3 (by kernel_rfl)
      have q3 : bb.tmps[16]? = some _ := hf.tmp (k := 3) rfl (by rw [ha]; decide) hv3
      exact Rg.op_value (o := ⟨some 17, Op.binOp BinOp.add 2 (Operand.tmp 14) (Operand.tmp 16) 2, _, _, _, _⟩) (x := .int .i64 (IntKind.i64.wrap (zx + zy))) rfl rfl (by clear hA HS; simp only [execOp]; go_simp) ⟨_, rfl, (fun h => by cases h), ⟨_, rfl⟩, hI, fun _ _ h => h⟩
    · intro bb w' hf hI hA
      clear hi' hne
      have qs := hf.kept (s := 3) (by rw [sizeL3]; kernel_rfl) k3
      exact Rg.op_value (o := ⟨some 18, Op.fieldAddr 25 (Operand.tmp 3) 1, _, _, _, _⟩) (x := .pointer (some ⟨V, 1, none⟩)) rfl rfl (by clear hA HS; simp only [execOp]; go_simp) ⟨_, rfl, (fun h => by cases h), rfl, hI, fun _ _ h => h⟩

theorem dL3_0 : Rg.dstAt (Rg.opsOf Try.f38 3) 0 = some 13 := by kernel_rfl
theorem dL3_1 : Rg.dstAt (Rg.opsOf Try.f38 3) 1 = some 14 := by kernel_rfl
theorem dL3_2 : Rg.dstAt (Rg.opsOf Try.f38 3) 2 = some 15 := by kernel_rfl
theorem dL3_3 : Rg.dstAt (Rg.opsOf Try.f38 3) 3 = some 16 := by kernel_rfl
theorem dL3_4 : Rg.dstAt (Rg.opsOf Try.f38 3) 4 = some 17 := by kernel_rfl
theorem dL3_5 : Rg.dstAt (Rg.opsOf Try.f38 3) 5 = some 18 := by kernel_rfl
theorem dL3_6 : Rg.dstAt (Rg.opsOf Try.f38 3) 6 = none := by kernel_rfl
theorem layL3 {a b : Act} (hf : Rg.Fr (Rg.opsOf Try.f38 3) a b) : b = ((((((a.put (some 13) (Rg.out (Rg.opsOf Try.f38 3) b 0)).put (some 14) (Rg.out (Rg.opsOf Try.f38 3) b 1)).put (some 15) (Rg.out (Rg.opsOf Try.f38 3) b 2)).put (some 16) (Rg.out (Rg.opsOf Try.f38 3) b 3)).put (some 17) (Rg.out (Rg.opsOf Try.f38 3) b 4)).put (some 18) (Rg.out (Rg.opsOf Try.f38 3) b 5)) := by
  have h := hf.chain
  rw [sizeL3, show List.range 7 = [0, 1, 2, 3, 4, 5, 6] from by decide] at h
  simp only [List.foldl_cons, List.foldl_nil, dL3_0, dL3_1, dL3_2, dL3_3, dL3_4, dL3_5, dL3_6, put_none] at h
  exact h

def FL4 (g n0 : Nat) (V : Nat) (l : Lm) (k : Nat) (v : Value) (w : World) : Prop :=
  match k with
  | 0 => v = .pointer (some ⟨V, 1, none⟩)
  | 1 => ∃ z : Int, v = .int .i64 z
  | 2 => v = .pointer (some ⟨g, 0, none⟩)
  | 3 => ∃ n : Nat, v = .int .i64 n ∧ n < 6
  | 4 => ∃ z : Int, v = .int .i64 z
  | 5 => v = .pointer (some ⟨V, 3, none⟩)
  | _ => True
theorem keepL4 {g n0 : Nat} {V : Nat} {l : Lm} {w w' : World} (hk : Keep g w w') (k : Nat) (v : Value) (h : FL4 g n0 V l k v w) : FL4 g n0 V l k v w' := by
  unfold FL4 at *
  split at h <;> first
    | exact h
    | (obtain ⟨T, zs, h1, h2, h3⟩ := h; exact ⟨T, zs, h1, h2, h3.keep hk⟩)
    | (obtain ⟨T, n, zs, h1, h2, h3⟩ := h; exact ⟨T, n, zs, h1, h2, h3.keep hk⟩)
    | (obtain ⟨B, h1, h2, h3, h4⟩ := h; exact ⟨B, h1, h2, h3, h4.keep hk h2⟩)
theorem sizeL4 : (Rg.opsOf Try.f38 4).size = 7 := by kernel_rfl

set_option maxRecDepth 20000 in
set_option maxHeartbeats 8000000 in
theorem regL4 {Q : Exit → Act → World → Prop} {a : Act} {w1 : World} {g : Nat} {ao : Option Addr} {cap : Nat} {bs : List Int} {V : Nat} {l : Lm} (ha : a.tmps.size = 61)
    (k0 : a.tmps[0]? = some (.pointer (some ⟨g, 0, none⟩))) (hc : Cur w1 g ao cap bs) (k3 : a.tmps[3]? = some (.pointer (some ⟨V, 0, none⟩))) (hV : PB w1 V #[.int .i64 l.sl, .int .i64 l.sh, .int .i64 l.hl, .int .i64 l.hh] 25) (hVg : V ≠ g)
    (hend : ∀ b' w' z, Rg.Fr (Rg.opsOf Try.f38 4) a b' → Cur w' g ao cap bs → Keep g w1 w' → Q .normal b' (w'.setCell ⟨V, 3, none⟩ (.int .i64 z))) :
    (Code.region 4 (Rg.opsOf Try.f38 4) true).wp Try.prog Q a w1 := by
  refine Rg.region_by 6 (by kernel_rfl) (fun w' => Cur w' g ao cap bs ∧ Keep g w1 w') (FL4 g w1.heap.size V l) (by rw [ha]; kernel_rfl) ⟨hc.drewN 1, (Keep.refl g w1).drewN 1⟩ ?_ ?_ (fun h => absurd h (by rw [sizeL4]; decide))
  case refine_2 =>
    intro _ bb w' hf hI hA
    rw [sizeL4] at hA
    obtain ⟨z, hz⟩ := hA 4 (by decide) (by decide)
    have qf : bb.tmps[24]? = some _ := hf.tmp (k := 5) rfl (by rw [ha]; decide) (hA 5 (by decide) (by decide))
    have qv : bb.tmps[23]? = some _ := hf.tmp (k := 4) rfl (by rw [ha]; decide) hz
    have hE := hend bb w' z hf hI.1 hI.2
    have hbx := hV.keep hI.2 hVg
    obtain ⟨e0, e1, e2, e3⟩ := hbx.four
    have ef := hbx.frozen 3
    clear hA hend hf hI hz hbx
    refine Rg.op_skip (o := ⟨none, Op.store 2 (Operand.tmp 24) (Operand.tmp 23), _, _, _, _⟩) (w' := w'.setCell ⟨V, 3, none⟩ (.int .i64 z)) rfl rfl ?_ hE
    clear hE
    simp only [execOp]
    go_simp
  case refine_1 =>
    clear hend
    have HS : ∀ {w w' : World}, Keep g w w' → ∀ k y, FL4 g w1.heap.size V l k y w → FL4 g w1.heap.size V l k y w' := fun hb k y h => keepL4 hb k y h
    intro i' hi' hne
    rw [sizeL4] at hi'
    rcases (show i' = 0 ∨ i' = 1 ∨ i' = 2 ∨ i' = 3 ∨ i' = 4 ∨ i' = 5 by omega) with rfl | rfl | rfl | rfl | rfl | rfl
    · intro bb w' hf hI hA
      clear hi' hne
      have qs := hf.kept (s := 3) (by rw [sizeL4]; kernel_rfl) k3
      exact Rg.op_value (o := ⟨some 19, Op.fieldAddr 25 (Operand.tmp 3) 1, _, _, _, _⟩) (x := .pointer (some ⟨V, 1, none⟩)) rfl rfl (by clear hA HS; simp only [execOp]; go_simp) ⟨_, rfl, (fun h => by cases h), rfl, hI, fun _ _ h => h⟩
    · intro bb w' hf hI hA
      clear hi' hne
      have q0 : bb.tmps[19]? = some _ := hf.tmp (k := 0) rfl (by rw [ha]; decide) (hA 0 (by kernel_rfl))
      obtain ⟨e0, e1, e2, e3⟩ := (hV.keep hI.2 hVg).four
      exact Rg.op_value (o := ⟨some 20, Op.load 2 (Operand.tmp 19), _, _, _, _⟩) (x := .int .i64 l.sh) rfl rfl (by clear hA HS; simp only [execOp]; go_simp) ⟨_, rfl, (fun h => by cases h), ⟨_, rfl⟩, hI, fun _ _ h => h⟩
    · intro bb w' hf hI hA
      clear hi' hne
      have q0 := hf.kept (s := 0) (by rw [sizeL4]; kernel_rfl) k0
      exact Rg.op_value (o := ⟨some 21, Op.move (Operand.tmp 0), _, _, _, _⟩) rfl rfl rfl ⟨_, rfl, (fun h => by cases h), (by show Act.eval bb _ = _; simp [Act.eval, q0]), hI, fun _ _ h => h⟩
    · intro bb w' hf hI hA
      clear hi' hne
      have q2 : bb.tmps[21]? = some _ := hf.tmp (k := 2) rfl (by rw [ha]; decide) (hA 2 (by kernel_rfl))
      refine Rg.op_call (o := ⟨some 22, Op.call { callee := Callee.value (Operand.func 40), args := #[Operand.tmp 21, Operand.const (Value.int .i64 6)], argTypes := _ }, _, _, _, _⟩) rfl rfl (by clear hA HS; simp only [execOp, resolve]; go_simp) (below_any g ao cap bs 6 w' hI.1 (by omega)) ?_
      rintro e w2 ⟨x, rfl, hx0, hx1, hc2, hk2⟩
      obtain ⟨n, rfl⟩ := Int.eq_ofNat_of_zero_le hx0
      exact ⟨_, rfl, _, rfl, (fun h => by cases h), ⟨n, rfl, by omega⟩, ⟨hc2, hI.2.trans hk2⟩, HS hk2⟩
    · intro bb w' hf hI hA
      clear hi' hne
      obtain ⟨zx, hv1⟩ := hA 1 (by kernel_rfl)
      have q1 : bb.tmps[20]? = some _ := hf.tmp (k := 1) rfl (by rw [ha]; decide) hv1
      obtain ⟨zy, hv3, -⟩ := hA 3 (by kernel_rfl)
      have q3 : bb.tmps[22]? = some _ := hf.tmp (k := 3) rfl (by rw [ha]; decide) hv3
      exact Rg.op_value (o := ⟨some 23, Op.binOp BinOp.add 2 (Operand.tmp 20) (Operand.tmp 22) 2, _, _, _, _⟩) (x := .int .i64 (IntKind.i64.wrap (zx + zy))) rfl rfl (by clear hA HS; simp only [execOp]; go_simp) ⟨_, rfl, (fun h => by cases h), ⟨_, rfl⟩, hI, fun _ _ h => h⟩
    · intro bb w' hf hI hA
      clear hi' hne
      have qs := hf.kept (s := 3) (by rw [sizeL4]; kernel_rfl) k3
      exact Rg.op_value (o := ⟨some 24, Op.fieldAddr 25 (Operand.tmp 3) 3, _, _, _, _⟩) (x := .pointer (some ⟨V, 3, none⟩)) rfl rfl (by clear hA HS; simp only [execOp]; go_simp) ⟨_, rfl, (fun h => by cases h), rfl, hI, fun _ _ h => h⟩

theorem dL4_0 : Rg.dstAt (Rg.opsOf Try.f38 4) 0 = some 19 := by kernel_rfl
theorem dL4_1 : Rg.dstAt (Rg.opsOf Try.f38 4) 1 = some 20 := by kernel_rfl
theorem dL4_2 : Rg.dstAt (Rg.opsOf Try.f38 4) 2 = some 21 := by kernel_rfl
theorem dL4_3 : Rg.dstAt (Rg.opsOf Try.f38 4) 3 = some 22 := by kernel_rfl
theorem dL4_4 : Rg.dstAt (Rg.opsOf Try.f38 4) 4 = some 23 := by kernel_rfl
theorem dL4_5 : Rg.dstAt (Rg.opsOf Try.f38 4) 5 = some 24 := by kernel_rfl
theorem dL4_6 : Rg.dstAt (Rg.opsOf Try.f38 4) 6 = none := by kernel_rfl
theorem layL4 {a b : Act} (hf : Rg.Fr (Rg.opsOf Try.f38 4) a b) : b = ((((((a.put (some 19) (Rg.out (Rg.opsOf Try.f38 4) b 0)).put (some 20) (Rg.out (Rg.opsOf Try.f38 4) b 1)).put (some 21) (Rg.out (Rg.opsOf Try.f38 4) b 2)).put (some 22) (Rg.out (Rg.opsOf Try.f38 4) b 3)).put (some 23) (Rg.out (Rg.opsOf Try.f38 4) b 4)).put (some 24) (Rg.out (Rg.opsOf Try.f38 4) b 5)) := by
  have h := hf.chain
  rw [sizeL4, show List.range 7 = [0, 1, 2, 3, 4, 5, 6] from by decide] at h
  simp only [List.foldl_cons, List.foldl_nil, dL4_0, dL4_1, dL4_2, dL4_3, dL4_4, dL4_5, dL4_6, put_none] at h
  exact h

def FL8 (g n0 : Nat) (V : Nat) (l : Lm) (k : Nat) (v : Value) (w : World) : Prop :=
  match k with
  | 0 => v = .pointer (some ⟨V, 0, none⟩)
  | 1 => ∃ z : Int, v = .int .i64 z
  | 2 => ∃ z : Int, v = .int .i64 z
  | 3 => ∃ T zs, v = .slice (some ⟨T, 0, none⟩) 2 2 ∧ zs.length = 2 ∧ Tb g w T zs
  | 4 => v = .pointer (some ⟨g, 0, none⟩)
  | 5 => ∃ n : Nat, v = .int .i64 n ∧ n < 2
  | 6 => ∃ T n zs, v = .pointer (some ⟨T, n, none⟩) ∧ n < zs.length ∧ Tb g w T zs
  | 7 => ∃ z : Int, v = .int .i64 z
  | 8 => v = .pointer (some ⟨V, 2, none⟩)
  | _ => True
theorem keepL8 {g n0 : Nat} {V : Nat} {l : Lm} {w w' : World} (hk : Keep g w w') (k : Nat) (v : Value) (h : FL8 g n0 V l k v w) : FL8 g n0 V l k v w' := by
  unfold FL8 at *
  split at h <;> first
    | exact h
    | (obtain ⟨T, zs, h1, h2, h3⟩ := h; exact ⟨T, zs, h1, h2, h3.keep hk⟩)
    | (obtain ⟨T, n, zs, h1, h2, h3⟩ := h; exact ⟨T, n, zs, h1, h2, h3.keep hk⟩)
    | (obtain ⟨B, h1, h2, h3, h4⟩ := h; exact ⟨B, h1, h2, h3, h4.keep hk h2⟩)
theorem sizeL8 : (Rg.opsOf Try.f38 8).size = 10 := by kernel_rfl

set_option maxRecDepth 20000 in
set_option maxHeartbeats 8000000 in
theorem regL8 {Q : Exit → Act → World → Prop} {a : Act} {w1 : World} {g : Nat} {ao : Option Addr} {cap : Nat} {bs : List Int} {V : Nat} {l : Lm} (ha : a.tmps.size = 61)
    (k0 : a.tmps[0]? = some (.pointer (some ⟨g, 0, none⟩))) (hc : Cur w1 g ao cap bs) (k3 : a.tmps[3]? = some (.pointer (some ⟨V, 0, none⟩))) (hV : PB w1 V #[.int .i64 l.sl, .int .i64 l.sh, .int .i64 l.hl, .int .i64 l.hh] 25) (hVg : V ≠ g)
    (hend : ∀ b' w' z, Rg.Fr (Rg.opsOf Try.f38 8) a b' → Cur w' g ao cap bs → Keep g w1 w' → Q .normal b' (w'.setCell ⟨V, 2, none⟩ (.int .i64 z))) :
    (Code.region 8 (Rg.opsOf Try.f38 8) true).wp Try.prog Q a w1 := by
  refine Rg.region_by 9 (by kernel_rfl) (fun w' => Cur w' g ao cap bs ∧ Keep g w1 w') (FL8 g w1.heap.size V l) (by rw [ha]; kernel_rfl) ⟨hc.drewN 1, (Keep.refl g w1).drewN 1⟩ ?_ ?_ (fun h => absurd h (by rw [sizeL8]; decide))
  case refine_2 =>
    intro _ bb w' hf hI hA
    rw [sizeL8] at hA
    obtain ⟨z, hz⟩ := hA 7 (by decide) (by decide)
    have qf : bb.tmps[39]? = some _ := hf.tmp (k := 8) rfl (by rw [ha]; decide) (hA 8 (by decide) (by decide))
    have qv : bb.tmps[38]? = some _ := hf.tmp (k := 7) rfl (by rw [ha]; decide) hz
    have hE := hend bb w' z hf hI.1 hI.2
    have hbx := hV.keep hI.2 hVg
    obtain ⟨e0, e1, e2, e3⟩ := hbx.four
    have ef := hbx.frozen 2
    clear hA hend hf hI hz hbx
    refine Rg.op_skip (o := ⟨none, Op.store 2 (Operand.tmp 39) (Operand.tmp 38), _, _, _, _⟩) (w' := w'.setCell ⟨V, 2, none⟩ (.int .i64 z)) rfl rfl ?_ hE
    clear hE
    simp only [execOp]
    go_simp
  case refine_1 =>
    clear hend
    have HS : ∀ {w w' : World}, Keep g w w' → ∀ k y, FL8 g w1.heap.size V l k y w → FL8 g w1.heap.size V l k y w' := fun hb k y h => keepL8 hb k y h
    intro i' hi' hne
    rw [sizeL8] at hi'
    rcases (show i' = 0 ∨ i' = 1 ∨ i' = 2 ∨ i' = 3 ∨ i' = 4 ∨ i' = 5 ∨ i' = 6 ∨ i' = 7 ∨ i' = 8 by omega) with rfl | rfl | rfl | rfl | rfl | rfl | rfl | rfl | rfl
    · intro bb w' hf hI hA
      clear hi' hne
      have qs := hf.kept (s := 3) (by rw [sizeL8]; kernel_rfl) k3
      exact Rg.op_value (o := ⟨some 31, Op.fieldAddr 25 (Operand.tmp 3) 0, _, _, _, _⟩) (x := .pointer (some ⟨V, 0, none⟩)) rfl rfl (by clear hA HS; simp only [execOp]; go_simp) ⟨_, rfl, (fun h => by cases h), rfl, hI, fun _ _ h => h⟩
    · intro bb w' hf hI hA
      clear hi' hne
      have q0 : bb.tmps[31]? = some _ := hf.tmp (k := 0) rfl (by rw [ha]; decide) (hA 0 (by kernel_rfl))
      obtain ⟨e0, e1, e2, e3⟩ := (hV.keep hI.2 hVg).four
      exact Rg.op_value (o := ⟨some 32, Op.load 2 (Operand.tmp 31), _, _, _, _⟩) (x := .int .i64 l.sl) rfl rfl (by clear hA HS; simp only [execOp]; go_simp) ⟨_, rfl, (fun h => by cases h), ⟨_, rfl⟩, hI, fun _ _ h => h⟩
    · intro bb w' hf hI hA
      clear hi' hne
      obtain ⟨zx, hv1⟩ := hA 1 (by kernel_rfl)
      have q1 : bb.tmps[32]? = some _ := hf.tmp (k := 1) rfl (by rw [ha]; decide) hv1
      exact Rg.op_value (o := ⟨some 33, Op.binOp BinOp.add 2 (Operand.tmp 32) (Operand.const (Value.int .i64 1)) 2, _, _, _, _⟩) (x := .int .i64 (IntKind.i64.wrap (zx + 1))) rfl rfl (by clear hA HS; simp only [execOp]; go_simp) ⟨_, rfl, (fun h => by cases h), ⟨_, rfl⟩, hI, fun _ _ h => h⟩
    · intro bb w' hf hI hA
      clear hi' hne
      obtain ⟨z2, hv2⟩ := hA 2 (by kernel_rfl)
      have q2 : bb.tmps[33]? = some _ := hf.tmp (k := 2) rfl (by rw [ha]; decide) hv2
      have hK : Keep g w' (w'.alloc (.cells #[.int .i64 (-1), .int .i64 z2] 2)) := (Keep.refl g w').alloc _
      have hT := Tb.new (g := g) (w := w') [(-1), z2] hI.1.1
      exact Rg.op_value (o := ⟨some 34, Op.buildSlice 42 2 #[(0, Operand.const (Value.int .i64 (-1))), (1, Operand.tmp 33)], _, _, _, _⟩) (x := .slice (some ⟨w'.heap.size, 0, none⟩) 2 2) (w' := w'.alloc (.cells #[.int .i64 (-1), .int .i64 z2] 2)) rfl rfl (by clear hA HS; simp only [execOp]; go_simp) ⟨_, rfl, (fun h => by cases h), ⟨_, _, rfl, rfl, hT⟩, ⟨hI.1.alloc _, hI.2.trans hK⟩, HS hK⟩
    · intro bb w' hf hI hA
      clear hi' hne
      have q0 := hf.kept (s := 0) (by rw [sizeL8]; kernel_rfl) k0
      exact Rg.op_value (o := ⟨some 35, Op.move (Operand.tmp 0), _, _, _, _⟩) rfl rfl rfl ⟨_, rfl, (fun h => by cases h), (by show Act.eval bb _ = _; simp [Act.eval, q0]), hI, fun _ _ h => h⟩
    · intro bb w' hf hI hA
      clear hi' hne
      have q4 : bb.tmps[35]? = some _ := hf.tmp (k := 4) rfl (by rw [ha]; decide) (hA 4 (by kernel_rfl))
      refine Rg.op_call (o := ⟨some 36, Op.call { callee := Callee.value (Operand.func 40), args := #[Operand.tmp 35, Operand.const (Value.int .i64 2)], argTypes := _ }, _, _, _, _⟩) rfl rfl (by clear hA HS; simp only [execOp, resolve]; go_simp) (below_any g ao cap bs 2 w' hI.1 (by omega)) ?_
      rintro e w2 ⟨x, rfl, hx0, hx1, hc2, hk2⟩
      obtain ⟨n, rfl⟩ := Int.eq_ofNat_of_zero_le hx0
      exact ⟨_, rfl, _, rfl, (fun h => by cases h), ⟨n, rfl, by omega⟩, ⟨hc2, hI.2.trans hk2⟩, HS hk2⟩
    · intro bb w' hf hI hA
      clear hi' hne
      obtain ⟨T, zs, hT, hzl, hTb⟩ := hA 3 (by kernel_rfl)
      obtain ⟨n, hn, hnl⟩ := hA 5 (by kernel_rfl)
      have qt : bb.tmps[34]? = some _ := hf.tmp (k := 3) rfl (by rw [ha]; decide) hT
      have qn : bb.tmps[36]? = some _ := hf.tmp (k := 5) rfl (by rw [ha]; decide) hn
      have hnl2 : (n : Int) < 2 := by omega
      exact Rg.op_value (o := ⟨some 37, Op.indexAddr 42 (Operand.tmp 34) (Operand.tmp 36), _, _, _, _⟩) (x := .pointer (some ⟨T, n, none⟩)) rfl rfl (by clear hA HS hT hn hTb hzl; simp only [execOp]; go_simp) ⟨_, rfl, (fun h => by cases h), ⟨T, n, zs, rfl, by omega, hTb⟩, hI, fun _ _ h => h⟩
    · intro bb w' hf hI hA
      clear hi' hne
      obtain ⟨T, n, zs, hp, hnl, hTb⟩ := hA 6 (by kernel_rfl)
      have qp : bb.tmps[37]? = some _ := hf.tmp (k := 6) rfl (by rw [ha]; decide) hp
      have hcell := hTb.at hnl
      generalize hz : zs[n] = z at hcell
      exact Rg.op_value (o := ⟨some 38, Op.load 2 (Operand.tmp 37), _, _, _, _⟩) (x := .int .i64 z) rfl rfl (by clear hA HS hp hTb hz; simp only [execOp]; go_simp) ⟨_, rfl, (fun h => by cases h), ⟨z, rfl⟩, hI, fun _ _ h => h⟩
    · intro bb w' hf hI hA
      clear hi' hne
      have qs := hf.kept (s := 3) (by rw [sizeL8]; kernel_rfl) k3
      exact Rg.op_value (o := ⟨some 39, Op.fieldAddr 25 (Operand.tmp 3) 2, _, _, _, _⟩) (x := .pointer (some ⟨V, 2, none⟩)) rfl rfl (by clear hA HS; simp only [execOp]; go_simp) ⟨_, rfl, (fun h => by cases h), rfl, hI, fun _ _ h => h⟩

theorem dL8_0 : Rg.dstAt (Rg.opsOf Try.f38 8) 0 = some 31 := by kernel_rfl
theorem dL8_1 : Rg.dstAt (Rg.opsOf Try.f38 8) 1 = some 32 := by kernel_rfl
theorem dL8_2 : Rg.dstAt (Rg.opsOf Try.f38 8) 2 = some 33 := by kernel_rfl
theorem dL8_3 : Rg.dstAt (Rg.opsOf Try.f38 8) 3 = some 34 := by kernel_rfl
theorem dL8_4 : Rg.dstAt (Rg.opsOf Try.f38 8) 4 = some 35 := by kernel_rfl
theorem dL8_5 : Rg.dstAt (Rg.opsOf Try.f38 8) 5 = some 36 := by kernel_rfl
theorem dL8_6 : Rg.dstAt (Rg.opsOf Try.f38 8) 6 = some 37 := by kernel_rfl
theorem dL8_7 : Rg.dstAt (Rg.opsOf Try.f38 8) 7 = some 38 := by kernel_rfl
theorem dL8_8 : Rg.dstAt (Rg.opsOf Try.f38 8) 8 = some 39 := by kernel_rfl
theorem dL8_9 : Rg.dstAt (Rg.opsOf Try.f38 8) 9 = none := by kernel_rfl
theorem layL8 {a b : Act} (hf : Rg.Fr (Rg.opsOf Try.f38 8) a b) : b = (((((((((a.put (some 31) (Rg.out (Rg.opsOf Try.f38 8) b 0)).put (some 32) (Rg.out (Rg.opsOf Try.f38 8) b 1)).put (some 33) (Rg.out (Rg.opsOf Try.f38 8) b 2)).put (some 34) (Rg.out (Rg.opsOf Try.f38 8) b 3)).put (some 35) (Rg.out (Rg.opsOf Try.f38 8) b 4)).put (some 36) (Rg.out (Rg.opsOf Try.f38 8) b 5)).put (some 37) (Rg.out (Rg.opsOf Try.f38 8) b 6)).put (some 38) (Rg.out (Rg.opsOf Try.f38 8) b 7)).put (some 39) (Rg.out (Rg.opsOf Try.f38 8) b 8)) := by
  have h := hf.chain
  rw [sizeL8, show List.range 10 = [0, 1, 2, 3, 4, 5, 6, 7, 8, 9] from by decide] at h
  simp only [List.foldl_cons, List.foldl_nil, dL8_0, dL8_1, dL8_2, dL8_3, dL8_4, dL8_5, dL8_6, dL8_7, dL8_8, dL8_9, put_none] at h
  exact h

def FL10 (g n0 : Nat) (V : Nat) (l : Lm) (k : Nat) (v : Value) (w : World) : Prop :=
  match k with
  | 0 => v = .pointer (some ⟨V, 1, none⟩)
  | 1 => ∃ z : Int, v = .int .i64 z
  | 2 => ∃ z : Int, v = .int .i64 z
  | 3 => ∃ T zs, v = .slice (some ⟨T, 0, none⟩) 3 3 ∧ zs.length = 3 ∧ Tb g w T zs
  | 4 => v = .pointer (some ⟨g, 0, none⟩)
  | 5 => ∃ n : Nat, v = .int .i64 n ∧ n < 3
  | 6 => ∃ T n zs, v = .pointer (some ⟨T, n, none⟩) ∧ n < zs.length ∧ Tb g w T zs
  | 7 => ∃ z : Int, v = .int .i64 z
  | 8 => v = .pointer (some ⟨V, 3, none⟩)
  | _ => True
theorem keepL10 {g n0 : Nat} {V : Nat} {l : Lm} {w w' : World} (hk : Keep g w w') (k : Nat) (v : Value) (h : FL10 g n0 V l k v w) : FL10 g n0 V l k v w' := by
  unfold FL10 at *
  split at h <;> first
    | exact h
    | (obtain ⟨T, zs, h1, h2, h3⟩ := h; exact ⟨T, zs, h1, h2, h3.keep hk⟩)
    | (obtain ⟨T, n, zs, h1, h2, h3⟩ := h; exact ⟨T, n, zs, h1, h2, h3.keep hk⟩)
    | (obtain ⟨B, h1, h2, h3, h4⟩ := h; exact ⟨B, h1, h2, h3, h4.keep hk h2⟩)
theorem sizeL10 : (Rg.opsOf Try.f38 10).size = 10 := by kernel_rfl

set_option maxRecDepth 20000 in
set_option maxHeartbeats 8000000 in
theorem regL10 {Q : Exit → Act → World → Prop} {a : Act} {w1 : World} {g : Nat} {ao : Option Addr} {cap : Nat} {bs : List Int} {V : Nat} {l : Lm} (ha : a.tmps.size = 61)
    (k0 : a.tmps[0]? = some (.pointer (some ⟨g, 0, none⟩))) (hc : Cur w1 g ao cap bs) (k3 : a.tmps[3]? = some (.pointer (some ⟨V, 0, none⟩))) (hV : PB w1 V #[.int .i64 l.sl, .int .i64 l.sh, .int .i64 l.hl, .int .i64 l.hh] 25) (hVg : V ≠ g)
    (hend : ∀ b' w' z, Rg.Fr (Rg.opsOf Try.f38 10) a b' → Cur w' g ao cap bs → Keep g w1 w' → Q .normal b' (w'.setCell ⟨V, 3, none⟩ (.int .i64 z))) :
    (Code.region 10 (Rg.opsOf Try.f38 10) true).wp Try.prog Q a w1 := by
  refine Rg.region_by 9 (by kernel_rfl) (fun w' => Cur w' g ao cap bs ∧ Keep g w1 w') (FL10 g w1.heap.size V l) (by rw [ha]; kernel_rfl) ⟨hc.drewN 1, (Keep.refl g w1).drewN 1⟩ ?_ ?_ (fun h => absurd h (by rw [sizeL10]; decide))
  case refine_2 =>
    intro _ bb w' hf hI hA
    rw [sizeL10] at hA
    obtain ⟨z, hz⟩ := hA 7 (by decide) (by decide)
    have qf : bb.tmps[50]? = some _ := hf.tmp (k := 8) rfl (by rw [ha]; decide) (hA 8 (by decide) (by decide))
    have qv : bb.tmps[49]? = some _ := hf.tmp (k := 7) rfl (by rw [ha]; decide) hz
    have hE := hend bb w' z hf hI.1 hI.2
    have hbx := hV.keep hI.2 hVg
    obtain ⟨e0, e1, e2, e3⟩ := hbx.four
    have ef := hbx.frozen 3
    clear hA hend hf hI hz hbx
    refine Rg.op_skip (o := ⟨none, Op.store 2 (Operand.tmp 50) (Operand.tmp 49), _, _, _, _⟩) (w' := w'.setCell ⟨V, 3, none⟩ (.int .i64 z)) rfl rfl ?_ hE
    clear hE
    simp only [execOp]
    go_simp
  case refine_1 =>
    clear hend
    have HS : ∀ {w w' : World}, Keep g w w' → ∀ k y, FL10 g w1.heap.size V l k y w → FL10 g w1.heap.size V l k y w' := fun hb k y h => keepL10 hb k y h
    intro i' hi' hne
    rw [sizeL10] at hi'
    rcases (show i' = 0 ∨ i' = 1 ∨ i' = 2 ∨ i' = 3 ∨ i' = 4 ∨ i' = 5 ∨ i' = 6 ∨ i' = 7 ∨ i' = 8 by omega) with rfl | rfl | rfl | rfl | rfl | rfl | rfl | rfl | rfl
    · intro bb w' hf hI hA
      clear hi' hne
      have qs := hf.kept (s := 3) (by rw [sizeL10]; kernel_rfl) k3
      exact Rg.op_value (o := ⟨some 42, Op.fieldAddr 25 (Operand.tmp 3) 1, _, _, _, _⟩) (x := .pointer (some ⟨V, 1, none⟩)) rfl rfl (by clear hA HS; simp only [execOp]; go_simp) ⟨_, rfl, (fun h => by cases h), rfl, hI, fun _ _ h => h⟩
    · intro bb w' hf hI hA
      clear hi' hne
      have q0 : bb.tmps[42]? = some _ := hf.tmp (k := 0) rfl (by rw [ha]; decide) (hA 0 (by kernel_rfl))
      obtain ⟨e0, e1, e2, e3⟩ := (hV.keep hI.2 hVg).four
      exact Rg.op_value (o := ⟨some 43, Op.load 2 (Operand.tmp 42), _, _, _, _⟩) (x := .int .i64 l.sh) rfl rfl (by clear hA HS; simp only [execOp]; go_simp) ⟨_, rfl, (fun h => by cases h), ⟨_, rfl⟩, hI, fun _ _ h => h⟩
    · intro bb w' hf hI hA
      clear hi' hne
      obtain ⟨zx, hv1⟩ := hA 1 (by kernel_rfl)
      have q1 : bb.tmps[43]? = some _ := hf.tmp (k := 1) rfl (by rw [ha]; decide) hv1
      exact Rg.op_value (o := ⟨some 44, Op.binOp BinOp.sub 2 (Operand.tmp 43) (Operand.const (Value.int .i64 1)) 2, _, _, _, _⟩) (x := .int .i64 (IntKind.i64.wrap (zx - 1))) rfl rfl (by clear hA HS; simp only [execOp]; go_simp) ⟨_, rfl, (fun h => by cases h), ⟨_, rfl⟩, hI, fun _ _ h => h⟩
    · intro bb w' hf hI hA
      clear hi' hne
      obtain ⟨z2, hv2⟩ := hA 2 (by kernel_rfl)
      have q2 : bb.tmps[44]? = some _ := hf.tmp (k := 2) rfl (by rw [ha]; decide) hv2
      have hK : Keep g w' (w'.alloc (.cells #[.int .i64 (100000), .int .i64 (100001), .int .i64 z2] 2)) := (Keep.refl g w').alloc _
      have hT := Tb.new (g := g) (w := w') [(100000), (100001), z2] hI.1.1
      exact Rg.op_value (o := ⟨some 45, Op.buildSlice 42 3 #[(0, Operand.const (Value.int .i64 (100000))), (1, Operand.const (Value.int .i64 (100001))), (2, Operand.tmp 44)], _, _, _, _⟩) (x := .slice (some ⟨w'.heap.size, 0, none⟩) 3 3) (w' := w'.alloc (.cells #[.int .i64 (100000), .int .i64 (100001), .int .i64 z2] 2)) rfl rfl (by clear hA HS; simp only [execOp]; go_simp) ⟨_, rfl, (fun h => by cases h), ⟨_, _, rfl, rfl, hT⟩, ⟨hI.1.alloc _, hI.2.trans hK⟩, HS hK⟩
    · intro bb w' hf hI hA
      clear hi' hne
      have q0 := hf.kept (s := 0) (by rw [sizeL10]; kernel_rfl) k0
      exact Rg.op_value (o := ⟨some 46, Op.move (Operand.tmp 0), _, _, _, _⟩) rfl rfl rfl ⟨_, rfl, (fun h => by cases h), (by show Act.eval bb _ = _; simp [Act.eval, q0]), hI, fun _ _ h => h⟩
    · intro bb w' hf hI hA
      clear hi' hne
      have q4 : bb.tmps[46]? = some _ := hf.tmp (k := 4) rfl (by rw [ha]; decide) (hA 4 (by kernel_rfl))
      refine Rg.op_call (o := ⟨some 47, Op.call { callee := Callee.value (Operand.func 40), args := #[Operand.tmp 46, Operand.const (Value.int .i64 3)], argTypes := _ }, _, _, _, _⟩) rfl rfl (by clear hA HS; simp only [execOp, resolve]; go_simp) (below_any g ao cap bs 3 w' hI.1 (by omega)) ?_
      rintro e w2 ⟨x, rfl, hx0, hx1, hc2, hk2⟩
      obtain ⟨n, rfl⟩ := Int.eq_ofNat_of_zero_le hx0
      exact ⟨_, rfl, _, rfl, (fun h => by cases h), ⟨n, rfl, by omega⟩, ⟨hc2, hI.2.trans hk2⟩, HS hk2⟩
    · intro bb w' hf hI hA
      clear hi' hne
      obtain ⟨T, zs, hT, hzl, hTb⟩ := hA 3 (by kernel_rfl)
      obtain ⟨n, hn, hnl⟩ := hA 5 (by kernel_rfl)
      have qt : bb.tmps[45]? = some _ := hf.tmp (k := 3) rfl (by rw [ha]; decide) hT
      have qn : bb.tmps[47]? = some _ := hf.tmp (k := 5) rfl (by rw [ha]; decide) hn
      have hnl2 : (n : Int) < 3 := by omega
      exact Rg.op_value (o := ⟨some 48, Op.indexAddr 42 (Operand.tmp 45) (Operand.tmp 47), _, _, _, _⟩) (x := .pointer (some ⟨T, n, none⟩)) rfl rfl (by clear hA HS hT hn hTb hzl; simp only [execOp]; go_simp) ⟨_, rfl, (fun h => by cases h), ⟨T, n, zs, rfl, by omega, hTb⟩, hI, fun _ _ h => h⟩
    · intro bb w' hf hI hA
      clear hi' hne
      obtain ⟨T, n, zs, hp, hnl, hTb⟩ := hA 6 (by kernel_rfl)
      have qp : bb.tmps[48]? = some _ := hf.tmp (k := 6) rfl (by rw [ha]; decide) hp
      have hcell := hTb.at hnl
      generalize hz : zs[n] = z at hcell
      exact Rg.op_value (o := ⟨some 49, Op.load 2 (Operand.tmp 48), _, _, _, _⟩) (x := .int .i64 z) rfl rfl (by clear hA HS hp hTb hz; simp only [execOp]; go_simp) ⟨_, rfl, (fun h => by cases h), ⟨z, rfl⟩, hI, fun _ _ h => h⟩
    · intro bb w' hf hI hA
      clear hi' hne
      have qs := hf.kept (s := 3) (by rw [sizeL10]; kernel_rfl) k3
      exact Rg.op_value (o := ⟨some 50, Op.fieldAddr 25 (Operand.tmp 3) 3, _, _, _, _⟩) (x := .pointer (some ⟨V, 3, none⟩)) rfl rfl (by clear hA HS; simp only [execOp]; go_simp) ⟨_, rfl, (fun h => by cases h), rfl, hI, fun _ _ h => h⟩

theorem dL10_0 : Rg.dstAt (Rg.opsOf Try.f38 10) 0 = some 42 := by kernel_rfl
theorem dL10_1 : Rg.dstAt (Rg.opsOf Try.f38 10) 1 = some 43 := by kernel_rfl
theorem dL10_2 : Rg.dstAt (Rg.opsOf Try.f38 10) 2 = some 44 := by kernel_rfl
theorem dL10_3 : Rg.dstAt (Rg.opsOf Try.f38 10) 3 = some 45 := by kernel_rfl
theorem dL10_4 : Rg.dstAt (Rg.opsOf Try.f38 10) 4 = some 46 := by kernel_rfl
theorem dL10_5 : Rg.dstAt (Rg.opsOf Try.f38 10) 5 = some 47 := by kernel_rfl
theorem dL10_6 : Rg.dstAt (Rg.opsOf Try.f38 10) 6 = some 48 := by kernel_rfl
theorem dL10_7 : Rg.dstAt (Rg.opsOf Try.f38 10) 7 = some 49 := by kernel_rfl
theorem dL10_8 : Rg.dstAt (Rg.opsOf Try.f38 10) 8 = some 50 := by kernel_rfl
theorem dL10_9 : Rg.dstAt (Rg.opsOf Try.f38 10) 9 = none := by kernel_rfl
theorem layL10 {a b : Act} (hf : Rg.Fr (Rg.opsOf Try.f38 10) a b) : b = (((((((((a.put (some 42) (Rg.out (Rg.opsOf Try.f38 10) b 0)).put (some 43) (Rg.out (Rg.opsOf Try.f38 10) b 1)).put (some 44) (Rg.out (Rg.opsOf Try.f38 10) b 2)).put (some 45) (Rg.out (Rg.opsOf Try.f38 10) b 3)).put (some 46) (Rg.out (Rg.opsOf Try.f38 10) b 4)).put (some 47) (Rg.out (Rg.opsOf Try.f38 10) b 5)).put (some 48) (Rg.out (Rg.opsOf Try.f38 10) b 6)).put (some 49) (Rg.out (Rg.opsOf Try.f38 10) b 7)).put (some 50) (Rg.out (Rg.opsOf Try.f38 10) b 8)) := by
  have h := hf.chain
  rw [sizeL10, show List.range 10 = [0, 1, 2, 3, 4, 5, 6, 7, 8, 9] from by decide] at h
  simp only [List.foldl_cons, List.foldl_nil, dL10_0, dL10_1, dL10_2, dL10_3, dL10_4, dL10_5, dL10_6, dL10_7, dL10_8, dL10_9, put_none] at h
  exact h

def FA1 (g n0 : Nat) (V : Nat) (l : Lm) (k : Nat) (v : Value) (w : World) : Prop :=
  match k with
  | 0 => ∃ T zs, v = .slice (some ⟨T, 0, none⟩) 17 17 ∧ zs.length = 17 ∧ Tb g w T zs
  | 1 => v = .pointer (some ⟨g, 0, none⟩)
  | 2 => ∃ n : Nat, v = .int .i64 n ∧ n < 17
  | 3 => ∃ T n zs, v = .pointer (some ⟨T, n, none⟩) ∧ n < zs.length ∧ Tb g w T zs
  | 4 => ∃ z : Int, v = .int .i64 z
  | 5 => v = .pointer (some ⟨V, 2, none⟩)
  | 6 => ∃ z : Int, v = .int .i64 z
  | 7 => v = .pointer (some ⟨g, 0, none⟩)
  | 8 => ∃ z : Int, v = .int .i64 z
  | 9 => ∃ z : Int, v = .int .i64 z
  | 10 => ∃ c : Ac, v = aAc c
  | 11 => ∃ B, v = .pointer (some ⟨B, 0, none⟩) ∧ B ≠ g ∧ n0 ≤ B ∧ PB w B #[.int .i64 0, .int .i64 0] 29
  | _ => True
theorem keepA1 {g n0 : Nat} {V : Nat} {l : Lm} {w w' : World} (hk : Keep g w w') (k : Nat) (v : Value) (h : FA1 g n0 V l k v w) : FA1 g n0 V l k v w' := by
  unfold FA1 at *
  split at h <;> first
    | exact h
    | (obtain ⟨T, zs, h1, h2, h3⟩ := h; exact ⟨T, zs, h1, h2, h3.keep hk⟩)
    | (obtain ⟨T, n, zs, h1, h2, h3⟩ := h; exact ⟨T, n, zs, h1, h2, h3.keep hk⟩)
    | (obtain ⟨B, h1, h2, h3, h4⟩ := h; exact ⟨B, h1, h2, h3, h4.keep hk h2⟩)
theorem sizeA1 : (Rg.opsOf Try.f27 1).size = 13 := by kernel_rfl

set_option maxRecDepth 20000 in
set_option maxHeartbeats 8000000 in
theorem regA1 {Q : Exit → Act → World → Prop} {a : Act} {w1 : World} {g : Nat} {ao : Option Addr} {cap : Nat} {bs : List Int} {V : Nat} {l : Lm} (ha : a.tmps.size = 39)
    (k0 : a.tmps[0]? = some (.pointer (some ⟨g, 0, none⟩))) (hc : Cur w1 g ao cap bs) (k3 : a.tmps[3]? = some (.pointer (some ⟨V, 0, none⟩))) (hV : PB w1 V #[.int .i64 l.sl, .int .i64 l.sh, .int .i64 l.hl, .int .i64 l.hh] 25) (hVg : V ≠ g)
    (hend : ∀ b' w' (B : Nat) (c : Ac), Rg.Fr (Rg.opsOf Try.f27 1) a b' → Cur w' g ao cap bs → Keep g w1 w' → Rg.out (Rg.opsOf Try.f27 1) b' 11 = .pointer (some ⟨B, 0, none⟩) → B ≠ g → w1.heap.size ≤ B → PB w' B #[.int .i64 0, .int .i64 0] 29 → Q .normal b' ((w'.setCell ⟨B, 0, none⟩ (.int .i64 c.kind)).setCell ⟨B, 1, none⟩ (.int .i64 c.n))) :
    (Code.region 1 (Rg.opsOf Try.f27 1) true).wp Try.prog Q a w1 := by
  refine Rg.region_by 12 (by kernel_rfl) (fun w' => Cur w' g ao cap bs ∧ Keep g w1 w') (FA1 g w1.heap.size V l) (by rw [ha]; kernel_rfl) ⟨hc.drewN 1, (Keep.refl g w1).drewN 1⟩ ?_ ?_ (fun h => absurd h (by rw [sizeA1]; decide))
  case refine_2 =>
    intro _ bb w' hf hI hA
    rw [sizeA1] at hA
    obtain ⟨c, hm⟩ := hA 10 (by decide) (by decide)
    obtain ⟨B, hB, hBg, hBl, hBh⟩ := hA 11 (by decide) (by decide)
    have qm : bb.tmps[16]? = some _ := hf.tmp (k := 10) rfl (by rw [ha]; decide) hm
    have qB : bb.tmps[5]? = some _ := hf.tmp (k := 11) rfl (by rw [ha]; decide) hB
    have hE := hend bb w' B c hf hI.1 hI.2 hB hBg hBl hBh
    obtain ⟨e0, e1⟩ := hBh.two
    have f0 := hBh.frozen 0
    have f1 := hBh.frozen 1
    unfold aAc at qm
    clear hA hend hf hI hm hB hBh
    refine Rg.op_skip (o := ⟨none, Op.store 29 (Operand.tmp 5) (Operand.tmp 16), _, _, _, _⟩) (w' := (w'.setCell ⟨B, 0, none⟩ (.int .i64 c.kind)).setCell ⟨B, 1, none⟩ (.int .i64 c.n)) rfl rfl ?_ hE
    clear hE
    simp only [execOp]
    go_simp
  case refine_1 =>
    clear hend
    have HS : ∀ {w w' : World}, Keep g w w' → ∀ k y, FA1 g w1.heap.size V l k y w → FA1 g w1.heap.size V l k y w' := fun hb k y h => keepA1 hb k y h
    intro i' hi' hne
    rw [sizeA1] at hi'
    rcases (show i' = 0 ∨ i' = 1 ∨ i' = 2 ∨ i' = 3 ∨ i' = 4 ∨ i' = 5 ∨ i' = 6 ∨ i' = 7 ∨ i' = 8 ∨ i' = 9 ∨ i' = 10 ∨ i' = 11 by omega) with rfl | rfl | rfl | rfl | rfl | rfl | rfl | rfl | rfl | rfl | rfl | rfl
    · intro bb w' hf hI hA
      clear hi' hne
      have hK : Keep g w' (w'.alloc (.cells #[.int .i64 (1), .int .i64 (1), .int .i64 (1), .int .i64 (2), .int .i64 (3), .int .i64 (3), .int .i64 (3), .int .i64 (4), .int .i64 (5), .int .i64 (6), .int .i64 (6), .int .i64 (7), .int .i64 (7), .int .i64 (7), .int .i64 (8), .int .i64 (9), .int .i64 (10)] 2)) := (Keep.refl g w').alloc _
      have hT := Tb.new (g := g) (w := w') [(1), (1), (1), (2), (3), (3), (3), (4), (5), (6), (6), (7), (7), (7), (8), (9), (10)] hI.1.1
      exact Rg.op_value (o := ⟨some 6, Op.buildSlice 42 17 #[(0, Operand.const (Value.int .i64 (1))), (1, Operand.const (Value.int .i64 (1))), (2, Operand.const (Value.int .i64 (1))), (3, Operand.const (Value.int .i64 (2))), (4, Operand.const (Value.int .i64 (3))), (5, Operand.const (Value.int .i64 (3))), (6, Operand.const (Value.int .i64 (3))), (7, Operand.const (Value.int .i64 (4))), (8, Operand.const (Value.int .i64 (5))), (9, Operand.const (Value.int .i64 (6))), (10, Operand.const (Value.int .i64 (6))), (11, Operand.const (Value.int .i64 (7))), (12, Operand.const (Value.int .i64 (7))), (13, Operand.const (Value.int .i64 (7))), (14, Operand.const (Value.int .i64 (8))), (15, Operand.const (Value.int .i64 (9))), (16, Operand.const (Value.int .i64 (10)))], _, _, _, _⟩) (x := .slice (some ⟨w'.heap.size, 0, none⟩) 17 17) (w' := w'.alloc (.cells #[.int .i64 (1), .int .i64 (1), .int .i64 (1), .int .i64 (2), .int .i64 (3), .int .i64 (3), .int .i64 (3), .int .i64 (4), .int .i64 (5), .int .i64 (6), .int .i64 (6), .int .i64 (7), .int .i64 (7), .int .i64 (7), .int .i64 (8), .int .i64 (9), .int .i64 (10)] 2)) rfl rfl (by clear hA HS; simp only [execOp]; go_simp) ⟨_, rfl, (fun h => by cases h), ⟨_, _, rfl, rfl, hT⟩, ⟨hI.1.alloc _, hI.2.trans hK⟩, HS hK⟩
    · intro bb w' hf hI hA
      clear hi' hne
      have q0 := hf.kept (s := 0) (by rw [sizeA1]; kernel_rfl) k0
      exact Rg.op_value (o := ⟨some 7, Op.move (Operand.tmp 0), _, _, _, _⟩) rfl rfl rfl ⟨_, rfl, (fun h => by cases h), (by show Act.eval bb _ = _; simp [Act.eval, q0]), hI, fun _ _ h => h⟩
    · intro bb w' hf hI hA
      clear hi' hne
      have q1 : bb.tmps[7]? = some _ := hf.tmp (k := 1) rfl (by rw [ha]; decide) (hA 1 (by kernel_rfl))
      refine Rg.op_call (o := ⟨some 8, Op.call { callee := Callee.value (Operand.func 40), args := #[Operand.tmp 7, Operand.const (Value.int .i64 17)], argTypes := _ }, _, _, _, _⟩) rfl rfl (by clear hA HS; simp only [execOp, resolve]; go_simp) (below_any g ao cap bs 17 w' hI.1 (by omega)) ?_
      rintro e w2 ⟨x, rfl, hx0, hx1, hc2, hk2⟩
      obtain ⟨n, rfl⟩ := Int.eq_ofNat_of_zero_le hx0
      exact ⟨_, rfl, _, rfl, (fun h => by cases h), ⟨n, rfl, by omega⟩, ⟨hc2, hI.2.trans hk2⟩, HS hk2⟩
    · intro bb w' hf hI hA
      clear hi' hne
      obtain ⟨T, zs, hT, hzl, hTb⟩ := hA 0 (by kernel_rfl)
      obtain ⟨n, hn, hnl⟩ := hA 2 (by kernel_rfl)
      have qt : bb.tmps[6]? = some _ := hf.tmp (k := 0) rfl (by rw [ha]; decide) hT
      have qn : bb.tmps[8]? = some _ := hf.tmp (k := 2) rfl (by rw [ha]; decide) hn
      have hnl2 : (n : Int) < 17 := by omega
      exact Rg.op_value (o := ⟨some 9, Op.indexAddr 42 (Operand.tmp 6) (Operand.tmp 8), _, _, _, _⟩) (x := .pointer (some ⟨T, n, none⟩)) rfl rfl (by clear hA HS hT hn hTb hzl; simp only [execOp]; go_simp) ⟨_, rfl, (fun h => by cases h), ⟨T, n, zs, rfl, by omega, hTb⟩, hI, fun _ _ h => h⟩
    · intro bb w' hf hI hA
      clear hi' hne
      obtain ⟨T, n, zs, hp, hnl, hTb⟩ := hA 3 (by kernel_rfl)
      have qp : bb.tmps[9]? = some _ := hf.tmp (k := 3) rfl (by rw [ha]; decide) hp
      have hcell := hTb.at hnl
      generalize hz : zs[n] = z at hcell
      exact Rg.op_value (o := ⟨some 10, Op.load 2 (Operand.tmp 9), _, _, _, _⟩) (x := .int .i64 z) rfl rfl (by clear hA HS hp hTb hz; simp only [execOp]; go_simp) ⟨_, rfl, (fun h => by cases h), ⟨z, rfl⟩, hI, fun _ _ h => h⟩
    · intro bb w' hf hI hA
      clear hi' hne
      have qs := hf.kept (s := 3) (by rw [sizeA1]; kernel_rfl) k3
      exact Rg.op_value (o := ⟨some 11, Op.fieldAddr 25 (Operand.tmp 3) 2, _, _, _, _⟩) (x := .pointer (some ⟨V, 2, none⟩)) rfl rfl (by clear hA HS; simp only [execOp]; go_simp) ⟨_, rfl, (fun h => by cases h), rfl, hI, fun _ _ h => h⟩
    · intro bb w' hf hI hA
      clear hi' hne
      have q5 : bb.tmps[11]? = some _ := hf.tmp (k := 5) rfl (by rw [ha]; decide) (hA 5 (by kernel_rfl))
      obtain ⟨e0, e1, e2, e3⟩ := (hV.keep hI.2 hVg).four
      exact Rg.op_value (o := ⟨some 12, Op.load 2 (Operand.tmp 11), _, _, _, _⟩) (x := .int .i64 l.hl) rfl rfl (by clear hA HS; simp only [execOp]; go_simp) ⟨_, rfl, (fun h => by cases h), ⟨_, rfl⟩, hI, fun _ _ h => h⟩
    · intro bb w' hf hI hA
      clear hi' hne
      have q0 := hf.kept (s := 0) (by rw [sizeA1]; kernel_rfl) k0
      exact Rg.op_value (o := ⟨some 13, Op.move (Operand.tmp 0), _, _, _, _⟩) rfl rfl rfl ⟨_, rfl, (fun h => by cases h), (by show Act.eval bb _ = _; simp [Act.eval, q0]), hI, fun _ _ h => h⟩
    · intro bb w' hf hI hA
      clear hi' hne
      have q7 : bb.tmps[13]? = some _ := hf.tmp (k := 7) rfl (by rw [ha]; decide) (hA 7 (by kernel_rfl))
      refine Rg.op_call (o := ⟨some 14, Op.call { callee := Callee.value (Operand.func 43), args := #[Operand.tmp 13, Operand.const (Value.int .i64 (-1)), Operand.const (Value.int .i64 20)], argTypes := _ }, _, _, _, _⟩) rfl rfl (by clear hA HS; simp only [execOp, resolve]; go_simp) (from_any g ao cap bs (-1) 20 w' hI.1 (by omega) (by omega) (by omega)) ?_
      rintro e w2 ⟨x, rfl, hx0, hx1, hc2, hk2⟩
      exact ⟨_, rfl, _, rfl, (fun h => by cases h), ⟨x, rfl⟩, ⟨hc2, hI.2.trans hk2⟩, HS hk2⟩
    · intro bb w' hf hI hA
      clear hi' hne
      obtain ⟨zx, hv6⟩ := hA 6 (by kernel_rfl)
      have q6 : bb.tmps[12]? = some _ := hf.tmp (k := 6) rfl (by rw [ha]; decide) hv6
      obtain ⟨zy, hv8⟩ := hA 8 (by kernel_rfl)
      have q8 : bb.tmps[14]? = some _ := hf.tmp (k := 8) rfl (by rw [ha]; decide) hv8
      exact Rg.op_value (o := ⟨some 15, Op.binOp BinOp.add 2 (Operand.tmp 12) (Operand.tmp 14) 2, _, _, _, _⟩) (x := .int .i64 (IntKind.i64.wrap (zx + zy))) rfl rfl (by clear hA HS; simp only [execOp]; go_simp) ⟨_, rfl, (fun h => by cases h), ⟨_, rfl⟩, hI, fun _ _ h => h⟩
    · intro bb w' hf hI hA
      clear hi' hne
      obtain ⟨zx, hv4⟩ := hA 4 (by kernel_rfl)
      have q4 : bb.tmps[10]? = some _ := hf.tmp (k := 4) rfl (by rw [ha]; decide) hv4
      obtain ⟨zy, hv9⟩ := hA 9 (by kernel_rfl)
      have q9 : bb.tmps[15]? = some _ := hf.tmp (k := 9) rfl (by rw [ha]; decide) hv9
      exact Rg.op_value (o := ⟨some 16, Op.build 29 #[(0, Operand.tmp 10), (1, Operand.tmp 15)], _, _, _, _⟩) (x := .agg #[.int .i64 zx, .int .i64 zy]) rfl rfl (by clear hA HS; simp only [execOp]; go_simp) ⟨_, rfl, (fun h => by cases h), ⟨⟨zx, zy⟩, rfl⟩, hI, fun _ _ h => h⟩
    · intro bb w' hf hI hA
      clear hi' hne
      have hK : Keep g w' (w'.alloc (.cells #[.int .i64 0, .int .i64 0] 29)) := (Keep.refl g w').alloc _
      have hz := hI.2.size
      have hgl := hI.1.1
      exact Rg.op_value (o := ⟨some 5, Op.alloc 29, _, _, _, _⟩) (x := .pointer (some ⟨w'.heap.size, 0, none⟩)) (w' := w'.alloc (.cells #[.int .i64 0, .int .i64 0] 29)) rfl rfl (by clear hA HS; simp only [execOp]; go_simp) ⟨_, rfl, (fun h => by cases h), ⟨_, rfl, by omega, hz, PB.new _ _ _⟩, ⟨hI.1.alloc _, hI.2.trans hK⟩, HS hK⟩

theorem dA1_0 : Rg.dstAt (Rg.opsOf Try.f27 1) 0 = some 6 := by kernel_rfl
theorem dA1_1 : Rg.dstAt (Rg.opsOf Try.f27 1) 1 = some 7 := by kernel_rfl
theorem dA1_2 : Rg.dstAt (Rg.opsOf Try.f27 1) 2 = some 8 := by kernel_rfl
theorem dA1_3 : Rg.dstAt (Rg.opsOf Try.f27 1) 3 = some 9 := by kernel_rfl
theorem dA1_4 : Rg.dstAt (Rg.opsOf Try.f27 1) 4 = some 10 := by kernel_rfl
theorem dA1_5 : Rg.dstAt (Rg.opsOf Try.f27 1) 5 = some 11 := by kernel_rfl
theorem dA1_6 : Rg.dstAt (Rg.opsOf Try.f27 1) 6 = some 12 := by kernel_rfl
theorem dA1_7 : Rg.dstAt (Rg.opsOf Try.f27 1) 7 = some 13 := by kernel_rfl
theorem dA1_8 : Rg.dstAt (Rg.opsOf Try.f27 1) 8 = some 14 := by kernel_rfl
theorem dA1_9 : Rg.dstAt (Rg.opsOf Try.f27 1) 9 = some 15 := by kernel_rfl
theorem dA1_10 : Rg.dstAt (Rg.opsOf Try.f27 1) 10 = some 16 := by kernel_rfl
theorem dA1_11 : Rg.dstAt (Rg.opsOf Try.f27 1) 11 = some 5 := by kernel_rfl
theorem dA1_12 : Rg.dstAt (Rg.opsOf Try.f27 1) 12 = none := by kernel_rfl
theorem layA1 {a b : Act} (hf : Rg.Fr (Rg.opsOf Try.f27 1) a b) : b = ((((((((((((a.put (some 6) (Rg.out (Rg.opsOf Try.f27 1) b 0)).put (some 7) (Rg.out (Rg.opsOf Try.f27 1) b 1)).put (some 8) (Rg.out (Rg.opsOf Try.f27 1) b 2)).put (some 9) (Rg.out (Rg.opsOf Try.f27 1) b 3)).put (some 10) (Rg.out (Rg.opsOf Try.f27 1) b 4)).put (some 11) (Rg.out (Rg.opsOf Try.f27 1) b 5)).put (some 12) (Rg.out (Rg.opsOf Try.f27 1) b 6)).put (some 13) (Rg.out (Rg.opsOf Try.f27 1) b 7)).put (some 14) (Rg.out (Rg.opsOf Try.f27 1) b 8)).put (some 15) (Rg.out (Rg.opsOf Try.f27 1) b 9)).put (some 16) (Rg.out (Rg.opsOf Try.f27 1) b 10)).put (some 5) (Rg.out (Rg.opsOf Try.f27 1) b 11)) := by
  have h := hf.chain
  rw [sizeA1, show List.range 13 = [0, 1, 2, 3, 4, 5, 6, 7, 8, 9, 10, 11, 12] from by decide] at h
  simp only [List.foldl_cons, List.foldl_nil, dA1_0, dA1_1, dA1_2, dA1_3, dA1_4, dA1_5, dA1_6, dA1_7, dA1_8, dA1_9, dA1_10, dA1_11, dA1_12, put_none] at h
  exact h

def FA3 (g n0 : Nat) (V S : Nat) (l : Lm) (c : Ac) (k : Nat) (v : Value) (w : World) : Prop :=
  match k with
  | 0 => v = .pointer (some ⟨V, 0, none⟩)
  | 1 => ∃ z : Int, v = .int .i64 z
  | 2 => v = .pointer (some ⟨g, 0, none⟩)
  | 3 => ∃ n : Nat, v = .int .i64 n ∧ n < 4
  | 4 => ∃ z : Int, v = .int .i64 z
  | 5 => v = .pointer (some ⟨S, 1, none⟩)
  | _ => True
theorem keepA3 {g n0 : Nat} {V S : Nat} {l : Lm} {c : Ac} {w w' : World} (hk : Keep g w w') (k : Nat) (v : Value) (h : FA3 g n0 V S l c k v w) : FA3 g n0 V S l c k v w' := by
  unfold FA3 at *
  split at h <;> first
    | exact h
    | (obtain ⟨T, zs, h1, h2, h3⟩ := h; exact ⟨T, zs, h1, h2, h3.keep hk⟩)
    | (obtain ⟨T, n, zs, h1, h2, h3⟩ := h; exact ⟨T, n, zs, h1, h2, h3.keep hk⟩)
    | (obtain ⟨B, h1, h2, h3, h4⟩ := h; exact ⟨B, h1, h2, h3, h4.keep hk h2⟩)
theorem sizeA3 : (Rg.opsOf Try.f27 3).size = 7 := by kernel_rfl

set_option maxRecDepth 20000 in
set_option maxHeartbeats 8000000 in
theorem regA3 {Q : Exit → Act → World → Prop} {a : Act} {w1 : World} {g : Nat} {ao : Option Addr} {cap : Nat} {bs : List Int} {V S : Nat} {l : Lm} {c : Ac} (ha : a.tmps.size = 39)
    (k0 : a.tmps[0]? = some (.pointer (some ⟨g, 0, none⟩))) (hc : Cur w1 g ao cap bs) (k3 : a.tmps[3]? = some (.pointer (some ⟨V, 0, none⟩))) (k5 : a.tmps[5]? = some (.pointer (some ⟨S, 0, none⟩))) (hV : PB w1 V #[.int .i64 l.sl, .int .i64 l.sh, .int .i64 l.hl, .int .i64 l.hh] 25) (hVg : V ≠ g) (hS : PB w1 S #[.int .i64 c.kind, .int .i64 c.n] 29) (hSg : S ≠ g)
    (hend : ∀ b' w' z, Rg.Fr (Rg.opsOf Try.f27 3) a b' → Cur w' g ao cap bs → Keep g w1 w' → Q .normal b' (w'.setCell ⟨S, 1, none⟩ (.int .i64 z))) :
    (Code.region 3 (Rg.opsOf Try.f27 3) true).wp Try.prog Q a w1 := by
  refine Rg.region_by 6 (by kernel_rfl) (fun w' => Cur w' g ao cap bs ∧ Keep g w1 w') (FA3 g w1.heap.size V S l c) (by rw [ha]; kernel_rfl) ⟨hc.drewN 1, (Keep.refl g w1).drewN 1⟩ ?_ ?_ (fun h => absurd h (by rw [sizeA3]; decide))
  case refine_2 =>
    intro _ bb w' hf hI hA
    rw [sizeA3] at hA
    obtain ⟨z, hz⟩ := hA 4 (by decide) (by decide)
    have qf : bb.tmps[24]? = some _ := hf.tmp (k := 5) rfl (by rw [ha]; decide) (hA 5 (by decide) (by decide))
    have qv : bb.tmps[23]? = some _ := hf.tmp (k := 4) rfl (by rw [ha]; decide) hz
    have hE := hend bb w' z hf hI.1 hI.2
    have hbx := hS.keep hI.2 hSg
    obtain ⟨e0, e1⟩ := hbx.two
    have ef := hbx.frozen 1
    clear hA hend hf hI hz hbx
    refine Rg.op_skip (o := ⟨none, Op.store 2 (Operand.tmp 24) (Operand.tmp 23), _, _, _, _⟩) (w' := w'.setCell ⟨S, 1, none⟩ (.int .i64 z)) rfl rfl ?_ hE
    clear hE
    simp only [execOp]
    go_simp
  case refine_1 =>
    clear hend
    have HS : ∀ {w w' : World}, Keep g w w' → ∀ k y, FA3 g w1.heap.size V S l c k y w → FA3 g w1.heap.size V S l c k y w' := fun hb k y h => keepA3 hb k y h
    intro i' hi' hne
    rw [sizeA3] at hi'
    rcases (show i' = 0 ∨ i' = 1 ∨ i' = 2 ∨ i' = 3 ∨ i' = 4 ∨ i' = 5 by omega) with rfl | rfl | rfl | rfl | rfl | rfl
    · intro bb w' hf hI hA
      clear hi' hne
      have qs := hf.kept (s := 3) (by rw [sizeA3]; kernel_rfl) k3
      exact Rg.op_value (o := ⟨some 19, Op.fieldAddr 25 (Operand.tmp 3) 0, _, _, _, _⟩) (x := .pointer (some ⟨V, 0, none⟩)) rfl rfl (by clear hA HS; simp only [execOp]; go_simp) ⟨_, rfl, (fun h => by cases h), rfl, hI, fun _ _ h => h⟩
    · intro bb w' hf hI hA
      clear hi' hne
      have q0 : bb.tmps[19]? = some _ := hf.tmp (k := 0) rfl (by rw [ha]; decide) (hA 0 (by kernel_rfl))
      obtain ⟨e0, e1, e2, e3⟩ := (hV.keep hI.2 hVg).four
      exact Rg.op_value (o := ⟨some 20, Op.load 2 (Operand.tmp 19), _, _, _, _⟩) (x := .int .i64 l.sl) rfl rfl (by clear hA HS; simp only [execOp]; go_simp) ⟨_, rfl, (fun h => by cases h), ⟨_, rfl⟩, hI, fun _ _ h => h⟩
    · intro bb w' hf hI hA
      clear hi' hne
      have q0 := hf.kept (s := 0) (by rw [sizeA3]; kernel_rfl) k0
      exact Rg.op_value (o := ⟨some 21, Op.move (Operand.tmp 0), _, _, _, _⟩) rfl rfl rfl ⟨_, rfl, (fun h => by cases h), (by show Act.eval bb _ = _; simp [Act.eval, q0]), hI, fun _ _ h => h⟩
    · intro bb w' hf hI hA
      clear hi' hne
      have q2 : bb.tmps[21]? = some _ := hf.tmp (k := 2) rfl (by rw [ha]; decide) (hA 2 (by kernel_rfl))
      refine Rg.op_call (o := ⟨some 22, Op.call { callee := Callee.value (Operand.func 40), args := #[Operand.tmp 21, Operand.const (Value.int .i64 4)], argTypes := _ }, _, _, _, _⟩) rfl rfl (by clear hA HS; simp only [execOp, resolve]; go_simp) (below_any g ao cap bs 4 w' hI.1 (by omega)) ?_
      rintro e w2 ⟨x, rfl, hx0, hx1, hc2, hk2⟩
      obtain ⟨n, rfl⟩ := Int.eq_ofNat_of_zero_le hx0
      exact ⟨_, rfl, _, rfl, (fun h => by cases h), ⟨n, rfl, by omega⟩, ⟨hc2, hI.2.trans hk2⟩, HS hk2⟩
    · intro bb w' hf hI hA
      clear hi' hne
      obtain ⟨zx, hv1⟩ := hA 1 (by kernel_rfl)
      have q1 : bb.tmps[20]? = some _ := hf.tmp (k := 1) rfl (by rw [ha]; decide) hv1
      obtain ⟨zy, hv3, -⟩ := hA 3 (by kernel_rfl)
      have q3 : bb.tmps[22]? = some _ := hf.tmp (k := 3) rfl (by rw [ha]; decide) hv3
      exact Rg.op_value (o := ⟨some 23, Op.binOp BinOp.add 2 (Operand.tmp 20) (Operand.tmp 22) 2, _, _, _, _⟩) (x := .int .i64 (IntKind.i64.wrap (zx + zy))) rfl rfl (by clear hA HS; simp only [execOp]; go_simp) ⟨_, rfl, (fun h => by cases h), ⟨_, rfl⟩, hI, fun _ _ h => h⟩
    · intro bb w' hf hI hA
      clear hi' hne
      have qs := hf.kept (s := 5) (by rw [sizeA3]; kernel_rfl) k5
      exact Rg.op_value (o := ⟨some 24, Op.fieldAddr 29 (Operand.tmp 5) 1, _, _, _, _⟩) (x := .pointer (some ⟨S, 1, none⟩)) rfl rfl (by clear hA HS; simp only [execOp]; go_simp) ⟨_, rfl, (fun h => by cases h), rfl, hI, fun _ _ h => h⟩

theorem dA3_0 : Rg.dstAt (Rg.opsOf Try.f27 3) 0 = some 19 := by kernel_rfl
theorem dA3_1 : Rg.dstAt (Rg.opsOf Try.f27 3) 1 = some 20 := by kernel_rfl
theorem dA3_2 : Rg.dstAt (Rg.opsOf Try.f27 3) 2 = some 21 := by kernel_rfl
theorem dA3_3 : Rg.dstAt (Rg.opsOf Try.f27 3) 3 = some 22 := by kernel_rfl
theorem dA3_4 : Rg.dstAt (Rg.opsOf Try.f27 3) 4 = some 23 := by kernel_rfl
theorem dA3_5 : Rg.dstAt (Rg.opsOf Try.f27 3) 5 = some 24 := by kernel_rfl
theorem dA3_6 : Rg.dstAt (Rg.opsOf Try.f27 3) 6 = none := by kernel_rfl
theorem layA3 {a b : Act} (hf : Rg.Fr (Rg.opsOf Try.f27 3) a b) : b = ((((((a.put (some 19) (Rg.out (Rg.opsOf Try.f27 3) b 0)).put (some 20) (Rg.out (Rg.opsOf Try.f27 3) b 1)).put (some 21) (Rg.out (Rg.opsOf Try.f27 3) b 2)).put (some 22) (Rg.out (Rg.opsOf Try.f27 3) b 3)).put (some 23) (Rg.out (Rg.opsOf Try.f27 3) b 4)).put (some 24) (Rg.out (Rg.opsOf Try.f27 3) b 5)) := by
  have h := hf.chain
  rw [sizeA3, show List.range 7 = [0, 1, 2, 3, 4, 5, 6] from by decide] at h
  simp only [List.foldl_cons, List.foldl_nil, dA3_0, dA3_1, dA3_2, dA3_3, dA3_4, dA3_5, dA3_6, put_none] at h
  exact h
end Go.Proofs.Ytamghmnibfbgaaa
