/-
  Letters that are drawn: the region that draws its order.
-/
import Derived.Test.YtbabknhccapaoaaJa
import Derived.Test.YtbabknhccapaoaaM2w
import Derived.Test.YtbabknhccapaoaaGx
import Derived.Test.YtbabknhccapaoaaRo
import Derived.IntWalk
namespace Go.Proofs.Ytbabknhccapaoaa
open Go.RowKit Va Mg
set_option linter.all false

def InZ (z : Int) : Prop := (Lit.int .i64 z).wf = true
theorem inz_wrap (z : Int) : InZ (IntKind.i64.wrap z) := by
  rw [IntWalk.i64_left]
  exact wrap64_wf z
theorem PB.fiveL {W : World} {B : Nat} {t : TypeId} {v0 v1 v2 v3 v4 : Value} (h : PB W B #[v0, v1, v2, v3, v4] t) : W.cell? ⟨B, 0, none⟩ = some v0 ∧ W.cell? ⟨B, 1, none⟩ = some v1 ∧ W.cell? ⟨B, 2, none⟩ = some v2 ∧ W.cell? ⟨B, 3, none⟩ = some v3 ∧ W.cell? ⟨B, 4, none⟩ = some v4 := ⟨h.cell 0, h.cell 1, h.cell 2, h.cell 3, h.cell 4⟩

def FL12 (n1 g : Nat) (V : Nat) (x : Lt) (i9 : Nat) (v : Value) (w : World) : Prop :=
  match i9 with
  | 0 => v = .pointer (some ⟨V, 4, none⟩)
  | 1 => v = .int .i64 x.v
  | 2 => v = .pointer (some ⟨g, 0, none⟩)
  | 3 => ∃ z : Int, v = .int .i64 z
  | 4 => ∃ z : Int, v = .int .i64 z ∧ InZ z
  | 5 => v = .pointer (some ⟨V, 4, none⟩)
  | 6 => True
  | _ => True
theorem keepL12 {n1 g : Nat} {V : Nat} {x : Lt} {w w' : World} (hg : g < n1) (hk : Keep g w w') (k9 : Nat) (v : Value) (h : FL12 n1 g V x k9 v w) : FL12 n1 g V x k9 v w' := by
  unfold FL12 at *
  split at h <;> first
    | exact h
    | (obtain ⟨T, zs, h1, h2, h3, h4⟩ := h; exact ⟨T, zs, h1, h2, h3, h4.keep hk⟩)
    | (obtain ⟨T, n, zs, h1, h2, h3, h4⟩ := h; exact ⟨T, n, zs, h1, h2, h3, h4.keep hk⟩)
    | (obtain ⟨B, h1, h2, h3⟩ := h; exact ⟨B, h1, h2, h3.keep hk (by omega)⟩)
    | (obtain ⟨B, y1, h1, h2, h3⟩ := h; exact ⟨B, y1, h1, h2, h3.keep hk (by omega)⟩)
    | (obtain ⟨B, y1, y2, h1, h2, h3⟩ := h; exact ⟨B, y1, y2, h1, h2, h3.keep hk (by omega)⟩)
    | (obtain ⟨B, y1, y2, y3, h1, h2, h3⟩ := h; exact ⟨B, y1, y2, y3, h1, h2, h3.keep hk (by omega)⟩)
    | (obtain ⟨B, y1, y2, y3, y4, h1, h2, h3⟩ := h; exact ⟨B, y1, y2, y3, y4, h1, h2, h3.keep hk (by omega)⟩)
theorem sizeL12 : (Rg.opsOf Try.f18 12).size = 7 := by kernel_rfl

set_option maxRecDepth 20000 in
set_option maxHeartbeats 8000000 in
theorem regL12 {Q : Exit → Act → World → Prop} {a : Act} {w1 : World} {g : Nat} {ao : Option Addr} {cap : Nat} {bs : List Int} {V : Nat} {x : Lt} (ha : a.tmps.size = 83)
    (k5 : a.tmps[5]? = some (.pointer (some ⟨V, 0, none⟩))) (k0 : a.tmps[0]? = some (.pointer (some ⟨g, 0, none⟩))) (hc : Cur w1 g ao cap bs) (hV : PB w1 V #[.int .i64 x.f, .int .i64 x.s, .int .i64 x.c, .int .i64 x.k, .int .i64 x.v] 29) (hVg : V ≠ g)
    (hend : ∀ b' w' (z : Int), Rg.Fr (Rg.opsOf Try.f18 12) a b' → Cur w' g ao cap bs → Keep g w1 w' → InZ z → Q .normal b' (w'.setCell ⟨V, 4, none⟩ (.int .i64 z))) :
    (Code.region 12 (Rg.opsOf Try.f18 12) true).wp Try.prog Q a w1 := by
  have hg1 : g < w1.heap.size := hc.1
  refine Rg.region_by 6 (by kernel_rfl) (fun w' => Cur w' g ao cap bs ∧ Keep g w1 w') (FL12 w1.heap.size g V x) (by rw [ha]; kernel_rfl) ⟨hc.drewN 1, (Keep.refl g w1).drewN 1⟩ ?_ ?_ ?_
  case refine_3 => exact fun h => absurd h (by rw [sizeL12]; decide)
  case refine_2 =>
    intro _ bb w' hf hI hA
    rw [sizeL12] at hA
    obtain ⟨z59, hv59, hr59⟩ := hA 4 (by decide) (by decide)
    have q59 : bb.tmps[59]? = some _ := hf.tmp (k := 4) rfl (by rw [ha]; decide) hv59
    have q60 : bb.tmps[60]? = some _ := hf.tmp (k := 5) rfl (by rw [ha]; decide) (hA 5 (by decide) (by decide))
    have hE := hend bb w' z59 hf hI.1 hI.2 hr59
    obtain ⟨e0, e1, e2, e3, e4⟩ := (hV.keep hI.2 hVg).fiveL
    have f4 := (hV.keep hI.2 hVg).frozen 4
    clear hA hend hf hI hV
    refine Rg.op_skip (o := ⟨none, Op.store 2 (Operand.tmp 60) (Operand.tmp 59), _, _, _, _⟩) (w' := w'.setCell ⟨V, 4, none⟩ (.int .i64 z59)) rfl rfl ?_ hE
    clear hE
    simp only [execOp]
    go_simp
  case refine_1 =>
    clear hend
    have HS : ∀ {w w' : World}, Keep g w w' → ∀ k9 y9, FL12 w1.heap.size g V x k9 y9 w → FL12 w1.heap.size g V x k9 y9 w' := fun hb k9 y9 h => keepL12 hg1 hb k9 y9 h
    intro i' hi' hne
    rw [sizeL12] at hi'
    rcases (show i' = 0 ∨ i' = 1 ∨ i' = 2 ∨ i' = 3 ∨ i' = 4 ∨ i' = 5 by omega) with rfl | rfl | rfl | rfl | rfl | rfl
    · intro bb w' hf hI hA
      clear hi' hne
      have q5 := hf.kept (s := 5) (by rw [sizeL12]; kernel_rfl) k5
      exact Rg.op_value (o := ⟨some 55, Op.fieldAddr 29 (Operand.tmp 5) 4, _, _, _, _⟩) (x := .pointer (some ⟨V, 4, none⟩)) rfl rfl (by clear hA HS ; simp only [execOp]; go_simp) ⟨_, rfl, (fun h => by cases h), rfl, hI, fun _ _ h => h⟩
    · intro bb w' hf hI hA
      clear hi' hne
      have q55 : bb.tmps[55]? = some _ := hf.tmp (k := 0) rfl (by rw [ha]; decide) (hA 0 (by kernel_rfl))
      obtain ⟨e0, e1, e2, e3, e4⟩ := (hV.keep hI.2 hVg).fiveL
      exact Rg.op_value (o := ⟨some 56, Op.load 2 (Operand.tmp 55), _, _, _, _⟩) (x := .int .i64 x.v) rfl rfl (by clear hA HS ; simp only [execOp]; go_simp) ⟨_, rfl, (fun h => by cases h), rfl, hI, fun _ _ h => h⟩
    · intro bb w' hf hI hA
      clear hi' hne
      have q0 := hf.kept (s := 0) (by rw [sizeL12]; kernel_rfl) k0
      exact Rg.op_value (o := ⟨some 57, Op.move (Operand.tmp 0), _, _, _, _⟩) (x := .pointer (some ⟨g, 0, none⟩)) rfl rfl (by clear hA HS ; simp only [execOp]; go_simp) ⟨_, rfl, (fun h => by cases h), rfl, hI, fun _ _ h => h⟩
    · intro bb w' hf hI hA
      clear hi' hne
      have q57 : bb.tmps[57]? = some _ := hf.tmp (k := 2) rfl (by rw [ha]; decide) (hA 2 (by kernel_rfl))
      refine Rg.op_call (o := ⟨some 58, Op.call { callee := Callee.value (Operand.func 36), args := #[(Operand.tmp 57), (Operand.const (Value.int IntKind.i64 (-1))), (Operand.const (Value.int .i64 1))], argTypes := _ }, _, _, _, _⟩) rfl rfl (by clear hA HS   ; simp only [execOp, resolve]; go_simp) (from_any g ao cap bs (-1) 1 w' hI.1 (by omega) (by omega) (by omega)) ?_
      rintro e w2 ⟨y, rfl, hx0, hx1, hc2, hk2⟩
      exact ⟨_, rfl, _, rfl, (fun h => by cases h), ⟨_, rfl⟩, ⟨hc2, hI.2.trans hk2⟩, HS hk2⟩
    · intro bb w' hf hI hA
      clear hi' hne
      have q56 : bb.tmps[56]? = some _ := hf.tmp (k := 1) rfl (by rw [ha]; decide) (hA 1 (by kernel_rfl))
      obtain ⟨z58, hv58⟩ := hA 3 (by kernel_rfl)
      have q58 : bb.tmps[58]? = some _ := hf.tmp (k := 3) rfl (by rw [ha]; decide) hv58
      exact Rg.op_value (o := ⟨some 59, Op.binOp BinOp.add 2 (Operand.tmp 56) (Operand.tmp 58) 2, _, _, _, _⟩) (x := .int .i64 (IntKind.i64.wrap (x.v + z58))) rfl rfl (by clear hA HS  hv58 ; simp only [execOp]; go_simp) ⟨_, rfl, (fun h => by cases h), ⟨_, rfl, inz_wrap _⟩, hI, fun _ _ h => h⟩
    · intro bb w' hf hI hA
      clear hi' hne
      have q5 := hf.kept (s := 5) (by rw [sizeL12]; kernel_rfl) k5
      exact Rg.op_value (o := ⟨some 60, Op.fieldAddr 29 (Operand.tmp 5) 4, _, _, _, _⟩) (x := .pointer (some ⟨V, 4, none⟩)) rfl rfl (by clear hA HS ; simp only [execOp]; go_simp) ⟨_, rfl, (fun h => by cases h), rfl, hI, fun _ _ h => h⟩

theorem dL12_0 : Rg.dstAt (Rg.opsOf Try.f18 12) 0 = some 55 := by kernel_rfl
theorem dL12_1 : Rg.dstAt (Rg.opsOf Try.f18 12) 1 = some 56 := by kernel_rfl
theorem dL12_2 : Rg.dstAt (Rg.opsOf Try.f18 12) 2 = some 57 := by kernel_rfl
theorem dL12_3 : Rg.dstAt (Rg.opsOf Try.f18 12) 3 = some 58 := by kernel_rfl
theorem dL12_4 : Rg.dstAt (Rg.opsOf Try.f18 12) 4 = some 59 := by kernel_rfl
theorem dL12_5 : Rg.dstAt (Rg.opsOf Try.f18 12) 5 = some 60 := by kernel_rfl
theorem dL12_6 : Rg.dstAt (Rg.opsOf Try.f18 12) 6 = none := by kernel_rfl
theorem pnL12 (a : Act) (v : Value) : a.put none v = a := rfl
theorem layL12 {a b : Act} (hf : Rg.Fr (Rg.opsOf Try.f18 12) a b) : b = ((((((a.put (some 55) (Rg.out (Rg.opsOf Try.f18 12) b 0)).put (some 56) (Rg.out (Rg.opsOf Try.f18 12) b 1)).put (some 57) (Rg.out (Rg.opsOf Try.f18 12) b 2)).put (some 58) (Rg.out (Rg.opsOf Try.f18 12) b 3)).put (some 59) (Rg.out (Rg.opsOf Try.f18 12) b 4)).put (some 60) (Rg.out (Rg.opsOf Try.f18 12) b 5)) := by
  have h := hf.chain
  rw [sizeL12, show List.range 7 = [0, 1, 2, 3, 4, 5, 6] from by decide] at h
  simp only [List.foldl_cons, List.foldl_nil, dL12_0, dL12_1, dL12_2, dL12_3, dL12_4, dL12_5, dL12_6, pnL12] at h
  exact h
end Go.Proofs.Ytbabknhccapaoaa
