/-
  A value drawn: the region that draws its order.
-/
import Derived.Test.YtecljmpojninfaaT36
import Derived.Test.YtecljmpojninfaaJa
import Derived.IntWalk
namespace Go.Proofs.Ytecljmpojninfaa
open Go.RowKit Va Lb
set_option linter.all false

theorem inr_wrap (z : Int) : InR (IntKind.i64.wrap z) := by
  rw [IntWalk.i64_left]
  unfold InR wrap64
  omega

def FK11 (n1 g : Nat) (t s : Int) (i9 : Nat) (v : Value) (w : World) : Prop :=
  match i9 with
  | 0 => v = .int .i64 t
  | 1 => ∃ T zs, v = .slice (some ⟨T, 0, none⟩) 7 7 ∧ zs.length = 7 ∧ n1 ≤ T ∧ Tb g w T zs
  | 2 => v = .pointer (some ⟨g, 0, none⟩)
  | 3 => ∃ n : Nat, v = .int .i64 n ∧ n < 7
  | 4 => ∃ T n zs, v = .pointer (some ⟨T, n, none⟩) ∧ n < zs.length ∧ n1 ≤ T ∧ Tb g w T zs
  | 5 => ∃ z : Int, v = .int .i64 z
  | 6 => v = .int .i64 s
  | 7 => ∃ z : Int, v = .int .i64 z
  | 8 => ∃ z : Int, v = .int .i64 z
  | 9 => v = .pointer (some ⟨g, 0, none⟩)
  | 10 => ∃ z : Int, v = .int .i64 z
  | 11 => ∃ z : Int, v = .int .i64 z ∧ InR z
  | 12 => ∃ z : Int, v = .int .i64 z ∧ InR z
  | _ => True
theorem keepK11 {n1 g : Nat} {t s : Int} {w w' : World} (hg : g < n1) (hk : Keep g w w') (k9 : Nat) (v : Value) (h : FK11 n1 g t s k9 v w) : FK11 n1 g t s k9 v w' := by
  unfold FK11 at *
  split at h <;> first
    | exact h
    | (obtain ⟨T, zs, h1, h2, h3, h4⟩ := h; exact ⟨T, zs, h1, h2, h3, h4.keep hk⟩)
    | (obtain ⟨T, n, zs, h1, h2, h3, h4⟩ := h; exact ⟨T, n, zs, h1, h2, h3, h4.keep hk⟩)
    | (obtain ⟨B, h1, h2, h3⟩ := h; exact ⟨B, h1, h2, h3.keep hk (by omega)⟩)
    | (obtain ⟨B, y1, h1, h2, h3⟩ := h; exact ⟨B, y1, h1, h2, h3.keep hk (by omega)⟩)
    | (obtain ⟨B, y1, y2, h1, h2, h3⟩ := h; exact ⟨B, y1, y2, h1, h2, h3.keep hk (by omega)⟩)
    | (obtain ⟨B, y1, y2, y3, h1, h2, h3⟩ := h; exact ⟨B, y1, y2, y3, h1, h2, h3.keep hk (by omega)⟩)
    | (obtain ⟨B, y1, y2, y3, y4, h1, h2, h3⟩ := h; exact ⟨B, y1, y2, y3, y4, h1, h2, h3.keep hk (by omega)⟩)
theorem sizeK11 : (Rg.opsOf Try.f10 11).size = 13 := by kernel_rfl

set_option maxRecDepth 20000 in
set_option maxHeartbeats 8000000 in
theorem regK11 {Q : Exit → Act → World → Prop} {a : Act} {w1 : World} {g : Nat} {ao : Option Addr} {cap : Nat} {bs : List Int} {t s : Int} (ha : a.tmps.size = 90)
    (k6 : a.tmps[6]? = some (.int .i64 t)) (k7 : a.tmps[7]? = some (.int .i64 s)) (k5 : a.tmps[5]? = some (.pointer (some ⟨g, 0, none⟩))) (hc : Cur w1 g ao cap bs) 
    (hend : ∀ b' w' (z : Int), Rg.Fr (Rg.opsOf Try.f10 11) a b' → Cur w' g ao cap bs → Keep g w1 w' → Rg.out (Rg.opsOf Try.f10 11) b' 12 = .int .i64 z → InR z → Q .normal b' w') :
    (Code.region 11 (Rg.opsOf Try.f10 11) true).wp Try.prog Q a w1 := by
  have hg1 : g < w1.heap.size := hc.1
  refine Rg.region_by 13 (by kernel_rfl) (fun w' => Cur w' g ao cap bs ∧ Keep g w1 w') (FK11 w1.heap.size g t s) (by rw [ha]; kernel_rfl) ⟨hc.drewN 1, (Keep.refl g w1).drewN 1⟩ ?_ ?_ ?_
  case refine_2 => exact fun h => absurd h (by rw [sizeK11]; decide)
  case refine_3 =>
    intro _ b' w' hf hI hA
    rw [sizeK11] at hA
    obtain ⟨z, hv, hz⟩ := hA 12 (by decide)
    exact hend b' w' z hf hI.1 hI.2 hv hz
  case refine_1 =>
    clear hend
    have HS : ∀ {w w' : World}, Keep g w w' → ∀ k9 y9, FK11 w1.heap.size g t s k9 y9 w → FK11 w1.heap.size g t s k9 y9 w' := fun hb k9 y9 h => keepK11 hg1 hb k9 y9 h
    intro i' hi' hne
    rw [sizeK11] at hi'
    rcases (show i' = 0 ∨ i' = 1 ∨ i' = 2 ∨ i' = 3 ∨ i' = 4 ∨ i' = 5 ∨ i' = 6 ∨ i' = 7 ∨ i' = 8 ∨ i' = 9 ∨ i' = 10 ∨ i' = 11 ∨ i' = 12 by omega) with rfl | rfl | rfl | rfl | rfl | rfl | rfl | rfl | rfl | rfl | rfl | rfl | rfl
    · intro bb w' hf hI hA
      clear hi' hne
      have q6 := hf.kept (s := 6) (by rw [sizeK11]; kernel_rfl) k6
      exact Rg.op_value (o := ⟨some 43, Op.move (Operand.tmp 6), _, _, _, _⟩) (x := .int .i64 t) rfl rfl (by clear hA HS ; simp only [execOp]; go_simp) ⟨_, rfl, (fun h => by cases h), rfl, hI, fun _ _ h => h⟩
    · intro bb w' hf hI hA
      clear hi' hne
      have hK : Keep g w' (w'.alloc (.cells #[.int .i64 (-3), .int .i64 (-2), .int .i64 2, .int .i64 3, .int .i64 1, .int .i64 (-1), .int .i64 0] 2)) := (Keep.refl g w').alloc _
      have hT := Tb.new (g := g) (w := w') [(-3), (-2), 2, 3, 1, (-1), 0] hI.1.1
      exact Rg.op_value (o := ⟨some 44, Op.buildSlice 24 7 #[(0, (Operand.const (Value.int IntKind.i64 (-3)))), (1, (Operand.const (Value.int IntKind.i64 (-2)))), (2, (Operand.const (Value.int .i64 2))), (3, (Operand.const (Value.int .i64 3))), (4, (Operand.const (Value.int .i64 1))), (5, (Operand.const (Value.int IntKind.i64 (-1)))), (6, (Operand.const (Value.int .i64 0)))], _, _, _, _⟩) (x := .slice (some ⟨w'.heap.size, 0, none⟩) 7 7) (w' := w'.alloc (.cells #[.int .i64 (-3), .int .i64 (-2), .int .i64 2, .int .i64 3, .int .i64 1, .int .i64 (-1), .int .i64 0] 2)) rfl rfl (by clear hA HS; simp only [execOp]; go_simp) ⟨_, rfl, (fun h => by cases h), ⟨_, _, rfl, rfl, hI.2.size, hT⟩, ⟨(hI.1.alloc _), hI.2.trans hK⟩, HS hK⟩
    · intro bb w' hf hI hA
      clear hi' hne
      have q5 := hf.kept (s := 5) (by rw [sizeK11]; kernel_rfl) k5
      exact Rg.op_value (o := ⟨some 45, Op.move (Operand.tmp 5), _, _, _, _⟩) (x := .pointer (some ⟨g, 0, none⟩)) rfl rfl (by clear hA HS ; simp only [execOp]; go_simp) ⟨_, rfl, (fun h => by cases h), rfl, hI, fun _ _ h => h⟩
    · intro bb w' hf hI hA
      clear hi' hne
      have q45 : bb.tmps[45]? = some _ := hf.tmp (k := 2) rfl (by rw [ha]; decide) (hA 2 (by kernel_rfl))
      refine Rg.op_call (o := ⟨some 46, Op.call { callee := Callee.value (Operand.func 35), args := #[(Operand.tmp 45), (Operand.const (Value.int .i64 7))], argTypes := _ }, _, _, _, _⟩) rfl rfl (by clear hA HS  ; simp only [execOp, resolve]; go_simp) (below_any g ao cap bs 7 w' hI.1 (by omega)) ?_
      rintro e w2 ⟨y, rfl, hx0, hx1, hc2, hk2⟩
      obtain ⟨n, rfl⟩ := Int.eq_ofNat_of_zero_le hx0
      exact ⟨_, rfl, _, rfl, (fun h => by cases h), ⟨n, rfl, by omega⟩, ⟨hc2, hI.2.trans hk2⟩, HS hk2⟩
    · intro bb w' hf hI hA
      clear hi' hne
      obtain ⟨T44, zs44, hv44, hl44, hT44, hb44⟩ := hA 1 (by kernel_rfl)
      have q44 : bb.tmps[44]? = some _ := hf.tmp (k := 1) rfl (by rw [ha]; decide) hv44
      obtain ⟨n46, hv46, hn46⟩ := hA 3 (by kernel_rfl)
      have q46 : bb.tmps[46]? = some _ := hf.tmp (k := 3) rfl (by rw [ha]; decide) hv46
      have hnl : (n46 : Int) < 7 := by omega
      exact Rg.op_value (o := ⟨some 47, Op.indexAddr 24 (Operand.tmp 44) (Operand.tmp 46), _, _, _, _⟩) (x := .pointer (some ⟨T44, n46, none⟩)) rfl rfl (by clear hA HS hv44  hv46  hb44 hl44; simp only [execOp]; go_simp) ⟨_, rfl, (fun h => by cases h), ⟨T44, n46, zs44, rfl, by omega, hT44, hb44⟩, hI, fun _ _ h => h⟩
    · intro bb w' hf hI hA
      clear hi' hne
      obtain ⟨T47, n47, zs47, hv47, hl47, hT47, hb47⟩ := hA 4 (by kernel_rfl)
      have q47 : bb.tmps[47]? = some _ := hf.tmp (k := 4) rfl (by rw [ha]; decide) hv47
      have hcell := hb47.at hl47
      generalize hz : zs47[n47] = z at hcell
      exact Rg.op_value (o := ⟨some 48, Op.load 2 (Operand.tmp 47), _, _, _, _⟩) (x := .int .i64 z) rfl rfl (by clear hA HS hv47  hb47 hz; simp only [execOp]; go_simp) ⟨_, rfl, (fun h => by cases h), ⟨z, rfl⟩, hI, fun _ _ h => h⟩
    · intro bb w' hf hI hA
      clear hi' hne
      have q7 := hf.kept (s := 7) (by rw [sizeK11]; kernel_rfl) k7
      exact Rg.op_value (o := ⟨some 49, Op.move (Operand.tmp 7), _, _, _, _⟩) (x := .int .i64 s) rfl rfl (by clear hA HS ; simp only [execOp]; go_simp) ⟨_, rfl, (fun h => by cases h), rfl, hI, fun _ _ h => h⟩
    · intro bb w' hf hI hA
      clear hi' hne
      obtain ⟨z48, hv48⟩ := hA 5 (by kernel_rfl)
      have q48 : bb.tmps[48]? = some _ := hf.tmp (k := 5) rfl (by rw [ha]; decide) hv48
      have q49 : bb.tmps[49]? = some _ := hf.tmp (k := 6) rfl (by rw [ha]; decide) (hA 6 (by kernel_rfl))
      exact Rg.op_value (o := ⟨some 50, Op.binOp BinOp.mul 2 (Operand.tmp 48) (Operand.tmp 49) 2, _, _, _, _⟩) (x := .int .i64 (IntKind.i64.wrap (z48 * s))) rfl rfl (by clear hA HS hv48  ; simp only [execOp]; go_simp) ⟨_, rfl, (fun h => by cases h), ⟨_, rfl⟩, hI, fun _ _ h => h⟩
    · intro bb w' hf hI hA
      clear hi' hne
      have q43 : bb.tmps[43]? = some _ := hf.tmp (k := 0) rfl (by rw [ha]; decide) (hA 0 (by kernel_rfl))
      obtain ⟨z50, hv50⟩ := hA 7 (by kernel_rfl)
      have q50 : bb.tmps[50]? = some _ := hf.tmp (k := 7) rfl (by rw [ha]; decide) hv50
      exact Rg.op_value (o := ⟨some 51, Op.binOp BinOp.add 2 (Operand.tmp 43) (Operand.tmp 50) 2, _, _, _, _⟩) (x := .int .i64 (IntKind.i64.wrap (t + z50))) rfl rfl (by clear hA HS  hv50 ; simp only [execOp]; go_simp) ⟨_, rfl, (fun h => by cases h), ⟨_, rfl⟩, hI, fun _ _ h => h⟩
    · intro bb w' hf hI hA
      clear hi' hne
      have q5 := hf.kept (s := 5) (by rw [sizeK11]; kernel_rfl) k5
      exact Rg.op_value (o := ⟨some 52, Op.move (Operand.tmp 5), _, _, _, _⟩) (x := .pointer (some ⟨g, 0, none⟩)) rfl rfl (by clear hA HS ; simp only [execOp]; go_simp) ⟨_, rfl, (fun h => by cases h), rfl, hI, fun _ _ h => h⟩
    · intro bb w' hf hI hA
      clear hi' hne
      have q52 : bb.tmps[52]? = some _ := hf.tmp (k := 9) rfl (by rw [ha]; decide) (hA 9 (by kernel_rfl))
      refine Rg.op_call (o := ⟨some 53, Op.call { callee := Callee.value (Operand.func 34), args := #[(Operand.tmp 52), (Operand.const (Value.int IntKind.i64 (-1))), (Operand.const (Value.int .i64 1))], argTypes := _ }, _, _, _, _⟩) rfl rfl (by clear hA HS   ; simp only [execOp, resolve]; go_simp) (from_any g ao cap bs (-1) 1 w' hI.1 (by omega) (by omega) (by omega)) ?_
      rintro e w2 ⟨y, rfl, hx0, hx1, hc2, hk2⟩
      exact ⟨_, rfl, _, rfl, (fun h => by cases h), ⟨_, rfl⟩, ⟨hc2, hI.2.trans hk2⟩, HS hk2⟩
    · intro bb w' hf hI hA
      clear hi' hne
      obtain ⟨z51, hv51⟩ := hA 8 (by kernel_rfl)
      have q51 : bb.tmps[51]? = some _ := hf.tmp (k := 8) rfl (by rw [ha]; decide) hv51
      obtain ⟨z53, hv53⟩ := hA 10 (by kernel_rfl)
      have q53 : bb.tmps[53]? = some _ := hf.tmp (k := 10) rfl (by rw [ha]; decide) hv53
      exact Rg.op_value (o := ⟨some 54, Op.binOp BinOp.add 2 (Operand.tmp 51) (Operand.tmp 53) 2, _, _, _, _⟩) (x := .int .i64 (IntKind.i64.wrap (z51 + z53))) rfl rfl (by clear hA HS hv51  hv53 ; simp only [execOp]; go_simp) ⟨_, rfl, (fun h => by cases h), ⟨_, rfl, inr_wrap _⟩, hI, fun _ _ h => h⟩
    · intro bb w' hf hI hA
      clear hi' hne
      obtain ⟨z54, hv54, hr54⟩ := hA 11 (by kernel_rfl)
      have q54 : bb.tmps[54]? = some _ := hf.tmp (k := 11) rfl (by rw [ha]; decide) hv54
      exact Rg.op_value (o := ⟨some 11, Op.assign (Operand.tmp 54), _, _, _, _⟩) (x := .int .i64 z54) rfl rfl (by clear hA HS hv54 ; simp only [execOp]; go_simp) ⟨_, rfl, (fun h => by cases h), ⟨_, rfl, hr54⟩, hI, fun _ _ h => h⟩

theorem dK11_0 : Rg.dstAt (Rg.opsOf Try.f10 11) 0 = some 43 := by kernel_rfl
theorem dK11_1 : Rg.dstAt (Rg.opsOf Try.f10 11) 1 = some 44 := by kernel_rfl
theorem dK11_2 : Rg.dstAt (Rg.opsOf Try.f10 11) 2 = some 45 := by kernel_rfl
theorem dK11_3 : Rg.dstAt (Rg.opsOf Try.f10 11) 3 = some 46 := by kernel_rfl
theorem dK11_4 : Rg.dstAt (Rg.opsOf Try.f10 11) 4 = some 47 := by kernel_rfl
theorem dK11_5 : Rg.dstAt (Rg.opsOf Try.f10 11) 5 = some 48 := by kernel_rfl
theorem dK11_6 : Rg.dstAt (Rg.opsOf Try.f10 11) 6 = some 49 := by kernel_rfl
theorem dK11_7 : Rg.dstAt (Rg.opsOf Try.f10 11) 7 = some 50 := by kernel_rfl
theorem dK11_8 : Rg.dstAt (Rg.opsOf Try.f10 11) 8 = some 51 := by kernel_rfl
theorem dK11_9 : Rg.dstAt (Rg.opsOf Try.f10 11) 9 = some 52 := by kernel_rfl
theorem dK11_10 : Rg.dstAt (Rg.opsOf Try.f10 11) 10 = some 53 := by kernel_rfl
theorem dK11_11 : Rg.dstAt (Rg.opsOf Try.f10 11) 11 = some 54 := by kernel_rfl
theorem dK11_12 : Rg.dstAt (Rg.opsOf Try.f10 11) 12 = some 11 := by kernel_rfl
theorem pnK11 (a : Act) (v : Value) : a.put none v = a := rfl
theorem layK11 {a b : Act} (hf : Rg.Fr (Rg.opsOf Try.f10 11) a b) : b = (((((((((((((a.put (some 43) (Rg.out (Rg.opsOf Try.f10 11) b 0)).put (some 44) (Rg.out (Rg.opsOf Try.f10 11) b 1)).put (some 45) (Rg.out (Rg.opsOf Try.f10 11) b 2)).put (some 46) (Rg.out (Rg.opsOf Try.f10 11) b 3)).put (some 47) (Rg.out (Rg.opsOf Try.f10 11) b 4)).put (some 48) (Rg.out (Rg.opsOf Try.f10 11) b 5)).put (some 49) (Rg.out (Rg.opsOf Try.f10 11) b 6)).put (some 50) (Rg.out (Rg.opsOf Try.f10 11) b 7)).put (some 51) (Rg.out (Rg.opsOf Try.f10 11) b 8)).put (some 52) (Rg.out (Rg.opsOf Try.f10 11) b 9)).put (some 53) (Rg.out (Rg.opsOf Try.f10 11) b 10)).put (some 54) (Rg.out (Rg.opsOf Try.f10 11) b 11)).put (some 11) (Rg.out (Rg.opsOf Try.f10 11) b 12)) := by
  have h := hf.chain
  rw [sizeK11, show List.range 13 = [0, 1, 2, 3, 4, 5, 6, 7, 8, 9, 10, 11, 12] from by decide] at h
  simp only [List.foldl_cons, List.foldl_nil, dK11_0, dK11_1, dK11_2, dK11_3, dK11_4, dK11_5, dK11_6, dK11_7, dK11_8, dK11_9, dK11_10, dK11_11, dK11_12] at h
  exact h
end Go.Proofs.Ytecljmpojninfaa
