/-
  A trial, drawn: the regions that draw their order.
-/
import Derived.Test.YtoehnlbkgpjhmaaTr25
namespace Go.Proofs.Ytoehnlbkgpjhmaa
open Go.RowKit Go.WideShapes Va Lb Tr Go.Maps
set_option linter.all false
theorem flag_other {ll : Array Bool} {i j : Nat} (h : i ≠ j) : (ll.setIfInBounds i true).getD j false = ll.getD j false := by
  rw [Array.getD_eq_getD_getElem?, Array.getElem?_setIfInBounds_ne h, Array.getD_eq_getD_getElem?]
theorem flag_set {ll : Array Bool} {i : Nat} (h : i < ll.size) : (ll.setIfInBounds i true).getD i false = true := by
  rw [Array.getD_eq_getD_getElem?, Array.getElem?_setIfInBounds_self_of_lt h]; rfl

def FDt2 (w0 : World) (g cap B : Nat) (ao : Option Addr) (bs : List Int) (ar b t : Int) (sv : Value) (l : List Int) (d : Int) (i9 : Nat) (v : Value) (w : World) : Prop :=
  match i9 with
  | 0 => v = .pointer (some ⟨B, 0, none⟩)
  | 1 => v = .int .i64 ar
  | 2 => v = .pointer (some ⟨g, 0, none⟩)
  | 3 => v = .pointer (some ⟨B, 0, none⟩)
  | 4 => v = .int .i64 ar
  | 5 => v = .int .i64 d
  | 6 => ∃ z : Int, v = .int .i64 z
  | 7 => ∃ z : Int, v = .int .i64 z
  | 8 => ∃ z : Int, v = .int .i64 z
  | 9 => v = .pointer (some ⟨B, 1, none⟩)
  | 10 => v = undef
  | _ => True
theorem sizeDt2 : (Rg.opsOf Try.f39 2).size = 11 := by kernel_rfl

set_option maxRecDepth 20000 in
set_option maxHeartbeats 8000000 in
theorem regDt2 {Q : Exit → Act → World → Prop} {a : Act} {w9 : World} {w0 : World} {g cap B : Nat} {ao : Option Addr} {bs : List Int} {ar b t : Int} {sv : Value} {l : List Int} {d : Int} (ha : a.tmps.size = 79)
    (k0 : a.tmps[0]? = some (.pointer (some ⟨g, 0, none⟩))) (k3 : a.tmps[3]? = some (.pointer (some ⟨B, 0, none⟩))) (h0I : DT w0 { w9 with drawn := w9.drawn + 1 } g ao cap bs B ar b sv t ∧ DO w0 { w9 with drawn := w9.drawn + 1 } sv l) (hll : l.length ≤ 2000) (ha2 : 2 ≤ ar) (hd : (20 : Int).tdiv ar = d) (hd2 : (20 : Int) / ar = d) (hd0 : 1 ≤ d) (hd1 : d ≤ 20)
    (hend : ∀ b' w', Rg.Fr (Rg.opsOf Try.f39 2) a b' → (∃ b', DT w0 w' g ao cap bs B ar b' sv t) ∧ DO w0 w' sv l → Q .normal b' w') :
    (Code.region 2 (Rg.opsOf Try.f39 2) true).wp Try.prog Q a w9 := by
  refine Rg.region_set3 (by kernel_rfl) (fun _ w' => (∃ b', DT w0 w' g ao cap bs B ar b' sv t) ∧ DO w0 w' sv l) (FDt2 w0 g cap B ao bs ar b t sv l d) (by rw [ha, sizeDt2]; kernel_rfl) ⟨⟨b, h0I.1⟩, h0I.2⟩ ?_ ?_
  case refine_2 =>
    intro l b' w' hf hall hI hA
    rw [sizeDt2] at hA
    exact hend b' w' hf hI
  case refine_1 =>
    clear hend
    intro i' hi'
    rw [sizeDt2] at hi'
    rcases (show i' = 0 ∨ i' = 1 ∨ i' = 2 ∨ i' = 3 ∨ i' = 4 ∨ i' = 5 ∨ i' = 6 ∨ i' = 7 ∨ i' = 8 ∨ i' = 9 ∨ i' = 10 by omega) with rfl | rfl | rfl | rfl | rfl | rfl | rfl | rfl | rfl | rfl | rfl
    · intro ll bb w' hs hlf hN hO hf hI hA
      clear hi'
      have q3 := hf.kept (s := 3) (by rw [sizeDt2]; kernel_rfl) k3
      exact Rg.op_value (o := ⟨some 9, Op.fieldAddr 26 (Operand.tmp 3) 0, _, _, _, _⟩) (x := .pointer (some ⟨B, 0, none⟩)) rfl rfl (by clear hA hN hO ; simp only [execOp]; go_simp) ⟨_, rfl, (fun h => by cases h), rfl, hI, fun _ _ _ _ h => h⟩
    · intro ll bb w' hs hlf hN hO hf hI hA
      clear hi'
      have q9 : bb.tmps[9]? = some _ := hf.tmp (k := 0) rfl (by rw [ha]; decide) (hA 0 (by kernel_rfl))
      obtain ⟨⟨b', hD⟩, hQ⟩ := id hI
      have e0 : w'.cell? ⟨B, 0, none⟩ = some (.int .i64 ar) := hD.box.cell 0
      clear hD hQ
      exact Rg.op_value (o := ⟨some 10, Op.load 2 (Operand.tmp 9), _, _, _, _⟩) (x := .int .i64 ar) rfl rfl (by clear hA hN hO ; simp only [execOp]; go_simp) ⟨_, rfl, (fun h => by cases h), rfl, hI, fun _ _ _ _ h => h⟩
    · intro ll bb w' hs hlf hN hO hf hI hA
      clear hi'
      have q0 := hf.kept (s := 0) (by rw [sizeDt2]; kernel_rfl) k0
      exact Rg.op_value (o := ⟨some 11, Op.move (Operand.tmp 0), _, _, _, _⟩) (x := .pointer (some ⟨g, 0, none⟩)) rfl rfl (by clear hA hN hO ; simp only [execOp]; go_simp) ⟨_, rfl, (fun h => by cases h), rfl, hI, fun _ _ _ _ h => h⟩
    · intro ll bb w' hs hlf hN hO hf hI hA
      clear hi'
      have q3 := hf.kept (s := 3) (by rw [sizeDt2]; kernel_rfl) k3
      exact Rg.op_value (o := ⟨some 12, Op.fieldAddr 26 (Operand.tmp 3) 0, _, _, _, _⟩) (x := .pointer (some ⟨B, 0, none⟩)) rfl rfl (by clear hA hN hO ; simp only [execOp]; go_simp) ⟨_, rfl, (fun h => by cases h), rfl, hI, fun _ _ _ _ h => h⟩
    · intro ll bb w' hs hlf hN hO hf hI hA
      clear hi'
      have q12 : bb.tmps[12]? = some _ := hf.tmp (k := 3) rfl (by rw [ha]; decide) (hA 3 (by kernel_rfl))
      obtain ⟨⟨b', hD⟩, hQ⟩ := id hI
      have e0 : w'.cell? ⟨B, 0, none⟩ = some (.int .i64 ar) := hD.box.cell 0
      clear hD hQ
      exact Rg.op_value (o := ⟨some 13, Op.load 2 (Operand.tmp 12), _, _, _, _⟩) (x := .int .i64 ar) rfl rfl (by clear hA hN hO ; simp only [execOp]; go_simp) ⟨_, rfl, (fun h => by cases h), rfl, hI, fun _ _ _ _ h => h⟩
    · intro ll bb w' hs hlf hN hO hf hI hA
      clear hi'
      have q13 : bb.tmps[13]? = some _ := hf.tmp (k := 4) rfl (by rw [ha]; decide) (hA 4 (by kernel_rfl))
      have hn0 : ¬ ar = 0 := by omega
      have hn1 : (ar == 0) = false := by rw [beq_eq_false_iff_ne]; exact hn0
      have hn2 : ¬ ar = -1 := by omega
      have ht9 := hd
      have hu9 := hd2
      have hw9 : IntKind.i64.wrap d = d := by rw [IntKind.wrap_i64]; omega
      exact Rg.op_value (o := ⟨some 14, Op.binOp BinOp.quo 2 (Operand.const (Value.int .i64 20)) (Operand.tmp 13) 2, _, _, _, _⟩) (x := .int .i64 d) rfl rfl (by clear hA hN hO ; simp only [execOp]; go_simp) ⟨_, rfl, (fun h => by cases h), rfl, hI, fun _ _ _ _ h => h⟩
    · intro ll bb w' hs hlf hN hO hf hI hA
      clear hi'
      have q11 : bb.tmps[11]? = some _ := hf.tmp (k := 2) rfl (by rw [ha]; decide) (hA 2 (by kernel_rfl))
      have q14 : bb.tmps[14]? = some _ := hf.tmp (k := 5) rfl (by rw [ha]; decide) (hA 5 (by kernel_rfl))
      obtain ⟨⟨b', hD⟩, hQ⟩ := hI
      refine Rg.op_call (o := ⟨some 15, Op.call { callee := Callee.value (Operand.func 37), args := #[(Operand.tmp 11), (Operand.tmp 14)], argTypes := _ }, _, _, _, _⟩) rfl rfl (by clear hA hN hO hD hQ; simp only [execOp, resolve]; go_simp) (below_any g ao cap bs d w' hD.cur (by omega)) ?_
      rintro e w2 ⟨y, rfl, y0, y1, hc2, hk2⟩
      exact ⟨_, rfl, _, rfl, (fun h => by cases h), ⟨y, rfl⟩, ⟨⟨b', hD.call hc2 hk2⟩, hQ.call hD.gg hk2⟩, fun k9 y9 hk9 ha9 h => by
        unfold FDt2 at *
        split at h <;> first | exact h | (exact absurd rfl hk9) | (exact absurd ha9 (by decide)) | (obtain ⟨l2, h3, h4⟩ := h; exact ⟨l2, h3, DO.call h4 hD.gg hk2⟩) | (obtain ⟨G, h1, hp, hg, ho⟩ := h; exact ⟨G, h1, (hk2.block G hp.lt hg).trans hp, hg, ho⟩) | (obtain ⟨G, k, h1, h2, hp, hg, ho⟩ := h; exact ⟨G, k, h1, h2, (hk2.block G hp.lt hg).trans hp, hg, ho⟩) | (obtain ⟨G, z, h1, hp, hg, ho⟩ := h; exact ⟨G, z, h1, (hk2.block G hp.lt hg).trans hp, hg, ho⟩) | (obtain ⟨G, k, z, h1, h2, hp, hg, ho⟩ := h; exact ⟨G, k, z, h1, h2, (hk2.block G hp.lt hg).trans hp, hg, ho⟩)⟩
    · intro ll bb w' hs hlf hN hO hf hI hA
      clear hi'
      obtain ⟨z, h1⟩ := hA 6 (by kernel_rfl)
      have q15 : bb.tmps[15]? = some (.int .i64 z) := hf.tmp (k := 6) rfl (by rw [ha]; decide) h1
      exact Rg.op_value (o := ⟨some 16, Op.binOp BinOp.add 2 (Operand.const (Value.int .i64 1)) (Operand.tmp 15) 2, _, _, _, _⟩) (x := .int .i64 (IntKind.i64.wrap (1 + z))) rfl rfl (by clear hA hN hO h1; simp only [execOp]; go_simp) ⟨_, rfl, (fun h => by cases h), ⟨_, rfl⟩, hI, fun _ _ _ _ h => h⟩
    · intro ll bb w' hs hlf hN hO hf hI hA
      clear hi'
      have q10 : bb.tmps[10]? = some _ := hf.tmp (k := 1) rfl (by rw [ha]; decide) (hA 1 (by kernel_rfl))
      obtain ⟨z, h1⟩ := hA 7 (by kernel_rfl)
      have q16 : bb.tmps[16]? = some (.int .i64 z) := hf.tmp (k := 7) rfl (by rw [ha]; decide) h1
      exact Rg.op_value (o := ⟨some 17, Op.binOp BinOp.mul 2 (Operand.tmp 10) (Operand.tmp 16) 2, _, _, _, _⟩) (x := .int .i64 (IntKind.i64.wrap (ar * z))) rfl rfl (by clear hA hN hO h1; simp only [execOp]; go_simp) ⟨_, rfl, (fun h => by cases h), ⟨_, rfl⟩, hI, fun _ _ _ _ h => h⟩
    · intro ll bb w' hs hlf hN hO hf hI hA
      clear hi'
      have q3 := hf.kept (s := 3) (by rw [sizeDt2]; kernel_rfl) k3
      exact Rg.op_value (o := ⟨some 18, Op.fieldAddr 26 (Operand.tmp 3) 1, _, _, _, _⟩) (x := .pointer (some ⟨B, 1, none⟩)) rfl rfl (by clear hA hN hO ; simp only [execOp]; go_simp) ⟨_, rfl, (fun h => by cases h), rfl, hI, fun _ _ _ _ h => h⟩
    · intro ll bb w' hs hlf hN hO hf hI hA
      clear hi'
      have q18 : bb.tmps[18]? = some _ := hf.tmp (k := 9) rfl (by rw [ha]; decide) (hA 9 (by kernel_rfl))
      obtain ⟨⟨b', hD⟩, hQ⟩ := hI
      obtain ⟨z, h1⟩ := hA 8 (by kernel_rfl)
      have q17 : bb.tmps[17]? = some (.int .i64 z) := hf.tmp (k := 8) rfl (by rw [ha]; decide) h1
      have e0 : w'.cell? ⟨B, 1, none⟩ = some _ := hD.box.cell 1
      have e1 := hD.box.frozen 1
      exact Rg.op_skip (w' := w'.setCell ⟨B, 1, none⟩ (.int .i64 z)) (o := ⟨none, Op.store 2 (Operand.tmp 18) (Operand.tmp 17), _, _, _, _⟩) rfl rfl (by clear hA hN hO h1 hD hQ; simp only [execOp]; go_simp) ⟨undef, rfl, (fun _ => rfl), rfl, ⟨⟨z, hD.put 1 (.int .i64 z) (by simp)⟩, hQ.put hD.box 1 _⟩, fun k9 y9 hk9 ha9 h => by
        unfold FDt2 at *
        split at h <;> first | exact h | (exact absurd rfl hk9) | (exact absurd ha9 (by decide)) | (obtain ⟨G, h1, hp, hg, ho⟩ := h; exact ⟨G, h1, hp.far (fun e => by subst e; have := hp.symm.trans hD.box; simp only [Option.some.injEq, Obj.cells.injEq] at this; exact absurd this.2 (by decide)) _ _, hg, ho⟩) | (obtain ⟨G, k, h1, h2, hp, hg, ho⟩ := h; exact ⟨G, k, h1, h2, hp.far (fun e => by subst e; have := hp.symm.trans hD.box; simp only [Option.some.injEq, Obj.cells.injEq] at this; exact absurd this.2 (by decide)) _ _, hg, ho⟩) | (obtain ⟨G, z, h1, hp, hg, ho⟩ := h; exact ⟨G, z, h1, hp.far (fun e => by subst e; have := hp.symm.trans hD.box; simp only [Option.some.injEq, Obj.cells.injEq] at this; exact absurd this.2 (by decide)) _ _, hg, ho⟩) | (obtain ⟨G, k, z, h1, h2, hp, hg, ho⟩ := h; exact ⟨G, k, z, h1, h2, hp.far (fun e => by subst e; have := hp.symm.trans hD.box; simp only [Option.some.injEq, Obj.cells.injEq] at this; exact absurd this.2 (by decide)) _ _, hg, ho⟩)⟩

theorem dDt2_0 : Rg.dstAt (Rg.opsOf Try.f39 2) 0 = some 9 := by kernel_rfl
theorem dDt2_1 : Rg.dstAt (Rg.opsOf Try.f39 2) 1 = some 10 := by kernel_rfl
theorem dDt2_2 : Rg.dstAt (Rg.opsOf Try.f39 2) 2 = some 11 := by kernel_rfl
theorem dDt2_3 : Rg.dstAt (Rg.opsOf Try.f39 2) 3 = some 12 := by kernel_rfl
theorem dDt2_4 : Rg.dstAt (Rg.opsOf Try.f39 2) 4 = some 13 := by kernel_rfl
theorem dDt2_5 : Rg.dstAt (Rg.opsOf Try.f39 2) 5 = some 14 := by kernel_rfl
theorem dDt2_6 : Rg.dstAt (Rg.opsOf Try.f39 2) 6 = some 15 := by kernel_rfl
theorem dDt2_7 : Rg.dstAt (Rg.opsOf Try.f39 2) 7 = some 16 := by kernel_rfl
theorem dDt2_8 : Rg.dstAt (Rg.opsOf Try.f39 2) 8 = some 17 := by kernel_rfl
theorem dDt2_9 : Rg.dstAt (Rg.opsOf Try.f39 2) 9 = some 18 := by kernel_rfl
theorem dDt2_10 : Rg.dstAt (Rg.opsOf Try.f39 2) 10 = none := by kernel_rfl
theorem layDt2 {a b : Act} (hf : Rg.Fr (Rg.opsOf Try.f39 2) a b) : b = (((((((((((a.put (some 9) (Rg.out (Rg.opsOf Try.f39 2) b 0)).put (some 10) (Rg.out (Rg.opsOf Try.f39 2) b 1)).put (some 11) (Rg.out (Rg.opsOf Try.f39 2) b 2)).put (some 12) (Rg.out (Rg.opsOf Try.f39 2) b 3)).put (some 13) (Rg.out (Rg.opsOf Try.f39 2) b 4)).put (some 14) (Rg.out (Rg.opsOf Try.f39 2) b 5)).put (some 15) (Rg.out (Rg.opsOf Try.f39 2) b 6)).put (some 16) (Rg.out (Rg.opsOf Try.f39 2) b 7)).put (some 17) (Rg.out (Rg.opsOf Try.f39 2) b 8)).put (some 18) (Rg.out (Rg.opsOf Try.f39 2) b 9)).put none (Rg.out (Rg.opsOf Try.f39 2) b 10)) := by
  have h := hf.chain
  rw [sizeDt2, show List.range 11 = [0, 1, 2, 3, 4, 5, 6, 7, 8, 9, 10] from by decide] at h
  simp only [List.foldl_cons, List.foldl_nil, dDt2_0, dDt2_1, dDt2_2, dDt2_3, dDt2_4, dDt2_5, dDt2_6, dDt2_7, dDt2_8, dDt2_9, dDt2_10] at h
  exact h

def FDt6 (w0 : World) (g cap B : Nat) (ao : Option Addr) (bs : List Int) (ar b t : Int) (sv : Value) (l : List Int) (i9 : Nat) (v : Value) (w : World) : Prop :=
  match i9 with
  | 0 => v = .pointer (some ⟨B, 2, none⟩)
  | 1 => v = sv
  | 2 => v = .pointer (some ⟨g, 0, none⟩)
  | 3 => ∃ z : Int, v = .int .i64 z
  | 4 => ∃ (G : Nat) (z : Int) , v = .slice (some ⟨G, 0, none⟩) 1 1 ∧ PB w G #[.int .i64 z] 2 ∧ G ≠ g ∧ ∀ j, sv.ownBlock = some j → j ≠ G
  | 5 => ∃ l' : List Int, l'.length = l.length + 1 ∧ DO w0 w v l'
  | 6 => v = .pointer (some ⟨B, 2, none⟩)
  | 7 => v = undef
  | _ => True
theorem sizeDt6 : (Rg.opsOf Try.f39 6).size = 8 := by kernel_rfl

set_option maxRecDepth 20000 in
set_option maxHeartbeats 8000000 in
theorem regDt6 {Q : Exit → Act → World → Prop} {a : Act} {w9 : World} {w0 : World} {g cap B : Nat} {ao : Option Addr} {bs : List Int} {ar b t : Int} {sv : Value} {l : List Int} (ha : a.tmps.size = 79)
    (k0 : a.tmps[0]? = some (.pointer (some ⟨g, 0, none⟩))) (k3 : a.tmps[3]? = some (.pointer (some ⟨B, 0, none⟩))) (h0I : DT w0 { w9 with drawn := w9.drawn + 1 } g ao cap bs B ar b sv t ∧ DO w0 { w9 with drawn := w9.drawn + 1 } sv l) (hll : l.length ≤ 2000) 
    (hend : ∀ b' w', Rg.Fr (Rg.opsOf Try.f39 6) a b' → (∃ (sv' : Value) (l' : List Int), l'.length = l.length + 1 ∧ DT w0 w' g ao cap bs B ar b sv' t ∧ DO w0 w' sv' l') → Q .normal b' w') :
    (Code.region 6 (Rg.opsOf Try.f39 6) true).wp Try.prog Q a w9 := by
  refine Rg.region_set3 (by kernel_rfl) (fun ll9 w' => (∃ sv', DT w0 w' g ao cap bs B ar b sv' t ∧ (ll9.getD 7 false = false → sv' = sv) ∧ (ll9.getD 7 false = true → ∃ l' : List Int, l'.length = l.length + 1 ∧ DO w0 w' sv' l')) ∧ (ll9.getD 5 false = false → DO w0 w' sv l) ∧ w9.heap.size ≤ w'.heap.size) (FDt6 w0 g cap B ao bs ar b t sv l) (by rw [ha, sizeDt6]; kernel_rfl) ⟨⟨sv, h0I.1, fun _ => rfl, fun q => by rw [sizeDt6] at q; exact absurd q (by decide)⟩, fun _ => h0I.2, Nat.le_refl _⟩ ?_ ?_
  case refine_2 =>
    intro l b' w' hf hall hI hA
    rw [sizeDt6] at hA
    obtain ⟨⟨sv', h1, -, h2⟩, -, -⟩ := hI
    obtain ⟨l', h3, h4⟩ := h2 (hall 7 (by rw [sizeDt6]; decide))
    exact hend b' w' hf ⟨sv', l', h3, h1, h4⟩
  case refine_1 =>
    clear hend
    intro i' hi'
    rw [sizeDt6] at hi'
    rcases (show i' = 0 ∨ i' = 1 ∨ i' = 2 ∨ i' = 3 ∨ i' = 4 ∨ i' = 5 ∨ i' = 6 ∨ i' = 7 by omega) with rfl | rfl | rfl | rfl | rfl | rfl | rfl | rfl
    · intro ll bb w' hs hlf hN hO hf hI hA
      clear hi'
      have q3 := hf.kept (s := 3) (by rw [sizeDt6]; kernel_rfl) k3
      exact Rg.op_value (o := ⟨some 25, Op.fieldAddr 26 (Operand.tmp 3) 2, _, _, _, _⟩) (x := .pointer (some ⟨B, 2, none⟩)) rfl rfl (by clear hA hN hO ; simp only [execOp]; go_simp) ⟨_, rfl, (fun h => by cases h), rfl, (by rw [flag_other (i := 0) (j := 7) (by decide), flag_other (i := 0) (j := 5) (by decide)]; exact hI), fun _ _ _ _ h => h⟩
    · intro ll bb w' hs hlf hN hO hf hI hA
      clear hi'
      have q25 : bb.tmps[25]? = some _ := hf.tmp (k := 0) rfl (by rw [ha]; decide) (hA 0 (by kernel_rfl))
      obtain ⟨⟨sv', hD, hs0, hs1⟩, hQ, -⟩ := id hI
      obtain rfl := (hs0 (hN 7 (by kernel_rfl))).symm
      have e0 : w'.cell? ⟨B, 2, none⟩ = some sv := hD.box.cell 2
      clear hD hQ hs0 hs1
      exact Rg.op_value (o := ⟨some 26, Op.load 24 (Operand.tmp 25), _, _, _, _⟩) (x := sv) rfl rfl (by clear hA hN hO ; simp only [execOp]; go_simp) ⟨_, rfl, (fun h => by cases h), rfl, (by rw [flag_other (i := 1) (j := 7) (by decide), flag_other (i := 1) (j := 5) (by decide)]; exact hI), fun _ _ _ _ h => h⟩
    · intro ll bb w' hs hlf hN hO hf hI hA
      clear hi'
      have q0 := hf.kept (s := 0) (by rw [sizeDt6]; kernel_rfl) k0
      exact Rg.op_value (o := ⟨some 27, Op.move (Operand.tmp 0), _, _, _, _⟩) (x := .pointer (some ⟨g, 0, none⟩)) rfl rfl (by clear hA hN hO ; simp only [execOp]; go_simp) ⟨_, rfl, (fun h => by cases h), rfl, (by rw [flag_other (i := 2) (j := 7) (by decide), flag_other (i := 2) (j := 5) (by decide)]; exact hI), fun _ _ _ _ h => h⟩
    · intro ll bb w' hs hlf hN hO hf hI hA
      clear hi'
      have q27 : bb.tmps[27]? = some _ := hf.tmp (k := 2) rfl (by rw [ha]; decide) (hA 2 (by kernel_rfl))
      obtain ⟨⟨sv', hD, hs0, hs1⟩, hQ, hsz⟩ := hI
      obtain rfl := (hs0 (hN 7 (by kernel_rfl))).symm
      refine Rg.op_call (o := ⟨some 28, Op.call { callee := Callee.value (Operand.func 37), args := #[(Operand.tmp 27), (Operand.const (Value.int .i64 1000))], argTypes := _ }, _, _, _, _⟩) rfl rfl (by clear hA hN hO hD hQ; simp only [execOp, resolve]; go_simp) (below_any g ao cap bs 1000 w' hD.cur (by omega)) ?_
      rintro e w2 ⟨y, rfl, y0, y1, hc2, hk2⟩
      exact ⟨_, rfl, _, rfl, (fun h => by cases h), ⟨y, rfl⟩, (by rw [flag_other (i := 3) (j := 7) (by decide), flag_other (i := 3) (j := 5) (by decide)]; exact ⟨⟨_, hD.call hc2 hk2, fun _ => rfl, fun q => absurd q (by rw [hN 7 (by kernel_rfl)]; decide)⟩, fun q => (hQ q).call hD.gg hk2, Nat.le_trans hsz hk2.size⟩), fun k9 y9 hk9 ha9 h => by
        unfold FDt6 at *
        split at h <;> first | exact h | (exact absurd rfl hk9) | (exact absurd ha9 (by decide)) | (obtain ⟨l2, h3, h4⟩ := h; exact ⟨l2, h3, DO.call h4 hD.gg hk2⟩) | (obtain ⟨G, h1, hp, hg, ho⟩ := h; exact ⟨G, h1, (hk2.block G hp.lt hg).trans hp, hg, ho⟩) | (obtain ⟨G, k, h1, h2, hp, hg, ho⟩ := h; exact ⟨G, k, h1, h2, (hk2.block G hp.lt hg).trans hp, hg, ho⟩) | (obtain ⟨G, z, h1, hp, hg, ho⟩ := h; exact ⟨G, z, h1, (hk2.block G hp.lt hg).trans hp, hg, ho⟩) | (obtain ⟨G, k, z, h1, h2, hp, hg, ho⟩ := h; exact ⟨G, k, z, h1, h2, (hk2.block G hp.lt hg).trans hp, hg, ho⟩)⟩
    · intro ll bb w' hs hlf hN hO hf hI hA
      clear hi'
      obtain ⟨⟨sv', hD, hs0, hs1⟩, hQ, hsz⟩ := hI
      obtain rfl := (hs0 (hN 7 (by kernel_rfl))).symm
      obtain ⟨z, h1⟩ := hA 3 (by kernel_rfl)
      have q28 : bb.tmps[28]? = some (.int .i64 z) := hf.tmp (k := 3) rfl (by rw [ha]; decide) h1
      have hlt := ownW_lt h0I.2
      have hcg := hD.cur.1
      exact Rg.op_value (w' := w'.alloc (.cells #[.int .i64 z] 2)) (o := ⟨some 29, Op.buildSlice 24 1 #[(0, (Operand.tmp 28))], _, _, _, _⟩) (x := .slice (some ⟨w'.heap.size, 0, none⟩) 1 1) rfl rfl (by clear hA hN hO hD hQ hlt h1; simp only [execOp]; go_simp) ⟨_, rfl, (fun h => by cases h), ⟨w'.heap.size, z, rfl, PB.new w' _ _, by omega, fun j hj => by have := (hlt j hj).2; (simp only at this; omega)⟩, (by rw [flag_other (i := 4) (j := 7) (by decide), flag_other (i := 4) (j := 5) (by decide)]; exact ⟨⟨_, hD.alloc _, fun _ => rfl, fun q => absurd q (by rw [hN 7 (by kernel_rfl)]; decide)⟩, fun q => (hQ q).call hD.gg ((Keep.refl g w').alloc _), by simp; omega⟩), fun k9 y9 hk9 ha9 h => by
        unfold FDt6 at *
        split at h <;> first | exact h | (exact absurd rfl hk9) | (exact absurd ha9 (by decide)) | (obtain ⟨l2, h3, h4⟩ := h; exact ⟨l2, h3, DO.call h4 hD.gg ((Keep.refl g _).alloc _)⟩) | (obtain ⟨G, h1, hp, hg, ho⟩ := h; exact ⟨G, h1, hp.alloc _, hg, ho⟩) | (obtain ⟨G, k, h1, h2, hp, hg, ho⟩ := h; exact ⟨G, k, h1, h2, hp.alloc _, hg, ho⟩) | (obtain ⟨G, z, h1, hp, hg, ho⟩ := h; exact ⟨G, z, h1, hp.alloc _, hg, ho⟩) | (obtain ⟨G, k, z, h1, h2, hp, hg, ho⟩ := h; exact ⟨G, k, z, h1, h2, hp.alloc _, hg, ho⟩)⟩
    · intro ll bb w' hs hlf hN hO hf hI hA
      clear hi'
      have q26 : bb.tmps[26]? = some _ := hf.tmp (k := 1) rfl (by rw [ha]; decide) (hA 1 (by kernel_rfl))
      obtain ⟨⟨sv', hD, hs0, hs1⟩, hQ, hsz⟩ := hI
      obtain rfl := (hs0 (hN 7 (by kernel_rfl))).symm
      obtain ⟨G, z, h1, hp, hg, ho⟩ := hA 4 (by kernel_rfl)
      have q29 : bb.tmps[29]? = some (.slice (some ⟨G, 0, none⟩) 1 1) := hf.tmp (k := 4) rfl (by rw [ha]; decide) h1
      obtain ⟨i0, hi0, hv0, hv1, hv2⟩ := info_partsW infoW64
      refine Rg.op_append (o := ⟨some 30, Op.call { callee := Callee.builtin Builtin.append, args := #[(Operand.tmp 26), (Operand.tmp 29)], argTypes := _ }, _, _, _, _⟩) rfl rfl (Operand.tmp 26) (Operand.tmp 29) 24 rfl w0.heap.size 2 i0 (.int .i64 0) 1 8 Try.underlying24 hi0 hv0 hv1 hv2 rfl (by decide) _ l.length (l.map fun z => Value.int .i64 z) (by clear hA hN hO h1 hp hD hQ; go_simp) (hQ hlf) ⟨G, 0, none⟩ 1 1 [.int .i64 z] (by clear hA hN hO h1 hp hD hQ; go_simp) rfl (fun j u hu => by rw [Addr.add_lit, Nat.zero_add, hp.cell j]; simpa using hu) (by simp [Value.oneCell']) (by unfold maxLen; omega) (by omega) (Nat.le_trans hD.keep.size (Nat.le_refl _)) ?_
      rintro v5 w5 ho5 hg5 -
      have hD5 := hD.app (hQ hlf) hg5
      exact ⟨_, rfl, (fun h => by cases h), ⟨l ++ [z], by simp, by unfold DO; rw [List.map_append, List.length_append]; exact ho5⟩, (by rw [flag_other (i := 5) (j := 7) (by decide), flag_set (by rw [hs, sizeDt6]; decide)]; exact ⟨⟨_, hD5, fun _ => rfl, fun q => absurd q (by rw [hN 7 (by kernel_rfl)]; decide)⟩, (fun q => by cases q), Nat.le_trans hsz hg5.size⟩), fun k9 y9 hk9 ha9 h => by
        unfold FDt6 at *
        split at h <;> first | exact h | (exact absurd rfl hk9) | (exact absurd ha9 (by decide)) | (obtain ⟨G, h1, hp, hg, ho⟩ := h; exact ⟨G, h1, (hg5.block G hp.lt (fun e => ho G e.symm rfl)).trans hp, hg, ho⟩) | (obtain ⟨G, k, h1, h2, hp, hg, ho⟩ := h; exact ⟨G, k, h1, h2, (hg5.block G hp.lt (fun e => ho G e.symm rfl)).trans hp, hg, ho⟩) | (obtain ⟨G, z, h1, hp, hg, ho⟩ := h; exact ⟨G, z, h1, (hg5.block G hp.lt (fun e => ho G e.symm rfl)).trans hp, hg, ho⟩) | (obtain ⟨G, k, z, h1, h2, hp, hg, ho⟩ := h; exact ⟨G, k, z, h1, h2, (hg5.block G hp.lt (fun e => ho G e.symm rfl)).trans hp, hg, ho⟩)⟩
    · intro ll bb w' hs hlf hN hO hf hI hA
      clear hi'
      have q3 := hf.kept (s := 3) (by rw [sizeDt6]; kernel_rfl) k3
      exact Rg.op_value (o := ⟨some 31, Op.fieldAddr 26 (Operand.tmp 3) 2, _, _, _, _⟩) (x := .pointer (some ⟨B, 2, none⟩)) rfl rfl (by clear hA hN hO ; simp only [execOp]; go_simp) ⟨_, rfl, (fun h => by cases h), rfl, (by rw [flag_other (i := 6) (j := 7) (by decide), flag_other (i := 6) (j := 5) (by decide)]; exact hI), fun _ _ _ _ h => h⟩
    · intro ll bb w' hs hlf hN hO hf hI hA
      clear hi'
      have q31 : bb.tmps[31]? = some _ := hf.tmp (k := 6) rfl (by rw [ha]; decide) (hA 6 (by kernel_rfl))
      obtain ⟨⟨sv', hD, hs0, hs1⟩, hQ, hsz⟩ := hI
      obtain rfl := (hs0 hlf).symm
      obtain ⟨l', h1, h2⟩ := hA 5 (by kernel_rfl)
      have q30 : bb.tmps[30]? = some (Rg.out (Rg.opsOf Try.f39 6) bb 5) := hf.tmp (k := 5) rfl (by rw [ha]; decide) rfl
      generalize Rg.out (Rg.opsOf Try.f39 6) bb 5 = v5 at *
      obtain ⟨ad5, c5, rfl⟩ := h2.form
      have e0 : w'.cell? ⟨B, 2, none⟩ = some _ := hD.box.cell 2
      have e1 := hD.box.frozen 2
      exact Rg.op_skip (w' := w'.setCell ⟨B, 2, none⟩ (.slice ad5 l'.length c5)) (o := ⟨none, Op.store 24 (Operand.tmp 31) (Operand.tmp 30), _, _, _, _⟩) rfl rfl (by clear hA hN hO h1 h2 hD hQ; simp only [execOp]; go_simp) ⟨undef, rfl, (fun _ => rfl), rfl, (by rw [flag_set (by rw [hs, sizeDt6]; decide), flag_other (i := 7) (j := 5) (by decide)]; exact ⟨⟨_, hD.put 2 _ (by simp), (fun q => by cases q), fun _ => ⟨l', h1, h2.put hD.box 2 _⟩⟩, fun q => (hQ q).put hD.box 2 _, by simpa [World.setCell] using hsz⟩), fun k9 y9 hk9 ha9 h => by
        unfold FDt6 at *
        split at h <;> first | exact h | (exact absurd rfl hk9) | (exact absurd ha9 (by decide)) | (obtain ⟨G, h1, hp, hg, ho⟩ := h; exact ⟨G, h1, hp.far (fun e => by subst e; have := hp.symm.trans hD.box; simp only [Option.some.injEq, Obj.cells.injEq] at this; exact absurd this.2 (by decide)) _ _, hg, ho⟩) | (obtain ⟨G, k, h1, h2, hp, hg, ho⟩ := h; exact ⟨G, k, h1, h2, hp.far (fun e => by subst e; have := hp.symm.trans hD.box; simp only [Option.some.injEq, Obj.cells.injEq] at this; exact absurd this.2 (by decide)) _ _, hg, ho⟩) | (obtain ⟨G, z, h1, hp, hg, ho⟩ := h; exact ⟨G, z, h1, hp.far (fun e => by subst e; have := hp.symm.trans hD.box; simp only [Option.some.injEq, Obj.cells.injEq] at this; exact absurd this.2 (by decide)) _ _, hg, ho⟩) | (obtain ⟨G, k, z, h1, h2, hp, hg, ho⟩ := h; exact ⟨G, k, z, h1, h2, hp.far (fun e => by subst e; have := hp.symm.trans hD.box; simp only [Option.some.injEq, Obj.cells.injEq] at this; exact absurd this.2 (by decide)) _ _, hg, ho⟩) | (obtain ⟨l2, h3, h4⟩ := h; exact ⟨l2, h3, h4.put hD.box 2 _⟩)⟩

theorem dDt6_0 : Rg.dstAt (Rg.opsOf Try.f39 6) 0 = some 25 := by kernel_rfl
theorem dDt6_1 : Rg.dstAt (Rg.opsOf Try.f39 6) 1 = some 26 := by kernel_rfl
theorem dDt6_2 : Rg.dstAt (Rg.opsOf Try.f39 6) 2 = some 27 := by kernel_rfl
theorem dDt6_3 : Rg.dstAt (Rg.opsOf Try.f39 6) 3 = some 28 := by kernel_rfl
theorem dDt6_4 : Rg.dstAt (Rg.opsOf Try.f39 6) 4 = some 29 := by kernel_rfl
theorem dDt6_5 : Rg.dstAt (Rg.opsOf Try.f39 6) 5 = some 30 := by kernel_rfl
theorem dDt6_6 : Rg.dstAt (Rg.opsOf Try.f39 6) 6 = some 31 := by kernel_rfl
theorem dDt6_7 : Rg.dstAt (Rg.opsOf Try.f39 6) 7 = none := by kernel_rfl
theorem layDt6 {a b : Act} (hf : Rg.Fr (Rg.opsOf Try.f39 6) a b) : b = ((((((((a.put (some 25) (Rg.out (Rg.opsOf Try.f39 6) b 0)).put (some 26) (Rg.out (Rg.opsOf Try.f39 6) b 1)).put (some 27) (Rg.out (Rg.opsOf Try.f39 6) b 2)).put (some 28) (Rg.out (Rg.opsOf Try.f39 6) b 3)).put (some 29) (Rg.out (Rg.opsOf Try.f39 6) b 4)).put (some 30) (Rg.out (Rg.opsOf Try.f39 6) b 5)).put (some 31) (Rg.out (Rg.opsOf Try.f39 6) b 6)).put none (Rg.out (Rg.opsOf Try.f39 6) b 7)) := by
  have h := hf.chain
  rw [sizeDt6, show List.range 8 = [0, 1, 2, 3, 4, 5, 6, 7] from by decide] at h
  simp only [List.foldl_cons, List.foldl_nil, dDt6_0, dDt6_1, dDt6_2, dDt6_3, dDt6_4, dDt6_5, dDt6_6, dDt6_7] at h
  exact h

def FDt13 (w0 : World) (g cap B : Nat) (ao : Option Addr) (bs : List Int) (ar b t : Int) (sv : Value) (l : List Int) (i9 : Nat) (v : Value) (w : World) : Prop :=
  match i9 with
  | 0 => v = .pointer (some ⟨B, 1, none⟩)
  | 1 => ∃ z : Int, v = .int .i64 z
  | 2 => ∃ z : Int, v = .int .i64 z
  | 3 => ∃ (G : Nat) (z : Int) , v = .slice (some ⟨G, 0, none⟩) 4 4 ∧ PB w G #[.int .i64 0, .int .i64 z, .int .i64 20, .int .i64 24] 2 ∧ G ≠ g ∧ ∀ j, sv.ownBlock = some j → j ≠ G
  | 4 => v = .pointer (some ⟨g, 0, none⟩)
  | 5 => ∃ k : Nat, v = .int .i64 (k : Int) ∧ k < 4
  | 6 => ∃ (G k : Nat) (z : Int) , v = .pointer (some ⟨G, k, none⟩) ∧ k < 4 ∧ PB w G #[.int .i64 0, .int .i64 z, .int .i64 20, .int .i64 24] 2 ∧ G ≠ g ∧ ∀ j, sv.ownBlock = some j → j ≠ G
  | 7 => ∃ z : Int, v = .int .i64 z
  | 8 => v = .pointer (some ⟨B, 1, none⟩)
  | 9 => v = undef
  | _ => True
theorem sizeDt13 : (Rg.opsOf Try.f39 13).size = 10 := by kernel_rfl

set_option maxRecDepth 20000 in
set_option maxHeartbeats 8000000 in
theorem regDt13 {Q : Exit → Act → World → Prop} {a : Act} {w9 : World} {w0 : World} {g cap B : Nat} {ao : Option Addr} {bs : List Int} {ar b t : Int} {sv : Value} {l : List Int} (ha : a.tmps.size = 79)
    (k0 : a.tmps[0]? = some (.pointer (some ⟨g, 0, none⟩))) (k3 : a.tmps[3]? = some (.pointer (some ⟨B, 0, none⟩))) (h0I : DT w0 { w9 with drawn := w9.drawn + 1 } g ao cap bs B ar b sv t ∧ DO w0 { w9 with drawn := w9.drawn + 1 } sv l) (hll : l.length ≤ 2000) 
    (hend : ∀ b' w', Rg.Fr (Rg.opsOf Try.f39 13) a b' → (∃ b', DT w0 w' g ao cap bs B ar b' sv t) ∧ DO w0 w' sv l → Q .normal b' w') :
    (Code.region 13 (Rg.opsOf Try.f39 13) true).wp Try.prog Q a w9 := by
  refine Rg.region_set3 (by kernel_rfl) (fun _ w' => (∃ b', DT w0 w' g ao cap bs B ar b' sv t) ∧ DO w0 w' sv l) (FDt13 w0 g cap B ao bs ar b t sv l) (by rw [ha, sizeDt13]; kernel_rfl) ⟨⟨b, h0I.1⟩, h0I.2⟩ ?_ ?_
  case refine_2 =>
    intro l b' w' hf hall hI hA
    rw [sizeDt13] at hA
    exact hend b' w' hf hI
  case refine_1 =>
    clear hend
    intro i' hi'
    rw [sizeDt13] at hi'
    rcases (show i' = 0 ∨ i' = 1 ∨ i' = 2 ∨ i' = 3 ∨ i' = 4 ∨ i' = 5 ∨ i' = 6 ∨ i' = 7 ∨ i' = 8 ∨ i' = 9 by omega) with rfl | rfl | rfl | rfl | rfl | rfl | rfl | rfl | rfl | rfl
    · intro ll bb w' hs hlf hN hO hf hI hA
      clear hi'
      have q3 := hf.kept (s := 3) (by rw [sizeDt13]; kernel_rfl) k3
      exact Rg.op_value (o := ⟨some 49, Op.fieldAddr 26 (Operand.tmp 3) 1, _, _, _, _⟩) (x := .pointer (some ⟨B, 1, none⟩)) rfl rfl (by clear hA hN hO ; simp only [execOp]; go_simp) ⟨_, rfl, (fun h => by cases h), rfl, hI, fun _ _ _ _ h => h⟩
    · intro ll bb w' hs hlf hN hO hf hI hA
      clear hi'
      have q49 : bb.tmps[49]? = some _ := hf.tmp (k := 0) rfl (by rw [ha]; decide) (hA 0 (by kernel_rfl))
      obtain ⟨⟨b', hD⟩, hQ⟩ := hI
      have e0 : w'.cell? ⟨B, 1, none⟩ = some (.int .i64 b') := hD.box.cell 1
      exact Rg.op_value (o := ⟨some 50, Op.load 2 (Operand.tmp 49), _, _, _, _⟩) (x := .int .i64 b') rfl rfl (by clear hA hN hO hD hQ; simp only [execOp]; go_simp) ⟨_, rfl, (fun h => by cases h), ⟨_, rfl⟩, ⟨⟨b', hD⟩, hQ⟩, fun _ _ _ _ h => h⟩
    · intro ll bb w' hs hlf hN hO hf hI hA
      clear hi'
      obtain ⟨z, h1⟩ := hA 1 (by kernel_rfl)
      have q50 : bb.tmps[50]? = some (.int .i64 z) := hf.tmp (k := 1) rfl (by rw [ha]; decide) h1
      exact Rg.op_value (o := ⟨some 51, Op.binOp BinOp.add 2 (Operand.tmp 50) (Operand.const (Value.int .i64 1)) 2, _, _, _, _⟩) (x := .int .i64 (IntKind.i64.wrap (z + 1))) rfl rfl (by clear hA hN hO h1; simp only [execOp]; go_simp) ⟨_, rfl, (fun h => by cases h), ⟨_, rfl⟩, hI, fun _ _ _ _ h => h⟩
    · intro ll bb w' hs hlf hN hO hf hI hA
      clear hi'
      obtain ⟨⟨b', hD⟩, hQ⟩ := hI
      obtain ⟨z, h1⟩ := hA 2 (by kernel_rfl)
      have q51 : bb.tmps[51]? = some (.int .i64 z) := hf.tmp (k := 2) rfl (by rw [ha]; decide) h1
      have hlt := ownW_lt hQ
      have hcg := hD.cur.1
      exact Rg.op_value (w' := w'.alloc (.cells #[.int .i64 0, .int .i64 z, .int .i64 20, .int .i64 24] 2)) (o := ⟨some 52, Op.buildSlice 24 4 #[(0, (Operand.const (Value.int .i64 0))), (1, (Operand.tmp 51)), (2, (Operand.const (Value.int .i64 20))), (3, (Operand.const (Value.int .i64 24)))], _, _, _, _⟩) (x := .slice (some ⟨w'.heap.size, 0, none⟩) 4 4) rfl rfl (by clear hA hN hO hD hQ hlt h1; simp only [execOp]; go_simp) ⟨_, rfl, (fun h => by cases h), ⟨w'.heap.size, z, rfl, PB.new w' _ _, by omega, fun j hj => by have := (hlt j hj).2; omega⟩, ⟨⟨b', hD.alloc _⟩, hQ.call hD.gg ((Keep.refl g w').alloc _)⟩, fun k9 y9 hk9 ha9 h => by
        unfold FDt13 at *
        split at h <;> first | exact h | (exact absurd rfl hk9) | (exact absurd ha9 (by decide)) | (obtain ⟨l2, h3, h4⟩ := h; exact ⟨l2, h3, DO.call h4 hD.gg ((Keep.refl g _).alloc _)⟩) | (obtain ⟨G, h1, hp, hg, ho⟩ := h; exact ⟨G, h1, hp.alloc _, hg, ho⟩) | (obtain ⟨G, k, h1, h2, hp, hg, ho⟩ := h; exact ⟨G, k, h1, h2, hp.alloc _, hg, ho⟩) | (obtain ⟨G, z, h1, hp, hg, ho⟩ := h; exact ⟨G, z, h1, hp.alloc _, hg, ho⟩) | (obtain ⟨G, k, z, h1, h2, hp, hg, ho⟩ := h; exact ⟨G, k, z, h1, h2, hp.alloc _, hg, ho⟩)⟩
    · intro ll bb w' hs hlf hN hO hf hI hA
      clear hi'
      have q0 := hf.kept (s := 0) (by rw [sizeDt13]; kernel_rfl) k0
      exact Rg.op_value (o := ⟨some 53, Op.move (Operand.tmp 0), _, _, _, _⟩) (x := .pointer (some ⟨g, 0, none⟩)) rfl rfl (by clear hA hN hO ; simp only [execOp]; go_simp) ⟨_, rfl, (fun h => by cases h), rfl, hI, fun _ _ _ _ h => h⟩
    · intro ll bb w' hs hlf hN hO hf hI hA
      clear hi'
      have q53 : bb.tmps[53]? = some _ := hf.tmp (k := 4) rfl (by rw [ha]; decide) (hA 4 (by kernel_rfl))
      obtain ⟨⟨b', hD⟩, hQ⟩ := hI
      refine Rg.op_call (o := ⟨some 54, Op.call { callee := Callee.value (Operand.func 37), args := #[(Operand.tmp 53), (Operand.const (Value.int .i64 4))], argTypes := _ }, _, _, _, _⟩) rfl rfl (by clear hA hN hO hD hQ; simp only [execOp, resolve]; go_simp) (below_any g ao cap bs 4 w' hD.cur (by omega)) ?_
      rintro e w2 ⟨y, rfl, y0, y1, hc2, hk2⟩
      obtain ⟨k, rfl⟩ := Int.eq_ofNat_of_zero_le y0
      exact ⟨_, rfl, _, rfl, (fun h => by cases h), ⟨k, rfl, by omega⟩, ⟨⟨b', hD.call hc2 hk2⟩, hQ.call hD.gg hk2⟩, fun k9 y9 hk9 ha9 h => by
        unfold FDt13 at *
        split at h <;> first | exact h | (exact absurd rfl hk9) | (exact absurd ha9 (by decide)) | (obtain ⟨l2, h3, h4⟩ := h; exact ⟨l2, h3, DO.call h4 hD.gg hk2⟩) | (obtain ⟨G, h1, hp, hg, ho⟩ := h; exact ⟨G, h1, (hk2.block G hp.lt hg).trans hp, hg, ho⟩) | (obtain ⟨G, k, h1, h2, hp, hg, ho⟩ := h; exact ⟨G, k, h1, h2, (hk2.block G hp.lt hg).trans hp, hg, ho⟩) | (obtain ⟨G, z, h1, hp, hg, ho⟩ := h; exact ⟨G, z, h1, (hk2.block G hp.lt hg).trans hp, hg, ho⟩) | (obtain ⟨G, k, z, h1, h2, hp, hg, ho⟩ := h; exact ⟨G, k, z, h1, h2, (hk2.block G hp.lt hg).trans hp, hg, ho⟩)⟩
    · intro ll bb w' hs hlf hN hO hf hI hA
      clear hi'
      obtain ⟨G, z, h1, hp, hg, ho⟩ := hA 3 (by kernel_rfl)
      obtain ⟨k, h2, hk⟩ := hA 5 (by kernel_rfl)
      have q52 : bb.tmps[52]? = some (.slice (some ⟨G, 0, none⟩) 4 4) := hf.tmp (k := 3) rfl (by rw [ha]; decide) h1
      have q54 : bb.tmps[54]? = some (.int .i64 (k : Int)) := hf.tmp (k := 5) rfl (by rw [ha]; decide) h2
      have hi3 : (k : Int) < 4 := by omega
      exact Rg.op_value (o := ⟨some 55, Op.indexAddr 24 (Operand.tmp 52) (Operand.tmp 54), _, _, _, _⟩) (x := .pointer (some ⟨G, k, none⟩)) rfl rfl (by clear hA hN hO h1 h2 hp; simp only [execOp]; go_simp) ⟨_, rfl, (fun h => by cases h), ⟨G, k, z, rfl, hk, hp, hg, ho⟩, hI, fun _ _ _ _ h => h⟩
    · intro ll bb w' hs hlf hN hO hf hI hA
      clear hi'
      obtain ⟨G, k, z, h1, hk, hp, hg, ho⟩ := hA 6 (by kernel_rfl)
      have q55 : bb.tmps[55]? = some (.pointer (some ⟨G, k, none⟩)) := hf.tmp (k := 6) rfl (by rw [ha]; decide) h1
      obtain ⟨u, e0⟩ : ∃ u : Int, w'.cell? ⟨G, k, none⟩ = some (.int .i64 u) := by
        rw [hp.cell k]
        rcases (show k = 0 ∨ k = 1 ∨ k = 2 ∨ k = 3 by omega) with rfl | rfl | rfl | rfl <;> exact ⟨_, rfl⟩
      exact Rg.op_value (o := ⟨some 56, Op.load 2 (Operand.tmp 55), _, _, _, _⟩) (x := .int .i64 u) rfl rfl (by clear hA hN hO h1 hp; simp only [execOp]; go_simp) ⟨_, rfl, (fun h => by cases h), ⟨_, rfl⟩, hI, fun _ _ _ _ h => h⟩
    · intro ll bb w' hs hlf hN hO hf hI hA
      clear hi'
      have q3 := hf.kept (s := 3) (by rw [sizeDt13]; kernel_rfl) k3
      exact Rg.op_value (o := ⟨some 57, Op.fieldAddr 26 (Operand.tmp 3) 1, _, _, _, _⟩) (x := .pointer (some ⟨B, 1, none⟩)) rfl rfl (by clear hA hN hO ; simp only [execOp]; go_simp) ⟨_, rfl, (fun h => by cases h), rfl, hI, fun _ _ _ _ h => h⟩
    · intro ll bb w' hs hlf hN hO hf hI hA
      clear hi'
      have q57 : bb.tmps[57]? = some _ := hf.tmp (k := 8) rfl (by rw [ha]; decide) (hA 8 (by kernel_rfl))
      obtain ⟨⟨b', hD⟩, hQ⟩ := hI
      obtain ⟨z, h1⟩ := hA 7 (by kernel_rfl)
      have q56 : bb.tmps[56]? = some (.int .i64 z) := hf.tmp (k := 7) rfl (by rw [ha]; decide) h1
      have e0 : w'.cell? ⟨B, 1, none⟩ = some _ := hD.box.cell 1
      have e1 := hD.box.frozen 1
      exact Rg.op_skip (w' := w'.setCell ⟨B, 1, none⟩ (.int .i64 z)) (o := ⟨none, Op.store 2 (Operand.tmp 57) (Operand.tmp 56), _, _, _, _⟩) rfl rfl (by clear hA hN hO h1 hD hQ; simp only [execOp]; go_simp) ⟨undef, rfl, (fun _ => rfl), rfl, ⟨⟨z, hD.put 1 (.int .i64 z) (by simp)⟩, hQ.put hD.box 1 _⟩, fun k9 y9 hk9 ha9 h => by
        unfold FDt13 at *
        split at h <;> first | exact h | (exact absurd rfl hk9) | (exact absurd ha9 (by decide)) | (obtain ⟨G, h1, hp, hg, ho⟩ := h; exact ⟨G, h1, hp.far (fun e => by subst e; have := hp.symm.trans hD.box; simp only [Option.some.injEq, Obj.cells.injEq] at this; exact absurd this.2 (by decide)) _ _, hg, ho⟩) | (obtain ⟨G, k, h1, h2, hp, hg, ho⟩ := h; exact ⟨G, k, h1, h2, hp.far (fun e => by subst e; have := hp.symm.trans hD.box; simp only [Option.some.injEq, Obj.cells.injEq] at this; exact absurd this.2 (by decide)) _ _, hg, ho⟩) | (obtain ⟨G, z, h1, hp, hg, ho⟩ := h; exact ⟨G, z, h1, hp.far (fun e => by subst e; have := hp.symm.trans hD.box; simp only [Option.some.injEq, Obj.cells.injEq] at this; exact absurd this.2 (by decide)) _ _, hg, ho⟩) | (obtain ⟨G, k, z, h1, h2, hp, hg, ho⟩ := h; exact ⟨G, k, z, h1, h2, hp.far (fun e => by subst e; have := hp.symm.trans hD.box; simp only [Option.some.injEq, Obj.cells.injEq] at this; exact absurd this.2 (by decide)) _ _, hg, ho⟩)⟩

theorem dDt13_0 : Rg.dstAt (Rg.opsOf Try.f39 13) 0 = some 49 := by kernel_rfl
theorem dDt13_1 : Rg.dstAt (Rg.opsOf Try.f39 13) 1 = some 50 := by kernel_rfl
theorem dDt13_2 : Rg.dstAt (Rg.opsOf Try.f39 13) 2 = some 51 := by kernel_rfl
theorem dDt13_3 : Rg.dstAt (Rg.opsOf Try.f39 13) 3 = some 52 := by kernel_rfl
theorem dDt13_4 : Rg.dstAt (Rg.opsOf Try.f39 13) 4 = some 53 := by kernel_rfl
theorem dDt13_5 : Rg.dstAt (Rg.opsOf Try.f39 13) 5 = some 54 := by kernel_rfl
theorem dDt13_6 : Rg.dstAt (Rg.opsOf Try.f39 13) 6 = some 55 := by kernel_rfl
theorem dDt13_7 : Rg.dstAt (Rg.opsOf Try.f39 13) 7 = some 56 := by kernel_rfl
theorem dDt13_8 : Rg.dstAt (Rg.opsOf Try.f39 13) 8 = some 57 := by kernel_rfl
theorem dDt13_9 : Rg.dstAt (Rg.opsOf Try.f39 13) 9 = none := by kernel_rfl
theorem layDt13 {a b : Act} (hf : Rg.Fr (Rg.opsOf Try.f39 13) a b) : b = ((((((((((a.put (some 49) (Rg.out (Rg.opsOf Try.f39 13) b 0)).put (some 50) (Rg.out (Rg.opsOf Try.f39 13) b 1)).put (some 51) (Rg.out (Rg.opsOf Try.f39 13) b 2)).put (some 52) (Rg.out (Rg.opsOf Try.f39 13) b 3)).put (some 53) (Rg.out (Rg.opsOf Try.f39 13) b 4)).put (some 54) (Rg.out (Rg.opsOf Try.f39 13) b 5)).put (some 55) (Rg.out (Rg.opsOf Try.f39 13) b 6)).put (some 56) (Rg.out (Rg.opsOf Try.f39 13) b 7)).put (some 57) (Rg.out (Rg.opsOf Try.f39 13) b 8)).put none (Rg.out (Rg.opsOf Try.f39 13) b 9)) := by
  have h := hf.chain
  rw [sizeDt13, show List.range 10 = [0, 1, 2, 3, 4, 5, 6, 7, 8, 9] from by decide] at h
  simp only [List.foldl_cons, List.foldl_nil, dDt13_0, dDt13_1, dDt13_2, dDt13_3, dDt13_4, dDt13_5, dDt13_6, dDt13_7, dDt13_8, dDt13_9] at h
  exact h

def FDt15 (w0 : World) (g cap B : Nat) (ao : Option Addr) (bs : List Int) (ar b t : Int) (sv : Value) (l : List Int) (i9 : Nat) (v : Value) (w : World) : Prop :=
  match i9 with
  | 0 => v = .pointer (some ⟨B, 2, none⟩)
  | 1 => v = sv
  | 2 => ∃ (G : Nat) , v = .slice (some ⟨G, 0, none⟩) 2 2 ∧ PB w G #[.int .i64 (-1), .int .i64 4611686018427387904] 2 ∧ G ≠ g ∧ ∀ j, sv.ownBlock = some j → j ≠ G
  | 3 => v = .pointer (some ⟨g, 0, none⟩)
  | 4 => ∃ k : Nat, v = .int .i64 (k : Int) ∧ k < 2
  | 5 => ∃ (G k : Nat) , v = .pointer (some ⟨G, k, none⟩) ∧ k < 2 ∧ PB w G #[.int .i64 (-1), .int .i64 4611686018427387904] 2 ∧ G ≠ g ∧ ∀ j, sv.ownBlock = some j → j ≠ G
  | 6 => ∃ z : Int, v = .int .i64 z
  | 7 => ∃ (G : Nat) (z : Int) , v = .slice (some ⟨G, 0, none⟩) 1 1 ∧ PB w G #[.int .i64 z] 2 ∧ G ≠ g ∧ ∀ j, sv.ownBlock = some j → j ≠ G
  | 8 => ∃ l' : List Int, l'.length = l.length + 1 ∧ DO w0 w v l'
  | 9 => v = .pointer (some ⟨B, 2, none⟩)
  | 10 => v = undef
  | _ => True
theorem sizeDt15 : (Rg.opsOf Try.f39 15).size = 11 := by kernel_rfl

set_option maxRecDepth 20000 in
set_option maxHeartbeats 8000000 in
theorem regDt15 {Q : Exit → Act → World → Prop} {a : Act} {w9 : World} {w0 : World} {g cap B : Nat} {ao : Option Addr} {bs : List Int} {ar b t : Int} {sv : Value} {l : List Int} (ha : a.tmps.size = 79)
    (k0 : a.tmps[0]? = some (.pointer (some ⟨g, 0, none⟩))) (k3 : a.tmps[3]? = some (.pointer (some ⟨B, 0, none⟩))) (h0I : DT w0 { w9 with drawn := w9.drawn + 1 } g ao cap bs B ar b sv t ∧ DO w0 { w9 with drawn := w9.drawn + 1 } sv l) (hll : l.length ≤ 2000) 
    (hend : ∀ b' w', Rg.Fr (Rg.opsOf Try.f39 15) a b' → (∃ (sv' : Value) (l' : List Int), l'.length = l.length + 1 ∧ DT w0 w' g ao cap bs B ar b sv' t ∧ DO w0 w' sv' l') → Q .normal b' w') :
    (Code.region 15 (Rg.opsOf Try.f39 15) true).wp Try.prog Q a w9 := by
  refine Rg.region_set3 (by kernel_rfl) (fun ll9 w' => (∃ sv', DT w0 w' g ao cap bs B ar b sv' t ∧ (ll9.getD 10 false = false → sv' = sv) ∧ (ll9.getD 10 false = true → ∃ l' : List Int, l'.length = l.length + 1 ∧ DO w0 w' sv' l')) ∧ (ll9.getD 8 false = false → DO w0 w' sv l) ∧ w9.heap.size ≤ w'.heap.size) (FDt15 w0 g cap B ao bs ar b t sv l) (by rw [ha, sizeDt15]; kernel_rfl) ⟨⟨sv, h0I.1, fun _ => rfl, fun q => by rw [sizeDt15] at q; exact absurd q (by decide)⟩, fun _ => h0I.2, Nat.le_refl _⟩ ?_ ?_
  case refine_2 =>
    intro l b' w' hf hall hI hA
    rw [sizeDt15] at hA
    obtain ⟨⟨sv', h1, -, h2⟩, -, -⟩ := hI
    obtain ⟨l', h3, h4⟩ := h2 (hall 10 (by rw [sizeDt15]; decide))
    exact hend b' w' hf ⟨sv', l', h3, h1, h4⟩
  case refine_1 =>
    clear hend
    intro i' hi'
    rw [sizeDt15] at hi'
    rcases (show i' = 0 ∨ i' = 1 ∨ i' = 2 ∨ i' = 3 ∨ i' = 4 ∨ i' = 5 ∨ i' = 6 ∨ i' = 7 ∨ i' = 8 ∨ i' = 9 ∨ i' = 10 by omega) with rfl | rfl | rfl | rfl | rfl | rfl | rfl | rfl | rfl | rfl | rfl
    · intro ll bb w' hs hlf hN hO hf hI hA
      clear hi'
      have q3 := hf.kept (s := 3) (by rw [sizeDt15]; kernel_rfl) k3
      exact Rg.op_value (o := ⟨some 60, Op.fieldAddr 26 (Operand.tmp 3) 2, _, _, _, _⟩) (x := .pointer (some ⟨B, 2, none⟩)) rfl rfl (by clear hA hN hO ; simp only [execOp]; go_simp) ⟨_, rfl, (fun h => by cases h), rfl, (by rw [flag_other (i := 0) (j := 10) (by decide), flag_other (i := 0) (j := 8) (by decide)]; exact hI), fun _ _ _ _ h => h⟩
    · intro ll bb w' hs hlf hN hO hf hI hA
      clear hi'
      have q60 : bb.tmps[60]? = some _ := hf.tmp (k := 0) rfl (by rw [ha]; decide) (hA 0 (by kernel_rfl))
      obtain ⟨⟨sv', hD, hs0, hs1⟩, hQ, -⟩ := id hI
      obtain rfl := (hs0 (hN 10 (by kernel_rfl))).symm
      have e0 : w'.cell? ⟨B, 2, none⟩ = some sv := hD.box.cell 2
      clear hD hQ hs0 hs1
      exact Rg.op_value (o := ⟨some 61, Op.load 24 (Operand.tmp 60), _, _, _, _⟩) (x := sv) rfl rfl (by clear hA hN hO ; simp only [execOp]; go_simp) ⟨_, rfl, (fun h => by cases h), rfl, (by rw [flag_other (i := 1) (j := 10) (by decide), flag_other (i := 1) (j := 8) (by decide)]; exact hI), fun _ _ _ _ h => h⟩
    · intro ll bb w' hs hlf hN hO hf hI hA
      clear hi'
      obtain ⟨⟨sv', hD, hs0, hs1⟩, hQ, hsz⟩ := hI
      obtain rfl := (hs0 (hN 10 (by kernel_rfl))).symm
      have hlt := ownW_lt h0I.2
      have hcg := hD.cur.1
      exact Rg.op_value (w' := w'.alloc (.cells #[.int .i64 (-1), .int .i64 4611686018427387904] 2)) (o := ⟨some 62, Op.buildSlice 24 2 #[(0, (Operand.const (Value.int IntKind.i64 (-1)))), (1, (Operand.const (Value.int .i64 4611686018427387904)))], _, _, _, _⟩) (x := .slice (some ⟨w'.heap.size, 0, none⟩) 2 2) rfl rfl (by clear hA hN hO hD hQ hlt; simp only [execOp]; go_simp) ⟨_, rfl, (fun h => by cases h), ⟨w'.heap.size, rfl, PB.new w' _ _, by omega, fun j hj => by have := (hlt j hj).2; (simp only at this; omega)⟩, (by rw [flag_other (i := 2) (j := 10) (by decide), flag_other (i := 2) (j := 8) (by decide)]; exact ⟨⟨_, hD.alloc _, fun _ => rfl, fun q => absurd q (by rw [hN 10 (by kernel_rfl)]; decide)⟩, fun q => (hQ q).call hD.gg ((Keep.refl g w').alloc _), by simp; omega⟩), fun k9 y9 hk9 ha9 h => by
        unfold FDt15 at *
        split at h <;> first | exact h | (exact absurd rfl hk9) | (exact absurd ha9 (by decide)) | (obtain ⟨l2, h3, h4⟩ := h; exact ⟨l2, h3, DO.call h4 hD.gg ((Keep.refl g _).alloc _)⟩) | (obtain ⟨G, h1, hp, hg, ho⟩ := h; exact ⟨G, h1, hp.alloc _, hg, ho⟩) | (obtain ⟨G, k, h1, h2, hp, hg, ho⟩ := h; exact ⟨G, k, h1, h2, hp.alloc _, hg, ho⟩) | (obtain ⟨G, z, h1, hp, hg, ho⟩ := h; exact ⟨G, z, h1, hp.alloc _, hg, ho⟩) | (obtain ⟨G, k, z, h1, h2, hp, hg, ho⟩ := h; exact ⟨G, k, z, h1, h2, hp.alloc _, hg, ho⟩)⟩
    · intro ll bb w' hs hlf hN hO hf hI hA
      clear hi'
      have q0 := hf.kept (s := 0) (by rw [sizeDt15]; kernel_rfl) k0
      exact Rg.op_value (o := ⟨some 63, Op.move (Operand.tmp 0), _, _, _, _⟩) (x := .pointer (some ⟨g, 0, none⟩)) rfl rfl (by clear hA hN hO ; simp only [execOp]; go_simp) ⟨_, rfl, (fun h => by cases h), rfl, (by rw [flag_other (i := 3) (j := 10) (by decide), flag_other (i := 3) (j := 8) (by decide)]; exact hI), fun _ _ _ _ h => h⟩
    · intro ll bb w' hs hlf hN hO hf hI hA
      clear hi'
      have q63 : bb.tmps[63]? = some _ := hf.tmp (k := 3) rfl (by rw [ha]; decide) (hA 3 (by kernel_rfl))
      obtain ⟨⟨sv', hD, hs0, hs1⟩, hQ, hsz⟩ := hI
      obtain rfl := (hs0 (hN 10 (by kernel_rfl))).symm
      refine Rg.op_call (o := ⟨some 64, Op.call { callee := Callee.value (Operand.func 37), args := #[(Operand.tmp 63), (Operand.const (Value.int .i64 2))], argTypes := _ }, _, _, _, _⟩) rfl rfl (by clear hA hN hO hD hQ; simp only [execOp, resolve]; go_simp) (below_any g ao cap bs 2 w' hD.cur (by omega)) ?_
      rintro e w2 ⟨y, rfl, y0, y1, hc2, hk2⟩
      obtain ⟨k, rfl⟩ := Int.eq_ofNat_of_zero_le y0
      exact ⟨_, rfl, _, rfl, (fun h => by cases h), ⟨k, rfl, by omega⟩, (by rw [flag_other (i := 4) (j := 10) (by decide), flag_other (i := 4) (j := 8) (by decide)]; exact ⟨⟨_, hD.call hc2 hk2, fun _ => rfl, fun q => absurd q (by rw [hN 10 (by kernel_rfl)]; decide)⟩, fun q => (hQ q).call hD.gg hk2, Nat.le_trans hsz hk2.size⟩), fun k9 y9 hk9 ha9 h => by
        unfold FDt15 at *
        split at h <;> first | exact h | (exact absurd rfl hk9) | (exact absurd ha9 (by decide)) | (obtain ⟨l2, h3, h4⟩ := h; exact ⟨l2, h3, DO.call h4 hD.gg hk2⟩) | (obtain ⟨G, h1, hp, hg, ho⟩ := h; exact ⟨G, h1, (hk2.block G hp.lt hg).trans hp, hg, ho⟩) | (obtain ⟨G, k, h1, h2, hp, hg, ho⟩ := h; exact ⟨G, k, h1, h2, (hk2.block G hp.lt hg).trans hp, hg, ho⟩) | (obtain ⟨G, z, h1, hp, hg, ho⟩ := h; exact ⟨G, z, h1, (hk2.block G hp.lt hg).trans hp, hg, ho⟩) | (obtain ⟨G, k, z, h1, h2, hp, hg, ho⟩ := h; exact ⟨G, k, z, h1, h2, (hk2.block G hp.lt hg).trans hp, hg, ho⟩)⟩
    · intro ll bb w' hs hlf hN hO hf hI hA
      clear hi'
      obtain ⟨G, h1, hp, hg, ho⟩ := hA 2 (by kernel_rfl)
      obtain ⟨k, h2, hk⟩ := hA 4 (by kernel_rfl)
      have q62 : bb.tmps[62]? = some (.slice (some ⟨G, 0, none⟩) 2 2) := hf.tmp (k := 2) rfl (by rw [ha]; decide) h1
      have q64 : bb.tmps[64]? = some (.int .i64 (k : Int)) := hf.tmp (k := 4) rfl (by rw [ha]; decide) h2
      have hi3 : (k : Int) < 2 := by omega
      exact Rg.op_value (o := ⟨some 65, Op.indexAddr 24 (Operand.tmp 62) (Operand.tmp 64), _, _, _, _⟩) (x := .pointer (some ⟨G, k, none⟩)) rfl rfl (by clear hA hN hO h1 h2 hp; simp only [execOp]; go_simp) ⟨_, rfl, (fun h => by cases h), ⟨G, k, rfl, hk, hp, hg, ho⟩, (by rw [flag_other (i := 5) (j := 10) (by decide), flag_other (i := 5) (j := 8) (by decide)]; exact hI), fun _ _ _ _ h => h⟩
    · intro ll bb w' hs hlf hN hO hf hI hA
      clear hi'
      obtain ⟨G, k, h1, hk, hp, hg, ho⟩ := hA 5 (by kernel_rfl)
      have q65 : bb.tmps[65]? = some (.pointer (some ⟨G, k, none⟩)) := hf.tmp (k := 5) rfl (by rw [ha]; decide) h1
      obtain ⟨u, e0⟩ : ∃ u : Int, w'.cell? ⟨G, k, none⟩ = some (.int .i64 u) := by
        rw [hp.cell k]
        rcases (show k = 0 ∨ k = 1 by omega) with rfl | rfl <;> exact ⟨_, rfl⟩
      exact Rg.op_value (o := ⟨some 66, Op.load 2 (Operand.tmp 65), _, _, _, _⟩) (x := .int .i64 u) rfl rfl (by clear hA hN hO h1 hp; simp only [execOp]; go_simp) ⟨_, rfl, (fun h => by cases h), ⟨_, rfl⟩, (by rw [flag_other (i := 6) (j := 10) (by decide), flag_other (i := 6) (j := 8) (by decide)]; exact hI), fun _ _ _ _ h => h⟩
    · intro ll bb w' hs hlf hN hO hf hI hA
      clear hi'
      obtain ⟨⟨sv', hD, hs0, hs1⟩, hQ, hsz⟩ := hI
      obtain rfl := (hs0 (hN 10 (by kernel_rfl))).symm
      obtain ⟨z, h1⟩ := hA 6 (by kernel_rfl)
      have q66 : bb.tmps[66]? = some (.int .i64 z) := hf.tmp (k := 6) rfl (by rw [ha]; decide) h1
      have hlt := ownW_lt h0I.2
      have hcg := hD.cur.1
      exact Rg.op_value (w' := w'.alloc (.cells #[.int .i64 z] 2)) (o := ⟨some 67, Op.buildSlice 24 1 #[(0, (Operand.tmp 66))], _, _, _, _⟩) (x := .slice (some ⟨w'.heap.size, 0, none⟩) 1 1) rfl rfl (by clear hA hN hO hD hQ hlt h1; simp only [execOp]; go_simp) ⟨_, rfl, (fun h => by cases h), ⟨w'.heap.size, z, rfl, PB.new w' _ _, by omega, fun j hj => by have := (hlt j hj).2; (simp only at this; omega)⟩, (by rw [flag_other (i := 7) (j := 10) (by decide), flag_other (i := 7) (j := 8) (by decide)]; exact ⟨⟨_, hD.alloc _, fun _ => rfl, fun q => absurd q (by rw [hN 10 (by kernel_rfl)]; decide)⟩, fun q => (hQ q).call hD.gg ((Keep.refl g w').alloc _), by simp; omega⟩), fun k9 y9 hk9 ha9 h => by
        unfold FDt15 at *
        split at h <;> first | exact h | (exact absurd rfl hk9) | (exact absurd ha9 (by decide)) | (obtain ⟨l2, h3, h4⟩ := h; exact ⟨l2, h3, DO.call h4 hD.gg ((Keep.refl g _).alloc _)⟩) | (obtain ⟨G, h1, hp, hg, ho⟩ := h; exact ⟨G, h1, hp.alloc _, hg, ho⟩) | (obtain ⟨G, k, h1, h2, hp, hg, ho⟩ := h; exact ⟨G, k, h1, h2, hp.alloc _, hg, ho⟩) | (obtain ⟨G, z, h1, hp, hg, ho⟩ := h; exact ⟨G, z, h1, hp.alloc _, hg, ho⟩) | (obtain ⟨G, k, z, h1, h2, hp, hg, ho⟩ := h; exact ⟨G, k, z, h1, h2, hp.alloc _, hg, ho⟩)⟩
    · intro ll bb w' hs hlf hN hO hf hI hA
      clear hi'
      have q61 : bb.tmps[61]? = some _ := hf.tmp (k := 1) rfl (by rw [ha]; decide) (hA 1 (by kernel_rfl))
      obtain ⟨⟨sv', hD, hs0, hs1⟩, hQ, hsz⟩ := hI
      obtain rfl := (hs0 (hN 10 (by kernel_rfl))).symm
      obtain ⟨G, z, h1, hp, hg, ho⟩ := hA 7 (by kernel_rfl)
      have q67 : bb.tmps[67]? = some (.slice (some ⟨G, 0, none⟩) 1 1) := hf.tmp (k := 7) rfl (by rw [ha]; decide) h1
      obtain ⟨i0, hi0, hv0, hv1, hv2⟩ := info_partsW infoW64
      refine Rg.op_append (o := ⟨some 68, Op.call { callee := Callee.builtin Builtin.append, args := #[(Operand.tmp 61), (Operand.tmp 67)], argTypes := _ }, _, _, _, _⟩) rfl rfl (Operand.tmp 61) (Operand.tmp 67) 24 rfl w0.heap.size 2 i0 (.int .i64 0) 1 8 Try.underlying24 hi0 hv0 hv1 hv2 rfl (by decide) _ l.length (l.map fun z => Value.int .i64 z) (by clear hA hN hO h1 hp hD hQ; go_simp) (hQ hlf) ⟨G, 0, none⟩ 1 1 [.int .i64 z] (by clear hA hN hO h1 hp hD hQ; go_simp) rfl (fun j u hu => by rw [Addr.add_lit, Nat.zero_add, hp.cell j]; simpa using hu) (by simp [Value.oneCell']) (by unfold maxLen; omega) (by omega) (Nat.le_trans hD.keep.size (Nat.le_refl _)) ?_
      rintro v5 w5 ho5 hg5 -
      have hD5 := hD.app (hQ hlf) hg5
      exact ⟨_, rfl, (fun h => by cases h), ⟨l ++ [z], by simp, by unfold DO; rw [List.map_append, List.length_append]; exact ho5⟩, (by rw [flag_other (i := 8) (j := 10) (by decide), flag_set (by rw [hs, sizeDt15]; decide)]; exact ⟨⟨_, hD5, fun _ => rfl, fun q => absurd q (by rw [hN 10 (by kernel_rfl)]; decide)⟩, (fun q => by cases q), Nat.le_trans hsz hg5.size⟩), fun k9 y9 hk9 ha9 h => by
        unfold FDt15 at *
        split at h <;> first | exact h | (exact absurd rfl hk9) | (exact absurd ha9 (by decide)) | (obtain ⟨G, h1, hp, hg, ho⟩ := h; exact ⟨G, h1, (hg5.block G hp.lt (fun e => ho G e.symm rfl)).trans hp, hg, ho⟩) | (obtain ⟨G, k, h1, h2, hp, hg, ho⟩ := h; exact ⟨G, k, h1, h2, (hg5.block G hp.lt (fun e => ho G e.symm rfl)).trans hp, hg, ho⟩) | (obtain ⟨G, z, h1, hp, hg, ho⟩ := h; exact ⟨G, z, h1, (hg5.block G hp.lt (fun e => ho G e.symm rfl)).trans hp, hg, ho⟩) | (obtain ⟨G, k, z, h1, h2, hp, hg, ho⟩ := h; exact ⟨G, k, z, h1, h2, (hg5.block G hp.lt (fun e => ho G e.symm rfl)).trans hp, hg, ho⟩)⟩
    · intro ll bb w' hs hlf hN hO hf hI hA
      clear hi'
      have q3 := hf.kept (s := 3) (by rw [sizeDt15]; kernel_rfl) k3
      exact Rg.op_value (o := ⟨some 69, Op.fieldAddr 26 (Operand.tmp 3) 2, _, _, _, _⟩) (x := .pointer (some ⟨B, 2, none⟩)) rfl rfl (by clear hA hN hO ; simp only [execOp]; go_simp) ⟨_, rfl, (fun h => by cases h), rfl, (by rw [flag_other (i := 9) (j := 10) (by decide), flag_other (i := 9) (j := 8) (by decide)]; exact hI), fun _ _ _ _ h => h⟩
    · intro ll bb w' hs hlf hN hO hf hI hA
      clear hi'
      have q69 : bb.tmps[69]? = some _ := hf.tmp (k := 9) rfl (by rw [ha]; decide) (hA 9 (by kernel_rfl))
      obtain ⟨⟨sv', hD, hs0, hs1⟩, hQ, hsz⟩ := hI
      obtain rfl := (hs0 hlf).symm
      obtain ⟨l', h1, h2⟩ := hA 8 (by kernel_rfl)
      have q68 : bb.tmps[68]? = some (Rg.out (Rg.opsOf Try.f39 15) bb 8) := hf.tmp (k := 8) rfl (by rw [ha]; decide) rfl
      generalize Rg.out (Rg.opsOf Try.f39 15) bb 8 = v5 at *
      obtain ⟨ad5, c5, rfl⟩ := h2.form
      have e0 : w'.cell? ⟨B, 2, none⟩ = some _ := hD.box.cell 2
      have e1 := hD.box.frozen 2
      exact Rg.op_skip (w' := w'.setCell ⟨B, 2, none⟩ (.slice ad5 l'.length c5)) (o := ⟨none, Op.store 24 (Operand.tmp 69) (Operand.tmp 68), _, _, _, _⟩) rfl rfl (by clear hA hN hO h1 h2 hD hQ; simp only [execOp]; go_simp) ⟨undef, rfl, (fun _ => rfl), rfl, (by rw [flag_set (by rw [hs, sizeDt15]; decide), flag_other (i := 10) (j := 8) (by decide)]; exact ⟨⟨_, hD.put 2 _ (by simp), (fun q => by cases q), fun _ => ⟨l', h1, h2.put hD.box 2 _⟩⟩, fun q => (hQ q).put hD.box 2 _, by simpa [World.setCell] using hsz⟩), fun k9 y9 hk9 ha9 h => by
        unfold FDt15 at *
        split at h <;> first | exact h | (exact absurd rfl hk9) | (exact absurd ha9 (by decide)) | (obtain ⟨G, h1, hp, hg, ho⟩ := h; exact ⟨G, h1, hp.far (fun e => by subst e; have := hp.symm.trans hD.box; simp only [Option.some.injEq, Obj.cells.injEq] at this; exact absurd this.2 (by decide)) _ _, hg, ho⟩) | (obtain ⟨G, k, h1, h2, hp, hg, ho⟩ := h; exact ⟨G, k, h1, h2, hp.far (fun e => by subst e; have := hp.symm.trans hD.box; simp only [Option.some.injEq, Obj.cells.injEq] at this; exact absurd this.2 (by decide)) _ _, hg, ho⟩) | (obtain ⟨G, z, h1, hp, hg, ho⟩ := h; exact ⟨G, z, h1, hp.far (fun e => by subst e; have := hp.symm.trans hD.box; simp only [Option.some.injEq, Obj.cells.injEq] at this; exact absurd this.2 (by decide)) _ _, hg, ho⟩) | (obtain ⟨G, k, z, h1, h2, hp, hg, ho⟩ := h; exact ⟨G, k, z, h1, h2, hp.far (fun e => by subst e; have := hp.symm.trans hD.box; simp only [Option.some.injEq, Obj.cells.injEq] at this; exact absurd this.2 (by decide)) _ _, hg, ho⟩) | (obtain ⟨l2, h3, h4⟩ := h; exact ⟨l2, h3, h4.put hD.box 2 _⟩)⟩

theorem dDt15_0 : Rg.dstAt (Rg.opsOf Try.f39 15) 0 = some 60 := by kernel_rfl
theorem dDt15_1 : Rg.dstAt (Rg.opsOf Try.f39 15) 1 = some 61 := by kernel_rfl
theorem dDt15_2 : Rg.dstAt (Rg.opsOf Try.f39 15) 2 = some 62 := by kernel_rfl
theorem dDt15_3 : Rg.dstAt (Rg.opsOf Try.f39 15) 3 = some 63 := by kernel_rfl
theorem dDt15_4 : Rg.dstAt (Rg.opsOf Try.f39 15) 4 = some 64 := by kernel_rfl
theorem dDt15_5 : Rg.dstAt (Rg.opsOf Try.f39 15) 5 = some 65 := by kernel_rfl
theorem dDt15_6 : Rg.dstAt (Rg.opsOf Try.f39 15) 6 = some 66 := by kernel_rfl
theorem dDt15_7 : Rg.dstAt (Rg.opsOf Try.f39 15) 7 = some 67 := by kernel_rfl
theorem dDt15_8 : Rg.dstAt (Rg.opsOf Try.f39 15) 8 = some 68 := by kernel_rfl
theorem dDt15_9 : Rg.dstAt (Rg.opsOf Try.f39 15) 9 = some 69 := by kernel_rfl
theorem dDt15_10 : Rg.dstAt (Rg.opsOf Try.f39 15) 10 = none := by kernel_rfl
theorem layDt15 {a b : Act} (hf : Rg.Fr (Rg.opsOf Try.f39 15) a b) : b = (((((((((((a.put (some 60) (Rg.out (Rg.opsOf Try.f39 15) b 0)).put (some 61) (Rg.out (Rg.opsOf Try.f39 15) b 1)).put (some 62) (Rg.out (Rg.opsOf Try.f39 15) b 2)).put (some 63) (Rg.out (Rg.opsOf Try.f39 15) b 3)).put (some 64) (Rg.out (Rg.opsOf Try.f39 15) b 4)).put (some 65) (Rg.out (Rg.opsOf Try.f39 15) b 5)).put (some 66) (Rg.out (Rg.opsOf Try.f39 15) b 6)).put (some 67) (Rg.out (Rg.opsOf Try.f39 15) b 7)).put (some 68) (Rg.out (Rg.opsOf Try.f39 15) b 8)).put (some 69) (Rg.out (Rg.opsOf Try.f39 15) b 9)).put none (Rg.out (Rg.opsOf Try.f39 15) b 10)) := by
  have h := hf.chain
  rw [sizeDt15, show List.range 11 = [0, 1, 2, 3, 4, 5, 6, 7, 8, 9, 10] from by decide] at h
  simp only [List.foldl_cons, List.foldl_nil, dDt15_0, dDt15_1, dDt15_2, dDt15_3, dDt15_4, dDt15_5, dDt15_6, dDt15_7, dDt15_8, dDt15_9, dDt15_10] at h
  exact h
end Go.Proofs.Ytoehnlbkgpjhmaa
