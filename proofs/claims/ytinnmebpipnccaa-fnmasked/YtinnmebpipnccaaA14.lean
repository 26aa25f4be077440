/-
  One count more, drawn: the region that draws its order.
-/
import Derived.Test.YtinnmebpipnccaaA1
import Derived.Test.YtinnmebpipnccaaT20
import Derived.Test.YtinnmebpipnccaaJa
import Derived.Test.YtinnmebpipnccaaRn
namespace Go.Proofs.Ytinnmebpipnccaa
open Go.RowKit Va Ax
set_option linter.all false

theorem PB.grown {W W' : World} {B : Nat} {vs : Array Value} {t : TypeId} {r : Option Nat} (h : PB W B vs t) (hg : W.grownBy W' r) (hr : ∀ k, r = some k → k ≠ B) : PB W' B vs t :=
  (hg.block B h.lt (fun e => hr B e.symm rfl)).trans h

def FM6 (n1 : Nat) (wN : World) (g : Nat) (ao : Option Addr) (cap : Nat) (bs : List Int) (V0 : Value) (L : List Int) (i9 : Nat) (v : Value) (w : World) : Prop :=
  match i9 with
  | 0 => v = V0
  | 1 => ∃ T zs, v = .slice (some ⟨T, 0, none⟩) 8 8 ∧ zs.length = 8 ∧ n1 ≤ T ∧ Tb g w T zs
  | 2 => v = .pointer (some ⟨g, 0, none⟩)
  | 3 => ∃ n : Nat, v = .int .i64 n ∧ n < 8
  | 4 => ∃ T n zs, v = .pointer (some ⟨T, n, none⟩) ∧ n < zs.length ∧ n1 ≤ T ∧ Tb g w T zs
  | 5 => ∃ z : Int, v = .int .i64 z
  | 6 => v = .pointer (some ⟨g, 0, none⟩)
  | 7 => ∃ n : Nat, v = .int .i64 n ∧ n < 3
  | 8 => ∃ z : Int, v = .int .i64 z
  | 9 => ∃ B, ∃ z0 : Int, v = .slice (some ⟨B, 0, none⟩) 1 1 ∧ n1 ≤ B ∧ PB w B #[.int .i64 z0] 2
  | 10 => ∃ y, DI wN w g ao cap bs v (L ++ [y])
  | 11 => ∃ y, DI wN w g ao cap bs v (L ++ [y])
  | _ => True
def IM6 (n1 : Nat) (wN : World) (g : Nat) (ao : Option Addr) (cap : Nat) (bs : List Int) (V0 : Value) (L : List Int) (ll : Array Bool) (w : World) : Prop :=
  (ll.getD 10 false = false → DI wN w g ao cap bs V0 L) ∧ (ll.getD 10 false = true → ∃ v' y, DI wN w g ao cap bs v' (L ++ [y])) ∧ n1 ≤ w.heap.size
theorem keepM6 {n1 : Nat} {wN : World} {g : Nat} {ao : Option Addr} {cap : Nat} {bs : List Int} {V0 : Value} {L : List Int} {w w' : World} (hg : g < n1) (hc : Cur w' g ao cap bs) (hk : Keep g w w') (k9 : Nat) (v : Value) (h : FM6 n1 wN g ao cap bs V0 L k9 v w) : FM6 n1 wN g ao cap bs V0 L k9 v w' := by
  unfold FM6 at *
  split at h <;> first
    | exact h
    | (obtain ⟨T, zs, h1, h2, h3, h4⟩ := h; exact ⟨T, zs, h1, h2, h3, h4.keep hk⟩)
    | (obtain ⟨T, n, zs, h1, h2, h3, h4⟩ := h; exact ⟨T, n, zs, h1, h2, h3, h4.keep hk⟩)
    | (obtain ⟨B, h1, h2, h3⟩ := h; exact ⟨B, h1, h2, h3.keep hk (by omega)⟩)
    | (obtain ⟨B, y1, h1, h2, h3⟩ := h; exact ⟨B, y1, h1, h2, h3.keep hk (by omega)⟩)
    | (obtain ⟨B, y1, y2, h1, h2, h3⟩ := h; exact ⟨B, y1, y2, h1, h2, h3.keep hk (by omega)⟩)
    | (obtain ⟨B, y1, y2, y3, h1, h2, h3⟩ := h; exact ⟨B, y1, y2, y3, h1, h2, h3.keep hk (by omega)⟩)
    | (obtain ⟨B, y1, y2, y3, y4, h1, h2, h3⟩ := h; exact ⟨B, y1, y2, y3, y4, h1, h2, h3.keep hk (by omega)⟩)
    | (obtain ⟨y, h1⟩ := h; exact ⟨y, h1.call hc hk⟩)
theorem curM6 {n1 : Nat} {wN : World} {g : Nat} {ao : Option Addr} {cap : Nat} {bs : List Int} {V0 : Value} {L : List Int} {ll : Array Bool} {w : World} (hI : IM6 n1 wN g ao cap bs V0 L ll w) : Cur w g ao cap bs := by
  cases h : ll.getD 10 false with
  | false => exact (hI.1 h).cur
  | true => obtain ⟨v', y, h1⟩ := hI.2.1 h; exact h1.cur

theorem stayM6 {n1 : Nat} {wN : World} {g : Nat} {ao : Option Addr} {cap : Nat} {bs : List Int} {V0 : Value} {L : List Int} {ll : Array Bool} {w w' : World} {i : Nat} (hi : i ≠ 10) (hI : IM6 n1 wN g ao cap bs V0 L ll w) (hc : Cur w' g ao cap bs) (hk : Keep g w w') : IM6 n1 wN g ao cap bs V0 L (ll.setIfInBounds i true) w' := by
  unfold IM6
  rw [Rg.set_ne hi]
  exact ⟨fun h => (hI.1 h).call hc hk, fun h => by obtain ⟨v', y, h1⟩ := hI.2.1 h; exact ⟨v', y, h1.call hc hk⟩, Nat.le_trans hI.2.2 hk.size⟩
theorem sameM6 {n1 : Nat} {wN : World} {g : Nat} {ao : Option Addr} {cap : Nat} {bs : List Int} {V0 : Value} {L : List Int} {ll : Array Bool} {w : World} {i : Nat} (hi : i ≠ 10) (hI : IM6 n1 wN g ao cap bs V0 L ll w) : IM6 n1 wN g ao cap bs V0 L (ll.setIfInBounds i true) w := by
  unfold IM6
  rw [Rg.set_ne hi]
  exact hI
theorem sizeM6 : (Rg.opsOf Try.f8 6).size = 12 := by kernel_rfl

set_option maxRecDepth 20000 in
set_option maxHeartbeats 8000000 in
theorem regM6 {Q : Exit → Act → World → Prop} {a : Act} {w1 : World} {wN : World} {g : Nat} {ao : Option Addr} {cap : Nat} {bs : List Int} {V0 : Value} {L : List Int} (ha : a.tmps.size = 55)
    (k5 : a.tmps[5]? = some (V0)) (k4 : a.tmps[4]? = some (.pointer (some ⟨g, 0, none⟩))) (hd : DI wN w1 g ao cap bs V0 L) (hL : L.length ≤ 1000) 
    (hend : ∀ b' w' v' y, Rg.Fr (Rg.opsOf Try.f8 6) a b' → Rg.out (Rg.opsOf Try.f8 6) b' 11 = v' → DI wN w' g ao cap bs v' (L ++ [y]) → Q .normal b' w') :
    (Code.region 6 (Rg.opsOf Try.f8 6) true).wp Try.prog Q a w1 := by
  obtain ⟨i0, hi0, hv0, hv1, hv2⟩ := info_partsW infoW64
  have hg1 : g < w1.heap.size := hd.cur.1
  have hrk : ∀ k, V0.ownBlock = some k → wN.heap.size ≤ k ∧ k < w1.heap.size := ownW_lt hd.own
  refine Rg.region_set3 (by kernel_rfl) (IM6 w1.heap.size wN g ao cap bs V0 L) (FM6 w1.heap.size wN g ao cap bs V0 L) (by rw [ha, sizeM6]; kernel_rfl) ⟨fun _ => hd.drewN 1, fun h => (by rw [Rg.none_yet] at h; cases h), Nat.le_refl _⟩ ?_ ?_
  case refine_2 =>
    intro l b' w' hf hall hI hA
    rw [sizeM6] at hall hA
    obtain ⟨y, hy⟩ := hA 11 (by decide)
    exact hend b' w' _ y hf rfl hy
  case refine_1 =>
    clear hend
    intro i' hi'
    rw [sizeM6] at hi'
    rcases (show i' = 0 ∨ i' = 1 ∨ i' = 2 ∨ i' = 3 ∨ i' = 4 ∨ i' = 5 ∨ i' = 6 ∨ i' = 7 ∨ i' = 8 ∨ i' = 9 ∨ i' = 10 ∨ i' = 11 by omega) with rfl | rfl | rfl | rfl | rfl | rfl | rfl | rfl | rfl | rfl | rfl | rfl
    · intro ll bb w' hs hlf hN hO hf hIl hA
      clear hi'
      have q5 : bb.tmps[5]? = some _ := hf.tmp (k := 11) rfl (by rw [ha]; decide) ((hO 11 (hN 11 (by kernel_rfl))).trans (Rg.out_of (k := 11) rfl k5))
      exact Rg.op_value (o := ⟨some 17, Op.move (Operand.tmp 5), _, _, _, _⟩) (x := V0) rfl rfl (by clear hA hN hO ; simp only [execOp]; go_simp) ⟨_, rfl, (fun h => by cases h), rfl, sameM6 (by decide) hIl, fun _ _ _ _ h => h⟩
    · intro ll bb w' hs hlf hN hO hf hIl hA
      clear hi'
      have hK : Keep g w' (w'.alloc (.cells #[.int .i64 0, .int .i64 0, .int .i64 1, .int .i64 3, .int .i64 5, .int .i64 6, .int .i64 12, .int .i64 40] 2)) := (Keep.refl g w').alloc _
      have hT := Tb.new (g := g) (w := w') [0, 0, 1, 3, 5, 6, 12, 40] (curM6 hIl).1
      exact Rg.op_value (o := ⟨some 18, Op.buildSlice 24 8 #[(0, (Operand.const (Value.int .i64 0))), (1, (Operand.const (Value.int .i64 0))), (2, (Operand.const (Value.int .i64 1))), (3, (Operand.const (Value.int .i64 3))), (4, (Operand.const (Value.int .i64 5))), (5, (Operand.const (Value.int .i64 6))), (6, (Operand.const (Value.int .i64 12))), (7, (Operand.const (Value.int .i64 40)))], _, _, _, _⟩) (x := .slice (some ⟨w'.heap.size, 0, none⟩) 8 8) (w' := w'.alloc (.cells #[.int .i64 0, .int .i64 0, .int .i64 1, .int .i64 3, .int .i64 5, .int .i64 6, .int .i64 12, .int .i64 40] 2)) rfl rfl (by clear hA hN hO; simp only [execOp]; go_simp) ⟨_, rfl, (fun h => by cases h), ⟨_, _, rfl, rfl, hIl.2.2, hT⟩, stayM6 (by decide) hIl ((curM6 hIl).alloc _) hK, fun k9 y9 _ _ h => keepM6 hg1 ((curM6 hIl).alloc _) hK k9 y9 h⟩
    · intro ll bb w' hs hlf hN hO hf hIl hA
      clear hi'
      have q4 := hf.kept (s := 4) (by rw [sizeM6]; kernel_rfl) k4
      exact Rg.op_value (o := ⟨some 19, Op.move (Operand.tmp 4), _, _, _, _⟩) (x := .pointer (some ⟨g, 0, none⟩)) rfl rfl (by clear hA hN hO ; simp only [execOp]; go_simp) ⟨_, rfl, (fun h => by cases h), rfl, sameM6 (by decide) hIl, fun _ _ _ _ h => h⟩
    · intro ll bb w' hs hlf hN hO hf hIl hA
      clear hi'
      have q19 : bb.tmps[19]? = some _ := hf.tmp (k := 2) rfl (by rw [ha]; decide) (hA 2 (by kernel_rfl))
      refine Rg.op_call (o := ⟨some 20, Op.call { callee := Callee.value (Operand.func 25), args := #[(Operand.tmp 19), (Operand.const (Value.int .i64 8))], argTypes := _ }, _, _, _, _⟩) rfl rfl (by clear hA hN hO  ; simp only [execOp, resolve]; go_simp) (below_any g ao cap bs 8 w' (curM6 hIl) (by omega)) ?_
      rintro e w2 ⟨y, rfl, hx0, hx1, hc2, hk2⟩
      obtain ⟨n, rfl⟩ := Int.eq_ofNat_of_zero_le hx0
      exact ⟨_, rfl, _, rfl, (fun h => by cases h), ⟨n, rfl, by omega⟩, stayM6 (by decide) hIl hc2 hk2, fun k9 y9 _ _ h => keepM6 hg1 hc2 hk2 k9 y9 h⟩
    · intro ll bb w' hs hlf hN hO hf hIl hA
      clear hi'
      obtain ⟨T18, zs18, hv18, hl18, hT18, hb18⟩ := hA 1 (by kernel_rfl)
      have q18 : bb.tmps[18]? = some _ := hf.tmp (k := 1) rfl (by rw [ha]; decide) hv18
      obtain ⟨n20, hv20, hn20⟩ := hA 3 (by kernel_rfl)
      have q20 : bb.tmps[20]? = some _ := hf.tmp (k := 3) rfl (by rw [ha]; decide) hv20
      have hnl : (n20 : Int) < 8 := by omega
      exact Rg.op_value (o := ⟨some 21, Op.indexAddr 24 (Operand.tmp 18) (Operand.tmp 20), _, _, _, _⟩) (x := .pointer (some ⟨T18, n20, none⟩)) rfl rfl (by clear hA hN hO hv18  hv20  hb18 hl18; simp only [execOp]; go_simp) ⟨_, rfl, (fun h => by cases h), ⟨T18, n20, zs18, rfl, by omega, hT18, hb18⟩, sameM6 (by decide) hIl, fun _ _ _ _ h => h⟩
    · intro ll bb w' hs hlf hN hO hf hIl hA
      clear hi'
      obtain ⟨T21, n21, zs21, hv21, hl21, hT21, hb21⟩ := hA 4 (by kernel_rfl)
      have q21 : bb.tmps[21]? = some _ := hf.tmp (k := 4) rfl (by rw [ha]; decide) hv21
      have hcell := hb21.at hl21
      generalize hz : zs21[n21] = z at hcell
      exact Rg.op_value (o := ⟨some 22, Op.load 2 (Operand.tmp 21), _, _, _, _⟩) (x := .int .i64 z) rfl rfl (by clear hA hN hO hv21  hb21 hz; simp only [execOp]; go_simp) ⟨_, rfl, (fun h => by cases h), ⟨z, rfl⟩, sameM6 (by decide) hIl, fun _ _ _ _ h => h⟩
    · intro ll bb w' hs hlf hN hO hf hIl hA
      clear hi'
      have q4 := hf.kept (s := 4) (by rw [sizeM6]; kernel_rfl) k4
      exact Rg.op_value (o := ⟨some 23, Op.move (Operand.tmp 4), _, _, _, _⟩) (x := .pointer (some ⟨g, 0, none⟩)) rfl rfl (by clear hA hN hO ; simp only [execOp]; go_simp) ⟨_, rfl, (fun h => by cases h), rfl, sameM6 (by decide) hIl, fun _ _ _ _ h => h⟩
    · intro ll bb w' hs hlf hN hO hf hIl hA
      clear hi'
      have q23 : bb.tmps[23]? = some _ := hf.tmp (k := 6) rfl (by rw [ha]; decide) (hA 6 (by kernel_rfl))
      refine Rg.op_call (o := ⟨some 24, Op.call { callee := Callee.value (Operand.func 25), args := #[(Operand.tmp 23), (Operand.const (Value.int .i64 3))], argTypes := _ }, _, _, _, _⟩) rfl rfl (by clear hA hN hO  ; simp only [execOp, resolve]; go_simp) (below_any g ao cap bs 3 w' (curM6 hIl) (by omega)) ?_
      rintro e w2 ⟨y, rfl, hx0, hx1, hc2, hk2⟩
      obtain ⟨n, rfl⟩ := Int.eq_ofNat_of_zero_le hx0
      exact ⟨_, rfl, _, rfl, (fun h => by cases h), ⟨n, rfl, by omega⟩, stayM6 (by decide) hIl hc2 hk2, fun k9 y9 _ _ h => keepM6 hg1 hc2 hk2 k9 y9 h⟩
    · intro ll bb w' hs hlf hN hO hf hIl hA
      clear hi'
      obtain ⟨z22, hv22⟩ := hA 5 (by kernel_rfl)
      have q22 : bb.tmps[22]? = some _ := hf.tmp (k := 5) rfl (by rw [ha]; decide) hv22
      obtain ⟨n24, hv24, hn24⟩ := hA 7 (by kernel_rfl)
      have q24 : bb.tmps[24]? = some _ := hf.tmp (k := 7) rfl (by rw [ha]; decide) hv24
      exact Rg.op_value (o := ⟨some 25, Op.binOp BinOp.add 2 (Operand.tmp 22) (Operand.tmp 24) 2, _, _, _, _⟩) (x := .int .i64 (IntKind.i64.wrap (z22 + (n24 : Nat)))) rfl rfl (by clear hA hN hO hv22  hv24 ; simp only [execOp]; go_simp) ⟨_, rfl, (fun h => by cases h), ⟨_, rfl⟩, sameM6 (by decide) hIl, fun _ _ _ _ h => h⟩
    · intro ll bb w' hs hlf hN hO hf hIl hA
      clear hi'
      obtain ⟨z25, hv25⟩ := hA 8 (by kernel_rfl)
      have q25 : bb.tmps[25]? = some _ := hf.tmp (k := 8) rfl (by rw [ha]; decide) hv25
      have hK : Keep g w' (w'.alloc (.cells #[.int .i64 z25] 2)) := (Keep.refl g w').alloc _
      exact Rg.op_value (o := ⟨some 26, Op.buildSlice 24 1 #[(0, (Operand.tmp 25))], _, _, _, _⟩) (x := .slice (some ⟨w'.heap.size, 0, none⟩) 1 1) (w' := w'.alloc (.cells #[.int .i64 z25] 2)) rfl rfl (by clear hA hN hO hv25 ; simp only [execOp]; go_simp) ⟨_, rfl, (fun h => by cases h), ⟨_, _, rfl, hIl.2.2, PB.new _ _ _⟩, stayM6 (by decide) hIl ((curM6 hIl).alloc _) hK, fun k9 y9 _ _ h => keepM6 hg1 ((curM6 hIl).alloc _) hK k9 y9 h⟩
    · intro ll bb w' hs hlf hN hO hf hIl hA
      clear hi'
      have q17 : bb.tmps[17]? = some _ := hf.tmp (k := 0) rfl (by rw [ha]; decide) (hA 0 (by kernel_rfl))
      obtain ⟨B26, z26_0, hv26, hB26, hP26⟩ := hA 9 (by kernel_rfl)
      have q26 : bb.tmps[26]? = some _ := hf.tmp (k := 9) rfl (by rw [ha]; decide) hv26
      have hdm := hIl.1 hlf
      have hsz := hIl.2.2
      have hks := hdm.keep.size
      refine Rg.op_append (o := ⟨some 27, Op.call { callee := Callee.builtin Builtin.append, args := #[Operand.tmp 17, Operand.tmp 26], argTypes := #[24, 24] }, _, _, _, _⟩) rfl rfl (Operand.tmp 17) (Operand.tmp 26) 24 rfl wN.heap.size 2 i0 (.int .i64 0) 1 8 Try.underlying24 hi0 hv0 hv1 hv2 rfl (by decide) V0 L.length (List.map (fun z => Value.int .i64 z) L) (by simp [Act.eval, q17]) hdm.own ⟨B26, 0, none⟩ 1 1 [.int .i64 z26_0] (by simp [Act.eval, q26]) rfl (fun j u hu => by rw [Addr.add_lit, Nat.zero_add, hP26.cell]; simpa using hu) (by simp [Value.oneCell']) (by unfold maxLen; omega) (by omega) hks ?_
      intro v2 w2 ho2 hg2 hat2
      have hdm2 := hdm.app (x := z26_0) ho2 hg2
      refine ⟨_, rfl, (fun h => by cases h), ⟨_, hdm2⟩, ⟨fun h => (by rw [Rg.set_self hs (by rw [sizeM6]; decide)] at h; cases h), fun _ => ⟨_, _, hdm2⟩, Nat.le_trans hsz hg2.size⟩, fun k y hk haf h => ?_⟩
      have hfar : ∀ T, w1.heap.size ≤ T → ∀ k, V0.ownBlock = some k → k ≠ T := fun T hT k hk => by have := (hrk k hk).2; omega
      clear hA hN
      unfold FM6 at h ⊢
      split at h <;> first
        | exact absurd rfl hk
        | exact h
        | (obtain ⟨T, zs, h1, h2, h3, h4⟩ := h; exact ⟨T, zs, h1, h2, h3, h4.1, h4.2.grown hg2 (hfar T h3)⟩)
        | (obtain ⟨T, n, zs, h1, h2, h3, h4⟩ := h; exact ⟨T, n, zs, h1, h2, h3, h4.1, h4.2.grown hg2 (hfar T h3)⟩)
        | (obtain ⟨B, y0, h1, h2, h3⟩ := h; exact ⟨B, y0, h1, h2, h3.grown hg2 (hfar B h2)⟩)
        | (exfalso; revert haf; exact (by decide +kernel))
    · intro ll bb w' hs hlf hN hO hf hIl hA
      clear hi'
      have h9 := hA 10 (by kernel_rfl)
      generalize hv : Rg.out (Rg.opsOf Try.f8 6) bb 10 = v9 at h9
      have q27 : bb.tmps[27]? = some _ := hf.tmp (k := 10) rfl (by rw [ha]; decide) hv
      exact Rg.op_value (o := ⟨some 5, Op.assign (Operand.tmp 27), _, _, _, _⟩) (x := v9) rfl rfl (by clear hA hN h9; simp only [execOp]; go_simp) ⟨_, rfl, (fun h => by cases h), h9, sameM6 (by decide) hIl, fun _ _ _ _ h => h⟩

theorem dM6_0 : Rg.dstAt (Rg.opsOf Try.f8 6) 0 = some 17 := by kernel_rfl
theorem dM6_1 : Rg.dstAt (Rg.opsOf Try.f8 6) 1 = some 18 := by kernel_rfl
theorem dM6_2 : Rg.dstAt (Rg.opsOf Try.f8 6) 2 = some 19 := by kernel_rfl
theorem dM6_3 : Rg.dstAt (Rg.opsOf Try.f8 6) 3 = some 20 := by kernel_rfl
theorem dM6_4 : Rg.dstAt (Rg.opsOf Try.f8 6) 4 = some 21 := by kernel_rfl
theorem dM6_5 : Rg.dstAt (Rg.opsOf Try.f8 6) 5 = some 22 := by kernel_rfl
theorem dM6_6 : Rg.dstAt (Rg.opsOf Try.f8 6) 6 = some 23 := by kernel_rfl
theorem dM6_7 : Rg.dstAt (Rg.opsOf Try.f8 6) 7 = some 24 := by kernel_rfl
theorem dM6_8 : Rg.dstAt (Rg.opsOf Try.f8 6) 8 = some 25 := by kernel_rfl
theorem dM6_9 : Rg.dstAt (Rg.opsOf Try.f8 6) 9 = some 26 := by kernel_rfl
theorem dM6_10 : Rg.dstAt (Rg.opsOf Try.f8 6) 10 = some 27 := by kernel_rfl
theorem dM6_11 : Rg.dstAt (Rg.opsOf Try.f8 6) 11 = some 5 := by kernel_rfl
theorem pnM6 (a : Act) (v : Value) : a.put none v = a := rfl
theorem layM6 {a b : Act} (hf : Rg.Fr (Rg.opsOf Try.f8 6) a b) : b = ((((((((((((a.put (some 17) (Rg.out (Rg.opsOf Try.f8 6) b 0)).put (some 18) (Rg.out (Rg.opsOf Try.f8 6) b 1)).put (some 19) (Rg.out (Rg.opsOf Try.f8 6) b 2)).put (some 20) (Rg.out (Rg.opsOf Try.f8 6) b 3)).put (some 21) (Rg.out (Rg.opsOf Try.f8 6) b 4)).put (some 22) (Rg.out (Rg.opsOf Try.f8 6) b 5)).put (some 23) (Rg.out (Rg.opsOf Try.f8 6) b 6)).put (some 24) (Rg.out (Rg.opsOf Try.f8 6) b 7)).put (some 25) (Rg.out (Rg.opsOf Try.f8 6) b 8)).put (some 26) (Rg.out (Rg.opsOf Try.f8 6) b 9)).put (some 27) (Rg.out (Rg.opsOf Try.f8 6) b 10)).put (some 5) (Rg.out (Rg.opsOf Try.f8 6) b 11)) := by
  have h := hf.chain
  rw [sizeM6, show List.range 12 = [0, 1, 2, 3, 4, 5, 6, 7, 8, 9, 10, 11] from by decide] at h
  simp only [List.foldl_cons, List.foldl_nil, dM6_0, dM6_1, dM6_2, dM6_3, dM6_4, dM6_5, dM6_6, dM6_7, dM6_8, dM6_9, dM6_10, dM6_11] at h
  exact h
end Go.Proofs.Ytinnmebpipnccaa
