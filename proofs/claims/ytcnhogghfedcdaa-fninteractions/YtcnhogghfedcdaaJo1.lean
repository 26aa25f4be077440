/-
  A wrong dose put behind, drawn: the region that draws its order.
-/
import Derived.Test.YtcnhogghfedcdaaJn
import Derived.Test.YtcnhogghfedcdaaRn
namespace Go.Proofs.Ytcnhogghfedcdaa
open Go.RowKit Va Ga
set_option linter.unusedVariables false

def FG22 (n1 : Nat) (wN : World) (g : Nat) (ao : Option Addr) (cap : Nat) (bs : List Int) (R V : Nat) (x : Dg) (ad : Option Addr) (c : Nat) (t : Int) (V0 : Value) (L : List Gv) (i9 : Nat) (v : Value) (w : World) : Prop :=
  match i9 with
  | 0 => v = V0
  | 1 => v = .pointer (some ⟨V, 0, none⟩)
  | 2 => v = .int .i64 x.id
  | 3 => v = .int .i64 t
  | 4 => ∃ T zs, v = .slice (some ⟨T, 0, none⟩) 3 3 ∧ zs.length = 3 ∧ n1 ≤ T ∧ Tb g w T zs
  | 5 => v = .pointer (some ⟨g, 0, none⟩)
  | 6 => ∃ n : Nat, v = .int .i64 n ∧ n < 3
  | 7 => ∃ T n zs, v = .pointer (some ⟨T, n, none⟩) ∧ n < zs.length ∧ n1 ≤ T ∧ Tb g w T zs
  | 8 => ∃ z : Int, v = .int .i64 z
  | 9 => ∃ z0 z1 z2 : Int, v = .agg #[.int .i64 z0, .int .i64 z1, .int .i64 z2]
  | 10 => ∃ B, ∃ z0 z1 z2 : Int, v = .slice (some ⟨B, 0, none⟩) 1 1 ∧ n1 ≤ B ∧ PB w B #[.int .i64 z0, .int .i64 z1, .int .i64 z2] 49
  | 11 => ∃ y, DM wN w g ao cap bs R V x ad c v (L ++ [y])
  | 12 => ∃ y, DM wN w g ao cap bs R V x ad c v (L ++ [y])
  | _ => True
def IG22 (n1 : Nat) (wN : World) (g : Nat) (ao : Option Addr) (cap : Nat) (bs : List Int) (R V : Nat) (x : Dg) (ad : Option Addr) (c : Nat) (t : Int) (V0 : Value) (L : List Gv) (ll : Array Bool) (w : World) : Prop :=
  (ll.getD 11 false = false → DM wN w g ao cap bs R V x ad c V0 L) ∧ (ll.getD 11 false = true → ∃ v' y, DM wN w g ao cap bs R V x ad c v' (L ++ [y])) ∧ n1 ≤ w.heap.size
theorem keepG22 {n1 : Nat} {wN : World} {g : Nat} {ao : Option Addr} {cap : Nat} {bs : List Int} {R V : Nat} {x : Dg} {ad : Option Addr} {c : Nat} {t : Int} {V0 : Value} {L : List Gv} {w w' : World} (hg : g < n1) (hc : Cur w' g ao cap bs) (hk : Keep g w w') (k9 : Nat) (v : Value) (h : FG22 n1 wN g ao cap bs R V x ad c t V0 L k9 v w) : FG22 n1 wN g ao cap bs R V x ad c t V0 L k9 v w' := by
  unfold FG22 at *
  split at h <;> first
    | exact h
    | (obtain ⟨T, zs, h1, h2, h3, h4⟩ := h; exact ⟨T, zs, h1, h2, h3, h4.keep hk⟩)
    | (obtain ⟨T, n, zs, h1, h2, h3, h4⟩ := h; exact ⟨T, n, zs, h1, h2, h3, h4.keep hk⟩)
    | (obtain ⟨B, h1, h2, h3⟩ := h; exact ⟨B, h1, h2, h3.keep hk (by omega)⟩)
    | (obtain ⟨B, y1, h1, h2, h3⟩ := h; exact ⟨B, y1, h1, h2, h3.keep hk (by omega)⟩)
    | (obtain ⟨B, y1, y2, h1, h2, h3⟩ := h; exact ⟨B, y1, y2, h1, h2, h3.keep hk (by omega)⟩)
    | (obtain ⟨B, y1, y2, y3, h1, h2, h3⟩ := h; exact ⟨B, y1, y2, y3, h1, h2, h3.keep hk (by omega)⟩)
    | (obtain ⟨B, y1, y2, y3, y4, h1, h2, h3⟩ := h; exact ⟨B, y1, y2, y3, y4, h1, h2, h3.keep hk (by omega)⟩)
    | (obtain ⟨y, h1⟩ := h; exact ⟨y, h1.call hc hk⟩)
theorem curG22 {n1 : Nat} {wN : World} {g : Nat} {ao : Option Addr} {cap : Nat} {bs : List Int} {R V : Nat} {x : Dg} {ad : Option Addr} {c : Nat} {t : Int} {V0 : Value} {L : List Gv} {ll : Array Bool} {w : World} (hI : IG22 n1 wN g ao cap bs R V x ad c t V0 L ll w) : Cur w g ao cap bs := by
  cases h : ll.getD 11 false with
  | false => exact (hI.1 h).di.cur
  | true => obtain ⟨v', y, h1⟩ := hI.2.1 h; exact h1.di.cur
theorem boxG22 {n1 : Nat} {wN : World} {g : Nat} {ao : Option Addr} {cap : Nat} {bs : List Int} {R V : Nat} {x : Dg} {ad : Option Addr} {c : Nat} {t : Int} {V0 : Value} {L : List Gv} {ll : Array Bool} {w : World} (hI : IG22 n1 wN g ao cap bs R V x ad c t V0 L ll w) : PB w V #[.int .i64 x.id, .slice ad x.cls.length c, .int .i64 x.pk, .int .i64 x.most, .int .i64 x.day, .int .i64 x.kid] 26 := by
  cases h : ll.getD 11 false with
  | false => exact (hI.1 h).box
  | true => obtain ⟨v', y, h1⟩ := hI.2.1 h; exact h1.box
theorem stayG22 {n1 : Nat} {wN : World} {g : Nat} {ao : Option Addr} {cap : Nat} {bs : List Int} {R V : Nat} {x : Dg} {ad : Option Addr} {c : Nat} {t : Int} {V0 : Value} {L : List Gv} {ll : Array Bool} {w w' : World} {i : Nat} (hi : i ≠ 11) (hI : IG22 n1 wN g ao cap bs R V x ad c t V0 L ll w) (hc : Cur w' g ao cap bs) (hk : Keep g w w') : IG22 n1 wN g ao cap bs R V x ad c t V0 L (ll.setIfInBounds i true) w' := by
  unfold IG22
  rw [Rg.set_ne hi]
  exact ⟨fun h => (hI.1 h).call hc hk, fun h => by obtain ⟨v', y, h1⟩ := hI.2.1 h; exact ⟨v', y, h1.call hc hk⟩, Nat.le_trans hI.2.2 hk.size⟩
theorem sameG22 {n1 : Nat} {wN : World} {g : Nat} {ao : Option Addr} {cap : Nat} {bs : List Int} {R V : Nat} {x : Dg} {ad : Option Addr} {c : Nat} {t : Int} {V0 : Value} {L : List Gv} {ll : Array Bool} {w : World} {i : Nat} (hi : i ≠ 11) (hI : IG22 n1 wN g ao cap bs R V x ad c t V0 L ll w) : IG22 n1 wN g ao cap bs R V x ad c t V0 L (ll.setIfInBounds i true) w := by
  unfold IG22
  rw [Rg.set_ne hi]
  exact hI
theorem sizeG22 : (Rg.opsOf Try.f17 22).size = 13 := by kernel_rfl

set_option maxRecDepth 20000 in
set_option maxHeartbeats 8000000 in
theorem regG22 {Q : Exit → Act → World → Prop} {a : Act} {w1 : World} {wN : World} {g : Nat} {ao : Option Addr} {cap : Nat} {bs : List Int} {R V : Nat} {x : Dg} {ad : Option Addr} {c : Nat} {t : Int} {V0 : Value} {L : List Gv} (ha : a.tmps.size = 113)
    (k9 : a.tmps[9]? = some (V0)) (k7 : a.tmps[7]? = some (.pointer (some ⟨V, 0, none⟩))) (k8 : a.tmps[8]? = some (.int .i64 t)) (k6 : a.tmps[6]? = some (.pointer (some ⟨g, 0, none⟩))) (hd : DM wN w1 g ao cap bs R V x ad c V0 L) (hL : L.length ≤ 1000) 
    (hend : ∀ b' w' v' y, Rg.Fr (Rg.opsOf Try.f17 22) a b' → Rg.out (Rg.opsOf Try.f17 22) b' 12 = v' → DM wN w' g ao cap bs R V x ad c v' (L ++ [y]) → Q .normal b' w') :
    (Code.region 22 (Rg.opsOf Try.f17 22) true).wp Try.prog Q a w1 := by
  obtain ⟨i0, hi0, hv0, hv1, hv2⟩ := info_parts infoGvJ
  have hg1 : g < w1.heap.size := hd.di.cur.1
  have hrk : ∀ k, V0.ownBlock = some k → wN.heap.size ≤ k ∧ k < w1.heap.size := ownW_lt hd.own
  refine Rg.region_set3 (by kernel_rfl) (IG22 w1.heap.size wN g ao cap bs R V x ad c t V0 L) (FG22 w1.heap.size wN g ao cap bs R V x ad c t V0 L) (by rw [ha, sizeG22]; kernel_rfl) ⟨fun _ => hd.drewN 1, fun h => (by rw [Rg.none_yet] at h; cases h), Nat.le_refl _⟩ ?_ ?_
  case refine_2 =>
    intro l b' w' hf hall hI hA
    rw [sizeG22] at hall hA
    obtain ⟨y, hy⟩ := hA 12 (by decide)
    exact hend b' w' _ y hf rfl hy
  case refine_1 =>
    clear hend
    intro i' hi'
    rw [sizeG22] at hi'
    rcases (show i' = 0 ∨ i' = 1 ∨ i' = 2 ∨ i' = 3 ∨ i' = 4 ∨ i' = 5 ∨ i' = 6 ∨ i' = 7 ∨ i' = 8 ∨ i' = 9 ∨ i' = 10 ∨ i' = 11 ∨ i' = 12 by omega) with rfl | rfl | rfl | rfl | rfl | rfl | rfl | rfl | rfl | rfl | rfl | rfl | rfl
    · intro ll bb w' hs hlf hN hO hf hIl hA
      clear hi'
      have q9 : bb.tmps[9]? = some _ := hf.tmp (k := 12) rfl (by rw [ha]; decide) ((hO 12 (hN 12 (by kernel_rfl))).trans (Rg.out_of (k := 12) rfl k9))
      exact Rg.op_value (o := ⟨some 84, Op.move (Operand.tmp 9), _, _, _, _⟩) (x := V0) rfl rfl (by clear hA hN hO ; simp only [execOp]; go_simp) ⟨_, rfl, (fun h => by cases h), rfl, sameG22 (by decide) hIl, fun _ _ _ _ h => h⟩
    · intro ll bb w' hs hlf hN hO hf hIl hA
      clear hi'
      have q7 := hf.kept (s := 7) (by rw [sizeG22]; kernel_rfl) k7
      exact Rg.op_value (o := ⟨some 85, Op.fieldAddr 26 (Operand.tmp 7) 0, _, _, _, _⟩) (x := .pointer (some ⟨V, 0, none⟩)) rfl rfl (by clear hA hN hO ; simp only [execOp]; go_simp) ⟨_, rfl, (fun h => by cases h), rfl, sameG22 (by decide) hIl, fun _ _ _ _ h => h⟩
    · intro ll bb w' hs hlf hN hO hf hIl hA
      clear hi'
      have q85 : bb.tmps[85]? = some _ := hf.tmp (k := 1) rfl (by rw [ha]; decide) (hA 1 (by kernel_rfl))
      obtain ⟨e0, e1, e2, e3, e4, e5⟩ := (boxG22 hIl).six
      exact Rg.op_value (o := ⟨some 86, Op.load 2 (Operand.tmp 85), _, _, _, _⟩) (x := .int .i64 x.id) rfl rfl (by clear hA hN hO ; simp only [execOp]; go_simp) ⟨_, rfl, (fun h => by cases h), rfl, sameG22 (by decide) hIl, fun _ _ _ _ h => h⟩
    · intro ll bb w' hs hlf hN hO hf hIl hA
      clear hi'
      have q8 := hf.kept (s := 8) (by rw [sizeG22]; kernel_rfl) k8
      exact Rg.op_value (o := ⟨some 87, Op.move (Operand.tmp 8), _, _, _, _⟩) (x := .int .i64 t) rfl rfl (by clear hA hN hO ; simp only [execOp]; go_simp) ⟨_, rfl, (fun h => by cases h), rfl, sameG22 (by decide) hIl, fun _ _ _ _ h => h⟩
    · intro ll bb w' hs hlf hN hO hf hIl hA
      clear hi'
      have hK : Keep g w' (w'.alloc (.cells #[.int .i64 0, .int .i64 1000000000, .int .i64 1000000001] 2)) := (Keep.refl g w').alloc _
      have hT := Tb.new (g := g) (w := w') [0, 1000000000, 1000000001] (curG22 hIl).1
      exact Rg.op_value (o := ⟨some 88, Op.buildSlice 24 3 #[(0, (Operand.const (Value.int .i64 0))), (1, (Operand.const (Value.int .i64 1000000000))), (2, (Operand.const (Value.int .i64 1000000001)))], _, _, _, _⟩) (x := .slice (some ⟨w'.heap.size, 0, none⟩) 3 3) (w' := w'.alloc (.cells #[.int .i64 0, .int .i64 1000000000, .int .i64 1000000001] 2)) rfl rfl (by clear hA hN hO; simp only [execOp]; go_simp) ⟨_, rfl, (fun h => by cases h), ⟨_, _, rfl, rfl, hIl.2.2, hT⟩, stayG22 (by decide) hIl ((curG22 hIl).alloc _) hK, fun k9 y9 _ _ h => keepG22 hg1 ((curG22 hIl).alloc _) hK k9 y9 h⟩
    · intro ll bb w' hs hlf hN hO hf hIl hA
      clear hi'
      have q6 := hf.kept (s := 6) (by rw [sizeG22]; kernel_rfl) k6
      exact Rg.op_value (o := ⟨some 89, Op.move (Operand.tmp 6), _, _, _, _⟩) (x := .pointer (some ⟨g, 0, none⟩)) rfl rfl (by clear hA hN hO ; simp only [execOp]; go_simp) ⟨_, rfl, (fun h => by cases h), rfl, sameG22 (by decide) hIl, fun _ _ _ _ h => h⟩
    · intro ll bb w' hs hlf hN hO hf hIl hA
      clear hi'
      have q89 : bb.tmps[89]? = some _ := hf.tmp (k := 5) rfl (by rw [ha]; decide) (hA 5 (by kernel_rfl))
      refine Rg.op_call (o := ⟨some 90, Op.call { callee := Callee.value (Operand.func 31), args := #[(Operand.tmp 89), (Operand.const (Value.int .i64 3))], argTypes := _ }, _, _, _, _⟩) rfl rfl (by clear hA hN hO  ; simp only [execOp, resolve]; go_simp) (below_any g ao cap bs 3 w' (curG22 hIl) (by omega)) ?_
      rintro e w2 ⟨y, rfl, hx0, hx1, hc2, hk2⟩
      obtain ⟨n, rfl⟩ := Int.eq_ofNat_of_zero_le hx0
      exact ⟨_, rfl, _, rfl, (fun h => by cases h), ⟨n, rfl, by omega⟩, stayG22 (by decide) hIl hc2 hk2, fun k9 y9 _ _ h => keepG22 hg1 hc2 hk2 k9 y9 h⟩
    · intro ll bb w' hs hlf hN hO hf hIl hA
      clear hi'
      obtain ⟨T88, zs88, hv88, hl88, hT88, hb88⟩ := hA 4 (by kernel_rfl)
      have q88 : bb.tmps[88]? = some _ := hf.tmp (k := 4) rfl (by rw [ha]; decide) hv88
      obtain ⟨n90, hv90, hn90⟩ := hA 6 (by kernel_rfl)
      have q90 : bb.tmps[90]? = some _ := hf.tmp (k := 6) rfl (by rw [ha]; decide) hv90
      have hnl : (n90 : Int) < 3 := by omega
      exact Rg.op_value (o := ⟨some 91, Op.indexAddr 24 (Operand.tmp 88) (Operand.tmp 90), _, _, _, _⟩) (x := .pointer (some ⟨T88, n90, none⟩)) rfl rfl (by clear hA hN hO hv88  hv90  hb88 hl88; simp only [execOp]; go_simp) ⟨_, rfl, (fun h => by cases h), ⟨T88, n90, zs88, rfl, by omega, hT88, hb88⟩, sameG22 (by decide) hIl, fun _ _ _ _ h => h⟩
    · intro ll bb w' hs hlf hN hO hf hIl hA
      clear hi'
      obtain ⟨T91, n91, zs91, hv91, hl91, hT91, hb91⟩ := hA 7 (by kernel_rfl)
      have q91 : bb.tmps[91]? = some _ := hf.tmp (k := 7) rfl (by rw [ha]; decide) hv91
      have hcell := hb91.at hl91
      generalize hz : zs91[n91] = z at hcell
      exact Rg.op_value (o := ⟨some 92, Op.load 2 (Operand.tmp 91), _, _, _, _⟩) (x := .int .i64 z) rfl rfl (by clear hA hN hO hv91  hb91 hz; simp only [execOp]; go_simp) ⟨_, rfl, (fun h => by cases h), ⟨z, rfl⟩, sameG22 (by decide) hIl, fun _ _ _ _ h => h⟩
    · intro ll bb w' hs hlf hN hO hf hIl hA
      clear hi'
      have q86 : bb.tmps[86]? = some _ := hf.tmp (k := 2) rfl (by rw [ha]; decide) (hA 2 (by kernel_rfl))
      have q87 : bb.tmps[87]? = some _ := hf.tmp (k := 3) rfl (by rw [ha]; decide) (hA 3 (by kernel_rfl))
      obtain ⟨z92, hv92⟩ := hA 8 (by kernel_rfl)
      have q92 : bb.tmps[92]? = some _ := hf.tmp (k := 8) rfl (by rw [ha]; decide) hv92
      exact Rg.op_value (o := ⟨some 93, Op.build 49 #[(0, (Operand.tmp 86)), (1, (Operand.tmp 87)), (2, (Operand.tmp 92))], _, _, _, _⟩) (x := .agg #[.int .i64 x.id, .int .i64 t, .int .i64 z92]) rfl rfl (by clear hA hN hO   hv92 ; simp only [execOp]; go_simp) ⟨_, rfl, (fun h => by cases h), ⟨_, _, _, rfl⟩, sameG22 (by decide) hIl, fun _ _ _ _ h => h⟩
    · intro ll bb w' hs hlf hN hO hf hIl hA
      clear hi'
      obtain ⟨z93_0, z93_1, z93_2, hv93⟩ := hA 9 (by kernel_rfl)
      have q93 : bb.tmps[93]? = some _ := hf.tmp (k := 9) rfl (by rw [ha]; decide) hv93
      have hK : Keep g w' (w'.alloc (.cells #[.int .i64 z93_0, .int .i64 z93_1, .int .i64 z93_2] 49)) := (Keep.refl g w').alloc _
      exact Rg.op_value (o := ⟨some 94, Op.buildSlice 42 1 #[(0, (Operand.tmp 93))], _, _, _, _⟩) (x := .slice (some ⟨w'.heap.size, 0, none⟩) 1 1) (w' := w'.alloc (.cells #[.int .i64 z93_0, .int .i64 z93_1, .int .i64 z93_2] 49)) rfl rfl (by clear hA hN hO hv93 ; simp only [execOp]; go_simp) ⟨_, rfl, (fun h => by cases h), ⟨_, _, _, _, rfl, hIl.2.2, PB.new _ _ _⟩, stayG22 (by decide) hIl ((curG22 hIl).alloc _) hK, fun k9 y9 _ _ h => keepG22 hg1 ((curG22 hIl).alloc _) hK k9 y9 h⟩
    · intro ll bb w' hs hlf hN hO hf hIl hA
      clear hi'
      have q84 : bb.tmps[84]? = some _ := hf.tmp (k := 0) rfl (by rw [ha]; decide) (hA 0 (by kernel_rfl))
      obtain ⟨B94, z94_0, z94_1, z94_2, hv94, hB94, hP94⟩ := hA 10 (by kernel_rfl)
      have q94 : bb.tmps[94]? = some _ := hf.tmp (k := 10) rfl (by rw [ha]; decide) hv94
      have hdm := hIl.1 hlf
      have hsz := hIl.2.2
      have hks := hdm.di.keep.size
      refine Rg.op_append (o := ⟨some 95, Op.call { callee := Callee.builtin Builtin.append, args := #[Operand.tmp 84, Operand.tmp 94], argTypes := #[42, 42] }, _, _, _, _⟩) rfl rfl (Operand.tmp 84) (Operand.tmp 94) 42 rfl wN.heap.size 49 i0 (.agg #[.int .i64 0, .int .i64 0, .int .i64 0]) 3 24 Try.underlying42 hi0 hv0 hv1 hv2 rfl (by decide) V0 L.length (cellsL 3 csGv L) (by simp [Act.eval, q84]) hdm.own ⟨B94, 0, none⟩ 1 1 [.int .i64 z94_0, .int .i64 z94_1, .int .i64 z94_2] (by simp [Act.eval, q94]) rfl (fun j u hu => by rw [Addr.add_lit, Nat.zero_add, hP94.cell]; simpa using hu) (by simp [Value.oneCell']) (by unfold maxLen; omega) (by omega) hks ?_
      intro v2 w2 ho2 hg2 hat2
      have hdm2 := hdm.app (y := ⟨z94_0, z94_1, z94_2⟩) ho2 hg2
      refine ⟨_, rfl, (fun h => by cases h), ⟨_, hdm2⟩, ⟨fun h => (by rw [Rg.set_self hs (by rw [sizeG22]; decide)] at h; cases h), fun _ => ⟨_, _, hdm2⟩, Nat.le_trans hsz hg2.size⟩, fun k y hk haf h => ?_⟩
      have hfar : ∀ T, w1.heap.size ≤ T → ∀ k, V0.ownBlock = some k → k ≠ T := fun T hT k hk => by have := (hrk k hk).2; omega
      clear hA hN
      unfold FG22 at h ⊢
      split at h <;> first
        | exact absurd rfl hk
        | exact h
        | (obtain ⟨T, zs, h1, h2, h3, h4⟩ := h; exact ⟨T, zs, h1, h2, h3, h4.1, h4.2.grown hg2 (hfar T h3)⟩)
        | (obtain ⟨T, n, zs, h1, h2, h3, h4⟩ := h; exact ⟨T, n, zs, h1, h2, h3, h4.1, h4.2.grown hg2 (hfar T h3)⟩)
        | (obtain ⟨B, y0, y1, y2, h1, h2, h3⟩ := h; exact ⟨B, y0, y1, y2, h1, h2, h3.grown hg2 (hfar B h2)⟩)
        | (exfalso; revert haf; exact (by decide +kernel))
    · intro ll bb w' hs hlf hN hO hf hIl hA
      clear hi'
      have h9 := hA 11 (by kernel_rfl)
      generalize hv : Rg.out (Rg.opsOf Try.f17 22) bb 11 = v9 at h9
      have q95 : bb.tmps[95]? = some _ := hf.tmp (k := 11) rfl (by rw [ha]; decide) hv
      exact Rg.op_value (o := ⟨some 9, Op.assign (Operand.tmp 95), _, _, _, _⟩) (x := v9) rfl rfl (by clear hA hN h9; simp only [execOp]; go_simp) ⟨_, rfl, (fun h => by cases h), h9, sameG22 (by decide) hIl, fun _ _ _ _ h => h⟩

theorem dG22_0 : Rg.dstAt (Rg.opsOf Try.f17 22) 0 = some 84 := by kernel_rfl
theorem dG22_1 : Rg.dstAt (Rg.opsOf Try.f17 22) 1 = some 85 := by kernel_rfl
theorem dG22_2 : Rg.dstAt (Rg.opsOf Try.f17 22) 2 = some 86 := by kernel_rfl
theorem dG22_3 : Rg.dstAt (Rg.opsOf Try.f17 22) 3 = some 87 := by kernel_rfl
theorem dG22_4 : Rg.dstAt (Rg.opsOf Try.f17 22) 4 = some 88 := by kernel_rfl
theorem dG22_5 : Rg.dstAt (Rg.opsOf Try.f17 22) 5 = some 89 := by kernel_rfl
theorem dG22_6 : Rg.dstAt (Rg.opsOf Try.f17 22) 6 = some 90 := by kernel_rfl
theorem dG22_7 : Rg.dstAt (Rg.opsOf Try.f17 22) 7 = some 91 := by kernel_rfl
theorem dG22_8 : Rg.dstAt (Rg.opsOf Try.f17 22) 8 = some 92 := by kernel_rfl
theorem dG22_9 : Rg.dstAt (Rg.opsOf Try.f17 22) 9 = some 93 := by kernel_rfl
theorem dG22_10 : Rg.dstAt (Rg.opsOf Try.f17 22) 10 = some 94 := by kernel_rfl
theorem dG22_11 : Rg.dstAt (Rg.opsOf Try.f17 22) 11 = some 95 := by kernel_rfl
theorem dG22_12 : Rg.dstAt (Rg.opsOf Try.f17 22) 12 = some 9 := by kernel_rfl
theorem pnG22 (a : Act) (v : Value) : a.put none v = a := rfl
theorem layG22 {a b : Act} (hf : Rg.Fr (Rg.opsOf Try.f17 22) a b) : b = (((((((((((((a.put (some 84) (Rg.out (Rg.opsOf Try.f17 22) b 0)).put (some 85) (Rg.out (Rg.opsOf Try.f17 22) b 1)).put (some 86) (Rg.out (Rg.opsOf Try.f17 22) b 2)).put (some 87) (Rg.out (Rg.opsOf Try.f17 22) b 3)).put (some 88) (Rg.out (Rg.opsOf Try.f17 22) b 4)).put (some 89) (Rg.out (Rg.opsOf Try.f17 22) b 5)).put (some 90) (Rg.out (Rg.opsOf Try.f17 22) b 6)).put (some 91) (Rg.out (Rg.opsOf Try.f17 22) b 7)).put (some 92) (Rg.out (Rg.opsOf Try.f17 22) b 8)).put (some 93) (Rg.out (Rg.opsOf Try.f17 22) b 9)).put (some 94) (Rg.out (Rg.opsOf Try.f17 22) b 10)).put (some 95) (Rg.out (Rg.opsOf Try.f17 22) b 11)).put (some 9) (Rg.out (Rg.opsOf Try.f17 22) b 12)) := by
  have h := hf.chain
  rw [sizeG22, show List.range 13 = [0, 1, 2, 3, 4, 5, 6, 7, 8, 9, 10, 11, 12] from by decide] at h
  simp only [List.foldl_cons, List.foldl_nil, dG22_0, dG22_1, dG22_2, dG22_3, dG22_4, dG22_5, dG22_6, dG22_7, dG22_8, dG22_9, dG22_10, dG22_11, dG22_12] at h
  exact h
end Go.Proofs.Ytcnhogghfedcdaa
