/-
  One class more, drawn: the region that draws its order.
-/
import Derived.Test.YtcnhogghfedcdaaJc
import Derived.Test.YtcnhogghfedcdaaRk
namespace Go.Proofs.Ytcnhogghfedcdaa
open Go.RowKit Va Ga
set_option linter.unusedVariables false

def FD7 (w0 : World) (n1 g : Nat) (ao : Option Addr) (cap : Nat) (bs : List Int) (R V : Nat) (x : Dg) (ad : Option Addr) (c : Nat) (L : List Int) (k : Nat) (v : Value) (w : World) : Prop :=
  match k with
  | 0 => v = .pointer (some ⟨V, 1, none⟩)
  | 1 => v = .slice ad L.length c
  | 2 => ∃ T zs, v = .slice (some ⟨T, 0, none⟩) 4 4 ∧ zs.length = 4 ∧ n1 ≤ T ∧ Tb g w T zs
  | 3 => v = .pointer (some ⟨g, 0, none⟩)
  | 4 => ∃ n : Nat, v = .int .i64 n ∧ n < 4
  | 5 => ∃ T n zs, v = .pointer (some ⟨T, n, none⟩) ∧ n < zs.length ∧ n1 ≤ T ∧ Tb g w T zs
  | 6 => ∃ z : Int, v = .int .i64 z
  | 7 => ∃ B z, v = .slice (some ⟨B, 0, none⟩) 1 1 ∧ n1 ≤ B ∧ PB w B #[.int .i64 z] 2
  | 8 => ∃ ad' c' z, v = .slice ad' (L.length + 1) c' ∧ DI w0 w g ao cap bs (.slice ad' (L.length + 1) c') (L ++ [z]) ∧ Ap (.slice ad' (L.length + 1) c') V R
  | 9 => v = .pointer (some ⟨V, 1, none⟩)
  | _ => True
def ID7 (w0 : World) (n1 g : Nat) (ao : Option Addr) (cap : Nat) (bs : List Int) (R V : Nat) (x : Dg) (ad : Option Addr) (c : Nat) (L : List Int) (l : Array Bool) (w : World) : Prop :=
  (l.getD 10 false = false → DX w0 w g ao cap bs R V #[.int .i64 0, .slice none 0 0, .int .i64 0, .int .i64 0, .int .i64 0, .int .i64 0] #[.int .i64 x.id, .slice ad L.length c, .int .i64 x.pk, .int .i64 x.most, .int .i64 x.day, .int .i64 x.kid] 26) ∧ (l.getD 8 false = false → DI w0 w g ao cap bs (.slice ad L.length c) L) ∧
    (l.getD 10 false = true → ∃ ad' c' z, DX w0 w g ao cap bs R V #[.int .i64 0, .slice none 0 0, .int .i64 0, .int .i64 0, .int .i64 0, .int .i64 0] #[.int .i64 x.id, .slice ad' (L.length + 1) c', .int .i64 x.pk, .int .i64 x.most, .int .i64 x.day, .int .i64 x.kid] 26 ∧ DI w0 w g ao cap bs (.slice ad' (L.length + 1) c') (L ++ [z]) ∧ Ap (.slice ad' (L.length + 1) c') V R) ∧ n1 ≤ w.heap.size
theorem keepD7 {w0 : World} {n1 g : Nat} {ao : Option Addr} {cap : Nat} {bs : List Int} {R V : Nat} {x : Dg} {ad : Option Addr} {c : Nat} {L : List Int} {w w' : World} (hg : g < n1) (hc : Cur w' g ao cap bs) (hk : Keep g w w') (k : Nat) (v : Value) (h : FD7 w0 n1 g ao cap bs R V x ad c L k v w) : FD7 w0 n1 g ao cap bs R V x ad c L k v w' := by
  unfold FD7 at *
  split at h <;> first
    | exact h
    | (obtain ⟨T, zs, h1, h2, h3, h4⟩ := h; exact ⟨T, zs, h1, h2, h3, h4.keep hk⟩)
    | (obtain ⟨T, n, zs, h1, h2, h3, h4⟩ := h; exact ⟨T, n, zs, h1, h2, h3, h4.keep hk⟩)
    | (obtain ⟨B, z, h1, h2, h3⟩ := h; exact ⟨B, z, h1, h2, h3.keep hk (by omega)⟩)
    | (obtain ⟨a', c', z, h1, h2, h3⟩ := h; exact ⟨a', c', z, h1, h2.call hc hk, h3⟩)
theorem stayD7 {w0 : World} {n1 g : Nat} {ao : Option Addr} {cap : Nat} {bs : List Int} {R V : Nat} {x : Dg} {ad : Option Addr} {c : Nat} {L : List Int} {l : Array Bool} {w w' : World} {i : Nat} (hi : i ≠ 8) (hi2 : i ≠ 10) (h10 : l.getD 10 false = false) (hI : ID7 w0 n1 g ao cap bs R V x ad c L l w) (hc : Cur w' g ao cap bs) (hk : Keep g w w') : ID7 w0 n1 g ao cap bs R V x ad c L (l.setIfInBounds i true) w' :=
  ⟨fun _ => (hI.1 h10).call hc hk, fun h => (hI.2.1 (by rwa [Rg.set_ne hi] at h)).call hc hk, fun h => (by rw [Rg.set_ne hi2, h10] at h; cases h), Nat.le_trans hI.2.2.2 hk.size⟩
theorem sameD7 {w0 : World} {n1 g : Nat} {ao : Option Addr} {cap : Nat} {bs : List Int} {R V : Nat} {x : Dg} {ad : Option Addr} {c : Nat} {L : List Int} {l : Array Bool} {w : World} {i : Nat} (hi : i ≠ 8) (hi2 : i ≠ 10) (hI : ID7 w0 n1 g ao cap bs R V x ad c L l w) : ID7 w0 n1 g ao cap bs R V x ad c L (l.setIfInBounds i true) w := by
  unfold ID7
  rw [Rg.set_ne hi, Rg.set_ne hi2]
  exact hI
theorem sizeD7 : (Rg.opsOf Try.f30 7).size = 11 := by kernel_rfl
theorem dD7_10 : Rg.dstAt (Rg.opsOf Try.f30 7) 10 = none := by kernel_rfl

set_option maxRecDepth 20000 in
set_option maxHeartbeats 8000000 in
theorem regD7 {Q : Exit → Act → World → Prop} {a : Act} {w1 : World} {w0 : World} {g : Nat} {ao : Option Addr} {cap : Nat} {bs : List Int} {R V : Nat} {x : Dg} {ad : Option Addr} {c : Nat} {L : List Int} (ha : a.tmps.size = 79)
    (k0 : a.tmps[0]? = some (.pointer (some ⟨g, 0, none⟩))) (k3 : a.tmps[3]? = some (.pointer (some ⟨V, 0, none⟩))) (hd : DX w0 w1 g ao cap bs R V #[.int .i64 0, .slice none 0 0, .int .i64 0, .int .i64 0, .int .i64 0, .int .i64 0] #[.int .i64 x.id, .slice ad L.length c, .int .i64 x.pk, .int .i64 x.most, .int .i64 x.day, .int .i64 x.kid] 26) (hr : DI w0 w1 g ao cap bs (.slice ad L.length c) L) (hap : Ap (.slice ad L.length c) V R) (hL : L.length ≤ 100)
    (hend : ∀ b' w' ad' c' z, Rg.Fr (Rg.opsOf Try.f30 7) a b' → DX w0 w' g ao cap bs R V #[.int .i64 0, .slice none 0 0, .int .i64 0, .int .i64 0, .int .i64 0, .int .i64 0] #[.int .i64 x.id, .slice ad' (L.length + 1) c', .int .i64 x.pk, .int .i64 x.most, .int .i64 x.day, .int .i64 x.kid] 26 → DI w0 w' g ao cap bs (.slice ad' (L.length + 1) c') (L ++ [z]) → Ap (.slice ad' (L.length + 1) c') V R → Q .normal b' w') :
    (Code.region 7 (Rg.opsOf Try.f30 7) true).wp Try.prog Q a w1 := by
  obtain ⟨i0, hi0, hv0, hv1, hv2⟩ := info_partsW infoW64
  have hg1 : g < w1.heap.size := hd.cur.1
  have hrk : ∀ k, (Value.slice ad L.length c).ownBlock = some k → w0.heap.size ≤ k ∧ k < w1.heap.size := ownW_lt hr.own
  have hV1 : V < w1.heap.size := hd.box.lt
  have hR1 : R < w1.heap.size := hd.res.lt
  have hVg := hd.gV
  have hgg := hd.gg
  refine Rg.region_set2 (by kernel_rfl) (ID7 w0 w1.heap.size g ao cap bs R V x ad c L) (FD7 w0 w1.heap.size g ao cap bs R V x ad c L) (by rw [ha, sizeD7]; kernel_rfl) ⟨fun _ => hd.call (hd.cur.drewN 1) ((Keep.refl g w1).drewN 1), fun _ => hr.drewN 1, fun h => (by rw [Rg.none_yet] at h; cases h), Nat.le_refl _⟩ ?_ ?_
  case refine_2 =>
    intro l b' w' hf hall hI hA
    rw [sizeD7] at hall
    obtain ⟨ad', c', z, h1, h2, h3⟩ := hI.2.2.1 (hall 10 (by omega))
    exact hend b' w' ad' c' z hf h1 h2 h3
  case refine_1 =>
    clear hend
    intro i' hi'
    rw [sizeD7] at hi'
    rcases (show i' = 0 ∨ i' = 1 ∨ i' = 2 ∨ i' = 3 ∨ i' = 4 ∨ i' = 5 ∨ i' = 6 ∨ i' = 7 ∨ i' = 8 ∨ i' = 9 ∨ i' = 10 by omega) with rfl | rfl | rfl | rfl | rfl | rfl | rfl | rfl | rfl | rfl | rfl
    · intro ll bb w' hs hlf hN hf hIl hA
      clear hi'
      have qs := hf.kept (s := 3) (by rw [sizeD7]; kernel_rfl) k3
      exact Rg.op_value (o := ⟨some 36, Op.fieldAddr 26 (Operand.tmp 3) 1, _, _, _, _⟩) (x := .pointer (some ⟨V, 1, none⟩)) rfl rfl (by clear hA hN; simp only [execOp]; go_simp) ⟨_, rfl, (fun h => by cases h), rfl, sameD7 (by decide) (by decide) hIl, fun _ _ _ h => h⟩
    · intro ll bb w' hs hlf hN hf hIl hA
      clear hi'
      have h10 := hN 10 (by kernel_rfl)
      obtain ⟨e0, e1, e2, e3, e4, e5⟩ := (hIl.1 h10).box.six
      have q0 : bb.tmps[36]? = some _ := hf.tmp (k := 0) rfl (by rw [ha]; decide) (hA 0 (by kernel_rfl))
      exact Rg.op_value (o := ⟨some 37, Op.load 24 (Operand.tmp 36), _, _, _, _⟩) (x := .slice ad L.length c) rfl rfl (by clear hA hN; simp only [execOp]; go_simp) ⟨_, rfl, (fun h => by cases h), rfl, sameD7 (by decide) (by decide) hIl, fun _ _ _ h => h⟩
    · intro ll bb w' hs hlf hN hf hIl hA
      clear hi'
      have h10 := hN 10 (by kernel_rfl)
      have hcu := (hIl.1 h10).cur
      have hK : Keep g w' (w'.alloc (.cells #[.int .i64 0, .int .i64 63, .int .i64 64, .int .i64 (-1)] 2)) := (Keep.refl g w').alloc _
      have hT := Tb.new (g := g) (w := w') [0, 63, 64, -1] hcu.1
      exact Rg.op_value (o := ⟨some 38, Op.buildSlice 24 4 #[(0, Operand.const (Value.int .i64 0)), (1, Operand.const (Value.int .i64 63)), (2, Operand.const (Value.int .i64 64)), (3, Operand.const (Value.int .i64 (-1)))], _, _, _, _⟩) (x := .slice (some ⟨w'.heap.size, 0, none⟩) 4 4) (w' := w'.alloc (.cells #[.int .i64 0, .int .i64 63, .int .i64 64, .int .i64 (-1)] 2)) rfl rfl (by clear hA hN; simp only [execOp]; go_simp) ⟨_, rfl, (fun h => by cases h), ⟨_, _, rfl, rfl, hIl.2.2.2, hT⟩, stayD7 (by decide) (by decide) h10 hIl (hcu.alloc _) hK, fun k y _ h => keepD7 hg1 (hcu.alloc _) hK k y h⟩
    · intro ll bb w' hs hlf hN hf hIl hA
      clear hi'
      have q0 := hf.kept (s := 0) (by rw [sizeD7]; kernel_rfl) k0
      exact Rg.op_value (o := ⟨some 39, Op.move (Operand.tmp 0), _, _, _, _⟩) rfl rfl rfl ⟨_, rfl, (fun h => by cases h), (by show Act.eval bb _ = _; simp [Act.eval, q0]), sameD7 (by decide) (by decide) hIl, fun _ _ _ h => h⟩
    · intro ll bb w' hs hlf hN hf hIl hA
      clear hi'
      have h10 := hN 10 (by kernel_rfl)
      have hcu := (hIl.1 h10).cur
      have q3 : bb.tmps[39]? = some _ := hf.tmp (k := 3) rfl (by rw [ha]; decide) (hA 3 (by kernel_rfl))
      refine Rg.op_call (o := ⟨some 40, Op.call { callee := Callee.value (Operand.func 31), args := #[Operand.tmp 39, Operand.const (Value.int .i64 4)], argTypes := _ }, _, _, _, _⟩) rfl rfl (by clear hA hN; simp only [execOp, resolve]; go_simp) (below_any g ao cap bs 4 w' hcu (by omega)) ?_
      rintro e w2 ⟨y, rfl, hx0, hx1, hc2, hk2⟩
      obtain ⟨n, rfl⟩ := Int.eq_ofNat_of_zero_le hx0
      exact ⟨_, rfl, _, rfl, (fun h => by cases h), ⟨n, rfl, by omega⟩, stayD7 (by decide) (by decide) h10 hIl hc2 hk2, fun k y _ h => keepD7 hg1 hc2 hk2 k y h⟩
    · intro ll bb w' hs hlf hN hf hIl hA
      clear hi'
      obtain ⟨T, zs, hT, hzl, hTn, hTb⟩ := hA 2 (by kernel_rfl)
      obtain ⟨n, hn, hnl⟩ := hA 4 (by kernel_rfl)
      have qt : bb.tmps[38]? = some _ := hf.tmp (k := 2) rfl (by rw [ha]; decide) hT
      have qn : bb.tmps[40]? = some _ := hf.tmp (k := 4) rfl (by rw [ha]; decide) hn
      have hnl2 : (n : Int) < 4 := by omega
      exact Rg.op_value (o := ⟨some 41, Op.indexAddr 24 (Operand.tmp 38) (Operand.tmp 40), _, _, _, _⟩) (x := .pointer (some ⟨T, n, none⟩)) rfl rfl (by clear hA hN hT hn hTb hzl; simp only [execOp]; go_simp) ⟨_, rfl, (fun h => by cases h), ⟨T, n, zs, rfl, by omega, hTn, hTb⟩, sameD7 (by decide) (by decide) hIl, fun _ _ _ h => h⟩
    · intro ll bb w' hs hlf hN hf hIl hA
      clear hi'
      obtain ⟨T, n, zs, hp, hnl, hTn, hTb⟩ := hA 5 (by kernel_rfl)
      have qp : bb.tmps[41]? = some _ := hf.tmp (k := 5) rfl (by rw [ha]; decide) hp
      have hcell := hTb.at hnl
      generalize hz : zs[n] = z at hcell
      exact Rg.op_value (o := ⟨some 42, Op.load 2 (Operand.tmp 41), _, _, _, _⟩) (x := .int .i64 z) rfl rfl (by clear hA hN hp hTb hz; simp only [execOp]; go_simp) ⟨_, rfl, (fun h => by cases h), ⟨z, rfl⟩, sameD7 (by decide) (by decide) hIl, fun _ _ _ h => h⟩
    · intro ll bb w' hs hlf hN hf hIl hA
      clear hi'
      have h10 := hN 10 (by kernel_rfl)
      have hcu := (hIl.1 h10).cur
      obtain ⟨z, hz⟩ := hA 6 (by kernel_rfl)
      have qz : bb.tmps[42]? = some _ := hf.tmp (k := 6) rfl (by rw [ha]; decide) hz
      have hK : Keep g w' (w'.alloc (.cells #[.int .i64 z] 2)) := (Keep.refl g w').alloc _
      exact Rg.op_value (o := ⟨some 43, Op.buildSlice 24 1 #[(0, Operand.tmp 42)], _, _, _, _⟩) (x := .slice (some ⟨w'.heap.size, 0, none⟩) 1 1) (w' := w'.alloc (.cells #[.int .i64 z] 2)) rfl rfl (by clear hA hN hz; simp only [execOp]; go_simp) ⟨_, rfl, (fun h => by cases h), ⟨_, z, rfl, hIl.2.2.2, PB.new _ _ _⟩, stayD7 (by decide) (by decide) h10 hIl (hcu.alloc _) hK, fun k y _ h => keepD7 hg1 (hcu.alloc _) hK k y h⟩
    · intro ll bb w' hs hlf hN hf hIl hA
      clear hi'
      have h10 := hN 10 (by kernel_rfl)
      have hdx := hIl.1 h10
      have hdi := hIl.2.1 hlf
      have q1 : bb.tmps[37]? = some _ := hf.tmp (k := 1) rfl (by rw [ha]; decide) (hA 1 (by kernel_rfl))
      obtain ⟨B, z, hz, hB, hPB⟩ := hA 7 (by kernel_rfl)
      have q7 : bb.tmps[43]? = some _ := hf.tmp (k := 7) rfl (by rw [ha]; decide) hz
      have hsz := hIl.2.2.2
      have hks := hdx.keep.size
      refine Rg.op_append (o := ⟨some 44, Op.call { callee := Callee.builtin Builtin.append, args := #[Operand.tmp 37, Operand.tmp 43], argTypes := #[24, 24] }, _, _, _, _⟩) rfl rfl (Operand.tmp 37) (Operand.tmp 43) 24 rfl w0.heap.size 2 i0 (.int .i64 0) 1 8 Try.underlying24 hi0 hv0 hv1 hv2 rfl (by decide) (.slice ad L.length c) L.length (L.map fun z => Value.int .i64 z) (by simp [Act.eval, q1]) hdi.own ⟨B, 0, none⟩ 1 1 [.int .i64 z] (by simp [Act.eval, q7]) rfl (fun j u hu => by rw [Addr.add_lit, Nat.zero_add, hPB.cell]; simpa using hu) (by simp [Value.oneCell']) (by unfold maxLen; omega) (by omega) hks ?_
      intro v2 w2 ho2 hg2 hat2
      obtain ⟨ad2, c2, rfl⟩ := ownW_slice ho2
      have hap2 : Ap (.slice ad2 (L.length + 1) c2) V R := fun k hk => by
        rcases hat2 with q | q
        · exact hap k (q.symm.trans hk)
        · have : w'.heap.size = k := Option.some.inj (q.symm.trans hk)
          omega
      have hdi2 := hdi.app ho2 hg2
      have hdx2 := hdx.grown hg2 (fun k hk => ⟨(hrk k hk).1, hap k hk⟩)
      refine ⟨_, rfl, (fun h => by cases h), ⟨ad2, c2, z, rfl, hdi2, hap2⟩, ⟨fun _ => hdx2, fun h => (by rw [Rg.set_self hs (by rw [sizeD7]; decide)] at h; cases h), fun h => (by rw [Rg.set_ne (by decide), h10] at h; cases h), Nat.le_trans hsz hg2.size⟩, fun k y hk h => ?_⟩
      have hfar : ∀ T, w1.heap.size ≤ T → ∀ k, (Value.slice ad L.length c).ownBlock = some k → k ≠ T := fun T hT k hk => by have := (hrk k hk).2; omega
      clear hA hN
      unfold FD7 at h ⊢
      split at h <;> first
        | exact h
        | (obtain ⟨T, zs, h1, h2, h3, h4⟩ := h; exact ⟨T, zs, h1, h2, h3, h4.1, h4.2.grown hg2 (hfar T h3)⟩)
        | (obtain ⟨T, n, zs, h1, h2, h3, h4⟩ := h; exact ⟨T, n, zs, h1, h2, h3, h4.1, h4.2.grown hg2 (hfar T h3)⟩)
        | (obtain ⟨B, z, h1, h2, h3⟩ := h; exact ⟨B, z, h1, h2, h3.grown hg2 (hfar B h2)⟩)
        | exact absurd rfl hk
    · intro ll bb w' hs hlf hN hf hIl hA
      clear hi'
      have qs := hf.kept (s := 3) (by rw [sizeD7]; kernel_rfl) k3
      exact Rg.op_value (o := ⟨some 45, Op.fieldAddr 26 (Operand.tmp 3) 1, _, _, _, _⟩) (x := .pointer (some ⟨V, 1, none⟩)) rfl rfl (by clear hA hN; simp only [execOp]; go_simp) ⟨_, rfl, (fun h => by cases h), rfl, sameD7 (by decide) (by decide) hIl, fun _ _ _ h => h⟩
    · intro ll bb w' hs hlf hN hf hIl hA
      clear hi'
      have hdx := hIl.1 hlf
      obtain ⟨ad2, c2, z, hz, hdi, hap2⟩ := hA 8 (by kernel_rfl)
      have qv : bb.tmps[44]? = some _ := hf.tmp (k := 8) rfl (by rw [ha]; decide) hz
      have qp : bb.tmps[45]? = some _ := hf.tmp (k := 9) rfl (by rw [ha]; decide) (hA 9 (by kernel_rfl))
      obtain ⟨e0, e1, e2, e3, e4, e5⟩ := hdx.box.six
      obtain ⟨f0, f1, f2, f3, f4, f5, -⟩ := hdx.box.cold
      have hdx2 := hdx.put 1 (.slice ad2 (L.length + 1) c2) (vs' := #[.int .i64 x.id, .slice ad2 (L.length + 1) c2, .int .i64 x.pk, .int .i64 x.most, .int .i64 x.day, .int .i64 x.kid]) (by simp)
      have hdi2 := hdi.far hdx.vv hap2 1 (.slice ad2 (L.length + 1) c2)
      have hE : ID7 w0 w1.heap.size g ao cap bs R V x ad c L (ll.setIfInBounds 10 true) (w'.setCell ⟨V, 1, none⟩ (.slice ad2 (L.length + 1) c2)) :=
        ⟨fun h => (by rw [Rg.set_self hs (by rw [sizeD7]; decide)] at h; cases h), fun h => (hIl.2.1 (by rwa [Rg.set_ne (by decide)] at h)).far hdx.vv hap 1 _, fun _ => ⟨ad2, c2, z, hdx2, hdi2, hap2⟩, by have := hIl.2.2.2; simpa [World.setCell] using this⟩
      have hst : ∀ k y, FD7 w0 w1.heap.size g ao cap bs R V x ad c L k y w' → FD7 w0 w1.heap.size g ao cap bs R V x ad c L k y (w'.setCell ⟨V, 1, none⟩ (.slice ad2 (L.length + 1) c2)) := fun k y h => by
        have hvv := hdx.vv
        unfold FD7 at h ⊢
        split at h <;> first
          | exact h
          | (obtain ⟨T, zs, h1, h2, h3, h4⟩ := h; exact ⟨T, zs, h1, h2, h3, h4.1, h4.2.far (by omega) 1 _⟩)
          | (obtain ⟨T, n, zs, h1, h2, h3, h4⟩ := h; exact ⟨T, n, zs, h1, h2, h3, h4.1, h4.2.far (by omega) 1 _⟩)
          | (obtain ⟨B, z, h1, h2, h3⟩ := h; exact ⟨B, z, h1, h2, h3.far (by omega) 1 _⟩)
          | (obtain ⟨a', c', z, h1, h2, h3⟩ := h; exact ⟨a', c', z, h1, h2.far hvv h3 1 _, h3⟩)
      clear hA hf hz hN hIl hdx hdx2 hdi hdi2
      refine Rg.op_skip (o := ⟨none, Op.store 24 (Operand.tmp 45) (Operand.tmp 44), _, _, _, _⟩) (w' := w'.setCell ⟨V, 1, none⟩ (.slice ad2 (L.length + 1) c2)) rfl rfl ?_ ⟨undef, (by rw [dD7_10]), (fun _ => trivial), trivial, hE, fun k y _ h => hst k y h⟩
      clear hE hst
      simp only [execOp]
      go_simp

theorem put_noneD (a : Act) (v : Value) : a.put none v = a := rfl
theorem dD7_0 : Rg.dstAt (Rg.opsOf Try.f30 7) 0 = some 36 := by kernel_rfl
theorem dD7_1 : Rg.dstAt (Rg.opsOf Try.f30 7) 1 = some 37 := by kernel_rfl
theorem dD7_2 : Rg.dstAt (Rg.opsOf Try.f30 7) 2 = some 38 := by kernel_rfl
theorem dD7_3 : Rg.dstAt (Rg.opsOf Try.f30 7) 3 = some 39 := by kernel_rfl
theorem dD7_4 : Rg.dstAt (Rg.opsOf Try.f30 7) 4 = some 40 := by kernel_rfl
theorem dD7_5 : Rg.dstAt (Rg.opsOf Try.f30 7) 5 = some 41 := by kernel_rfl
theorem dD7_6 : Rg.dstAt (Rg.opsOf Try.f30 7) 6 = some 42 := by kernel_rfl
theorem dD7_7 : Rg.dstAt (Rg.opsOf Try.f30 7) 7 = some 43 := by kernel_rfl
theorem dD7_8 : Rg.dstAt (Rg.opsOf Try.f30 7) 8 = some 44 := by kernel_rfl
theorem dD7_9 : Rg.dstAt (Rg.opsOf Try.f30 7) 9 = some 45 := by kernel_rfl
theorem layD7 {a b : Act} (hf : Rg.Fr (Rg.opsOf Try.f30 7) a b) : b = ((((((((((a.put (some 36) (Rg.out (Rg.opsOf Try.f30 7) b 0)).put (some 37) (Rg.out (Rg.opsOf Try.f30 7) b 1)).put (some 38) (Rg.out (Rg.opsOf Try.f30 7) b 2)).put (some 39) (Rg.out (Rg.opsOf Try.f30 7) b 3)).put (some 40) (Rg.out (Rg.opsOf Try.f30 7) b 4)).put (some 41) (Rg.out (Rg.opsOf Try.f30 7) b 5)).put (some 42) (Rg.out (Rg.opsOf Try.f30 7) b 6)).put (some 43) (Rg.out (Rg.opsOf Try.f30 7) b 7)).put (some 44) (Rg.out (Rg.opsOf Try.f30 7) b 8)).put (some 45) (Rg.out (Rg.opsOf Try.f30 7) b 9)) := by
  have h := hf.chain
  rw [sizeD7, show List.range 11 = [0, 1, 2, 3, 4, 5, 6, 7, 8, 9, 10] from by decide] at h
  simp only [List.foldl_cons, List.foldl_nil, dD7_0, dD7_1, dD7_2, dD7_3, dD7_4, dD7_5, dD7_6, dD7_7, dD7_8, dD7_9, dD7_10, put_noneD] at h
  exact h
end Go.Proofs.Ytcnhogghfedcdaa
