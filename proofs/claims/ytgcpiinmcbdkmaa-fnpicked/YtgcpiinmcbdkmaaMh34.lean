/-
  Merged: D3.
-/
import Derived.Test.YtgcpiinmcbdkmaaMh33
import Derived.Test.YtgcpiinmcbdkmaaMh4
namespace Go.Proofs.Ytgcpiinmcbdkmaa
open Go.RowKit Va Bl
set_option linter.all false
theorem put_noneD (a : Act) (v : Value) : a.put none v = a := rfl
def FDu11 (w0 : World) (n1 g : Nat) (ao : Option Addr) (cap : Nat) (bs : List Int) (R V : Nat) (x : Ut) (ad : Option Addr) (c : Nat) (L : List Int) (k : Nat) (v : Value) (w : World) : Prop :=
  match k with
  | 0 => v = .pointer (some ⟨V, 2, none⟩)
  | 1 => v = .slice ad L.length c
  | 2 => ∃ T zs, v = .slice (some ⟨T, 0, none⟩) 3 3 ∧ zs.length = 3 ∧ n1 ≤ T ∧ Tb g w T zs
  | 3 => v = .pointer (some ⟨g, 0, none⟩)
  | 4 => ∃ n : Nat, v = .int .i64 n ∧ n < 3
  | 5 => ∃ T n zs, v = .pointer (some ⟨T, n, none⟩) ∧ n < zs.length ∧ n1 ≤ T ∧ Tb g w T zs
  | 6 => ∃ z : Int, v = .int .i64 z
  | 7 => ∃ B z, v = .slice (some ⟨B, 0, none⟩) 1 1 ∧ n1 ≤ B ∧ PB w B #[.int .i64 z] 2
  | 8 => ∃ ad' c' z, v = .slice ad' (L.length + 1) c' ∧ DI w0 w g ao cap bs (.slice ad' (L.length + 1) c') (L ++ [z]) ∧ Ap (.slice ad' (L.length + 1) c') V R
  | 9 => v = .pointer (some ⟨V, 2, none⟩)
  | _ => True
def IDu11 (w0 : World) (n1 g : Nat) (ao : Option Addr) (cap : Nat) (bs : List Int) (R V : Nat) (x : Ut) (ad : Option Addr) (c : Nat) (L : List Int) (l : Array Bool) (w : World) : Prop :=
  (l.getD 10 false = false → DX w0 w g ao cap bs R V #[.int .i64 0, .int .i64 0, .slice none 0 0, .int .i64 0, .int .i64 0, .int .i64 0] #[.int .i64 x.id, .int .i64 x.grp, .slice ad L.length c, .int .i64 x.til, .int .i64 x.st, .int .i64 x.fr] 81) ∧ (l.getD 8 false = false → DI w0 w g ao cap bs (.slice ad L.length c) L) ∧
    (l.getD 10 false = true → ∃ ad' c' z, DX w0 w g ao cap bs R V #[.int .i64 0, .int .i64 0, .slice none 0 0, .int .i64 0, .int .i64 0, .int .i64 0] #[.int .i64 x.id, .int .i64 x.grp, .slice ad' (L.length + 1) c', .int .i64 x.til, .int .i64 x.st, .int .i64 x.fr] 81 ∧ DI w0 w g ao cap bs (.slice ad' (L.length + 1) c') (L ++ [z]) ∧ Ap (.slice ad' (L.length + 1) c') V R) ∧ n1 ≤ w.heap.size
theorem keepDu11 {w0 : World} {n1 g : Nat} {ao : Option Addr} {cap : Nat} {bs : List Int} {R V : Nat} {x : Ut} {ad : Option Addr} {c : Nat} {L : List Int} {w w' : World} (hg : g < n1) (hc : Cur w' g ao cap bs) (hk : Keep g w w') (k : Nat) (v : Value) (h : FDu11 w0 n1 g ao cap bs R V x ad c L k v w) : FDu11 w0 n1 g ao cap bs R V x ad c L k v w' := by
  unfold FDu11 at *
  split at h <;> first
    | exact h
    | (obtain ⟨T, zs, h1, h2, h3, h4⟩ := h; exact ⟨T, zs, h1, h2, h3, h4.keep hk⟩)
    | (obtain ⟨T, n, zs, h1, h2, h3, h4⟩ := h; exact ⟨T, n, zs, h1, h2, h3, h4.keep hk⟩)
    | (obtain ⟨B, z, h1, h2, h3⟩ := h; exact ⟨B, z, h1, h2, h3.keep hk (by omega)⟩)
    | (obtain ⟨a', c', z, h1, h2, h3⟩ := h; exact ⟨a', c', z, h1, h2.call hc hk, h3⟩)
theorem stayDu11 {w0 : World} {n1 g : Nat} {ao : Option Addr} {cap : Nat} {bs : List Int} {R V : Nat} {x : Ut} {ad : Option Addr} {c : Nat} {L : List Int} {l : Array Bool} {w w' : World} {i : Nat} (hi : i ≠ 8) (hi2 : i ≠ 10) (h10 : l.getD 10 false = false) (hI : IDu11 w0 n1 g ao cap bs R V x ad c L l w) (hc : Cur w' g ao cap bs) (hk : Keep g w w') : IDu11 w0 n1 g ao cap bs R V x ad c L (l.setIfInBounds i true) w' :=
  ⟨fun _ => (hI.1 h10).call hc hk, fun h => (hI.2.1 (by rwa [Rg.set_ne hi] at h)).call hc hk, fun h => (by rw [Rg.set_ne hi2, h10] at h; cases h), Nat.le_trans hI.2.2.2 hk.size⟩
theorem sameDu11 {w0 : World} {n1 g : Nat} {ao : Option Addr} {cap : Nat} {bs : List Int} {R V : Nat} {x : Ut} {ad : Option Addr} {c : Nat} {L : List Int} {l : Array Bool} {w : World} {i : Nat} (hi : i ≠ 8) (hi2 : i ≠ 10) (hI : IDu11 w0 n1 g ao cap bs R V x ad c L l w) : IDu11 w0 n1 g ao cap bs R V x ad c L (l.setIfInBounds i true) w := by
  unfold IDu11
  rw [Rg.set_ne hi, Rg.set_ne hi2]
  exact hI
theorem sizeDu11 : (Rg.opsOf Try.f76 11).size = 11 := by kernel_rfl
theorem dDu11_10 : Rg.dstAt (Rg.opsOf Try.f76 11) 10 = none := by kernel_rfl
set_option maxRecDepth 20000 in
set_option maxHeartbeats 8000000 in
theorem regDu11 {Q : Exit → Act → World → Prop} {a : Act} {w1 : World} {w0 : World} {g : Nat} {ao : Option Addr} {cap : Nat} {bs : List Int} {R V : Nat} {x : Ut} {ad : Option Addr} {c : Nat} {L : List Int} (ha : a.tmps.size = 87)
    (k0 : a.tmps[0]? = some (.pointer (some ⟨g, 0, none⟩))) (k5 : a.tmps[5]? = some (.pointer (some ⟨V, 0, none⟩))) (hd : DX w0 w1 g ao cap bs R V #[.int .i64 0, .int .i64 0, .slice none 0 0, .int .i64 0, .int .i64 0, .int .i64 0] #[.int .i64 x.id, .int .i64 x.grp, .slice ad L.length c, .int .i64 x.til, .int .i64 x.st, .int .i64 x.fr] 81) (hr : DI w0 w1 g ao cap bs (.slice ad L.length c) L) (hap : Ap (.slice ad L.length c) V R) (hL : L.length ≤ 100)
    (hend : ∀ b' w' ad' c' z, Rg.Fr (Rg.opsOf Try.f76 11) a b' → DX w0 w' g ao cap bs R V #[.int .i64 0, .int .i64 0, .slice none 0 0, .int .i64 0, .int .i64 0, .int .i64 0] #[.int .i64 x.id, .int .i64 x.grp, .slice ad' (L.length + 1) c', .int .i64 x.til, .int .i64 x.st, .int .i64 x.fr] 81 → DI w0 w' g ao cap bs (.slice ad' (L.length + 1) c') (L ++ [z]) → Ap (.slice ad' (L.length + 1) c') V R → Q .normal b' w') :
    (Code.region 11 (Rg.opsOf Try.f76 11) true).wp Try.prog Q a w1 := by
  obtain ⟨i0, hi0, hv0, hv1, hv2⟩ := info_partsW infoW64
  have hg1 : g < w1.heap.size := hd.cur.1
  have hrk : ∀ k, (Value.slice ad L.length c).ownBlock = some k → w0.heap.size ≤ k ∧ k < w1.heap.size := ownW_lt hr.own
  have hV1 : V < w1.heap.size := hd.box.lt
  have hR1 : R < w1.heap.size := hd.res.lt
  have hVg := hd.gV
  have hgg := hd.gg
  refine Rg.region_set2 (by kernel_rfl) (IDu11 w0 w1.heap.size g ao cap bs R V x ad c L) (FDu11 w0 w1.heap.size g ao cap bs R V x ad c L) (by rw [ha, sizeDu11]; kernel_rfl) ⟨fun _ => hd.call (hd.cur.drewN 1) ((Keep.refl g w1).drewN 1), fun _ => hr.drewN 1, fun h => (by rw [Rg.none_yet] at h; cases h), Nat.le_refl _⟩ ?_ ?_
  case refine_2 =>
    intro l b' w' hf hall hI hA
    rw [sizeDu11] at hall
    obtain ⟨ad', c', z, h1, h2, h3⟩ := hI.2.2.1 (hall 10 (by omega))
    exact hend b' w' ad' c' z hf h1 h2 h3
  case refine_1 =>
    clear hend
    intro i' hi'
    rw [sizeDu11] at hi'
    rcases (show i' = 0 ∨ i' = 1 ∨ i' = 2 ∨ i' = 3 ∨ i' = 4 ∨ i' = 5 ∨ i' = 6 ∨ i' = 7 ∨ i' = 8 ∨ i' = 9 ∨ i' = 10 by omega) with rfl | rfl | rfl | rfl | rfl | rfl | rfl | rfl | rfl | rfl | rfl
    · intro ll bb w' hs hlf hN hf hIl hA
      clear hi'
      have qs := hf.kept (s := 5) (by rw [sizeDu11]; kernel_rfl) k5
      exact Rg.op_value (o := ⟨some 55, Op.fieldAddr 81 (Operand.tmp 5) 2, _, _, _, _⟩) (x := .pointer (some ⟨V, 2, none⟩)) rfl rfl (by clear hA hN; simp only [execOp]; go_simp) ⟨_, rfl, (fun h => by cases h), rfl, sameDu11 (by decide) (by decide) hIl, fun _ _ _ h => h⟩
    · intro ll bb w' hs hlf hN hf hIl hA
      clear hi'
      have h10 := hN 10 (by kernel_rfl)
      obtain ⟨e0, e1, e2, e3, e4, e5⟩ := (hIl.1 h10).box.six
      have q0 : bb.tmps[55]? = some _ := hf.tmp (k := 0) rfl (by rw [ha]; decide) (hA 0 (by kernel_rfl))
      exact Rg.op_value (o := ⟨some 56, Op.load 25 (Operand.tmp 55), _, _, _, _⟩) (x := .slice ad L.length c) rfl rfl (by clear hA hN; simp only [execOp]; go_simp) ⟨_, rfl, (fun h => by cases h), rfl, sameDu11 (by decide) (by decide) hIl, fun _ _ _ h => h⟩
    · intro ll bb w' hs hlf hN hf hIl hA
      clear hi'
      have h10 := hN 10 (by kernel_rfl)
      have hcu := (hIl.1 h10).cur
      have hK : Keep g w' (w'.alloc (.cells #[.int .i64 0, .int .i64 19, .int .i64 20] 2)) := (Keep.refl g w').alloc _
      have hT := Tb.new (g := g) (w := w') [0, 19, 20] hcu.1
      exact Rg.op_value (o := ⟨some 57, Op.buildSlice 25 3 #[(0, Operand.const (Value.int .i64 0)), (1, Operand.const (Value.int .i64 19)), (2, Operand.const (Value.int .i64 20))], _, _, _, _⟩) (x := .slice (some ⟨w'.heap.size, 0, none⟩) 3 3) (w' := w'.alloc (.cells #[.int .i64 0, .int .i64 19, .int .i64 20] 2)) rfl rfl (by clear hA hN; simp only [execOp]; go_simp) ⟨_, rfl, (fun h => by cases h), ⟨_, _, rfl, rfl, hIl.2.2.2, hT⟩, stayDu11 (by decide) (by decide) h10 hIl (hcu.alloc _) hK, fun k y _ h => keepDu11 hg1 (hcu.alloc _) hK k y h⟩
    · intro ll bb w' hs hlf hN hf hIl hA
      clear hi'
      have q0 := hf.kept (s := 0) (by rw [sizeDu11]; kernel_rfl) k0
      exact Rg.op_value (o := ⟨some 58, Op.move (Operand.tmp 0), _, _, _, _⟩) rfl rfl rfl ⟨_, rfl, (fun h => by cases h), (by show Act.eval bb _ = _; simp [Act.eval, q0]), sameDu11 (by decide) (by decide) hIl, fun _ _ _ h => h⟩
    · intro ll bb w' hs hlf hN hf hIl hA
      clear hi'
      have h10 := hN 10 (by kernel_rfl)
      have hcu := (hIl.1 h10).cur
      have q3 : bb.tmps[58]? = some _ := hf.tmp (k := 3) rfl (by rw [ha]; decide) (hA 3 (by kernel_rfl))
      refine Rg.op_call (o := ⟨some 59, Op.call { callee := Callee.value (Operand.func 39), args := #[Operand.tmp 58, Operand.const (Value.int .i64 3)], argTypes := _ }, _, _, _, _⟩) rfl rfl (by clear hA hN; simp only [execOp, resolve]; go_simp) (below_any g ao cap bs 3 w' hcu (by omega)) ?_
      rintro e w2 ⟨y, rfl, hx0, hx1, hc2, hk2⟩
      obtain ⟨n, rfl⟩ := Int.eq_ofNat_of_zero_le hx0
      exact ⟨_, rfl, _, rfl, (fun h => by cases h), ⟨n, rfl, by omega⟩, stayDu11 (by decide) (by decide) h10 hIl hc2 hk2, fun k y _ h => keepDu11 hg1 hc2 hk2 k y h⟩
    · intro ll bb w' hs hlf hN hf hIl hA
      clear hi'
      obtain ⟨T, zs, hT, hzl, hTn, hTb⟩ := hA 2 (by kernel_rfl)
      obtain ⟨n, hn, hnl⟩ := hA 4 (by kernel_rfl)
      have qt : bb.tmps[57]? = some _ := hf.tmp (k := 2) rfl (by rw [ha]; decide) hT
      have qn : bb.tmps[59]? = some _ := hf.tmp (k := 4) rfl (by rw [ha]; decide) hn
      have hnl2 : (n : Int) < 3 := by omega
      exact Rg.op_value (o := ⟨some 60, Op.indexAddr 25 (Operand.tmp 57) (Operand.tmp 59), _, _, _, _⟩) (x := .pointer (some ⟨T, n, none⟩)) rfl rfl (by clear hA hN hT hn hTb hzl; simp only [execOp]; go_simp) ⟨_, rfl, (fun h => by cases h), ⟨T, n, zs, rfl, by omega, hTn, hTb⟩, sameDu11 (by decide) (by decide) hIl, fun _ _ _ h => h⟩
    · intro ll bb w' hs hlf hN hf hIl hA
      clear hi'
      obtain ⟨T, n, zs, hp, hnl, hTn, hTb⟩ := hA 5 (by kernel_rfl)
      have qp : bb.tmps[60]? = some _ := hf.tmp (k := 5) rfl (by rw [ha]; decide) hp
      have hcell := hTb.at hnl
      generalize hz : zs[n] = z at hcell
      exact Rg.op_value (o := ⟨some 61, Op.load 2 (Operand.tmp 60), _, _, _, _⟩) (x := .int .i64 z) rfl rfl (by clear hA hN hp hTb hz; simp only [execOp]; go_simp) ⟨_, rfl, (fun h => by cases h), ⟨z, rfl⟩, sameDu11 (by decide) (by decide) hIl, fun _ _ _ h => h⟩
    · intro ll bb w' hs hlf hN hf hIl hA
      clear hi'
      have h10 := hN 10 (by kernel_rfl)
      have hcu := (hIl.1 h10).cur
      obtain ⟨z, hz⟩ := hA 6 (by kernel_rfl)
      have qz : bb.tmps[61]? = some _ := hf.tmp (k := 6) rfl (by rw [ha]; decide) hz
      have hK : Keep g w' (w'.alloc (.cells #[.int .i64 z] 2)) := (Keep.refl g w').alloc _
      exact Rg.op_value (o := ⟨some 62, Op.buildSlice 25 1 #[(0, Operand.tmp 61)], _, _, _, _⟩) (x := .slice (some ⟨w'.heap.size, 0, none⟩) 1 1) (w' := w'.alloc (.cells #[.int .i64 z] 2)) rfl rfl (by clear hA hN hz; simp only [execOp]; go_simp) ⟨_, rfl, (fun h => by cases h), ⟨_, z, rfl, hIl.2.2.2, PB.new _ _ _⟩, stayDu11 (by decide) (by decide) h10 hIl (hcu.alloc _) hK, fun k y _ h => keepDu11 hg1 (hcu.alloc _) hK k y h⟩
    · intro ll bb w' hs hlf hN hf hIl hA
      clear hi'
      have h10 := hN 10 (by kernel_rfl)
      have hdx := hIl.1 h10
      have hdi := hIl.2.1 hlf
      have q1 : bb.tmps[56]? = some _ := hf.tmp (k := 1) rfl (by rw [ha]; decide) (hA 1 (by kernel_rfl))
      obtain ⟨B, z, hz, hB, hPB⟩ := hA 7 (by kernel_rfl)
      have q7 : bb.tmps[62]? = some _ := hf.tmp (k := 7) rfl (by rw [ha]; decide) hz
      have hsz := hIl.2.2.2
      have hks := hdx.keep.size
      refine Rg.op_append (o := ⟨some 63, Op.call { callee := Callee.builtin Builtin.append, args := #[Operand.tmp 56, Operand.tmp 62], argTypes := #[25, 25] }, _, _, _, _⟩) rfl rfl (Operand.tmp 56) (Operand.tmp 62) 25 rfl w0.heap.size 2 i0 (.int .i64 0) 1 8 Try.underlying25 hi0 hv0 hv1 hv2 rfl (by decide) (.slice ad L.length c) L.length (L.map fun z => Value.int .i64 z) (by simp [Act.eval, q1]) hdi.own ⟨B, 0, none⟩ 1 1 [.int .i64 z] (by simp [Act.eval, q7]) rfl (fun j u hu => by rw [Addr.add_lit, Nat.zero_add, hPB.cell]; simpa using hu) (by simp [Value.oneCell']) (by unfold maxLen; omega) (by omega) hks ?_
      intro v2 w2 ho2 hg2 hat2
      obtain ⟨ad2, c2, rfl⟩ := ownW_slice ho2
      have hap2 : Ap (.slice ad2 (L.length + 1) c2) V R := fun k hk => by
        rcases hat2 with q | q
        · exact hap k (q.symm.trans hk)
        · have : w'.heap.size = k := Option.some.inj (q.symm.trans hk)
          omega
      have hdi2 := hdi.app ho2 hg2
      have hdx2 := hdx.grown hg2 (fun k hk => ⟨(hrk k hk).1, hap k hk⟩)
      refine ⟨_, rfl, (fun h => by cases h), ⟨ad2, c2, z, rfl, hdi2, hap2⟩, ⟨fun _ => hdx2, fun h => (by rw [Rg.set_self hs (by rw [sizeDu11]; decide)] at h; cases h), fun h => (by rw [Rg.set_ne (by decide), h10] at h; cases h), Nat.le_trans hsz hg2.size⟩, fun k y hk h => ?_⟩
      have hfar : ∀ T, w1.heap.size ≤ T → ∀ k, (Value.slice ad L.length c).ownBlock = some k → k ≠ T := fun T hT k hk => by have := (hrk k hk).2; omega
      clear hA hN
      unfold FDu11 at h ⊢
      split at h <;> first
        | exact h
        | (obtain ⟨T, zs, h1, h2, h3, h4⟩ := h; exact ⟨T, zs, h1, h2, h3, h4.1, h4.2.grown hg2 (hfar T h3)⟩)
        | (obtain ⟨T, n, zs, h1, h2, h3, h4⟩ := h; exact ⟨T, n, zs, h1, h2, h3, h4.1, h4.2.grown hg2 (hfar T h3)⟩)
        | (obtain ⟨B, z, h1, h2, h3⟩ := h; exact ⟨B, z, h1, h2, h3.grown hg2 (hfar B h2)⟩)
        | exact absurd rfl hk
    · intro ll bb w' hs hlf hN hf hIl hA
      clear hi'
      have qs := hf.kept (s := 5) (by rw [sizeDu11]; kernel_rfl) k5
      exact Rg.op_value (o := ⟨some 64, Op.fieldAddr 81 (Operand.tmp 5) 2, _, _, _, _⟩) (x := .pointer (some ⟨V, 2, none⟩)) rfl rfl (by clear hA hN; simp only [execOp]; go_simp) ⟨_, rfl, (fun h => by cases h), rfl, sameDu11 (by decide) (by decide) hIl, fun _ _ _ h => h⟩
    · intro ll bb w' hs hlf hN hf hIl hA
      clear hi'
      have hdx := hIl.1 hlf
      obtain ⟨ad2, c2, z, hz, hdi, hap2⟩ := hA 8 (by kernel_rfl)
      have qv : bb.tmps[63]? = some _ := hf.tmp (k := 8) rfl (by rw [ha]; decide) hz
      have qp : bb.tmps[64]? = some _ := hf.tmp (k := 9) rfl (by rw [ha]; decide) (hA 9 (by kernel_rfl))
      obtain ⟨e0, e1, e2, e3, e4, e5⟩ := hdx.box.six
      obtain ⟨f0, f1, f2, f3, f4, f5, -⟩ := hdx.box.cold
      have hdx2 := hdx.put 2 (.slice ad2 (L.length + 1) c2) (vs' := #[.int .i64 x.id, .int .i64 x.grp, .slice ad2 (L.length + 1) c2, .int .i64 x.til, .int .i64 x.st, .int .i64 x.fr]) (by simp)
      have hdi2 := hdi.far hdx.vv hap2 2 (.slice ad2 (L.length + 1) c2)
      have hE : IDu11 w0 w1.heap.size g ao cap bs R V x ad c L (ll.setIfInBounds 10 true) (w'.setCell ⟨V, 2, none⟩ (.slice ad2 (L.length + 1) c2)) :=
        ⟨fun h => (by rw [Rg.set_self hs (by rw [sizeDu11]; decide)] at h; cases h), fun h => (hIl.2.1 (by rwa [Rg.set_ne (by decide)] at h)).far hdx.vv hap 2 _, fun _ => ⟨ad2, c2, z, hdx2, hdi2, hap2⟩, by have := hIl.2.2.2; simpa [World.setCell] using this⟩
      have hst : ∀ k y, FDu11 w0 w1.heap.size g ao cap bs R V x ad c L k y w' → FDu11 w0 w1.heap.size g ao cap bs R V x ad c L k y (w'.setCell ⟨V, 2, none⟩ (.slice ad2 (L.length + 1) c2)) := fun k y h => by
        have hvv := hdx.vv
        unfold FDu11 at h ⊢
        split at h <;> first
          | exact h
          | (obtain ⟨T, zs, h1, h2, h3, h4⟩ := h; exact ⟨T, zs, h1, h2, h3, h4.1, h4.2.far (by omega) 2 _⟩)
          | (obtain ⟨T, n, zs, h1, h2, h3, h4⟩ := h; exact ⟨T, n, zs, h1, h2, h3, h4.1, h4.2.far (by omega) 2 _⟩)
          | (obtain ⟨B, z, h1, h2, h3⟩ := h; exact ⟨B, z, h1, h2, h3.far (by omega) 2 _⟩)
          | (obtain ⟨a', c', z, h1, h2, h3⟩ := h; exact ⟨a', c', z, h1, h2.far hvv h3 2 _, h3⟩)
      clear hA hf hz hN hIl hdx hdx2 hdi hdi2
      refine Rg.op_skip (o := ⟨none, Op.store 25 (Operand.tmp 64) (Operand.tmp 63), _, _, _, _⟩) (w' := w'.setCell ⟨V, 2, none⟩ (.slice ad2 (L.length + 1) c2)) rfl rfl ?_ ⟨undef, (by rw [dDu11_10]), (fun _ => trivial), trivial, hE, fun k y _ h => hst k y h⟩
      clear hE hst
      simp only [execOp]
      go_simp
theorem dDu11_0 : Rg.dstAt (Rg.opsOf Try.f76 11) 0 = some 55 := by kernel_rfl
theorem dDu11_1 : Rg.dstAt (Rg.opsOf Try.f76 11) 1 = some 56 := by kernel_rfl
theorem dDu11_2 : Rg.dstAt (Rg.opsOf Try.f76 11) 2 = some 57 := by kernel_rfl
theorem dDu11_3 : Rg.dstAt (Rg.opsOf Try.f76 11) 3 = some 58 := by kernel_rfl
theorem dDu11_4 : Rg.dstAt (Rg.opsOf Try.f76 11) 4 = some 59 := by kernel_rfl
theorem dDu11_5 : Rg.dstAt (Rg.opsOf Try.f76 11) 5 = some 60 := by kernel_rfl
theorem dDu11_6 : Rg.dstAt (Rg.opsOf Try.f76 11) 6 = some 61 := by kernel_rfl
theorem dDu11_7 : Rg.dstAt (Rg.opsOf Try.f76 11) 7 = some 62 := by kernel_rfl
theorem dDu11_8 : Rg.dstAt (Rg.opsOf Try.f76 11) 8 = some 63 := by kernel_rfl
theorem dDu11_9 : Rg.dstAt (Rg.opsOf Try.f76 11) 9 = some 64 := by kernel_rfl
theorem layDu11 {a b : Act} (hf : Rg.Fr (Rg.opsOf Try.f76 11) a b) : b = ((((((((((a.put (some 55) (Rg.out (Rg.opsOf Try.f76 11) b 0)).put (some 56) (Rg.out (Rg.opsOf Try.f76 11) b 1)).put (some 57) (Rg.out (Rg.opsOf Try.f76 11) b 2)).put (some 58) (Rg.out (Rg.opsOf Try.f76 11) b 3)).put (some 59) (Rg.out (Rg.opsOf Try.f76 11) b 4)).put (some 60) (Rg.out (Rg.opsOf Try.f76 11) b 5)).put (some 61) (Rg.out (Rg.opsOf Try.f76 11) b 6)).put (some 62) (Rg.out (Rg.opsOf Try.f76 11) b 7)).put (some 63) (Rg.out (Rg.opsOf Try.f76 11) b 8)).put (some 64) (Rg.out (Rg.opsOf Try.f76 11) b 9)) := by
  have h := hf.chain
  rw [sizeDu11, show List.range 11 = [0, 1, 2, 3, 4, 5, 6, 7, 8, 9, 10] from by decide] at h
  simp only [List.foldl_cons, List.foldl_nil, dDu11_0, dDu11_1, dDu11_2, dDu11_3, dDu11_4, dDu11_5, dDu11_6, dDu11_7, dDu11_8, dDu11_9, dDu11_10, put_noneD] at h
  exact h
def FDn9 (w0 : World) (n1 g : Nat) (ao : Option Addr) (cap : Nat) (bs : List Int) (R V : Nat) (x : Nd) (ad : Option Addr) (c : Nat) (L : List Int) (k : Nat) (v : Value) (w : World) : Prop :=
  match k with
  | 0 => v = .pointer (some ⟨V, 2, none⟩)
  | 1 => v = .slice ad L.length c
  | 2 => ∃ T zs, v = .slice (some ⟨T, 0, none⟩) 4 4 ∧ zs.length = 4 ∧ n1 ≤ T ∧ Tb g w T zs
  | 3 => v = .pointer (some ⟨g, 0, none⟩)
  | 4 => ∃ n : Nat, v = .int .i64 n ∧ n < 4
  | 5 => ∃ T n zs, v = .pointer (some ⟨T, n, none⟩) ∧ n < zs.length ∧ n1 ≤ T ∧ Tb g w T zs
  | 6 => ∃ z : Int, v = .int .i64 z
  | 7 => ∃ B z, v = .slice (some ⟨B, 0, none⟩) 1 1 ∧ n1 ≤ B ∧ PB w B #[.int .i64 z] 2
  | 8 => ∃ ad' c' z, v = .slice ad' (L.length + 1) c' ∧ DI w0 w g ao cap bs (.slice ad' (L.length + 1) c') (L ++ [z]) ∧ Ap (.slice ad' (L.length + 1) c') V R
  | 9 => v = .pointer (some ⟨V, 2, none⟩)
  | _ => True
def IDn9 (w0 : World) (n1 g : Nat) (ao : Option Addr) (cap : Nat) (bs : List Int) (R V : Nat) (x : Nd) (ad : Option Addr) (c : Nat) (L : List Int) (l : Array Bool) (w : World) : Prop :=
  (l.getD 10 false = false → DX w0 w g ao cap bs R V #[.int .i64 0, .int .i64 0, .slice none 0 0] #[.int .i64 x.p, .int .i64 x.g, .slice ad L.length c] 27) ∧ (l.getD 8 false = false → DI w0 w g ao cap bs (.slice ad L.length c) L) ∧
    (l.getD 10 false = true → ∃ ad' c' z, DX w0 w g ao cap bs R V #[.int .i64 0, .int .i64 0, .slice none 0 0] #[.int .i64 x.p, .int .i64 x.g, .slice ad' (L.length + 1) c'] 27 ∧ DI w0 w g ao cap bs (.slice ad' (L.length + 1) c') (L ++ [z]) ∧ Ap (.slice ad' (L.length + 1) c') V R) ∧ n1 ≤ w.heap.size
theorem keepDn9 {w0 : World} {n1 g : Nat} {ao : Option Addr} {cap : Nat} {bs : List Int} {R V : Nat} {x : Nd} {ad : Option Addr} {c : Nat} {L : List Int} {w w' : World} (hg : g < n1) (hc : Cur w' g ao cap bs) (hk : Keep g w w') (k : Nat) (v : Value) (h : FDn9 w0 n1 g ao cap bs R V x ad c L k v w) : FDn9 w0 n1 g ao cap bs R V x ad c L k v w' := by
  unfold FDn9 at *
  split at h <;> first
    | exact h
    | (obtain ⟨T, zs, h1, h2, h3, h4⟩ := h; exact ⟨T, zs, h1, h2, h3, h4.keep hk⟩)
    | (obtain ⟨T, n, zs, h1, h2, h3, h4⟩ := h; exact ⟨T, n, zs, h1, h2, h3, h4.keep hk⟩)
    | (obtain ⟨B, z, h1, h2, h3⟩ := h; exact ⟨B, z, h1, h2, h3.keep hk (by omega)⟩)
    | (obtain ⟨a', c', z, h1, h2, h3⟩ := h; exact ⟨a', c', z, h1, h2.call hc hk, h3⟩)
theorem stayDn9 {w0 : World} {n1 g : Nat} {ao : Option Addr} {cap : Nat} {bs : List Int} {R V : Nat} {x : Nd} {ad : Option Addr} {c : Nat} {L : List Int} {l : Array Bool} {w w' : World} {i : Nat} (hi : i ≠ 8) (hi2 : i ≠ 10) (h10 : l.getD 10 false = false) (hI : IDn9 w0 n1 g ao cap bs R V x ad c L l w) (hc : Cur w' g ao cap bs) (hk : Keep g w w') : IDn9 w0 n1 g ao cap bs R V x ad c L (l.setIfInBounds i true) w' :=
  ⟨fun _ => (hI.1 h10).call hc hk, fun h => (hI.2.1 (by rwa [Rg.set_ne hi] at h)).call hc hk, fun h => (by rw [Rg.set_ne hi2, h10] at h; cases h), Nat.le_trans hI.2.2.2 hk.size⟩
theorem sameDn9 {w0 : World} {n1 g : Nat} {ao : Option Addr} {cap : Nat} {bs : List Int} {R V : Nat} {x : Nd} {ad : Option Addr} {c : Nat} {L : List Int} {l : Array Bool} {w : World} {i : Nat} (hi : i ≠ 8) (hi2 : i ≠ 10) (hI : IDn9 w0 n1 g ao cap bs R V x ad c L l w) : IDn9 w0 n1 g ao cap bs R V x ad c L (l.setIfInBounds i true) w := by
  unfold IDn9
  rw [Rg.set_ne hi, Rg.set_ne hi2]
  exact hI
theorem sizeDn9 : (Rg.opsOf Try.f37 9).size = 11 := by kernel_rfl
theorem dDn9_10 : Rg.dstAt (Rg.opsOf Try.f37 9) 10 = none := by kernel_rfl
set_option maxRecDepth 20000 in
set_option maxHeartbeats 8000000 in
theorem regDn9 {Q : Exit → Act → World → Prop} {a : Act} {w1 : World} {w0 : World} {g : Nat} {ao : Option Addr} {cap : Nat} {bs : List Int} {R V : Nat} {x : Nd} {ad : Option Addr} {c : Nat} {L : List Int} (ha : a.tmps.size = 49)
    (k0 : a.tmps[0]? = some (.pointer (some ⟨g, 0, none⟩))) (k3 : a.tmps[3]? = some (.pointer (some ⟨V, 0, none⟩))) (hd : DX w0 w1 g ao cap bs R V #[.int .i64 0, .int .i64 0, .slice none 0 0] #[.int .i64 x.p, .int .i64 x.g, .slice ad L.length c] 27) (hr : DI w0 w1 g ao cap bs (.slice ad L.length c) L) (hap : Ap (.slice ad L.length c) V R) (hL : L.length ≤ 100)
    (hend : ∀ b' w' ad' c' z, Rg.Fr (Rg.opsOf Try.f37 9) a b' → DX w0 w' g ao cap bs R V #[.int .i64 0, .int .i64 0, .slice none 0 0] #[.int .i64 x.p, .int .i64 x.g, .slice ad' (L.length + 1) c'] 27 → DI w0 w' g ao cap bs (.slice ad' (L.length + 1) c') (L ++ [z]) → Ap (.slice ad' (L.length + 1) c') V R → Q .normal b' w') :
    (Code.region 9 (Rg.opsOf Try.f37 9) true).wp Try.prog Q a w1 := by
  obtain ⟨i0, hi0, hv0, hv1, hv2⟩ := info_partsW infoW64
  have hg1 : g < w1.heap.size := hd.cur.1
  have hrk : ∀ k, (Value.slice ad L.length c).ownBlock = some k → w0.heap.size ≤ k ∧ k < w1.heap.size := ownW_lt hr.own
  have hV1 : V < w1.heap.size := hd.box.lt
  have hR1 : R < w1.heap.size := hd.res.lt
  have hVg := hd.gV
  have hgg := hd.gg
  refine Rg.region_set2 (by kernel_rfl) (IDn9 w0 w1.heap.size g ao cap bs R V x ad c L) (FDn9 w0 w1.heap.size g ao cap bs R V x ad c L) (by rw [ha, sizeDn9]; kernel_rfl) ⟨fun _ => hd.call (hd.cur.drewN 1) ((Keep.refl g w1).drewN 1), fun _ => hr.drewN 1, fun h => (by rw [Rg.none_yet] at h; cases h), Nat.le_refl _⟩ ?_ ?_
  case refine_2 =>
    intro l b' w' hf hall hI hA
    rw [sizeDn9] at hall
    obtain ⟨ad', c', z, h1, h2, h3⟩ := hI.2.2.1 (hall 10 (by omega))
    exact hend b' w' ad' c' z hf h1 h2 h3
  case refine_1 =>
    clear hend
    intro i' hi'
    rw [sizeDn9] at hi'
    rcases (show i' = 0 ∨ i' = 1 ∨ i' = 2 ∨ i' = 3 ∨ i' = 4 ∨ i' = 5 ∨ i' = 6 ∨ i' = 7 ∨ i' = 8 ∨ i' = 9 ∨ i' = 10 by omega) with rfl | rfl | rfl | rfl | rfl | rfl | rfl | rfl | rfl | rfl | rfl
    · intro ll bb w' hs hlf hN hf hIl hA
      clear hi'
      have qs := hf.kept (s := 3) (by rw [sizeDn9]; kernel_rfl) k3
      exact Rg.op_value (o := ⟨some 38, Op.fieldAddr 27 (Operand.tmp 3) 2, _, _, _, _⟩) (x := .pointer (some ⟨V, 2, none⟩)) rfl rfl (by clear hA hN; simp only [execOp]; go_simp) ⟨_, rfl, (fun h => by cases h), rfl, sameDn9 (by decide) (by decide) hIl, fun _ _ _ h => h⟩
    · intro ll bb w' hs hlf hN hf hIl hA
      clear hi'
      have h10 := hN 10 (by kernel_rfl)
      obtain ⟨e0, e1, e2⟩ := (hIl.1 h10).box.three
      have q0 : bb.tmps[38]? = some _ := hf.tmp (k := 0) rfl (by rw [ha]; decide) (hA 0 (by kernel_rfl))
      exact Rg.op_value (o := ⟨some 39, Op.load 25 (Operand.tmp 38), _, _, _, _⟩) (x := .slice ad L.length c) rfl rfl (by clear hA hN; simp only [execOp]; go_simp) ⟨_, rfl, (fun h => by cases h), rfl, sameDn9 (by decide) (by decide) hIl, fun _ _ _ h => h⟩
    · intro ll bb w' hs hlf hN hf hIl hA
      clear hi'
      have h10 := hN 10 (by kernel_rfl)
      have hcu := (hIl.1 h10).cur
      have hK : Keep g w' (w'.alloc (.cells #[.int .i64 0, .int .i64 19, .int .i64 20, .int .i64 (-1)] 2)) := (Keep.refl g w').alloc _
      have hT := Tb.new (g := g) (w := w') [0, 19, 20, -1] hcu.1
      exact Rg.op_value (o := ⟨some 40, Op.buildSlice 25 4 #[(0, Operand.const (Value.int .i64 0)), (1, Operand.const (Value.int .i64 19)), (2, Operand.const (Value.int .i64 20)), (3, Operand.const (Value.int .i64 (-1)))], _, _, _, _⟩) (x := .slice (some ⟨w'.heap.size, 0, none⟩) 4 4) (w' := w'.alloc (.cells #[.int .i64 0, .int .i64 19, .int .i64 20, .int .i64 (-1)] 2)) rfl rfl (by clear hA hN; simp only [execOp]; go_simp) ⟨_, rfl, (fun h => by cases h), ⟨_, _, rfl, rfl, hIl.2.2.2, hT⟩, stayDn9 (by decide) (by decide) h10 hIl (hcu.alloc _) hK, fun k y _ h => keepDn9 hg1 (hcu.alloc _) hK k y h⟩
    · intro ll bb w' hs hlf hN hf hIl hA
      clear hi'
      have q0 := hf.kept (s := 0) (by rw [sizeDn9]; kernel_rfl) k0
      exact Rg.op_value (o := ⟨some 41, Op.move (Operand.tmp 0), _, _, _, _⟩) rfl rfl rfl ⟨_, rfl, (fun h => by cases h), (by show Act.eval bb _ = _; simp [Act.eval, q0]), sameDn9 (by decide) (by decide) hIl, fun _ _ _ h => h⟩
    · intro ll bb w' hs hlf hN hf hIl hA
      clear hi'
      have h10 := hN 10 (by kernel_rfl)
      have hcu := (hIl.1 h10).cur
      have q3 : bb.tmps[41]? = some _ := hf.tmp (k := 3) rfl (by rw [ha]; decide) (hA 3 (by kernel_rfl))
      refine Rg.op_call (o := ⟨some 42, Op.call { callee := Callee.value (Operand.func 39), args := #[Operand.tmp 41, Operand.const (Value.int .i64 4)], argTypes := _ }, _, _, _, _⟩) rfl rfl (by clear hA hN; simp only [execOp, resolve]; go_simp) (below_any g ao cap bs 4 w' hcu (by omega)) ?_
      rintro e w2 ⟨y, rfl, hx0, hx1, hc2, hk2⟩
      obtain ⟨n, rfl⟩ := Int.eq_ofNat_of_zero_le hx0
      exact ⟨_, rfl, _, rfl, (fun h => by cases h), ⟨n, rfl, by omega⟩, stayDn9 (by decide) (by decide) h10 hIl hc2 hk2, fun k y _ h => keepDn9 hg1 hc2 hk2 k y h⟩
    · intro ll bb w' hs hlf hN hf hIl hA
      clear hi'
      obtain ⟨T, zs, hT, hzl, hTn, hTb⟩ := hA 2 (by kernel_rfl)
      obtain ⟨n, hn, hnl⟩ := hA 4 (by kernel_rfl)
      have qt : bb.tmps[40]? = some _ := hf.tmp (k := 2) rfl (by rw [ha]; decide) hT
      have qn : bb.tmps[42]? = some _ := hf.tmp (k := 4) rfl (by rw [ha]; decide) hn
      have hnl2 : (n : Int) < 4 := by omega
      exact Rg.op_value (o := ⟨some 43, Op.indexAddr 25 (Operand.tmp 40) (Operand.tmp 42), _, _, _, _⟩) (x := .pointer (some ⟨T, n, none⟩)) rfl rfl (by clear hA hN hT hn hTb hzl; simp only [execOp]; go_simp) ⟨_, rfl, (fun h => by cases h), ⟨T, n, zs, rfl, by omega, hTn, hTb⟩, sameDn9 (by decide) (by decide) hIl, fun _ _ _ h => h⟩
    · intro ll bb w' hs hlf hN hf hIl hA
      clear hi'
      obtain ⟨T, n, zs, hp, hnl, hTn, hTb⟩ := hA 5 (by kernel_rfl)
      have qp : bb.tmps[43]? = some _ := hf.tmp (k := 5) rfl (by rw [ha]; decide) hp
      have hcell := hTb.at hnl
      generalize hz : zs[n] = z at hcell
      exact Rg.op_value (o := ⟨some 44, Op.load 2 (Operand.tmp 43), _, _, _, _⟩) (x := .int .i64 z) rfl rfl (by clear hA hN hp hTb hz; simp only [execOp]; go_simp) ⟨_, rfl, (fun h => by cases h), ⟨z, rfl⟩, sameDn9 (by decide) (by decide) hIl, fun _ _ _ h => h⟩
    · intro ll bb w' hs hlf hN hf hIl hA
      clear hi'
      have h10 := hN 10 (by kernel_rfl)
      have hcu := (hIl.1 h10).cur
      obtain ⟨z, hz⟩ := hA 6 (by kernel_rfl)
      have qz : bb.tmps[44]? = some _ := hf.tmp (k := 6) rfl (by rw [ha]; decide) hz
      have hK : Keep g w' (w'.alloc (.cells #[.int .i64 z] 2)) := (Keep.refl g w').alloc _
      exact Rg.op_value (o := ⟨some 45, Op.buildSlice 25 1 #[(0, Operand.tmp 44)], _, _, _, _⟩) (x := .slice (some ⟨w'.heap.size, 0, none⟩) 1 1) (w' := w'.alloc (.cells #[.int .i64 z] 2)) rfl rfl (by clear hA hN hz; simp only [execOp]; go_simp) ⟨_, rfl, (fun h => by cases h), ⟨_, z, rfl, hIl.2.2.2, PB.new _ _ _⟩, stayDn9 (by decide) (by decide) h10 hIl (hcu.alloc _) hK, fun k y _ h => keepDn9 hg1 (hcu.alloc _) hK k y h⟩
    · intro ll bb w' hs hlf hN hf hIl hA
      clear hi'
      have h10 := hN 10 (by kernel_rfl)
      have hdx := hIl.1 h10
      have hdi := hIl.2.1 hlf
      have q1 : bb.tmps[39]? = some _ := hf.tmp (k := 1) rfl (by rw [ha]; decide) (hA 1 (by kernel_rfl))
      obtain ⟨B, z, hz, hB, hPB⟩ := hA 7 (by kernel_rfl)
      have q7 : bb.tmps[45]? = some _ := hf.tmp (k := 7) rfl (by rw [ha]; decide) hz
      have hsz := hIl.2.2.2
      have hks := hdx.keep.size
      refine Rg.op_append (o := ⟨some 46, Op.call { callee := Callee.builtin Builtin.append, args := #[Operand.tmp 39, Operand.tmp 45], argTypes := #[25, 25] }, _, _, _, _⟩) rfl rfl (Operand.tmp 39) (Operand.tmp 45) 25 rfl w0.heap.size 2 i0 (.int .i64 0) 1 8 Try.underlying25 hi0 hv0 hv1 hv2 rfl (by decide) (.slice ad L.length c) L.length (L.map fun z => Value.int .i64 z) (by simp [Act.eval, q1]) hdi.own ⟨B, 0, none⟩ 1 1 [.int .i64 z] (by simp [Act.eval, q7]) rfl (fun j u hu => by rw [Addr.add_lit, Nat.zero_add, hPB.cell]; simpa using hu) (by simp [Value.oneCell']) (by unfold maxLen; omega) (by omega) hks ?_
      intro v2 w2 ho2 hg2 hat2
      obtain ⟨ad2, c2, rfl⟩ := ownW_slice ho2
      have hap2 : Ap (.slice ad2 (L.length + 1) c2) V R := fun k hk => by
        rcases hat2 with q | q
        · exact hap k (q.symm.trans hk)
        · have : w'.heap.size = k := Option.some.inj (q.symm.trans hk)
          omega
      have hdi2 := hdi.app ho2 hg2
      have hdx2 := hdx.grown hg2 (fun k hk => ⟨(hrk k hk).1, hap k hk⟩)
      refine ⟨_, rfl, (fun h => by cases h), ⟨ad2, c2, z, rfl, hdi2, hap2⟩, ⟨fun _ => hdx2, fun h => (by rw [Rg.set_self hs (by rw [sizeDn9]; decide)] at h; cases h), fun h => (by rw [Rg.set_ne (by decide), h10] at h; cases h), Nat.le_trans hsz hg2.size⟩, fun k y hk h => ?_⟩
      have hfar : ∀ T, w1.heap.size ≤ T → ∀ k, (Value.slice ad L.length c).ownBlock = some k → k ≠ T := fun T hT k hk => by have := (hrk k hk).2; omega
      clear hA hN
      unfold FDn9 at h ⊢
      split at h <;> first
        | exact h
        | (obtain ⟨T, zs, h1, h2, h3, h4⟩ := h; exact ⟨T, zs, h1, h2, h3, h4.1, h4.2.grown hg2 (hfar T h3)⟩)
        | (obtain ⟨T, n, zs, h1, h2, h3, h4⟩ := h; exact ⟨T, n, zs, h1, h2, h3, h4.1, h4.2.grown hg2 (hfar T h3)⟩)
        | (obtain ⟨B, z, h1, h2, h3⟩ := h; exact ⟨B, z, h1, h2, h3.grown hg2 (hfar B h2)⟩)
        | exact absurd rfl hk
    · intro ll bb w' hs hlf hN hf hIl hA
      clear hi'
      have qs := hf.kept (s := 3) (by rw [sizeDn9]; kernel_rfl) k3
      exact Rg.op_value (o := ⟨some 47, Op.fieldAddr 27 (Operand.tmp 3) 2, _, _, _, _⟩) (x := .pointer (some ⟨V, 2, none⟩)) rfl rfl (by clear hA hN; simp only [execOp]; go_simp) ⟨_, rfl, (fun h => by cases h), rfl, sameDn9 (by decide) (by decide) hIl, fun _ _ _ h => h⟩
    · intro ll bb w' hs hlf hN hf hIl hA
      clear hi'
      have hdx := hIl.1 hlf
      obtain ⟨ad2, c2, z, hz, hdi, hap2⟩ := hA 8 (by kernel_rfl)
      have qv : bb.tmps[46]? = some _ := hf.tmp (k := 8) rfl (by rw [ha]; decide) hz
      have qp : bb.tmps[47]? = some _ := hf.tmp (k := 9) rfl (by rw [ha]; decide) (hA 9 (by kernel_rfl))
      obtain ⟨e0, e1, e2⟩ := hdx.box.three
      obtain ⟨f0, f1, f2, -⟩ := hdx.box.cold
      have hdx2 := hdx.put 2 (.slice ad2 (L.length + 1) c2) (vs' := #[.int .i64 x.p, .int .i64 x.g, .slice ad2 (L.length + 1) c2]) (by simp)
      have hdi2 := hdi.far hdx.vv hap2 2 (.slice ad2 (L.length + 1) c2)
      have hE : IDn9 w0 w1.heap.size g ao cap bs R V x ad c L (ll.setIfInBounds 10 true) (w'.setCell ⟨V, 2, none⟩ (.slice ad2 (L.length + 1) c2)) :=
        ⟨fun h => (by rw [Rg.set_self hs (by rw [sizeDn9]; decide)] at h; cases h), fun h => (hIl.2.1 (by rwa [Rg.set_ne (by decide)] at h)).far hdx.vv hap 2 _, fun _ => ⟨ad2, c2, z, hdx2, hdi2, hap2⟩, by have := hIl.2.2.2; simpa [World.setCell] using this⟩
      have hst : ∀ k y, FDn9 w0 w1.heap.size g ao cap bs R V x ad c L k y w' → FDn9 w0 w1.heap.size g ao cap bs R V x ad c L k y (w'.setCell ⟨V, 2, none⟩ (.slice ad2 (L.length + 1) c2)) := fun k y h => by
        have hvv := hdx.vv
        unfold FDn9 at h ⊢
        split at h <;> first
          | exact h
          | (obtain ⟨T, zs, h1, h2, h3, h4⟩ := h; exact ⟨T, zs, h1, h2, h3, h4.1, h4.2.far (by omega) 2 _⟩)
          | (obtain ⟨T, n, zs, h1, h2, h3, h4⟩ := h; exact ⟨T, n, zs, h1, h2, h3, h4.1, h4.2.far (by omega) 2 _⟩)
          | (obtain ⟨B, z, h1, h2, h3⟩ := h; exact ⟨B, z, h1, h2, h3.far (by omega) 2 _⟩)
          | (obtain ⟨a', c', z, h1, h2, h3⟩ := h; exact ⟨a', c', z, h1, h2.far hvv h3 2 _, h3⟩)
      clear hA hf hz hN hIl hdx hdx2 hdi hdi2
      refine Rg.op_skip (o := ⟨none, Op.store 25 (Operand.tmp 47) (Operand.tmp 46), _, _, _, _⟩) (w' := w'.setCell ⟨V, 2, none⟩ (.slice ad2 (L.length + 1) c2)) rfl rfl ?_ ⟨undef, (by rw [dDn9_10]), (fun _ => trivial), trivial, hE, fun k y _ h => hst k y h⟩
      clear hE hst
      simp only [execOp]
      go_simp
theorem dDn9_0 : Rg.dstAt (Rg.opsOf Try.f37 9) 0 = some 38 := by kernel_rfl
theorem dDn9_1 : Rg.dstAt (Rg.opsOf Try.f37 9) 1 = some 39 := by kernel_rfl
theorem dDn9_2 : Rg.dstAt (Rg.opsOf Try.f37 9) 2 = some 40 := by kernel_rfl
theorem dDn9_3 : Rg.dstAt (Rg.opsOf Try.f37 9) 3 = some 41 := by kernel_rfl
theorem dDn9_4 : Rg.dstAt (Rg.opsOf Try.f37 9) 4 = some 42 := by kernel_rfl
theorem dDn9_5 : Rg.dstAt (Rg.opsOf Try.f37 9) 5 = some 43 := by kernel_rfl
theorem dDn9_6 : Rg.dstAt (Rg.opsOf Try.f37 9) 6 = some 44 := by kernel_rfl
theorem dDn9_7 : Rg.dstAt (Rg.opsOf Try.f37 9) 7 = some 45 := by kernel_rfl
theorem dDn9_8 : Rg.dstAt (Rg.opsOf Try.f37 9) 8 = some 46 := by kernel_rfl
theorem dDn9_9 : Rg.dstAt (Rg.opsOf Try.f37 9) 9 = some 47 := by kernel_rfl
theorem layDn9 {a b : Act} (hf : Rg.Fr (Rg.opsOf Try.f37 9) a b) : b = ((((((((((a.put (some 38) (Rg.out (Rg.opsOf Try.f37 9) b 0)).put (some 39) (Rg.out (Rg.opsOf Try.f37 9) b 1)).put (some 40) (Rg.out (Rg.opsOf Try.f37 9) b 2)).put (some 41) (Rg.out (Rg.opsOf Try.f37 9) b 3)).put (some 42) (Rg.out (Rg.opsOf Try.f37 9) b 4)).put (some 43) (Rg.out (Rg.opsOf Try.f37 9) b 5)).put (some 44) (Rg.out (Rg.opsOf Try.f37 9) b 6)).put (some 45) (Rg.out (Rg.opsOf Try.f37 9) b 7)).put (some 46) (Rg.out (Rg.opsOf Try.f37 9) b 8)).put (some 47) (Rg.out (Rg.opsOf Try.f37 9) b 9)) := by
  have h := hf.chain
  rw [sizeDn9, show List.range 11 = [0, 1, 2, 3, 4, 5, 6, 7, 8, 9, 10] from by decide] at h
  simp only [List.foldl_cons, List.foldl_nil, dDn9_0, dDn9_1, dDn9_2, dDn9_3, dDn9_4, dDn9_5, dDn9_6, dDn9_7, dDn9_8, dDn9_9, dDn9_10, put_noneD] at h
  exact h
end Go.Proofs.Ytgcpiinmcbdkmaa
