/-
  A law that is drawn: one fact more, put into its box.
-/
import Derived.Test.YtfhecdedanlmfaaF2
import Derived.Test.YtfhecdedanlmfaaRk
namespace Go.Proofs.Ytfhecdedanlmfaa
open Go.RowKit Va Rc
set_option linter.all false

theorem put_noneF (a : Act) (v : Value) : a.put none v = a := rfl
/-- A law's box V beside a cursor at g. -/
structure DV (w0 W : World) (g : Nat) (ao : Option Addr) (cap : Nat) (bs : List Int) (V : Nat) (vs : Array Value) : Prop where
  cur : Cur W g ao cap bs
  keep : Keep g w0 W
  box : PB W V vs 31
  gg : g < w0.heap.size
  vv : w0.heap.size ≤ V
section
variable {w0 W W' : World} {g cap V : Nat} {ao : Option Addr} {bs : List Int} {vs : Array Value}
theorem DV.gV (h : DV w0 W g ao cap bs V vs) : V ≠ g := by have := h.gg; have := h.vv; omega
theorem DV.call (h : DV w0 W g ao cap bs V vs) (hc : Cur W' g ao cap bs) (hk : Keep g W W') : DV w0 W' g ao cap bs V vs :=
  ⟨hc, h.keep.trans hk, h.box.keep hk h.gV, h.gg, h.vv⟩
theorem DV.alloc (h : DV w0 W g ao cap bs V vs) (o : Obj) : DV w0 (W.alloc o) g ao cap bs V vs := h.call (h.cur.alloc o) ((Keep.refl g W).alloc o)
theorem DV.put (h : DV w0 W g ao cap bs V vs) (j : Nat) (u : Value) {vs' : Array Value} (e : vs.setIfInBounds j u = vs') : DV w0 (W.setCell ⟨V, j, none⟩ u) g ao cap bs V vs' := by
  have := h.gg
  have := h.vv
  exact ⟨h.cur.far (by omega) u, Keep.far (n := 0) h.keep h.vv u, h.box.put j u e, h.gg, h.vv⟩
theorem DV.grown {r : Option Nat} (h : DV w0 W g ao cap bs V vs) (hg : W.grownBy W' r) (hr : ∀ k, r = some k → w0.heap.size ≤ k ∧ k ≠ V) : DV w0 W' g ao cap bs V vs := by
  have hgg := h.gg
  have hb : Below w0.heap.size W W' := (Below.refl _ _).grown hg h.keep.size (fun k hk => (hr k hk).1)
  exact ⟨h.cur.below (hb.mono hgg), ⟨hb.os.trans h.keep.os, hb.tape.trans h.keep.tape, hb.output.trans h.keep.output, Nat.le_trans h.keep.size hg.size, fun i hi hig => (hb.block i hi).trans (h.keep.block i hi hig)⟩, h.box.grown hg (fun k hk => (hr k hk).2), h.gg, h.vv⟩
end
theorem DI.farT {w0 W : World} {g cap : Nat} {ao : Option Addr} {bs : List Int} {v : Value} {l : List Int} (h : DI w0 W g ao cap bs v l) {V : Nat} {vs : Array Value} (hV : w0.heap.size ≤ V) (hb : PB W V vs 31) (j : Nat) (u : Value) : DI w0 (W.setCell ⟨V, j, none⟩ u) g ao cap bs v l :=
  h.far (R := V) hV (fun k hk => ⟨hb.neQ h.own (by decide) k hk, hb.neQ h.own (by decide) k hk⟩) j u
/-- Nothing elder has turned but the cursor, the box and the row that grows. -/
def FR (w1 : World) (g V : Nat) (vo : Value) (w : World) : Prop := ∀ b, b < w1.heap.size → b ≠ g → b ≠ V → vo.ownBlock ≠ some b → w.heap[b]? = w1.heap[b]?
theorem FR.keep {w1 w w' : World} {g V : Nat} {vo : Value} (h : FR w1 g V vo w) (hs : w1.heap.size ≤ w.heap.size) (hk : Keep g w w') : FR w1 g V vo w' := fun b hb hg hV hv => (hk.block b (by omega) hg).trans (h b hb hg hV hv)
theorem FR.grown {w1 w w' : World} {g V : Nat} {vo : Value} (h : FR w1 g V vo w) (hs : w1.heap.size ≤ w.heap.size) (hg : w.grownBy w' vo.ownBlock) : FR w1 g V vo w' := fun b hb hgg hV hv => (hg.block b (by omega) (fun e => hv e.symm)).trans (h b hb hgg hV hv)
theorem FR.put {w1 w : World} {g V : Nat} {vo : Value} (h : FR w1 g V vo w) (j : Nat) (u : Value) : FR w1 g V vo (w.setCell ⟨V, j, none⟩ u) := fun b hb hg hV hv => (Below.heap_setCell _ _ _ _ hV).trans (h b hb hg hV hv)
theorem own_fr {w1 w : World} {g V base n : Nat} {vo v : Value} {xs : List Value} {vs : Array Value} (h : FR w1 g V vo w) (ho : w1.ownsRow base 2 1 v n xs) (hg : g < base) (hV : PB w1 V vs 31) (hv : ∀ k, v.ownBlock = some k → vo.ownBlock ≠ some k) : w.ownsRow base 2 1 v n xs := by
  have hn := hV.neQ ho (by decide)
  have hl := ownW_lt ho
  obtain ⟨q, ⟨q1, q2⟩ | ⟨b, c, cur, rfl, hb, hh, r⟩⟩ := ho
  · exact ⟨q, Or.inl ⟨q1, q2⟩⟩
  · exact ⟨q, Or.inr ⟨b, c, cur, rfl, hb, (h b (hl b rfl).2 (by omega) (hn b rfl) (hv b rfl)).trans hh, r⟩⟩

def FL9 (w0 : World) (n1 g : Nat) (ao : Option Addr) (cap : Nat) (bs : List Int) (V : Nat) (w1 : World) (ov : Value) (th : Int) (ad : Option Addr) (c : Nat) (L : List Int) (k : Nat) (v : Value) (w : World) : Prop :=
  match k with
  | 0 => v = .pointer (some ⟨V, 0, none⟩)
  | 1 => v = .slice ad L.length c
  | 2 => v = .pointer (some ⟨g, 0, none⟩)
  | 3 => v = .pointer (some ⟨V, 2, none⟩)
  | 4 => v = .int .i64 th
  | 5 => ∃ z : Int, v = .int .i64 z
  | 6 => ∃ B z, v = .slice (some ⟨B, 0, none⟩) 1 1 ∧ n1 ≤ B ∧ PB w B #[.int .i64 z] 2
  | 7 => ∃ ad' c' z, v = .slice ad' (L.length + 1) c' ∧ DI w0 w g ao cap bs (.slice ad' (L.length + 1) c') (L ++ [z])
  | 8 => v = .pointer (some ⟨V, 0, none⟩)
  | _ => True
def IL9 (w0 : World) (n1 g : Nat) (ao : Option Addr) (cap : Nat) (bs : List Int) (V : Nat) (w1 : World) (ov : Value) (th : Int) (ad : Option Addr) (c : Nat) (L : List Int) (l : Array Bool) (w : World) : Prop :=
  (l.getD 9 false = false → DV w0 w g ao cap bs V #[(.slice ad L.length c), ov, .int .i64 th]) ∧ (l.getD 7 false = false → DI w0 w g ao cap bs (.slice ad L.length c) L) ∧
    (l.getD 9 false = true → ∃ ad' c' z, DV w0 w g ao cap bs V #[(.slice ad' (L.length + 1) c'), ov, .int .i64 th] ∧ DI w0 w g ao cap bs (.slice ad' (L.length + 1) c') (L ++ [z])) ∧ n1 ≤ w.heap.size ∧ FR w1 g V (.slice ad L.length c) w
theorem keepL9 {w0 : World} {n1 g : Nat} {ao : Option Addr} {cap : Nat} {bs : List Int} {V : Nat} {w1 : World} {ov : Value} {th : Int} {ad : Option Addr} {c : Nat} {L : List Int} {w w' : World} (hg : g < n1) (hc : Cur w' g ao cap bs) (hk : Keep g w w') (k : Nat) (v : Value) (h : FL9 w0 n1 g ao cap bs V w1 ov th ad c L k v w) : FL9 w0 n1 g ao cap bs V w1 ov th ad c L k v w' := by
  unfold FL9 at *
  split at h <;> first
    | exact h
    | (obtain ⟨B, z, h1, h2, h3⟩ := h; exact ⟨B, z, h1, h2, h3.keep hk (by omega)⟩)
    | (obtain ⟨a', c', z, h1, h2⟩ := h; exact ⟨a', c', z, h1, h2.call hc hk⟩)
theorem stayL9 {w0 : World} {n1 g : Nat} {ao : Option Addr} {cap : Nat} {bs : List Int} {V : Nat} {w1 : World} {ov : Value} {th : Int} {ad : Option Addr} {c : Nat} {L : List Int} {l : Array Bool} {w w' : World} {i : Nat} (hi : i ≠ 7) (hi2 : i ≠ 9) (hn : w1.heap.size ≤ n1) (h9 : l.getD 9 false = false) (hI : IL9 w0 n1 g ao cap bs V w1 ov th ad c L l w) (hc : Cur w' g ao cap bs) (hk : Keep g w w') : IL9 w0 n1 g ao cap bs V w1 ov th ad c L (l.setIfInBounds i true) w' :=
  ⟨fun _ => (hI.1 h9).call hc hk, fun h => (hI.2.1 (by rwa [Rg.set_ne hi] at h)).call hc hk, fun h => (by rw [Rg.set_ne hi2, h9] at h; cases h), Nat.le_trans hI.2.2.2.1 hk.size, hI.2.2.2.2.keep (Nat.le_trans hn hI.2.2.2.1) hk⟩
theorem sameL9 {w0 : World} {n1 g : Nat} {ao : Option Addr} {cap : Nat} {bs : List Int} {V : Nat} {w1 : World} {ov : Value} {th : Int} {ad : Option Addr} {c : Nat} {L : List Int} {l : Array Bool} {w : World} {i : Nat} (hi : i ≠ 7) (hi2 : i ≠ 9) (hI : IL9 w0 n1 g ao cap bs V w1 ov th ad c L l w) : IL9 w0 n1 g ao cap bs V w1 ov th ad c L (l.setIfInBounds i true) w := by
  unfold IL9
  rw [Rg.set_ne hi, Rg.set_ne hi2]
  exact hI
theorem sizeL9 : (Rg.opsOf Try.f18 9).size = 10 := by kernel_rfl
theorem dL9_9 : Rg.dstAt (Rg.opsOf Try.f18 9) 9 = none := by kernel_rfl

set_option maxRecDepth 20000 in
set_option maxHeartbeats 8000000 in
theorem regL9 {Q : Exit → Act → World → Prop} {a : Act} {w1 w0 : World} {g : Nat} {ao : Option Addr} {cap : Nat} {bs : List Int} {V : Nat} {ov : Value} {th : Int} {ad : Option Addr} {c : Nat} {L : List Int} (ha : a.tmps.size = 84)
    (k0 : a.tmps[0]? = some (.pointer (some ⟨g, 0, none⟩))) (k5 : a.tmps[5]? = some (.pointer (some ⟨V, 0, none⟩))) (hd : DV w0 w1 g ao cap bs V #[(.slice ad L.length c), ov, .int .i64 th]) (hr : DI w0 w1 g ao cap bs (.slice ad L.length c) L) (hL : L.length ≤ 100) (hth : 0 < th)
    (hend : ∀ b' w' ad' c' z, Rg.Fr (Rg.opsOf Try.f18 9) a b' → DV w0 w' g ao cap bs V #[(.slice ad' (L.length + 1) c'), ov, .int .i64 th] → DI w0 w' g ao cap bs (.slice ad' (L.length + 1) c') (L ++ [z]) → FR w1 g V (.slice ad L.length c) w' → w1.heap.size ≤ w'.heap.size → Q .normal b' w') :
    (Code.region 9 (Rg.opsOf Try.f18 9) true).wp Try.prog Q a w1 := by
  obtain ⟨i0, hi0, hv0, hv1, hv2⟩ := info_partsW infoW64
  have hg1 : g < w1.heap.size := hd.cur.1
  have hrk : ∀ k, (Value.slice ad L.length c).ownBlock = some k → w0.heap.size ≤ k ∧ k < w1.heap.size := ownW_lt hr.own
  have hV1 : V < w1.heap.size := hd.box.lt
  have hVg := hd.gV
  have hgg := hd.gg
  have hvv := hd.vv
  refine Rg.region_set2 (by kernel_rfl) (IL9 w0 w1.heap.size g ao cap bs V w1 ov th ad c L) (FL9 w0 w1.heap.size g ao cap bs V w1 ov th ad c L) (by rw [ha, sizeL9]; kernel_rfl) ⟨fun _ => hd.call (hd.cur.drewN 1) ((Keep.refl g w1).drewN 1), fun _ => hr.drewN 1, fun h => (by rw [Rg.none_yet] at h; cases h), Nat.le_refl _, fun b hb _ _ _ => rfl⟩ ?_ ?_
  case refine_2 =>
    intro l b' w' hf hall hI hA
    rw [sizeL9] at hall
    obtain ⟨ad', c', z, h1, h2⟩ := hI.2.2.1 (hall 9 (by omega))
    exact hend b' w' ad' c' z hf h1 h2 hI.2.2.2.2 hI.2.2.2.1
  case refine_1 =>
    clear hend
    intro i' hi'
    rw [sizeL9] at hi'
    rcases (show i' = 0 ∨ i' = 1 ∨ i' = 2 ∨ i' = 3 ∨ i' = 4 ∨ i' = 5 ∨ i' = 6 ∨ i' = 7 ∨ i' = 8 ∨ i' = 9 by omega) with rfl | rfl | rfl | rfl | rfl | rfl | rfl | rfl | rfl | rfl
    · intro ll bb w' hs hlf hN hf hIl hA
      clear hi'
      have qs := hf.kept (s := 5) (by rw [sizeL9]; kernel_rfl) k5
      exact Rg.op_value (o := ⟨some 28, Op.fieldAddr 31 (Operand.tmp 5) 0, _, _, _, _⟩) (x := .pointer (some ⟨V, 0, none⟩)) rfl rfl (by clear hA hN; simp only [execOp]; go_simp) ⟨_, rfl, (fun h => by cases h), rfl, sameL9 (by decide) (by decide) hIl, fun _ _ _ h => h⟩
    · intro ll bb w' hs hlf hN hf hIl hA
      clear hi'
      have h9 := hN 9 (by kernel_rfl)
      obtain ⟨e0, e1, e2⟩ := (hIl.1 h9).box.three
      have q0 : bb.tmps[28]? = some _ := hf.tmp (k := 0) rfl (by rw [ha]; decide) (hA 0 (by kernel_rfl))
      exact Rg.op_value (o := ⟨some 29, Op.load 24 (Operand.tmp 28), _, _, _, _⟩) (x := .slice ad L.length c) rfl rfl (by clear hA hN; simp only [execOp]; go_simp) ⟨_, rfl, (fun h => by cases h), rfl, sameL9 (by decide) (by decide) hIl, fun _ _ _ h => h⟩
    · intro ll bb w' hs hlf hN hf hIl hA
      clear hi'
      have q0 := hf.kept (s := 0) (by rw [sizeL9]; kernel_rfl) k0
      exact Rg.op_value (o := ⟨some 30, Op.move (Operand.tmp 0), _, _, _, _⟩) rfl rfl rfl ⟨_, rfl, (fun h => by cases h), (by show Act.eval bb _ = _; simp [Act.eval, q0]), sameL9 (by decide) (by decide) hIl, fun _ _ _ h => h⟩
    · intro ll bb w' hs hlf hN hf hIl hA
      clear hi'
      have qs := hf.kept (s := 5) (by rw [sizeL9]; kernel_rfl) k5
      exact Rg.op_value (o := ⟨some 31, Op.fieldAddr 31 (Operand.tmp 5) 2, _, _, _, _⟩) (x := .pointer (some ⟨V, 2, none⟩)) rfl rfl (by clear hA hN; simp only [execOp]; go_simp) ⟨_, rfl, (fun h => by cases h), rfl, sameL9 (by decide) (by decide) hIl, fun _ _ _ h => h⟩
    · intro ll bb w' hs hlf hN hf hIl hA
      clear hi'
      have h9 := hN 9 (by kernel_rfl)
      obtain ⟨e0, e1, e2⟩ := (hIl.1 h9).box.three
      have q0 : bb.tmps[31]? = some _ := hf.tmp (k := 3) rfl (by rw [ha]; decide) (hA 3 (by kernel_rfl))
      exact Rg.op_value (o := ⟨some 32, Op.load 2 (Operand.tmp 31), _, _, _, _⟩) (x := .int .i64 th) rfl rfl (by clear hA hN; simp only [execOp]; go_simp) ⟨_, rfl, (fun h => by cases h), rfl, sameL9 (by decide) (by decide) hIl, fun _ _ _ h => h⟩
    · intro ll bb w' hs hlf hN hf hIl hA
      clear hi'
      have h9 := hN 9 (by first | kernel_rfl | exact rfl)
      have hcu := (hIl.1 h9).cur
      have q2 : bb.tmps[30]? = some _ := hf.tmp (k := 2) rfl (by rw [ha]; decide) (hA 2 (by kernel_rfl))
      have q4 : bb.tmps[32]? = some _ := hf.tmp (k := 4) rfl (by rw [ha]; decide) (hA 4 (by kernel_rfl))
      refine Rg.op_call (o := ⟨some 33, Op.call { callee := Callee.value (Operand.func 26), args := #[Operand.tmp 30, Operand.tmp 32], argTypes := _ }, _, _, _, _⟩) rfl rfl (by clear hA hN; simp only [execOp, resolve]; go_simp) (below_any g ao cap bs th w' hcu hth) ?_
      rintro e w2 ⟨y, rfl, hx0, hx1, hc2, hk2⟩
      exact ⟨_, rfl, _, rfl, (fun h => by cases h), ⟨y, rfl⟩, stayL9 (by decide) (by decide) (Nat.le_refl _) h9 hIl hc2 hk2, fun k y _ h => keepL9 hg1 hc2 hk2 k y h⟩
    · intro ll bb w' hs hlf hN hf hIl hA
      clear hi'
      have h9 := hN 9 (by first | kernel_rfl | exact rfl)
      have hcu := (hIl.1 h9).cur
      obtain ⟨z, hz⟩ := hA 5 (by kernel_rfl)
      have qz : bb.tmps[33]? = some _ := hf.tmp (k := 5) rfl (by rw [ha]; decide) hz
      have hK : Keep g w' (w'.alloc (.cells #[.int .i64 z] 2)) := (Keep.refl g w').alloc _
      exact Rg.op_value (o := ⟨some 34, Op.buildSlice 24 1 #[(0, Operand.tmp 33)], _, _, _, _⟩) (x := .slice (some ⟨w'.heap.size, 0, none⟩) 1 1) (w' := w'.alloc (.cells #[.int .i64 z] 2)) rfl rfl (by clear hA hN hz; simp only [execOp]; go_simp) ⟨_, rfl, (fun h => by cases h), ⟨_, z, rfl, hIl.2.2.2.1, PB.new _ _ _⟩, stayL9 (by decide) (by decide) (Nat.le_refl _) h9 hIl (hcu.alloc _) hK, fun k y _ h => keepL9 hg1 (hcu.alloc _) hK k y h⟩
    · intro ll bb w' hs hlf hN hf hIl hA
      clear hi'
      have h9 := hN 9 (by first | kernel_rfl | exact rfl)
      have hdx := hIl.1 h9
      have hdi := hIl.2.1 hlf
      have q1 : bb.tmps[29]? = some _ := hf.tmp (k := 1) rfl (by rw [ha]; decide) (hA 1 (by kernel_rfl))
      obtain ⟨B, z, hz, hB, hPB⟩ := hA 6 (by kernel_rfl)
      have q7 : bb.tmps[34]? = some _ := hf.tmp (k := 6) rfl (by rw [ha]; decide) hz
      have hsz := hIl.2.2.2.1
      have hks := hdx.keep.size
      refine Rg.op_append (o := ⟨some 35, Op.call { callee := Callee.builtin Builtin.append, args := #[Operand.tmp 29, Operand.tmp 34], argTypes := #[24, 24] }, _, _, _, _⟩) rfl rfl (Operand.tmp 29) (Operand.tmp 34) 24 rfl w0.heap.size 2 i0 (.int .i64 0) 1 8 Try.underlying24 hi0 hv0 hv1 hv2 rfl (by decide) (.slice ad L.length c) L.length (L.map fun z => Value.int .i64 z) (by simp [Act.eval, q1]) hdi.own ⟨B, 0, none⟩ 1 1 [.int .i64 z] (by simp [Act.eval, q7]) rfl (fun j u hu => by rw [Addr.add_lit, Nat.zero_add, hPB.cell]; simpa using hu) (by simp [Value.oneCell']) (by unfold maxLen; omega) (by omega) hks ?_
      intro v2 w2 ho2 hg2 hat2
      obtain ⟨ad2, c2, rfl⟩ := ownW_slice ho2
      have hdi2 := hdi.app ho2 hg2
      have hdx2 := hdx.grown hg2 (fun k hk => ⟨(hrk k hk).1, hdx.box.neQ hdi.own (by decide) k hk⟩)
      refine ⟨_, rfl, (fun h => by cases h), ⟨ad2, c2, z, rfl, hdi2⟩, ⟨fun _ => hdx2, fun h => (by rw [Rg.set_self hs (by rw [sizeL9]; decide)] at h; cases h), fun h => (by rw [Rg.set_ne (by decide), h9] at h; cases h), Nat.le_trans hsz hg2.size, hIl.2.2.2.2.grown hsz hg2⟩, fun k y hk h => ?_⟩
      have hfar : ∀ T, w1.heap.size ≤ T → ∀ k, (Value.slice ad L.length c).ownBlock = some k → k ≠ T := fun T hT k hk => by have := (hrk k hk).2; omega
      clear hA hN
      unfold FL9 at h ⊢
      split at h <;> first
        | exact h
        | (obtain ⟨B, z, h1, h2, h3⟩ := h; exact ⟨B, z, h1, h2, h3.grown hg2 (hfar B h2)⟩)
        | exact absurd rfl hk
    · intro ll bb w' hs hlf hN hf hIl hA
      clear hi'
      have qs := hf.kept (s := 5) (by rw [sizeL9]; kernel_rfl) k5
      exact Rg.op_value (o := ⟨some 36, Op.fieldAddr 31 (Operand.tmp 5) 0, _, _, _, _⟩) (x := .pointer (some ⟨V, 0, none⟩)) rfl rfl (by clear hA hN; simp only [execOp]; go_simp) ⟨_, rfl, (fun h => by cases h), rfl, sameL9 (by decide) (by decide) hIl, fun _ _ _ h => h⟩
    · intro ll bb w' hs hlf hN hf hIl hA
      clear hi'
      have hdx := hIl.1 hlf
      obtain ⟨ad2, c2, z, hv, hdi⟩ := hA 7 (by kernel_rfl)
      have q8 : bb.tmps[36]? = some _ := hf.tmp (k := 8) rfl (by rw [ha]; decide) (hA 8 (by kernel_rfl))
      have q7 : bb.tmps[35]? = some _ := hf.tmp (k := 7) rfl (by rw [ha]; decide) hv
      obtain ⟨e0, e1, e2⟩ := hdx.box.three
      obtain ⟨f0, f1, f2, -⟩ := hdx.box.cold
      have hsz := hIl.2.2.2.1
      have hdx2 := hdx.put 0 (.slice ad2 (L.length + 1) c2) (vs' := #[(.slice ad2 (L.length + 1) c2), ov, .int .i64 th]) (by simp)
      have hdi2 := hdi.farT hvv hdx.box 0 (.slice ad2 (L.length + 1) c2)
      have hz : (w'.setCell ⟨V, 0, none⟩ (.slice ad2 (L.length + 1) c2)).heap.size = w'.heap.size := by simp [World.setCell]
      have hE : IL9 w0 w1.heap.size g ao cap bs V w1 ov th ad c L (ll.setIfInBounds 9 true) (w'.setCell ⟨V, 0, none⟩ (.slice ad2 (L.length + 1) c2)) :=
        ⟨fun h => (by rw [Rg.set_self hs (by rw [sizeL9]; decide)] at h; cases h), fun h => (hIl.2.1 (by rwa [Rg.set_ne (by decide)] at h)).farT hvv hdx.box 0 _, fun _ => ⟨ad2, c2, z, hdx2, hdi2⟩, by rw [hz]; exact hsz, hIl.2.2.2.2.put _ _⟩
      have hst : ∀ k y, FL9 w0 w1.heap.size g ao cap bs V w1 ov th ad c L k y w' → FL9 w0 w1.heap.size g ao cap bs V w1 ov th ad c L k y (w'.setCell ⟨V, 0, none⟩ (.slice ad2 (L.length + 1) c2)) := fun k y h => by
        have hbx := hdx.box
        unfold FL9 at h ⊢
        split at h <;> first
          | exact h
          | (obtain ⟨B, z, h1, h2, h3⟩ := h; exact ⟨B, z, h1, h2, h3.far (by omega) 0 _⟩)
          | (obtain ⟨a', c', z, h1, h2⟩ := h; exact ⟨a', c', z, h1, h2.farT hvv hbx 0 _⟩)
      clear hA hf hv hN hIl hdx hdx2 hdi hdi2 hz
      refine Rg.op_skip (o := ⟨none, Op.store 24 (Operand.tmp 36) (Operand.tmp 35), _, _, _, _⟩) (w' := w'.setCell ⟨V, 0, none⟩ (.slice ad2 (L.length + 1) c2)) rfl rfl ?_ ⟨undef, (by rw [dL9_9]), (fun _ => trivial), trivial, hE, fun k y _ h => hst k y h⟩
      clear hE hst
      simp only [execOp]
      go_simp

theorem dL9_0 : Rg.dstAt (Rg.opsOf Try.f18 9) 0 = some 28 := by kernel_rfl
theorem dL9_1 : Rg.dstAt (Rg.opsOf Try.f18 9) 1 = some 29 := by kernel_rfl
theorem dL9_2 : Rg.dstAt (Rg.opsOf Try.f18 9) 2 = some 30 := by kernel_rfl
theorem dL9_3 : Rg.dstAt (Rg.opsOf Try.f18 9) 3 = some 31 := by kernel_rfl
theorem dL9_4 : Rg.dstAt (Rg.opsOf Try.f18 9) 4 = some 32 := by kernel_rfl
theorem dL9_5 : Rg.dstAt (Rg.opsOf Try.f18 9) 5 = some 33 := by kernel_rfl
theorem dL9_6 : Rg.dstAt (Rg.opsOf Try.f18 9) 6 = some 34 := by kernel_rfl
theorem dL9_7 : Rg.dstAt (Rg.opsOf Try.f18 9) 7 = some 35 := by kernel_rfl
theorem dL9_8 : Rg.dstAt (Rg.opsOf Try.f18 9) 8 = some 36 := by kernel_rfl
theorem layL9 {a b : Act} (hf : Rg.Fr (Rg.opsOf Try.f18 9) a b) : b = (((((((((a.put (some 28) (Rg.out (Rg.opsOf Try.f18 9) b 0)).put (some 29) (Rg.out (Rg.opsOf Try.f18 9) b 1)).put (some 30) (Rg.out (Rg.opsOf Try.f18 9) b 2)).put (some 31) (Rg.out (Rg.opsOf Try.f18 9) b 3)).put (some 32) (Rg.out (Rg.opsOf Try.f18 9) b 4)).put (some 33) (Rg.out (Rg.opsOf Try.f18 9) b 5)).put (some 34) (Rg.out (Rg.opsOf Try.f18 9) b 6)).put (some 35) (Rg.out (Rg.opsOf Try.f18 9) b 7)).put (some 36) (Rg.out (Rg.opsOf Try.f18 9) b 8)) := by
  have h := hf.chain
  rw [sizeL9, show List.range 10 = [0, 1, 2, 3, 4, 5, 6, 7, 8, 9] from by decide] at h
  simp only [List.foldl_cons, List.foldl_nil, dL9_0, dL9_1, dL9_2, dL9_3, dL9_4, dL9_5, dL9_6, dL9_7, dL9_8, dL9_9, put_noneF] at h
  exact h

def FL11 (w0 : World) (n1 g : Nat) (ao : Option Addr) (cap : Nat) (bs : List Int) (V : Nat) (w1 : World) (ov : Value) (th : Int) (ad : Option Addr) (c : Nat) (L : List Int) (k : Nat) (v : Value) (w : World) : Prop :=
  match k with
  | 0 => v = .pointer (some ⟨V, 1, none⟩)
  | 1 => v = .slice ad L.length c
  | 2 => v = .pointer (some ⟨g, 0, none⟩)
  | 3 => v = .pointer (some ⟨V, 2, none⟩)
  | 4 => v = .int .i64 th
  | 5 => ∃ z : Int, v = .int .i64 z
  | 6 => ∃ B z, v = .slice (some ⟨B, 0, none⟩) 1 1 ∧ n1 ≤ B ∧ PB w B #[.int .i64 z] 2
  | 7 => ∃ ad' c' z, v = .slice ad' (L.length + 1) c' ∧ DI w0 w g ao cap bs (.slice ad' (L.length + 1) c') (L ++ [z])
  | 8 => v = .pointer (some ⟨V, 1, none⟩)
  | _ => True
def IL11 (w0 : World) (n1 g : Nat) (ao : Option Addr) (cap : Nat) (bs : List Int) (V : Nat) (w1 : World) (ov : Value) (th : Int) (ad : Option Addr) (c : Nat) (L : List Int) (l : Array Bool) (w : World) : Prop :=
  (l.getD 9 false = false → DV w0 w g ao cap bs V #[ov, (.slice ad L.length c), .int .i64 th]) ∧ (l.getD 7 false = false → DI w0 w g ao cap bs (.slice ad L.length c) L) ∧
    (l.getD 9 false = true → ∃ ad' c' z, DV w0 w g ao cap bs V #[ov, (.slice ad' (L.length + 1) c'), .int .i64 th] ∧ DI w0 w g ao cap bs (.slice ad' (L.length + 1) c') (L ++ [z])) ∧ n1 ≤ w.heap.size ∧ FR w1 g V (.slice ad L.length c) w
theorem keepL11 {w0 : World} {n1 g : Nat} {ao : Option Addr} {cap : Nat} {bs : List Int} {V : Nat} {w1 : World} {ov : Value} {th : Int} {ad : Option Addr} {c : Nat} {L : List Int} {w w' : World} (hg : g < n1) (hc : Cur w' g ao cap bs) (hk : Keep g w w') (k : Nat) (v : Value) (h : FL11 w0 n1 g ao cap bs V w1 ov th ad c L k v w) : FL11 w0 n1 g ao cap bs V w1 ov th ad c L k v w' := by
  unfold FL11 at *
  split at h <;> first
    | exact h
    | (obtain ⟨B, z, h1, h2, h3⟩ := h; exact ⟨B, z, h1, h2, h3.keep hk (by omega)⟩)
    | (obtain ⟨a', c', z, h1, h2⟩ := h; exact ⟨a', c', z, h1, h2.call hc hk⟩)
theorem stayL11 {w0 : World} {n1 g : Nat} {ao : Option Addr} {cap : Nat} {bs : List Int} {V : Nat} {w1 : World} {ov : Value} {th : Int} {ad : Option Addr} {c : Nat} {L : List Int} {l : Array Bool} {w w' : World} {i : Nat} (hi : i ≠ 7) (hi2 : i ≠ 9) (hn : w1.heap.size ≤ n1) (h9 : l.getD 9 false = false) (hI : IL11 w0 n1 g ao cap bs V w1 ov th ad c L l w) (hc : Cur w' g ao cap bs) (hk : Keep g w w') : IL11 w0 n1 g ao cap bs V w1 ov th ad c L (l.setIfInBounds i true) w' :=
  ⟨fun _ => (hI.1 h9).call hc hk, fun h => (hI.2.1 (by rwa [Rg.set_ne hi] at h)).call hc hk, fun h => (by rw [Rg.set_ne hi2, h9] at h; cases h), Nat.le_trans hI.2.2.2.1 hk.size, hI.2.2.2.2.keep (Nat.le_trans hn hI.2.2.2.1) hk⟩
theorem sameL11 {w0 : World} {n1 g : Nat} {ao : Option Addr} {cap : Nat} {bs : List Int} {V : Nat} {w1 : World} {ov : Value} {th : Int} {ad : Option Addr} {c : Nat} {L : List Int} {l : Array Bool} {w : World} {i : Nat} (hi : i ≠ 7) (hi2 : i ≠ 9) (hI : IL11 w0 n1 g ao cap bs V w1 ov th ad c L l w) : IL11 w0 n1 g ao cap bs V w1 ov th ad c L (l.setIfInBounds i true) w := by
  unfold IL11
  rw [Rg.set_ne hi, Rg.set_ne hi2]
  exact hI
theorem sizeL11 : (Rg.opsOf Try.f18 11).size = 10 := by kernel_rfl
theorem dL11_9 : Rg.dstAt (Rg.opsOf Try.f18 11) 9 = none := by kernel_rfl

set_option maxRecDepth 20000 in
set_option maxHeartbeats 8000000 in
theorem regL11 {Q : Exit → Act → World → Prop} {a : Act} {w1 w0 : World} {g : Nat} {ao : Option Addr} {cap : Nat} {bs : List Int} {V : Nat} {ov : Value} {th : Int} {ad : Option Addr} {c : Nat} {L : List Int} (ha : a.tmps.size = 84)
    (k0 : a.tmps[0]? = some (.pointer (some ⟨g, 0, none⟩))) (k5 : a.tmps[5]? = some (.pointer (some ⟨V, 0, none⟩))) (hd : DV w0 w1 g ao cap bs V #[ov, (.slice ad L.length c), .int .i64 th]) (hr : DI w0 w1 g ao cap bs (.slice ad L.length c) L) (hL : L.length ≤ 100) (hth : 0 < th)
    (hend : ∀ b' w' ad' c' z, Rg.Fr (Rg.opsOf Try.f18 11) a b' → DV w0 w' g ao cap bs V #[ov, (.slice ad' (L.length + 1) c'), .int .i64 th] → DI w0 w' g ao cap bs (.slice ad' (L.length + 1) c') (L ++ [z]) → FR w1 g V (.slice ad L.length c) w' → w1.heap.size ≤ w'.heap.size → Q .normal b' w') :
    (Code.region 11 (Rg.opsOf Try.f18 11) true).wp Try.prog Q a w1 := by
  obtain ⟨i0, hi0, hv0, hv1, hv2⟩ := info_partsW infoW64
  have hg1 : g < w1.heap.size := hd.cur.1
  have hrk : ∀ k, (Value.slice ad L.length c).ownBlock = some k → w0.heap.size ≤ k ∧ k < w1.heap.size := ownW_lt hr.own
  have hV1 : V < w1.heap.size := hd.box.lt
  have hVg := hd.gV
  have hgg := hd.gg
  have hvv := hd.vv
  refine Rg.region_set2 (by kernel_rfl) (IL11 w0 w1.heap.size g ao cap bs V w1 ov th ad c L) (FL11 w0 w1.heap.size g ao cap bs V w1 ov th ad c L) (by rw [ha, sizeL11]; kernel_rfl) ⟨fun _ => hd.call (hd.cur.drewN 1) ((Keep.refl g w1).drewN 1), fun _ => hr.drewN 1, fun h => (by rw [Rg.none_yet] at h; cases h), Nat.le_refl _, fun b hb _ _ _ => rfl⟩ ?_ ?_
  case refine_2 =>
    intro l b' w' hf hall hI hA
    rw [sizeL11] at hall
    obtain ⟨ad', c', z, h1, h2⟩ := hI.2.2.1 (hall 9 (by omega))
    exact hend b' w' ad' c' z hf h1 h2 hI.2.2.2.2 hI.2.2.2.1
  case refine_1 =>
    clear hend
    intro i' hi'
    rw [sizeL11] at hi'
    rcases (show i' = 0 ∨ i' = 1 ∨ i' = 2 ∨ i' = 3 ∨ i' = 4 ∨ i' = 5 ∨ i' = 6 ∨ i' = 7 ∨ i' = 8 ∨ i' = 9 by omega) with rfl | rfl | rfl | rfl | rfl | rfl | rfl | rfl | rfl | rfl
    · intro ll bb w' hs hlf hN hf hIl hA
      clear hi'
      have qs := hf.kept (s := 5) (by rw [sizeL11]; kernel_rfl) k5
      exact Rg.op_value (o := ⟨some 44, Op.fieldAddr 31 (Operand.tmp 5) 1, _, _, _, _⟩) (x := .pointer (some ⟨V, 1, none⟩)) rfl rfl (by clear hA hN; simp only [execOp]; go_simp) ⟨_, rfl, (fun h => by cases h), rfl, sameL11 (by decide) (by decide) hIl, fun _ _ _ h => h⟩
    · intro ll bb w' hs hlf hN hf hIl hA
      clear hi'
      have h9 := hN 9 (by kernel_rfl)
      obtain ⟨e0, e1, e2⟩ := (hIl.1 h9).box.three
      have q0 : bb.tmps[44]? = some _ := hf.tmp (k := 0) rfl (by rw [ha]; decide) (hA 0 (by kernel_rfl))
      exact Rg.op_value (o := ⟨some 45, Op.load 24 (Operand.tmp 44), _, _, _, _⟩) (x := .slice ad L.length c) rfl rfl (by clear hA hN; simp only [execOp]; go_simp) ⟨_, rfl, (fun h => by cases h), rfl, sameL11 (by decide) (by decide) hIl, fun _ _ _ h => h⟩
    · intro ll bb w' hs hlf hN hf hIl hA
      clear hi'
      have q0 := hf.kept (s := 0) (by rw [sizeL11]; kernel_rfl) k0
      exact Rg.op_value (o := ⟨some 46, Op.move (Operand.tmp 0), _, _, _, _⟩) rfl rfl rfl ⟨_, rfl, (fun h => by cases h), (by show Act.eval bb _ = _; simp [Act.eval, q0]), sameL11 (by decide) (by decide) hIl, fun _ _ _ h => h⟩
    · intro ll bb w' hs hlf hN hf hIl hA
      clear hi'
      have qs := hf.kept (s := 5) (by rw [sizeL11]; kernel_rfl) k5
      exact Rg.op_value (o := ⟨some 47, Op.fieldAddr 31 (Operand.tmp 5) 2, _, _, _, _⟩) (x := .pointer (some ⟨V, 2, none⟩)) rfl rfl (by clear hA hN; simp only [execOp]; go_simp) ⟨_, rfl, (fun h => by cases h), rfl, sameL11 (by decide) (by decide) hIl, fun _ _ _ h => h⟩
    · intro ll bb w' hs hlf hN hf hIl hA
      clear hi'
      have h9 := hN 9 (by kernel_rfl)
      obtain ⟨e0, e1, e2⟩ := (hIl.1 h9).box.three
      have q0 : bb.tmps[47]? = some _ := hf.tmp (k := 3) rfl (by rw [ha]; decide) (hA 3 (by kernel_rfl))
      exact Rg.op_value (o := ⟨some 48, Op.load 2 (Operand.tmp 47), _, _, _, _⟩) (x := .int .i64 th) rfl rfl (by clear hA hN; simp only [execOp]; go_simp) ⟨_, rfl, (fun h => by cases h), rfl, sameL11 (by decide) (by decide) hIl, fun _ _ _ h => h⟩
    · intro ll bb w' hs hlf hN hf hIl hA
      clear hi'
      have h9 := hN 9 (by first | kernel_rfl | exact rfl)
      have hcu := (hIl.1 h9).cur
      have q2 : bb.tmps[46]? = some _ := hf.tmp (k := 2) rfl (by rw [ha]; decide) (hA 2 (by kernel_rfl))
      have q4 : bb.tmps[48]? = some _ := hf.tmp (k := 4) rfl (by rw [ha]; decide) (hA 4 (by kernel_rfl))
      refine Rg.op_call (o := ⟨some 49, Op.call { callee := Callee.value (Operand.func 26), args := #[Operand.tmp 46, Operand.tmp 48], argTypes := _ }, _, _, _, _⟩) rfl rfl (by clear hA hN; simp only [execOp, resolve]; go_simp) (below_any g ao cap bs th w' hcu hth) ?_
      rintro e w2 ⟨y, rfl, hx0, hx1, hc2, hk2⟩
      exact ⟨_, rfl, _, rfl, (fun h => by cases h), ⟨y, rfl⟩, stayL11 (by decide) (by decide) (Nat.le_refl _) h9 hIl hc2 hk2, fun k y _ h => keepL11 hg1 hc2 hk2 k y h⟩
    · intro ll bb w' hs hlf hN hf hIl hA
      clear hi'
      have h9 := hN 9 (by first | kernel_rfl | exact rfl)
      have hcu := (hIl.1 h9).cur
      obtain ⟨z, hz⟩ := hA 5 (by kernel_rfl)
      have qz : bb.tmps[49]? = some _ := hf.tmp (k := 5) rfl (by rw [ha]; decide) hz
      have hK : Keep g w' (w'.alloc (.cells #[.int .i64 z] 2)) := (Keep.refl g w').alloc _
      exact Rg.op_value (o := ⟨some 50, Op.buildSlice 24 1 #[(0, Operand.tmp 49)], _, _, _, _⟩) (x := .slice (some ⟨w'.heap.size, 0, none⟩) 1 1) (w' := w'.alloc (.cells #[.int .i64 z] 2)) rfl rfl (by clear hA hN hz; simp only [execOp]; go_simp) ⟨_, rfl, (fun h => by cases h), ⟨_, z, rfl, hIl.2.2.2.1, PB.new _ _ _⟩, stayL11 (by decide) (by decide) (Nat.le_refl _) h9 hIl (hcu.alloc _) hK, fun k y _ h => keepL11 hg1 (hcu.alloc _) hK k y h⟩
    · intro ll bb w' hs hlf hN hf hIl hA
      clear hi'
      have h9 := hN 9 (by first | kernel_rfl | exact rfl)
      have hdx := hIl.1 h9
      have hdi := hIl.2.1 hlf
      have q1 : bb.tmps[45]? = some _ := hf.tmp (k := 1) rfl (by rw [ha]; decide) (hA 1 (by kernel_rfl))
      obtain ⟨B, z, hz, hB, hPB⟩ := hA 6 (by kernel_rfl)
      have q7 : bb.tmps[50]? = some _ := hf.tmp (k := 6) rfl (by rw [ha]; decide) hz
      have hsz := hIl.2.2.2.1
      have hks := hdx.keep.size
      refine Rg.op_append (o := ⟨some 51, Op.call { callee := Callee.builtin Builtin.append, args := #[Operand.tmp 45, Operand.tmp 50], argTypes := #[24, 24] }, _, _, _, _⟩) rfl rfl (Operand.tmp 45) (Operand.tmp 50) 24 rfl w0.heap.size 2 i0 (.int .i64 0) 1 8 Try.underlying24 hi0 hv0 hv1 hv2 rfl (by decide) (.slice ad L.length c) L.length (L.map fun z => Value.int .i64 z) (by simp [Act.eval, q1]) hdi.own ⟨B, 0, none⟩ 1 1 [.int .i64 z] (by simp [Act.eval, q7]) rfl (fun j u hu => by rw [Addr.add_lit, Nat.zero_add, hPB.cell]; simpa using hu) (by simp [Value.oneCell']) (by unfold maxLen; omega) (by omega) hks ?_
      intro v2 w2 ho2 hg2 hat2
      obtain ⟨ad2, c2, rfl⟩ := ownW_slice ho2
      have hdi2 := hdi.app ho2 hg2
      have hdx2 := hdx.grown hg2 (fun k hk => ⟨(hrk k hk).1, hdx.box.neQ hdi.own (by decide) k hk⟩)
      refine ⟨_, rfl, (fun h => by cases h), ⟨ad2, c2, z, rfl, hdi2⟩, ⟨fun _ => hdx2, fun h => (by rw [Rg.set_self hs (by rw [sizeL11]; decide)] at h; cases h), fun h => (by rw [Rg.set_ne (by decide), h9] at h; cases h), Nat.le_trans hsz hg2.size, hIl.2.2.2.2.grown hsz hg2⟩, fun k y hk h => ?_⟩
      have hfar : ∀ T, w1.heap.size ≤ T → ∀ k, (Value.slice ad L.length c).ownBlock = some k → k ≠ T := fun T hT k hk => by have := (hrk k hk).2; omega
      clear hA hN
      unfold FL11 at h ⊢
      split at h <;> first
        | exact h
        | (obtain ⟨B, z, h1, h2, h3⟩ := h; exact ⟨B, z, h1, h2, h3.grown hg2 (hfar B h2)⟩)
        | exact absurd rfl hk
    · intro ll bb w' hs hlf hN hf hIl hA
      clear hi'
      have qs := hf.kept (s := 5) (by rw [sizeL11]; kernel_rfl) k5
      exact Rg.op_value (o := ⟨some 52, Op.fieldAddr 31 (Operand.tmp 5) 1, _, _, _, _⟩) (x := .pointer (some ⟨V, 1, none⟩)) rfl rfl (by clear hA hN; simp only [execOp]; go_simp) ⟨_, rfl, (fun h => by cases h), rfl, sameL11 (by decide) (by decide) hIl, fun _ _ _ h => h⟩
    · intro ll bb w' hs hlf hN hf hIl hA
      clear hi'
      have hdx := hIl.1 hlf
      obtain ⟨ad2, c2, z, hv, hdi⟩ := hA 7 (by kernel_rfl)
      have q8 : bb.tmps[52]? = some _ := hf.tmp (k := 8) rfl (by rw [ha]; decide) (hA 8 (by kernel_rfl))
      have q7 : bb.tmps[51]? = some _ := hf.tmp (k := 7) rfl (by rw [ha]; decide) hv
      obtain ⟨e0, e1, e2⟩ := hdx.box.three
      obtain ⟨f0, f1, f2, -⟩ := hdx.box.cold
      have hsz := hIl.2.2.2.1
      have hdx2 := hdx.put 1 (.slice ad2 (L.length + 1) c2) (vs' := #[ov, (.slice ad2 (L.length + 1) c2), .int .i64 th]) (by simp)
      have hdi2 := hdi.farT hvv hdx.box 1 (.slice ad2 (L.length + 1) c2)
      have hz : (w'.setCell ⟨V, 1, none⟩ (.slice ad2 (L.length + 1) c2)).heap.size = w'.heap.size := by simp [World.setCell]
      have hE : IL11 w0 w1.heap.size g ao cap bs V w1 ov th ad c L (ll.setIfInBounds 9 true) (w'.setCell ⟨V, 1, none⟩ (.slice ad2 (L.length + 1) c2)) :=
        ⟨fun h => (by rw [Rg.set_self hs (by rw [sizeL11]; decide)] at h; cases h), fun h => (hIl.2.1 (by rwa [Rg.set_ne (by decide)] at h)).farT hvv hdx.box 1 _, fun _ => ⟨ad2, c2, z, hdx2, hdi2⟩, by rw [hz]; exact hsz, hIl.2.2.2.2.put _ _⟩
      have hst : ∀ k y, FL11 w0 w1.heap.size g ao cap bs V w1 ov th ad c L k y w' → FL11 w0 w1.heap.size g ao cap bs V w1 ov th ad c L k y (w'.setCell ⟨V, 1, none⟩ (.slice ad2 (L.length + 1) c2)) := fun k y h => by
        have hbx := hdx.box
        unfold FL11 at h ⊢
        split at h <;> first
          | exact h
          | (obtain ⟨B, z, h1, h2, h3⟩ := h; exact ⟨B, z, h1, h2, h3.far (by omega) 1 _⟩)
          | (obtain ⟨a', c', z, h1, h2⟩ := h; exact ⟨a', c', z, h1, h2.farT hvv hbx 1 _⟩)
      clear hA hf hv hN hIl hdx hdx2 hdi hdi2 hz
      refine Rg.op_skip (o := ⟨none, Op.store 24 (Operand.tmp 52) (Operand.tmp 51), _, _, _, _⟩) (w' := w'.setCell ⟨V, 1, none⟩ (.slice ad2 (L.length + 1) c2)) rfl rfl ?_ ⟨undef, (by rw [dL11_9]), (fun _ => trivial), trivial, hE, fun k y _ h => hst k y h⟩
      clear hE hst
      simp only [execOp]
      go_simp

theorem dL11_0 : Rg.dstAt (Rg.opsOf Try.f18 11) 0 = some 44 := by kernel_rfl
theorem dL11_1 : Rg.dstAt (Rg.opsOf Try.f18 11) 1 = some 45 := by kernel_rfl
theorem dL11_2 : Rg.dstAt (Rg.opsOf Try.f18 11) 2 = some 46 := by kernel_rfl
theorem dL11_3 : Rg.dstAt (Rg.opsOf Try.f18 11) 3 = some 47 := by kernel_rfl
theorem dL11_4 : Rg.dstAt (Rg.opsOf Try.f18 11) 4 = some 48 := by kernel_rfl
theorem dL11_5 : Rg.dstAt (Rg.opsOf Try.f18 11) 5 = some 49 := by kernel_rfl
theorem dL11_6 : Rg.dstAt (Rg.opsOf Try.f18 11) 6 = some 50 := by kernel_rfl
theorem dL11_7 : Rg.dstAt (Rg.opsOf Try.f18 11) 7 = some 51 := by kernel_rfl
theorem dL11_8 : Rg.dstAt (Rg.opsOf Try.f18 11) 8 = some 52 := by kernel_rfl
theorem layL11 {a b : Act} (hf : Rg.Fr (Rg.opsOf Try.f18 11) a b) : b = (((((((((a.put (some 44) (Rg.out (Rg.opsOf Try.f18 11) b 0)).put (some 45) (Rg.out (Rg.opsOf Try.f18 11) b 1)).put (some 46) (Rg.out (Rg.opsOf Try.f18 11) b 2)).put (some 47) (Rg.out (Rg.opsOf Try.f18 11) b 3)).put (some 48) (Rg.out (Rg.opsOf Try.f18 11) b 4)).put (some 49) (Rg.out (Rg.opsOf Try.f18 11) b 5)).put (some 50) (Rg.out (Rg.opsOf Try.f18 11) b 6)).put (some 51) (Rg.out (Rg.opsOf Try.f18 11) b 7)).put (some 52) (Rg.out (Rg.opsOf Try.f18 11) b 8)) := by
  have h := hf.chain
  rw [sizeL11, show List.range 10 = [0, 1, 2, 3, 4, 5, 6, 7, 8, 9] from by decide] at h
  simp only [List.foldl_cons, List.foldl_nil, dL11_0, dL11_1, dL11_2, dL11_3, dL11_4, dL11_5, dL11_6, dL11_7, dL11_8, dL11_9, put_noneF] at h
  exact h

end Go.Proofs.Ytfhecdedanlmfaa
