/-
  Rules, values and tests that are drawn of a cursor: where they lie; the region that draws its order.
-/
import Derived.Test.YtldggndhdilncaaT54
import Derived.Test.YtldggndhdilncaaJa
import Derived.IntWalk
namespace Go.Proofs.Ytldggndhdilncaa
open Go.RowKit Va Lb
set_option linter.all false

theorem ownT_keep {g base e s n : Nat} {w w' : World} {v : Value} {xs : List Value} (ho : w.ownsRow base e s v n xs) (hk : Keep g w w') (hg : g < base) : w'.ownsRow base e s v n xs := by
  obtain ⟨q, ⟨q1, q2⟩ | ⟨b, c, cur, rfl, hb, hh, r⟩⟩ := ho
  · exact ⟨q, Or.inl ⟨q1, q2⟩⟩
  · exact ⟨q, Or.inr ⟨b, c, cur, rfl, hb, (hk.block b (Array.getElem?_eq_some_iff.1 hh).1 (by omega)).trans hh, r⟩⟩
theorem own2_ne {W : World} {b e s n b2 e2 s2 n2 : Nat} {v v2 : Value} {xs xs2 : List Value} (ho : W.ownsRow b e s v n xs) (ho2 : W.ownsRow b2 e2 s2 v2 n2 xs2) (hne : e ≠ e2) : ∀ k, v.ownBlock = some k → some k ≠ v2.ownBlock := by
  intro k hk h
  obtain ⟨-, ⟨rfl, -⟩ | ⟨g, cap, cur, rfl, hb, hh, -⟩⟩ := ho
  · cases hk
  · obtain rfl : g = k := Option.some.inj hk
    obtain ⟨-, ⟨rfl, -⟩ | ⟨g2, cap2, cur2, rfl, hb2, hh2, -⟩⟩ := ho2
    · cases h
    · obtain rfl : g2 = g := (Option.some.inj h).symm
      have e := hh.symm.trans hh2
      simp at e
      exact hne e.2
theorem own2_kept {W W' : World} {b e s n b2 e2 s2 n2 : Nat} {v v2 : Value} {xs xs2 : List Value} (ho : W.ownsRow b e s v n xs) (ho2 : W.ownsRow b2 e2 s2 v2 n2 xs2) (hne : e ≠ e2) (hg : W.grownBy W' v2.ownBlock) : W'.ownsRow b e s v n xs :=
  own_keptT ho (fun j hj => hg.block j (ownW_lt ho j hj).2 (own2_ne ho ho2 hne j hj))
structure DT (w0 W : World) (g : Nat) (ao : Option Addr) (cap : Nat) (bs : List Int) (vr vv va : Value) (rs : List Rx) (vs : List Vl) (qs : List Int) : Prop where
  cur : Cur W g ao cap bs
  keep : Keep g w0 W
  r : W.ownsRow w0.heap.size 37 4 vr rs.length (vcellsL 4 cvRx rs)
  v : W.ownsRow w0.heap.size 40 2 vv vs.length (vcellsL 2 cvVl vs)
  q : W.ownsRow w0.heap.size 2 1 va qs.length (qs.map fun z => Value.int .i64 z)
  b : ∀ x ∈ vs, (-1000 ≤ x.te ∧ x.te ≤ 1000) ∧ -1000 ≤ x.v ∧ x.v ≤ 1000
  gg : g < w0.heap.size
section
variable {w0 W W' : World} {g cap : Nat} {ao : Option Addr} {bs : List Int} {vr vv va v' : Value} {rs : List Rx} {vs : List Vl} {qs : List Int}
theorem DT.call (h : DT w0 W g ao cap bs vr vv va rs vs qs) (hc : Cur W' g ao cap bs) (hk : Keep g W W') : DT w0 W' g ao cap bs vr vv va rs vs qs :=
  ⟨hc, h.keep.trans hk, ownT_keep h.r hk h.gg, ownT_keep h.v hk h.gg, ownT_keep h.q hk h.gg, h.b, h.gg⟩
theorem DT.alloc (h : DT w0 W g ao cap bs vr vv va rs vs qs) (o : Obj) : DT w0 (W.alloc o) g ao cap bs vr vv va rs vs qs := h.call (h.cur.alloc o) ((Keep.refl g W).alloc o)
theorem DT.start (hc : Cur w0 g ao cap bs) : DT w0 w0 g ao cap bs (.slice none 0 0) (.slice none 0 0) (.slice none 0 0) [] [] [] :=
  ⟨hc, Keep.refl _ _, ⟨rfl, Or.inl ⟨rfl, rfl⟩⟩, ⟨rfl, Or.inl ⟨rfl, rfl⟩⟩, ⟨rfl, Or.inl ⟨rfl, rfl⟩⟩, (fun x hx => by cases hx), hc.1⟩
theorem DT.newR (h : DT w0 W g ao cap bs vr vv va rs vs qs) : DT w0 (W.alloc (.cells #[] 37)) g ao cap bs (.slice (some ⟨W.heap.size, 0, none⟩) 0 0) vv va [] vs qs :=
  have k := h.alloc (.cells #[] 37)
  ⟨k.cur, k.keep, ownW_base (ownW_new W 37 4) h.keep.size, k.v, k.q, k.b, k.gg⟩
theorem DT.newV (h : DT w0 W g ao cap bs vr vv va rs vs qs) : DT w0 (W.alloc (.cells #[] 40)) g ao cap bs vr (.slice (some ⟨W.heap.size, 0, none⟩) 0 0) va rs [] qs :=
  have k := h.alloc (.cells #[] 40)
  ⟨k.cur, k.keep, k.r, ownW_base (ownW_new W 40 2) h.keep.size, k.q, (fun x hx => by cases hx), k.gg⟩
theorem DT.newQ (h : DT w0 W g ao cap bs vr vv va rs vs qs) : DT w0 (W.alloc (.cells #[] 2)) g ao cap bs vr vv (.slice (some ⟨W.heap.size, 0, none⟩) 0 0) rs vs [] :=
  have k := h.alloc (.cells #[] 2)
  ⟨k.cur, k.keep, k.r, k.v, ownW_base (ownW_new W 2 1) h.keep.size, k.b, k.gg⟩
theorem DT.frame (h : DT w0 W g ao cap bs vr vv va rs vs qs) {r : Option Nat} (hg : W.grownBy W' r) (hr : ∀ k, r = some k → w0.heap.size ≤ k) : Cur W' g ao cap bs ∧ Keep g w0 W' := by
  have hgg := h.gg
  have hb : Below w0.heap.size W W' := (Below.refl _ _).grown hg h.keep.size hr
  exact ⟨h.cur.below (hb.mono hgg), ⟨hb.os.trans h.keep.os, hb.tape.trans h.keep.tape, hb.output.trans h.keep.output, Nat.le_trans h.keep.size hg.size, fun i hi hig => (hb.block i hi).trans (h.keep.block i hi hig)⟩⟩
theorem DT.appR {x : Rx} (h : DT w0 W g ao cap bs vr vv va rs vs qs) (ho : W'.ownsRow w0.heap.size 37 4 v' (rs.length + 1) (vcellsL 4 cvRx rs ++ [.int .i64 x.te, .int .i64 x.lo, .int .i64 x.hi, .int .i64 x.th])) (hg : W.grownBy W' vr.ownBlock) : DT w0 W' g ao cap bs v' vv va (rs ++ [x]) vs qs := by
  obtain ⟨f1, f2⟩ := h.frame hg (fun k hk => (ownW_lt h.r k hk).1)
  exact ⟨f1, f2, by rw [List.length_append, vcellsL_app]; exact ho, own2_kept h.v h.r (by decide) hg, own2_kept h.q h.r (by decide) hg, h.b, h.gg⟩
theorem DT.appV {x : Vl} (h : DT w0 W g ao cap bs vr vv va rs vs qs) (ho : W'.ownsRow w0.heap.size 40 2 v' (vs.length + 1) (vcellsL 2 cvVl vs ++ [.int .i64 x.te, .int .i64 x.v])) (hg : W.grownBy W' vv.ownBlock) (hb : (-1000 ≤ x.te ∧ x.te ≤ 1000) ∧ -1000 ≤ x.v ∧ x.v ≤ 1000) : DT w0 W' g ao cap bs vr v' va rs (vs ++ [x]) qs := by
  obtain ⟨f1, f2⟩ := h.frame hg (fun k hk => (ownW_lt h.v k hk).1)
  refine ⟨f1, f2, own2_kept h.r h.v (by decide) hg, by rw [List.length_append, vcellsL_app]; exact ho, own2_kept h.q h.v (by decide) hg, fun y hy => ?_, h.gg⟩
  rcases List.mem_append.1 hy with hy | hy
  · exact h.b y hy
  · rw [List.mem_singleton.1 hy]; exact hb
theorem DT.appQ {x : Int} (h : DT w0 W g ao cap bs vr vv va rs vs qs) (ho : W'.ownsRow w0.heap.size 2 1 v' (qs.length + 1) ((qs.map fun z => Value.int .i64 z) ++ [.int .i64 x])) (hg : W.grownBy W' va.ownBlock) : DT w0 W' g ao cap bs vr vv v' rs vs (qs ++ [x]) := by
  obtain ⟨f1, f2⟩ := h.frame hg (fun k hk => (ownW_lt h.q k hk).1)
  exact ⟨f1, f2, own2_kept h.r h.q (by decide) hg, own2_kept h.v h.q (by decide) hg, by rw [List.length_append, List.map_append]; exact ho, h.b, h.gg⟩
theorem DT.madeQ {l : List Int} (h : DT w0 W g ao cap bs vr vv va rs vs qs) (ho : W'.ownsRow w0.heap.size 2 1 v' l.length (l.map fun z => Value.int .i64 z)) (hg : W.grownBy W' none) : DT w0 W' g ao cap bs vr vv v' rs vs l := by
  obtain ⟨f1, f2⟩ := h.frame hg (fun k hk => by cases hk)
  exact ⟨f1, f2, h.r.kept hg (by cases vr.ownBlock <;> simp), h.v.kept hg (by cases vv.ownBlock <;> simp), ho, h.b, h.gg⟩
theorem DT.far (h : DT w0 W g ao cap bs vr vv va rs vs qs) {B : Nat} {x : Array Value} (hP : PB W B x 37) (hB : w0.heap.size ≤ B) (hr : ∀ k, vr.ownBlock = some k → k ≠ B) (j : Nat) (u : Value) : DT w0 (W.setCell ⟨B, j, none⟩ u) g ao cap bs vr vv va rs vs qs := by
  have hgg := h.gg
  exact ⟨h.cur.far (by omega) u, Keep.far (n := 0) h.keep hB u, own_keptT h.r (fun k hk => heap_setCell_other W ⟨B, j, none⟩ k u (hr k hk)), own_keptT h.v (fun k hk => heap_setCell_other W ⟨B, j, none⟩ k u (PBT_ne hP h.v (by decide) k hk)), own_keptT h.q (fun k hk => heap_setCell_other W ⟨B, j, none⟩ k u (PBT_ne hP h.q (by decide) k hk)), h.b, h.gg⟩
theorem DT.rows (h : DT w0 W g ao cap bs vr vv va rs vs qs) : VRw 4 cvRx W vr rs ∧ VRw 2 cvVl W vv vs ∧ VRw 1 cvI W va qs := ⟨(vown_of rfl h.r).row, (vown_of rfl h.v).row, (vownI h.q).row⟩
end
theorem cellT_4 (w : World) (a b c d : Value) (t : TypeId) : ∀ (j : Nat) (u : Value), [a, b, c, d][j]? = some u → (w.alloc (.cells #[a, b, c, d] t)).cell? ((⟨w.heap.size, 0, none⟩ : Addr).add j) = some u := fun j u hu => by
  have e0 := heap_alloc_new w (Obj.cells #[a, b, c, d] t)
  rw [Addr.add_lit, Nat.zero_add]
  simp only [World.cell?, e0]
  simpa using hu
theorem cellT_2 (w : World) (a b : Value) (t : TypeId) : ∀ (j : Nat) (u : Value), [a, b][j]? = some u → (w.alloc (.cells #[a, b] t)).cell? ((⟨w.heap.size, 0, none⟩ : Addr).add j) = some u := fun j u hu => by
  have e0 := heap_alloc_new w (Obj.cells #[a, b] t)
  rw [Addr.add_lit, Nat.zero_add]
  simp only [World.cell?, e0]
  simpa using hu
theorem infoRx : (Try.prog.info? 37).map (fun i => (i.zero, i.size, i.bytes)) = some (some (.agg #[.int .i64 0, .int .i64 0, .int .i64 0, .int .i64 0]), 4, 32) := by kernel_rfl
theorem infoVl : (Try.prog.info? 40).map (fun i => (i.zero, i.size, i.bytes)) = some (some (.agg #[.int .i64 0, .int .i64 0]), 2, 16) := by kernel_rfl

def FDr7 (n1 g : Nat) (V : Nat) (x1 x2 x3 : Int) (i9 : Nat) (v : Value) (w : World) : Prop :=
  match i9 with
  | 0 => v = .pointer (some ⟨V, 1, none⟩)
  | 1 => v = .int .i64 x2
  | 2 => v = .pointer (some ⟨g, 0, none⟩)
  | 3 => ∃ z : Int, v = .int .i64 z
  | 4 => ∃ z : Int, v = .int .i64 z
  | 5 => v = .pointer (some ⟨V, 2, none⟩)
  | 6 => True
  | _ => True
theorem keepDr7 {n1 g : Nat} {V : Nat} {x1 x2 x3 : Int} {w w' : World} (hg : g < n1) (hk : Keep g w w') (k9 : Nat) (v : Value) (h : FDr7 n1 g V x1 x2 x3 k9 v w) : FDr7 n1 g V x1 x2 x3 k9 v w' := by
  unfold FDr7 at *
  split at h <;> first
    | exact h
    | (obtain ⟨T, zs, h1, h2, h3, h4⟩ := h; exact ⟨T, zs, h1, h2, h3, h4.keep hk⟩)
    | (obtain ⟨T, n, zs, h1, h2, h3, h4⟩ := h; exact ⟨T, n, zs, h1, h2, h3, h4.keep hk⟩)
    | (obtain ⟨B, h1, h2, h3⟩ := h; exact ⟨B, h1, h2, h3.keep hk (by omega)⟩)
    | (obtain ⟨B, y1, h1, h2, h3⟩ := h; exact ⟨B, y1, h1, h2, h3.keep hk (by omega)⟩)
    | (obtain ⟨B, y1, y2, h1, h2, h3⟩ := h; exact ⟨B, y1, y2, h1, h2, h3.keep hk (by omega)⟩)
    | (obtain ⟨B, y1, y2, y3, h1, h2, h3⟩ := h; exact ⟨B, y1, y2, y3, h1, h2, h3.keep hk (by omega)⟩)
    | (obtain ⟨B, y1, y2, y3, y4, h1, h2, h3⟩ := h; exact ⟨B, y1, y2, y3, y4, h1, h2, h3.keep hk (by omega)⟩)
theorem sizeDr7 : (Rg.opsOf Try.f5 7).size = 7 := by kernel_rfl

set_option maxRecDepth 20000 in
set_option maxHeartbeats 8000000 in
theorem regDr7 {Q : Exit → Act → World → Prop} {a : Act} {w1 : World} {g : Nat} {ao : Option Addr} {cap : Nat} {bs : List Int} {V : Nat} {x1 x2 x3 : Int} (ha : a.tmps.size = 115)
    (k8 : a.tmps[8]? = some (.pointer (some ⟨V, 0, none⟩))) (k5 : a.tmps[5]? = some (.pointer (some ⟨g, 0, none⟩))) (hc : Cur w1 g ao cap bs) (hV : PB w1 V #[.int .i64 x1, .int .i64 x2, .int .i64 0, .int .i64 x3] 37) (hVg : V ≠ g)
    (hend : ∀ b' w' (z : Int), Rg.Fr (Rg.opsOf Try.f5 7) a b' → Cur w' g ao cap bs → Keep g w1 w' → Q .normal b' (w'.setCell ⟨V, 2, none⟩ (.int .i64 z))) :
    (Code.region 7 (Rg.opsOf Try.f5 7) true).wp Try.prog Q a w1 := by
  have hg1 : g < w1.heap.size := hc.1
  refine Rg.region_by 6 (by kernel_rfl) (fun w' => Cur w' g ao cap bs ∧ Keep g w1 w') (FDr7 w1.heap.size g V x1 x2 x3) (by rw [ha]; kernel_rfl) ⟨hc.drewN 1, (Keep.refl g w1).drewN 1⟩ ?_ ?_ ?_
  case refine_3 => exact fun h => absurd h (by rw [sizeDr7]; decide)
  case refine_2 =>
    intro _ bb w' hf hI hA
    rw [sizeDr7] at hA
    obtain ⟨z33, hv33⟩ := hA 4 (by decide) (by decide)
    have q33 : bb.tmps[33]? = some _ := hf.tmp (k := 4) rfl (by rw [ha]; decide) hv33
    have q34 : bb.tmps[34]? = some _ := hf.tmp (k := 5) rfl (by rw [ha]; decide) (hA 5 (by decide) (by decide))
    have hE := hend bb w' z33 hf hI.1 hI.2
    obtain ⟨e0, e1, e2, e3⟩ := (hV.keep hI.2 hVg).four
    obtain ⟨f0, f1, f2, f3, -⟩ := (hV.keep hI.2 hVg).cold
    clear hA hend hf hI hV
    refine Rg.op_skip (o := ⟨none, Op.store 2 (Operand.tmp 34) (Operand.tmp 33), _, _, _, _⟩) (w' := w'.setCell ⟨V, 2, none⟩ (.int .i64 z33)) rfl rfl ?_ hE
    clear hE
    simp only [execOp]
    go_simp
  case refine_1 =>
    clear hend
    have HS : ∀ {w w' : World}, Keep g w w' → ∀ k9 y9, FDr7 w1.heap.size g V x1 x2 x3 k9 y9 w → FDr7 w1.heap.size g V x1 x2 x3 k9 y9 w' := fun hb k9 y9 h => keepDr7 hg1 hb k9 y9 h
    intro i' hi' hne
    rw [sizeDr7] at hi'
    rcases (show i' = 0 ∨ i' = 1 ∨ i' = 2 ∨ i' = 3 ∨ i' = 4 ∨ i' = 5 by omega) with rfl | rfl | rfl | rfl | rfl | rfl
    · intro bb w' hf hI hA
      clear hi' hne
      have q8 := hf.kept (s := 8) (by rw [sizeDr7]; kernel_rfl) k8
      exact Rg.op_value (o := ⟨some 29, Op.fieldAddr 37 (Operand.tmp 8) 1, _, _, _, _⟩) (x := .pointer (some ⟨V, 1, none⟩)) rfl rfl (by clear hA HS ; simp only [execOp]; go_simp) ⟨_, rfl, (fun h => by cases h), rfl, hI, fun _ _ h => h⟩
    · intro bb w' hf hI hA
      clear hi' hne
      have q29 : bb.tmps[29]? = some _ := hf.tmp (k := 0) rfl (by rw [ha]; decide) (hA 0 (by kernel_rfl))
      obtain ⟨e0, e1, e2, e3⟩ := (hV.keep hI.2 hVg).four
      exact Rg.op_value (o := ⟨some 30, Op.load 2 (Operand.tmp 29), _, _, _, _⟩) (x := .int .i64 x2) rfl rfl (by clear hA HS ; simp only [execOp]; go_simp) ⟨_, rfl, (fun h => by cases h), rfl, hI, fun _ _ h => h⟩
    · intro bb w' hf hI hA
      clear hi' hne
      have q5 := hf.kept (s := 5) (by rw [sizeDr7]; kernel_rfl) k5
      exact Rg.op_value (o := ⟨some 31, Op.move (Operand.tmp 5), _, _, _, _⟩) (x := .pointer (some ⟨g, 0, none⟩)) rfl rfl (by clear hA HS ; simp only [execOp]; go_simp) ⟨_, rfl, (fun h => by cases h), rfl, hI, fun _ _ h => h⟩
    · intro bb w' hf hI hA
      clear hi' hne
      have q31 : bb.tmps[31]? = some _ := hf.tmp (k := 2) rfl (by rw [ha]; decide) (hA 2 (by kernel_rfl))
      refine Rg.op_call (o := ⟨some 32, Op.call { callee := Callee.value (Operand.func 12), args := #[(Operand.tmp 31), (Operand.const (Value.int IntKind.i64 (-1))), (Operand.const (Value.int .i64 9))], argTypes := _ }, _, _, _, _⟩) rfl rfl (by clear hA HS   ; simp only [execOp, resolve]; go_simp) (from_any g ao cap bs (-1) 9 w' hI.1 (by omega) (by omega) (by omega)) ?_
      rintro e w2 ⟨y, rfl, hx0, hx1, hc2, hk2⟩
      exact ⟨_, rfl, _, rfl, (fun h => by cases h), ⟨_, rfl⟩, ⟨hc2, hI.2.trans hk2⟩, HS hk2⟩
    · intro bb w' hf hI hA
      clear hi' hne
      have q30 : bb.tmps[30]? = some _ := hf.tmp (k := 1) rfl (by rw [ha]; decide) (hA 1 (by kernel_rfl))
      obtain ⟨z32, hv32⟩ := hA 3 (by kernel_rfl)
      have q32 : bb.tmps[32]? = some _ := hf.tmp (k := 3) rfl (by rw [ha]; decide) hv32
      exact Rg.op_value (o := ⟨some 33, Op.binOp BinOp.add 2 (Operand.tmp 30) (Operand.tmp 32) 2, _, _, _, _⟩) (x := .int .i64 (IntKind.i64.wrap (x2 + z32))) rfl rfl (by clear hA HS  hv32 ; simp only [execOp]; go_simp) ⟨_, rfl, (fun h => by cases h), ⟨_, rfl⟩, hI, fun _ _ h => h⟩
    · intro bb w' hf hI hA
      clear hi' hne
      have q8 := hf.kept (s := 8) (by rw [sizeDr7]; kernel_rfl) k8
      exact Rg.op_value (o := ⟨some 34, Op.fieldAddr 37 (Operand.tmp 8) 2, _, _, _, _⟩) (x := .pointer (some ⟨V, 2, none⟩)) rfl rfl (by clear hA HS ; simp only [execOp]; go_simp) ⟨_, rfl, (fun h => by cases h), rfl, hI, fun _ _ h => h⟩

theorem dDr7_0 : Rg.dstAt (Rg.opsOf Try.f5 7) 0 = some 29 := by kernel_rfl
theorem dDr7_1 : Rg.dstAt (Rg.opsOf Try.f5 7) 1 = some 30 := by kernel_rfl
theorem dDr7_2 : Rg.dstAt (Rg.opsOf Try.f5 7) 2 = some 31 := by kernel_rfl
theorem dDr7_3 : Rg.dstAt (Rg.opsOf Try.f5 7) 3 = some 32 := by kernel_rfl
theorem dDr7_4 : Rg.dstAt (Rg.opsOf Try.f5 7) 4 = some 33 := by kernel_rfl
theorem dDr7_5 : Rg.dstAt (Rg.opsOf Try.f5 7) 5 = some 34 := by kernel_rfl
theorem dDr7_6 : Rg.dstAt (Rg.opsOf Try.f5 7) 6 = none := by kernel_rfl
theorem pnDr7 (a : Act) (v : Value) : a.put none v = a := rfl
theorem layDr7 {a b : Act} (hf : Rg.Fr (Rg.opsOf Try.f5 7) a b) : b = ((((((a.put (some 29) (Rg.out (Rg.opsOf Try.f5 7) b 0)).put (some 30) (Rg.out (Rg.opsOf Try.f5 7) b 1)).put (some 31) (Rg.out (Rg.opsOf Try.f5 7) b 2)).put (some 32) (Rg.out (Rg.opsOf Try.f5 7) b 3)).put (some 33) (Rg.out (Rg.opsOf Try.f5 7) b 4)).put (some 34) (Rg.out (Rg.opsOf Try.f5 7) b 5)) := by
  have h := hf.chain
  rw [sizeDr7, show List.range 7 = [0, 1, 2, 3, 4, 5, 6] from by decide] at h
  simp only [List.foldl_cons, List.foldl_nil, dDr7_0, dDr7_1, dDr7_2, dDr7_3, dDr7_4, dDr7_5, dDr7_6, pnDr7] at h
  exact h
end Go.Proofs.Ytldggndhdilncaa
