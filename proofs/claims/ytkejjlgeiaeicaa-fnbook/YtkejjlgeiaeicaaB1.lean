/-
  Lines that are drawn of a cursor: where they lie; the region that draws its order.
-/
import Derived.Test.YtkejjlgeiaeicaaJa
import Derived.Test.YtkejjlgeiaeicaaUb2
import Derived.Maps.AppendAt
namespace Go.Proofs.Ytkejjlgeiaeicaa
open Go.RowKit Va Ua
set_option linter.all false

theorem ownB_keep {g base e s n : Nat} {w w' : World} {v : Value} {xs : List Value} (ho : w.ownsRow base e s v n xs) (hk : Keep g w w') (hg : g < base) : w'.ownsRow base e s v n xs := by
  obtain ⟨q, ⟨q1, q2⟩ | ⟨b, c, cur, rfl, hb, hh, r⟩⟩ := ho
  · exact ⟨q, Or.inl ⟨q1, q2⟩⟩
  · exact ⟨q, Or.inr ⟨b, c, cur, rfl, hb, (hk.block b (Array.getElem?_eq_some_iff.1 hh).1 (by omega)).trans hh, r⟩⟩
theorem ownB_far {base e s n B j : Nat} {w : World} {v u : Value} {xs : List Value} (ho : w.ownsRow base e s v n xs) (hr : ∀ k, v.ownBlock = some k → k ≠ B) : (w.setCell ⟨B, j, none⟩ u).ownsRow base e s v n xs := by
  obtain ⟨q, ⟨q1, q2⟩ | ⟨b, c, cur, rfl, hb, hh, r2⟩⟩ := ho
  · exact ⟨q, Or.inl ⟨q1, q2⟩⟩
  · exact ⟨q, Or.inr ⟨b, c, cur, rfl, hb, (heap_setCell_other w ⟨B, j, none⟩ b u (hr b rfl)).trans hh, r2⟩⟩
theorem cellB_one (w : World) (a b c d : Value) (t : TypeId) : ∀ (j : Nat) (u : Value), [a, b, c, d][j]? = some u → (w.alloc (.cells #[a, b, c, d] t)).cell? ((⟨w.heap.size, 0, none⟩ : Addr).add j) = some u := fun j u hu => by
  have e0 : (w.alloc (Obj.cells #[a, b, c, d] t)).heap[w.heap.size]? = some (Obj.cells #[a, b, c, d] t) := (MapKept.heap_alloc w _).1
  rw [Addr.add_lit, Nat.zero_add]
  simp only [World.cell?, e0]
  simpa using hu
theorem infoLnB : (Try.prog.info? 30).map (fun i => (i.zero, i.size, i.bytes)) = some (some (.agg #[.int .i64 0, .int .i64 0, .int .i64 0, .int .i64 0]), 4, 32) := by kernel_rfl
/-- The lines l at v, in a block of the call's own, beside a cursor at g. -/
structure DN (w0 W : World) (g : Nat) (ao : Option Addr) (cap : Nat) (bs : List Int) (v : Value) (l : List Ln) : Prop where
  cur : Cur W g ao cap bs
  keep : Keep g w0 W
  own : W.ownsRow w0.heap.size 30 4 v l.length (cellsL 4 csLn l)
  gg : g < w0.heap.size
section
variable {w0 W W' : World} {g cap : Nat} {ao : Option Addr} {bs : List Int} {v : Value} {l : List Ln}
theorem DN.call (h : DN w0 W g ao cap bs v l) (hc : Cur W' g ao cap bs) (hk : Keep g W W') : DN w0 W' g ao cap bs v l := ⟨hc, h.keep.trans hk, ownB_keep h.own hk h.gg, h.gg⟩
theorem DN.alloc (h : DN w0 W g ao cap bs v l) (o : Obj) : DN w0 (W.alloc o) g ao cap bs v l := h.call (h.cur.alloc o) ((Keep.refl g W).alloc o)
theorem DN.below (h : DN w0 W g ao cap bs v l) (hb : Below W.heap.size W W') : DN w0 W' g ao cap bs v l := h.call (h.cur.below (hb.mono h.cur.1)) (Keep.of_below hb)
theorem DN.form (h : DN w0 W g ao cap bs v l) : ∃ a k, v = .slice a l.length k := ownW_slice h.own
theorem DN.row (h : DN w0 W g ao cap bs v l) : Rw 4 csLn W v l := (own_of rfl h.own).row
theorem DN.lt (h : DN w0 W g ao cap bs v l) : ∀ k, v.ownBlock = some k → w0.heap.size ≤ k ∧ k < W.heap.size := ownW_lt h.own
theorem DN.far {B : Nat} (h : DN w0 W g ao cap bs v l) (hge : w0.heap.size ≤ B) (hne : ∀ k, v.ownBlock = some k → k ≠ B) (j : Nat) (u : Value) : DN w0 (W.setCell ⟨B, j, none⟩ u) g ao cap bs v l := by
  have hgg := h.gg
  exact ⟨h.cur.far (by omega) u, Keep.far (n := 0) h.keep hge u, ownB_far h.own hne, h.gg⟩
theorem DN.grown {r : Option Nat} (h : DN w0 W g ao cap bs v l) (hg : W.grownBy W' r) (hr : ∀ k, r = some k → w0.heap.size ≤ k ∧ v.ownBlock ≠ some k) : DN w0 W' g ao cap bs v l := by
  have hgg := h.gg
  have hb : Below w0.heap.size W W' := (Below.refl _ _).grown hg h.keep.size (fun k hk => (hr k hk).1)
  refine ⟨h.cur.below (hb.mono hgg), ⟨hb.os.trans h.keep.os, hb.tape.trans h.keep.tape, hb.output.trans h.keep.output, Nat.le_trans h.keep.size hg.size, fun i hi hig => (hb.block i hi).trans (h.keep.block i hi hig)⟩, ?_, h.gg⟩
  obtain ⟨q, ⟨q1, q2⟩ | ⟨b, c, cu, rfl, hbb, hh, r2⟩⟩ := h.own
  · exact ⟨q, Or.inl ⟨q1, q2⟩⟩
  · exact ⟨q, Or.inr ⟨b, c, cu, rfl, hbb, (hg.block b (Array.getElem?_eq_some_iff.1 hh).1 (fun e => (hr b e.symm).2 rfl)).trans hh, r2⟩⟩
theorem DN.app {v' : Value} {y : Ln} (h : DN w0 W g ao cap bs v l) (ho : W'.ownsRow w0.heap.size 30 4 v' (l.length + 1) (cellsL 4 csLn l ++ [.int .i64 y.k, .int .i64 y.n, .int .i64 y.b, .int .i64 y.a])) (hg : W.grownBy W' v.ownBlock) : DN w0 W' g ao cap bs v' (l ++ [y]) := by
  have h0 := ownW_lt h.own
  have hgg := h.gg
  have hb : Below w0.heap.size W W' := (Below.refl _ _).grown hg h.keep.size (fun k hk => (h0 k hk).1)
  refine ⟨h.cur.below (hb.mono hgg), ⟨hb.os.trans h.keep.os, hb.tape.trans h.keep.tape, hb.output.trans h.keep.output, Nat.le_trans h.keep.size hg.size, fun i hi hig => (hb.block i hi).trans (h.keep.block i hi hig)⟩, ?_, h.gg⟩
  rw [List.length_append, cellsL_app]
  exact ho
theorem DN.start (hc : Cur w0 g ao cap bs) : DN w0 (w0.alloc (.cells #[] 30)) g ao cap bs (.slice (some ⟨w0.heap.size, 0, none⟩) 0 0) [] :=
  ⟨hc.alloc _, (Keep.refl g w0).alloc _, ⟨rfl, .inr ⟨w0.heap.size, 0, #[], rfl, Nat.le_refl _, heap_alloc_new w0 _, Nat.le_refl _, Nat.zero_le _, rfl, rfl⟩⟩, hc.1⟩
end

def FB26 (n1 g : Nat) (V : Nat) (x : Ln) (i9 : Nat) (v : Value) (w : World) : Prop :=
  match i9 with
  | 0 => v = .pointer (some ⟨V, 2, none⟩)
  | 1 => v = .int .i64 x.b
  | 2 => ∃ T zs, v = .slice (some ⟨T, 0, none⟩) 3 3 ∧ zs.length = 3 ∧ n1 ≤ T ∧ Tb g w T zs
  | 3 => v = .pointer (some ⟨g, 0, none⟩)
  | 4 => ∃ n : Nat, v = .int .i64 n ∧ n < 3
  | 5 => ∃ T n zs, v = .pointer (some ⟨T, n, none⟩) ∧ n < zs.length ∧ n1 ≤ T ∧ Tb g w T zs
  | 6 => ∃ z : Int, v = .int .i64 z
  | 7 => v = .pointer (some ⟨V, 3, none⟩)
  | 8 => True
  | _ => True
theorem keepB26 {n1 g : Nat} {V : Nat} {x : Ln} {w w' : World} (hg : g < n1) (hk : Keep g w w') (k9 : Nat) (v : Value) (h : FB26 n1 g V x k9 v w) : FB26 n1 g V x k9 v w' := by
  unfold FB26 at *
  split at h <;> first
    | exact h
    | (obtain ⟨T, zs, h1, h2, h3, h4⟩ := h; exact ⟨T, zs, h1, h2, h3, h4.keep hk⟩)
    | (obtain ⟨T, n, zs, h1, h2, h3, h4⟩ := h; exact ⟨T, n, zs, h1, h2, h3, h4.keep hk⟩)
    | (obtain ⟨B, h1, h2, h3⟩ := h; exact ⟨B, h1, h2, h3.keep hk (by omega)⟩)
    | (obtain ⟨B, y1, h1, h2, h3⟩ := h; exact ⟨B, y1, h1, h2, h3.keep hk (by omega)⟩)
    | (obtain ⟨B, y1, y2, h1, h2, h3⟩ := h; exact ⟨B, y1, y2, h1, h2, h3.keep hk (by omega)⟩)
    | (obtain ⟨B, y1, y2, y3, h1, h2, h3⟩ := h; exact ⟨B, y1, y2, y3, h1, h2, h3.keep hk (by omega)⟩)
    | (obtain ⟨B, y1, y2, y3, y4, h1, h2, h3⟩ := h; exact ⟨B, y1, y2, y3, y4, h1, h2, h3.keep hk (by omega)⟩)
theorem sizeB26 : (Rg.opsOf Try.f7 26).size = 9 := by kernel_rfl

set_option maxRecDepth 20000 in
set_option maxHeartbeats 8000000 in
theorem regB26 {Q : Exit → Act → World → Prop} {a : Act} {w1 : World} {g : Nat} {ao : Option Addr} {cap : Nat} {bs : List Int} {V : Nat} {x : Ln} (ha : a.tmps.size = 107)
    (k9 : a.tmps[9]? = some (.pointer (some ⟨V, 0, none⟩))) (k4 : a.tmps[4]? = some (.pointer (some ⟨g, 0, none⟩))) (hc : Cur w1 g ao cap bs) (hV : PB w1 V #[.int .i64 x.k, .int .i64 x.n, .int .i64 x.b, .int .i64 x.a] 30) (hVg : V ≠ g)
    (hend : ∀ b' w' (z : Int), Rg.Fr (Rg.opsOf Try.f7 26) a b' → Cur w' g ao cap bs → Keep g w1 w' → Q .normal b' (w'.setCell ⟨V, 3, none⟩ (.int .i64 z))) :
    (Code.region 26 (Rg.opsOf Try.f7 26) true).wp Try.prog Q a w1 := by
  have hg1 : g < w1.heap.size := hc.1
  refine Rg.region_by 8 (by kernel_rfl) (fun w' => Cur w' g ao cap bs ∧ Keep g w1 w') (FB26 w1.heap.size g V x) (by rw [ha]; kernel_rfl) ⟨hc.drewN 1, (Keep.refl g w1).drewN 1⟩ ?_ ?_ ?_
  case refine_3 => exact fun h => absurd h (by rw [sizeB26]; decide)
  case refine_2 =>
    intro _ bb w' hf hI hA
    rw [sizeB26] at hA
    obtain ⟨z99, hv99⟩ := hA 6 (by decide) (by decide)
    have q99 : bb.tmps[99]? = some _ := hf.tmp (k := 6) rfl (by rw [ha]; decide) hv99
    have q100 : bb.tmps[100]? = some _ := hf.tmp (k := 7) rfl (by rw [ha]; decide) (hA 7 (by decide) (by decide))
    have hE := hend bb w' z99 hf hI.1 hI.2
    obtain ⟨e0, e1, e2, e3⟩ := (hV.keep hI.2 hVg).four
    obtain ⟨f0, f1, f2, f3, -⟩ := (hV.keep hI.2 hVg).cold
    clear hA hend hf hI hV
    refine Rg.op_skip (o := ⟨none, Op.store 2 (Operand.tmp 100) (Operand.tmp 99), _, _, _, _⟩) (w' := w'.setCell ⟨V, 3, none⟩ (.int .i64 z99)) rfl rfl ?_ hE
    clear hE
    simp only [execOp]
    go_simp
  case refine_1 =>
    clear hend
    have HS : ∀ {w w' : World}, Keep g w w' → ∀ k9 y9, FB26 w1.heap.size g V x k9 y9 w → FB26 w1.heap.size g V x k9 y9 w' := fun hb k9 y9 h => keepB26 hg1 hb k9 y9 h
    intro i' hi' hne
    rw [sizeB26] at hi'
    rcases (show i' = 0 ∨ i' = 1 ∨ i' = 2 ∨ i' = 3 ∨ i' = 4 ∨ i' = 5 ∨ i' = 6 ∨ i' = 7 by omega) with rfl | rfl | rfl | rfl | rfl | rfl | rfl | rfl
    · intro bb w' hf hI hA
      clear hi' hne
      have q9 := hf.kept (s := 9) (by rw [sizeB26]; kernel_rfl) k9
      exact Rg.op_value (o := ⟨some 93, Op.fieldAddr 30 (Operand.tmp 9) 2, _, _, _, _⟩) (x := .pointer (some ⟨V, 2, none⟩)) rfl rfl (by clear hA HS ; simp only [execOp]; go_simp) ⟨_, rfl, (fun h => by cases h), rfl, hI, fun _ _ h => h⟩
    · intro bb w' hf hI hA
      clear hi' hne
      have q93 : bb.tmps[93]? = some _ := hf.tmp (k := 0) rfl (by rw [ha]; decide) (hA 0 (by kernel_rfl))
      obtain ⟨e0, e1, e2, e3⟩ := (hV.keep hI.2 hVg).four
      exact Rg.op_value (o := ⟨some 94, Op.load 2 (Operand.tmp 93), _, _, _, _⟩) (x := .int .i64 x.b) rfl rfl (by clear hA HS ; simp only [execOp]; go_simp) ⟨_, rfl, (fun h => by cases h), rfl, hI, fun _ _ h => h⟩
    · intro bb w' hf hI hA
      clear hi' hne
      have q94 : bb.tmps[94]? = some _ := hf.tmp (k := 1) rfl (by rw [ha]; decide) (hA 1 (by kernel_rfl))
      have hK : Keep g w' (w'.alloc (.cells #[.int .i64 x.b, .int .i64 (-1), .int .i64 1000] 2)) := (Keep.refl g w').alloc _
      have hT := Tb.new (g := g) (w := w') [x.b, (-1), 1000] hI.1.1
      exact Rg.op_value (o := ⟨some 95, Op.buildSlice 27 3 #[(0, (Operand.tmp 94)), (1, (Operand.const (Value.int IntKind.i64 (-1)))), (2, (Operand.const (Value.int .i64 1000)))], _, _, _, _⟩) (x := .slice (some ⟨w'.heap.size, 0, none⟩) 3 3) (w' := w'.alloc (.cells #[.int .i64 x.b, .int .i64 (-1), .int .i64 1000] 2)) rfl rfl (by clear hA HS ; simp only [execOp]; go_simp) ⟨_, rfl, (fun h => by cases h), ⟨_, _, rfl, rfl, hI.2.size, hT⟩, ⟨(hI.1.alloc _), hI.2.trans hK⟩, HS hK⟩
    · intro bb w' hf hI hA
      clear hi' hne
      have q4 := hf.kept (s := 4) (by rw [sizeB26]; kernel_rfl) k4
      exact Rg.op_value (o := ⟨some 96, Op.move (Operand.tmp 4), _, _, _, _⟩) (x := .pointer (some ⟨g, 0, none⟩)) rfl rfl (by clear hA HS ; simp only [execOp]; go_simp) ⟨_, rfl, (fun h => by cases h), rfl, hI, fun _ _ h => h⟩
    · intro bb w' hf hI hA
      clear hi' hne
      have q96 : bb.tmps[96]? = some _ := hf.tmp (k := 3) rfl (by rw [ha]; decide) (hA 3 (by kernel_rfl))
      refine Rg.op_call (o := ⟨some 97, Op.call { callee := Callee.value (Operand.func 22), args := #[(Operand.tmp 96), (Operand.const (Value.int .i64 3))], argTypes := _ }, _, _, _, _⟩) rfl rfl (by clear hA HS  ; simp only [execOp, resolve]; go_simp) (below_any g ao cap bs 3 w' hI.1 (by omega)) ?_
      rintro e w2 ⟨y, rfl, hx0, hx1, hc2, hk2⟩
      obtain ⟨n, rfl⟩ := Int.eq_ofNat_of_zero_le hx0
      exact ⟨_, rfl, _, rfl, (fun h => by cases h), ⟨n, rfl, by omega⟩, ⟨hc2, hI.2.trans hk2⟩, HS hk2⟩
    · intro bb w' hf hI hA
      clear hi' hne
      obtain ⟨T95, zs95, hv95, hl95, hT95, hb95⟩ := hA 2 (by kernel_rfl)
      have q95 : bb.tmps[95]? = some _ := hf.tmp (k := 2) rfl (by rw [ha]; decide) hv95
      obtain ⟨n97, hv97, hn97⟩ := hA 4 (by kernel_rfl)
      have q97 : bb.tmps[97]? = some _ := hf.tmp (k := 4) rfl (by rw [ha]; decide) hv97
      have hnl : (n97 : Int) < 3 := by omega
      exact Rg.op_value (o := ⟨some 98, Op.indexAddr 27 (Operand.tmp 95) (Operand.tmp 97), _, _, _, _⟩) (x := .pointer (some ⟨T95, n97, none⟩)) rfl rfl (by clear hA HS hv95  hv97  hb95 hl95; simp only [execOp]; go_simp) ⟨_, rfl, (fun h => by cases h), ⟨T95, n97, zs95, rfl, by omega, hT95, hb95⟩, hI, fun _ _ h => h⟩
    · intro bb w' hf hI hA
      clear hi' hne
      obtain ⟨T98, n98, zs98, hv98, hl98, hT98, hb98⟩ := hA 5 (by kernel_rfl)
      have q98 : bb.tmps[98]? = some _ := hf.tmp (k := 5) rfl (by rw [ha]; decide) hv98
      have hcell := hb98.at hl98
      generalize hz : zs98[n98] = z at hcell
      exact Rg.op_value (o := ⟨some 99, Op.load 2 (Operand.tmp 98), _, _, _, _⟩) (x := .int .i64 z) rfl rfl (by clear hA HS hv98  hb98 hz; simp only [execOp]; go_simp) ⟨_, rfl, (fun h => by cases h), ⟨z, rfl⟩, hI, fun _ _ h => h⟩
    · intro bb w' hf hI hA
      clear hi' hne
      have q9 := hf.kept (s := 9) (by rw [sizeB26]; kernel_rfl) k9
      exact Rg.op_value (o := ⟨some 100, Op.fieldAddr 30 (Operand.tmp 9) 3, _, _, _, _⟩) (x := .pointer (some ⟨V, 3, none⟩)) rfl rfl (by clear hA HS ; simp only [execOp]; go_simp) ⟨_, rfl, (fun h => by cases h), rfl, hI, fun _ _ h => h⟩

theorem dB26_0 : Rg.dstAt (Rg.opsOf Try.f7 26) 0 = some 93 := by kernel_rfl
theorem dB26_1 : Rg.dstAt (Rg.opsOf Try.f7 26) 1 = some 94 := by kernel_rfl
theorem dB26_2 : Rg.dstAt (Rg.opsOf Try.f7 26) 2 = some 95 := by kernel_rfl
theorem dB26_3 : Rg.dstAt (Rg.opsOf Try.f7 26) 3 = some 96 := by kernel_rfl
theorem dB26_4 : Rg.dstAt (Rg.opsOf Try.f7 26) 4 = some 97 := by kernel_rfl
theorem dB26_5 : Rg.dstAt (Rg.opsOf Try.f7 26) 5 = some 98 := by kernel_rfl
theorem dB26_6 : Rg.dstAt (Rg.opsOf Try.f7 26) 6 = some 99 := by kernel_rfl
theorem dB26_7 : Rg.dstAt (Rg.opsOf Try.f7 26) 7 = some 100 := by kernel_rfl
theorem dB26_8 : Rg.dstAt (Rg.opsOf Try.f7 26) 8 = none := by kernel_rfl
theorem pnB26 (a : Act) (v : Value) : a.put none v = a := rfl
theorem layB26 {a b : Act} (hf : Rg.Fr (Rg.opsOf Try.f7 26) a b) : b = ((((((((a.put (some 93) (Rg.out (Rg.opsOf Try.f7 26) b 0)).put (some 94) (Rg.out (Rg.opsOf Try.f7 26) b 1)).put (some 95) (Rg.out (Rg.opsOf Try.f7 26) b 2)).put (some 96) (Rg.out (Rg.opsOf Try.f7 26) b 3)).put (some 97) (Rg.out (Rg.opsOf Try.f7 26) b 4)).put (some 98) (Rg.out (Rg.opsOf Try.f7 26) b 5)).put (some 99) (Rg.out (Rg.opsOf Try.f7 26) b 6)).put (some 100) (Rg.out (Rg.opsOf Try.f7 26) b 7)) := by
  have h := hf.chain
  rw [sizeB26, show List.range 9 = [0, 1, 2, 3, 4, 5, 6, 7, 8] from by decide] at h
  simp only [List.foldl_cons, List.foldl_nil, dB26_0, dB26_1, dB26_2, dB26_3, dB26_4, dB26_5, dB26_6, dB26_7, dB26_8, pnB26] at h
  exact h
end Go.Proofs.Ytkejjlgeiaeicaa
