/-
  Merged: CuB CuC D1 D2.
-/
import Derived.Test.YtgcpiinmcbdkmaaMh14
import Derived.Test.YtgcpiinmcbdkmaaMh3
import Derived.Test.YtgcpiinmcbdkmaaMh2
import Derived.Test.YtgcpiinmcbdkmaaMh8
import Derived.Laws.AppendOwn
import Derived.Laws.Tables
import Derived.Laws.Rows
namespace Go.Proofs.Ytgcpiinmcbdkmaa
open Go.RowKit
set_option maxHeartbeats 1000000 in
theorem below_any (g : Nat) (ao : Option Addr) (cap : Nat) (bs : List Int) (n : Int) (w : World) (hc : Cur w g ao cap bs) (hn : 0 < n) :
    Calls Try.prog 39 #[.pointer (some ⟨g, 0, none⟩), .int .i64 n] w fun e w' => ∃ x : Int, e = .returned (.int .i64 x) ∧ 0 ≤ x ∧ x < n ∧ Cur w' g ao cap bs ∧ Keep g w w' := by
  by_cases h256 : n ≤ 256
  · go_enter Try.func39, Try.ntmps39
    go_wp2_with fail
    refine (byte_any g ao cap bs _ hc).mono ?_
    rintro e w1 ⟨x, rfl, hx0, hx1, hc1, hk1⟩
    go_wp2_with fail
    go_ret
    exact ⟨_, rfl, Int.emod_nonneg _ (by omega), Int.emod_lt_of_pos _ hn, hc1, hk1⟩
  · go_enter Try.func39, Try.ntmps39
    go_wp2_with fail
    refine (byte_any g ao cap bs _ hc).mono ?_
    rintro e w1 ⟨x, rfl, hx0, hx1, hc1, hk1⟩
    go_wp2_with fail
    refine (byte_any g ao cap bs _ hc1).mono ?_
    rintro e w2 ⟨y, rfl, hy0, hy1, hc2, hk2⟩
    go_wp2_with fail
    refine (byte_any g ao cap bs _ hc2).mono ?_
    rintro e w3 ⟨z, rfl, hz0, hz1, hc3, hk3⟩
    go_wp2_with fail
    refine (byte_any g ao cap bs _ hc3).mono ?_
    rintro e w4 ⟨v, rfl, hv0, hv1, hc4, hk4⟩
    go_wp2_with fail
    go_ret
    exact ⟨_, rfl, Int.emod_nonneg _ (by omega), Int.emod_lt_of_pos _ hn, hc4, ((hk1.trans hk2).trans hk3).trans hk4⟩
theorem once_any (g : Nat) (ao : Option Addr) (cap : Nat) (bs : List Int) (n : Int) (w : World) (hc : Cur w g ao cap bs) (hn : 0 < n) :
    Calls Try.prog 40 #[.pointer (some ⟨g, 0, none⟩), .int .i64 n] w fun e w' => ∃ t : Bool, e = .returned (.bool t) ∧ Cur w' g ao cap bs ∧ Keep g w w' := by
  go_enter Try.func40, Try.ntmps40
  go_wp2_with fail
  refine (below_any g ao cap bs n _ hc hn).mono ?_
  rintro e w1 ⟨x, rfl, hx0, hx1, hc1, hk1⟩
  go_wp2_with fail
  go_ret
  exact ⟨_, rfl, hc1, hk1⟩
theorem from_any (g : Nat) (ao : Option Addr) (cap : Nat) (bs : List Int) (lo hi : Int) (w : World) (hc : Cur w g ao cap bs) (h1 : -1000000 ≤ lo) (h2 : lo ≤ hi) (h3 : hi ≤ 1000000) :
    Calls Try.prog 117 #[.pointer (some ⟨g, 0, none⟩), .int .i64 lo, .int .i64 hi] w fun e w' => ∃ x : Int, e = .returned (.int .i64 x) ∧ lo ≤ x ∧ x ≤ hi ∧ Cur w' g ao cap bs ∧ Keep g w w' := by
  go_enter Try.func117, Try.ntmps117
  go_wp2_with fail
  refine (below_any g ao cap bs _ _ hc (by omega)).mono ?_
  rintro e w1 ⟨x, rfl, hx0, hx1, hc1, hk1⟩
  go_wp2_with fail
  go_ret
  exact ⟨_, rfl, by omega, by omega, hc1, hk1⟩
end Go.Proofs.Ytgcpiinmcbdkmaa

namespace Go.Proofs.Ytgcpiinmcbdkmaa
open Go.RowKit
set_option maxHeartbeats 1000000 in
theorem new_any (ao : Option Addr) (cap : Nat) (bs : List Int) (w : World) (hb : Bytes w w.heap.size ao bs) (hl : bs.length ≤ 1048576) :
    Calls Try.prog 36 #[.slice ao bs.length cap] w fun e w' => e = .returned (.pointer (some ⟨w.heap.size, 0, none⟩)) ∧ Cur w' w.heap.size ao cap bs ∧ Below w.heap.size w w' := by
  go_enter Try.func36, Try.ntmps36
  go_wp2_with fail
  go_loopw [3, 4] (fun hv iv wr => wr = w ∧ ∃ (k : Nat) (h : Int), k ≤ bs.length ∧ iv = .int .i64 k ∧ hv = .int .i64 h) (fun _ iv _ => bs.length - (intOf iv).toNat)
  case atStart => exact ⟨rfl, 0, _, Nat.zero_le _, rfl, rfl⟩
  case round =>
    obtain ⟨rfl, k, h, hk, rfl, rfl⟩ := hrel
    by_cases hlt : k < bs.length
    · have hlt1 : (k : Int) < (bs.length : Int) := by omega
      rcases hb.2 with h2 | ⟨b, off, rfl, hbg0, hcell⟩
      · omega
      have hcb := hcell k hlt
      have hr : 0 ≤ bs.getD k 0 ∧ bs.getD k 0 ≤ 255 := hb.1 _ (by rw [List.getD_eq_getElem?_getD, List.getElem?_eq_getElem hlt]; simp)
      generalize bs.getD k 0 = y at *
      obtain ⟨r1, r2⟩ := hr
      clear hcell
      go_wp2_with fail
      go_roundw
      case rel => exact ⟨trivial, k + 1, _, by omega, by go_num, rfl⟩
      case measure => simp [intOf]; omega
    · have hlt1 : ¬ (k : Int) < (bs.length : Int) := by omega
      have hbb := hb
      clear hb
      go_wp2_with fail
      go_ret
      have e := heap_alloc_new wr (Obj.cells #[.slice ao bs.length cap, .int .i64 0, .int .i64 h] 115)
      have hB : Below wr.heap.size wr (wr.alloc (Obj.cells #[.slice ao bs.length cap, .int .i64 0, .int .i64 h] 115)) := (Keep.refl wr.heap.size wr).alloc _ |>.below (Nat.le_refl _) (Nat.le_refl _)
      refine ⟨rfl, ⟨by simp, hbb.below hB, hl, 0, h, Nat.zero_le _, ?_, ?_, ?_, ?_, ?_⟩, hB⟩
      · simp only [World.cell?, e]; rfl
      · simp only [World.cell?, e]; rfl
      · simp only [World.cell?, e]; rfl
      · simp only [World.frozen?, e]; rfl
      · simp only [World.frozen?, e]; rfl
theorem big_any (ao : Option Addr) (cap n : Nat) (w : World) :
    Calls Try.prog 8 #[.slice ao n cap] w fun e w' => e = .returned (.bool (decide (4096 < (n : Int)))) ∧ w' = w := by
  go_enter Try.func8, Try.ntmps8
  go_wp2_with fail
  go_ret
  exact ⟨rfl, rfl⟩
end Go.Proofs.Ytgcpiinmcbdkmaa

namespace Go.Proofs.Ytgcpiinmcbdkmaa
open Go.RowKit Va Bl
set_option linter.all false
theorem PB.keep {W W' : World} {g B : Nat} {vs : Array Value} {t : TypeId} (h : PB W B vs t) (hk : Keep g W W') (hg : B ≠ g) : PB W' B vs t := (hk.block B h.lt hg).trans h
theorem Keep.far {g V j n : Nat} {a b : World} (h : Keep g a b) (hV : a.heap.size ≤ V) (u : Value) : Keep g a (b.setCell ⟨V, j, none⟩ u) :=
  ⟨h.os, h.tape, h.output, by simpa [World.setCell] using h.size, fun i hi hg => (heap_setCell_other b ⟨V, j, none⟩ i u (fun e => by have e' : i = V := e; omega)).trans (h.block i hi hg)⟩
theorem Cur.far {w : World} {g cap V j : Nat} {ao : Option Addr} {bs : List Int} (h : Cur w g ao cap bs) (hV : g < V) (u : Value) : Cur (w.setCell ⟨V, j, none⟩ u) g ao cap bs := h.below ((Below.refl _ _).setCell (show g + 1 ≤ V by omega) u)
theorem Cur.alloc {w : World} {g cap : Nat} {ao : Option Addr} {bs : List Int} (h : Cur w g ao cap bs) (o : Obj) : Cur (w.alloc o) g ao cap bs := h.below ((Below.refl _ _).alloc h.1 _)
def Tb (g : Nat) (w : World) (T : Nat) (zs : List Int) : Prop := T ≠ g ∧ PB w T (zs.map (fun z => Value.int .i64 z)).toArray 2
theorem Tb.keep {g T : Nat} {w w' : World} {zs : List Int} (h : Tb g w T zs) (hk : Keep g w w') : Tb g w' T zs := ⟨h.1, h.2.keep hk h.1⟩
theorem Tb.at {g T k : Nat} {w : World} {zs : List Int} (h : Tb g w T zs) (hk : k < zs.length) : w.cell? ⟨T, k, none⟩ = some (.int .i64 zs[k]) := by
  rw [h.2.cell]
  simp [hk]
theorem Tb.new {g : Nat} {w : World} (zs : List Int) (hg : g < w.heap.size) : Tb g (w.alloc (.cells (zs.map (fun z => Value.int .i64 z)).toArray 2)) w.heap.size zs := ⟨by omega, PB.new _ _ _⟩
structure DX (w0 W : World) (g : Nat) (ao : Option Addr) (cap : Nat) (bs : List Int) (R V : Nat) (rs vs : Array Value) (t : TypeId) : Prop where
  cur : Cur W g ao cap bs
  keep : Keep g w0 W
  res : PB W R rs t
  box : PB W V vs t
  gg : g < w0.heap.size
  rr : w0.heap.size ≤ R
  vv : w0.heap.size ≤ V
  rv : V ≠ R
section
variable {w0 W W' : World} {g cap R V : Nat} {ao : Option Addr} {bs : List Int} {rs vs : Array Value} {t : TypeId}
theorem DX.call (h : DX w0 W g ao cap bs R V rs vs t) (hc : Cur W' g ao cap bs) (hk : Keep g W W') : DX w0 W' g ao cap bs R V rs vs t := by
  have := h.gg
  have := h.rr
  have := h.vv
  exact ⟨hc, h.keep.trans hk, h.res.keep hk (by omega), h.box.keep hk (by omega), h.gg, h.rr, h.vv, h.rv⟩
theorem DX.alloc (h : DX w0 W g ao cap bs R V rs vs t) (o : Obj) : DX w0 (W.alloc o) g ao cap bs R V rs vs t := h.call (h.cur.alloc o) ((Keep.refl g W).alloc o)
theorem DX.put (h : DX w0 W g ao cap bs R V rs vs t) (j : Nat) (u : Value) {vs' : Array Value} (e : vs.setIfInBounds j u = vs') : DX w0 (W.setCell ⟨V, j, none⟩ u) g ao cap bs R V rs vs' t := by
  have := h.gg
  have := h.vv
  exact ⟨h.cur.far (by omega) u, Keep.far (n := 0) h.keep h.vv u, h.res.far h.rv j u, h.box.put j u e, h.gg, h.rr, h.vv, h.rv⟩
theorem DX.gV (h : DX w0 W g ao cap bs R V rs vs t) : V ≠ g := by have := h.gg; have := h.vv; omega
end
structure DI (w0 W : World) (g : Nat) (ao : Option Addr) (cap : Nat) (bs : List Int) (v : Value) (l : List Int) : Prop where
  cur : Cur W g ao cap bs
  keep : Keep g w0 W
  own : W.ownsRow w0.heap.size 2 1 v l.length (l.map fun z => Value.int .i64 z)
  gg : g < w0.heap.size
section
variable {w0 W W' : World} {g cap : Nat} {ao : Option Addr} {bs : List Int} {v : Value} {l : List Int}
theorem DI.call (h : DI w0 W g ao cap bs v l) (hc : Cur W' g ao cap bs) (hk : Keep g W W') : DI w0 W' g ao cap bs v l := by
  refine ⟨hc, h.keep.trans hk, ?_, h.gg⟩
  obtain ⟨h1, h2⟩ := h.own
  refine ⟨h1, ?_⟩
  rcases h2 with h2 | ⟨b, c, cur, h2, h3, h4, h5⟩
  · exact Or.inl h2
  · have hb := (Array.getElem?_eq_some_iff.1 h4).1
    have := h.gg
    exact Or.inr ⟨b, c, cur, h2, h3, (hk.block b hb (by omega)).trans h4, h5⟩
theorem DI.alloc (h : DI w0 W g ao cap bs v l) (o : Obj) : DI w0 (W.alloc o) g ao cap bs v l :=
  h.call (h.cur.below ((Below.refl _ _).alloc h.cur.1 _)) ((Keep.refl g W).alloc o)
theorem DI.drewN (h : DI w0 W g ao cap bs v l) (n : Nat) : DI w0 (W.drewN n) g ao cap bs v l := ⟨h.cur, h.keep.drewN n, h.own, h.gg⟩
theorem DI.drew (h : DI w0 W g ao cap bs v l) : DI w0 W.drew g ao cap bs v l := h.drewN 1
theorem DI.form (h : DI w0 W g ao cap bs v l) : ∃ ad c, v = .slice ad l.length c := by
  rcases h.own.2 with ⟨h1, h2⟩ | ⟨b, c, cur, h2, _⟩
  · exact ⟨none, 0, by rw [h1, h2]⟩
  · exact ⟨_, _, h2⟩
theorem DI.app {v' : Value} {x : Int} (h : DI w0 W g ao cap bs v l) (ho : W'.ownsRow w0.heap.size 2 1 v' (l.length + 1) ((l.map fun z => Value.int .i64 z) ++ [.int .i64 x])) (hg : W.grownBy W' v.ownBlock) : DI w0 W' g ao cap bs v' (l ++ [x]) := by
  have hne : ∀ j, j < w0.heap.size → some j ≠ v.ownBlock := by
    intro j hj
    rcases h.own.2 with ⟨rfl, _⟩ | ⟨b, c, cur, rfl, h3, _⟩
    · simp [Value.ownBlock]
    · simp [Value.ownBlock]; omega
  have hs := h.keep.size
  have hgg := h.gg
  refine ⟨h.cur.below ⟨hg.os, hg.tape, hg.output, hg.size, fun j hj => hg.block j (by omega) (hne j (by omega))⟩, ?_, ?_, h.gg⟩
  · exact ⟨hg.os.trans h.keep.os, hg.tape.trans h.keep.tape, hg.output.trans h.keep.output, Nat.le_trans hs hg.size, fun j hj hjg => (hg.block j (by omega) (hne j hj)).trans (h.keep.block j hj hjg)⟩
  · rw [List.map_append, List.length_append]; exact ho
theorem DI.anew (h : DI w0 W g ao cap bs v l) : DI w0 (W.alloc (.cells #[] 2)) g ao cap bs (.slice (some ⟨W.heap.size, 0, none⟩) 0 0) [] := by
  have k := h.alloc (.cells #[] 2)
  exact ⟨k.cur, k.keep, ⟨rfl, .inr ⟨W.heap.size, 0, #[], rfl, h.keep.size, heap_alloc_new W _, Nat.le_refl _, Nat.zero_le _, rfl, rfl⟩⟩, h.gg⟩
theorem DI.start (hc : Cur w0 g ao cap bs) : DI w0 (w0.alloc (.cells #[] 2)) g ao cap bs (.slice (some ⟨w0.heap.size, 0, none⟩) 0 0) [] :=
  DI.anew (v := .slice none 0 0) (l := []) ⟨hc, Keep.refl _ _, ⟨rfl, .inl ⟨rfl, rfl⟩⟩, hc.1⟩
end
theorem DI.lift {w0 w W : World} {g cap : Nat} {ao : Option Addr} {bs : List Int} {v : Value} {l : List Int} (h : DI w W g ao cap bs v l) (hk : Keep g w0 w) (hg : g < w0.heap.size) : DI w0 W g ao cap bs v l :=
  ⟨h.cur, hk.trans h.keep, ownW_base h.own hk.size, hg⟩
theorem PB.grown {W W' : World} {B : Nat} {vs : Array Value} {t : TypeId} {r : Option Nat} (h : PB W B vs t) (hg : W.grownBy W' r) (hr : ∀ k, r = some k → k ≠ B) : PB W' B vs t :=
  (hg.block B h.lt (fun e => hr B e.symm rfl)).trans h
theorem DX.grown {w0 W W' : World} {g cap R V : Nat} {ao : Option Addr} {bs : List Int} {rs vs : Array Value} {t : TypeId} {r : Option Nat} (h : DX w0 W g ao cap bs R V rs vs t) (hg : W.grownBy W' r) (hr : ∀ k, r = some k → w0.heap.size ≤ k ∧ k ≠ V ∧ k ≠ R) : DX w0 W' g ao cap bs R V rs vs t := by
  have hgg := h.gg
  have hb : Below w0.heap.size W W' := (Below.refl _ _).grown hg h.keep.size (fun k hk => (hr k hk).1)
  exact ⟨h.cur.below (hb.mono hgg), ⟨hb.os.trans h.keep.os, hb.tape.trans h.keep.tape, hb.output.trans h.keep.output, Nat.le_trans h.keep.size hg.size, fun i hi hig => (hb.block i hi).trans (h.keep.block i hi hig)⟩, h.res.grown hg (fun k hk => (hr k hk).2.2), h.box.grown hg (fun k hk => (hr k hk).2.1), h.gg, h.rr, h.vv, h.rv⟩
def Ap (v : Value) (V R : Nat) : Prop := ∀ k, v.ownBlock = some k → k ≠ V ∧ k ≠ R
theorem DI.far {w0 W : World} {g cap : Nat} {ao : Option Addr} {bs : List Int} {v : Value} {l : List Int} (h : DI w0 W g ao cap bs v l) {V R : Nat} (hV : w0.heap.size ≤ V) (ha : Ap v V R) (j : Nat) (u : Value) : DI w0 (W.setCell ⟨V, j, none⟩ u) g ao cap bs v l := by
  have hgg := h.gg
  refine ⟨h.cur.far (by omega) u, Keep.far (n := 0) h.keep hV u, ?_, h.gg⟩
  obtain ⟨h1, h2⟩ := h.own
  refine ⟨h1, ?_⟩
  rcases h2 with h2 | ⟨b, c, cur, h2, h3, h4, h5⟩
  · exact Or.inl h2
  · have hb : b ≠ V := (ha b (by rw [h2]; rfl)).1
    exact Or.inr ⟨b, c, cur, h2, h3, (heap_setCell_other W ⟨V, j, none⟩ b u hb).trans h4, h5⟩
end Go.Proofs.Ytgcpiinmcbdkmaa

namespace Go.Proofs.Ytgcpiinmcbdkmaa
open Go.RowKit Va Bl
set_option linter.all false
set_option maxRecDepth 20000 in
set_option maxHeartbeats 4000000 in
theorem dants_any (g : Nat) (ao : Option Addr) (cap : Nat) (bs : List Int) (n0 : Nat) (w : World) (hc : Cur w g ao cap bs) (hn : n0 ≤ 3) :
    Calls Try.prog 75 #[.pointer (some ⟨g, 0, none⟩), .int .i64 (n0 : Nat)] w fun e w' => ∃ (ad : Option Addr) (c : Nat) (l : List Int), e = .returned (.slice ad l.length c) ∧ l.length ≤ 3 ∧ DI w w' g ao cap bs (.slice ad l.length c) l := by
  obtain ⟨i0, hi0, hv0, hv1, hv2⟩ := info_partsW infoW64
  have hd := DI.start hc
  clear hc
  go_enter Try.func75, Try.ntmps75
  go_upto_region 2 with fail
  generalize w.alloc (.cells #[] 2) = wA at *
  generalize Value.slice (some ⟨w.heap.size, 0, none⟩) 0 0 = v0 at *
  go_wp2_with fail
  refine (from_any g ao cap bs (-1) 2 _ hd.cur (by omega) (by omega) (by omega)).mono ?_
  rintro e w1 ⟨x1, rfl, x10, x11, hc1, hk1⟩
  have hd1 := hd.call hc1 hk1
  clear hd hc1 hk1
  go_wp2_with fail
  go_loopw [1, 5, 6] (fun kv sv nv wr => ∃ (k : Nat) (z : Int) (l : List Int), k + l.length ≤ 3 ∧ kv = .int .i64 k ∧ nv = .int .i64 z ∧ -1 ≤ z ∧ z ≤ 2 + 4 * (l.length : Int) ∧ DI w wr g ao cap bs sv l) (fun kv _ _ _ => (intOf kv).toNat)
  case atStart => exact ⟨n0, x1, [], by simp; omega, rfl, rfl, x10, by simp; omega, hd1⟩
  case round =>
    clear hd1
    obtain ⟨k, z, l, hkl, rfl, rfl, hz0, hz1, hd⟩ := hrel
    obtain ⟨ad, c, rfl⟩ := hd.form
    by_cases hk0 : 0 < k
    · have hki : (0 : Int) < (k : Int) := by omega
      go_wp2_with fail
      refine (below_any g ao cap bs 3 _ hd.cur (by omega)).mono ?_
      rintro e w3 ⟨x3, rfl, x30, x31, hc3, hk3⟩
      have hd3 := hd.call hc3 hk3
      have HD := hidden hd3
      have HX := hidden (hd3.alloc (.cells #[.int .i64 (z + 1 + x3)] 2))
      have hsz := hd3.keep.size
      clear hd hc3 hk3 hd3
      go_wp2_with (at_builtin; refine wpList_append_own _ rfl (.tmp 19) (.tmp 21) 25 rfl w.heap.size 2 i0 (.int .i64 0) 1 8 Try.underlying25 hi0 hv0 hv1 hv2 rfl (by decide) _ l.length (l.map fun z => Value.int .i64 z) rfl HX.out.own ⟨w3.heap.size, 0, none⟩ 1 1 [.int .i64 (z + 1 + x3)] rfl rfl (cell_oneW _ _ _) (by simp [Value.oneCell']) (by unfold maxLen; omega) (by omega) (by simp; omega) ?_; intro v5 w5 ho5 hg5 hn5)
      have hd5 := HX.out.app ho5 hg5
      go_roundw
      case rel => exact ⟨k - 1, z + 1 + x3, l ++ [z + 1 + x3], by simp; omega, by congr 1; omega, rfl, by omega, by simp; omega, hd5⟩
      case measure => simp [intOf]; omega
    · have hki : ¬ (0 : Int) < (k : Int) := by omega
      go_wp2_with fail
      go_ret
      exact ⟨ad, c, l, rfl, by omega, hd⟩
end Go.Proofs.Ytgcpiinmcbdkmaa
