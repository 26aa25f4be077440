/-
  A history of steps that grows while it is drawn of a cursor.
-/
import Derived.Test.YtklgadaefngnnaaDt
import Derived.Test.YtklgadaefngnnaaWb
import Derived.Test.YtklgadaefngnnaaZa
import Derived.Laws.AppendOwn
namespace Go.Proofs.Ytklgadaefngnnaa
open Go.RowKit Va Wa
set_option linter.unusedVariables false

theorem infoStp : (Try.prog.info? 58).map (fun i => (i.zero, i.size, i.bytes)) = some (some (.agg #[.int .i64 0, .int .i64 0, .int .i64 0, .int .i64 0]), 4, 32) := by kernel_rfl
theorem info_partsZ {P : Program} {t : TypeId} {z : Value} {n b : Nat} (h : (P.info? t).map (fun i => (i.zero, i.size, i.bytes)) = some (some z, n, b)) : ∃ i, P.info? t = some i ∧ i.zero = some z ∧ i.size = n ∧ i.bytes = b := by
  obtain ⟨i, h1, h2⟩ := Option.map_eq_some_iff.1 h
  simp only [Prod.mk.injEq] at h2
  exact ⟨i, h1, h2.1, h2.2.1, h2.2.2⟩
theorem tab_in (zs : List Int) (W W' : World) (g : Nat) (t : TypeId) (hk : Keep g (W.alloc (.cells (zs.map (fun z => Value.int .i64 z)).toArray t)) W') (hg : g < W.heap.size) (k : Nat) (hz : k < zs.length) : ∃ z : Int, z ∈ zs ∧ W'.cell? ⟨W.heap.size, k, none⟩ = some (.int .i64 z) := by
  refine ⟨zs[k], List.getElem_mem _, ?_⟩
  rw [hk.cell (by simp) (by omega)]
  have e := heap_alloc_new W (.cells (zs.map (fun z => Value.int .i64 z)).toArray t)
  simp only [World.cell?, e]
  simp [hz]
/-- The cells of a table of steps, behind a draw. -/
theorem tab_steps (ts : List Stp) (W W' : World) (g : Nat) (t : TypeId) (hk : Keep g (W.alloc (.cells (cellsL 4 csT ts).toArray t)) W') (hg : g < W.heap.size) (k : Nat) (hz : k < ts.length) : ∃ x : Stp, x ∈ ts ∧ W'.cell? ⟨W.heap.size, k * 4, none⟩ = some (.int .i64 x.kind) ∧ W'.cell? ⟨W.heap.size, k * 4 + 1, none⟩ = some (.int .i64 x.tray) ∧ W'.cell? ⟨W.heap.size, k * 4 + 2, none⟩ = some (.int .i64 x.cyc) ∧ W'.cell? ⟨W.heap.size, k * 4 + 3, none⟩ = some (.int .i64 x.per) := by
  have hx := List.getElem?_eq_getElem hz
  have e := heap_alloc_new W (.cells (cellsL 4 csT ts).toArray t)
  have hc : ∀ j, j < 4 → W'.cell? ⟨W.heap.size, k * 4 + j, none⟩ = some (.int .i64 (csT ts[k] j)) := fun j hj => by
    rw [hk.cell (by simp) (by omega)]
    simp only [World.cell?, e]
    have := cellsL_get (s := 4) (cs := csT) ts k _ hx j hj
    simpa using this
  exact ⟨ts[k], List.getElem_mem _, hc 0 (by omega), hc 1 (by omega), hc 2 (by omega), hc 3 (by omega)⟩
/-- The history l at v, in a block of the call's own, beside a cursor at g. -/
structure DS (w0 W : World) (g : Nat) (ao : Option Addr) (cap : Nat) (bs : List Int) (v : Value) (l : List Stp) : Prop where
  cur : Cur W g ao cap bs
  keep : Keep g w0 W
  own : W.ownsRow w0.heap.size 58 4 v l.length (cellsL 4 csT l)
  gg : g < w0.heap.size
  fresh : Fresh l
theorem fresh_app {l m : List Stp} (h : Fresh l) (k : Fresh m) : Fresh (l ++ m) := fun x hx => by
  rcases List.mem_append.1 hx with q | q
  · exact h x q
  · exact k x q
def setS (x : Stp) (j : Nat) (y : Int) : Stp := match j with
  | 0 => { x with kind := y }
  | 1 => { x with tray := y }
  | 2 => { x with cyc := y }
  | _ => { x with per := y }
theorem cellsT_cons (x : Stp) (l : List Stp) : cellsL 4 csT (x :: l) = .int .i64 x.kind :: .int .i64 x.tray :: .int .i64 x.cyc :: .int .i64 x.per :: cellsL 4 csT l := rfl
theorem cellsT_app (l m : List Stp) : cellsL 4 csT (l ++ m) = cellsL 4 csT l ++ cellsL 4 csT m := by
  unfold cellsL; rw [List.flatMap_append]
theorem cellsT_set (j : Nat) (hj : j < 4) (y : Int) : ∀ (l : List Stp) (i : Nat) (x : Stp), l[i]? = some x → (cellsL 4 csT l).set (i * 4 + j) (.int .i64 y) = cellsL 4 csT (l.set i (setS x j y))
  | [], _, _, h => by cases h
  | a :: l, 0, x, h => by
    obtain rfl : a = x := by simpa using h
    rw [List.set_cons_zero, cellsT_cons, cellsT_cons]
    rcases (show j = 0 ∨ j = 1 ∨ j = 2 ∨ j = 3 by omega) with rfl | rfl | rfl | rfl <;> rfl
  | a :: l, i + 1, x, h => by
    rw [List.set_cons_succ, cellsT_cons, cellsT_cons, ← cellsT_set j hj y l i x (by simpa using h), show (i + 1) * 4 + j = (i * 4 + j) + 1 + 1 + 1 + 1 from by omega]
    rfl
theorem fresh_set {l : List Stp} {i j : Nat} {x : Stp} {y : Int} (h : Fresh l) (hx : l[i]? = some x) (hc : j = 2 → y ≠ 900) (hp : j = 3 → y ≠ 77) (hj : j < 4) : Fresh (l.set i (setS x j y)) := by
  intro z hz
  rcases List.mem_or_eq_of_mem_set hz with q | q
  · exact h z q
  · have hf := h x (List.mem_of_getElem? hx)
    subst q
    rcases (show j = 0 ∨ j = 1 ∨ j = 2 ∨ j = 3 by omega) with rfl | rfl | rfl | rfl
    · exact hf
    · exact hf
    · exact ⟨hc rfl, hf.2⟩
    · exact ⟨hf.1, hp rfl⟩
section
variable {w0 W W' : World} {g cap : Nat} {ao : Option Addr} {bs : List Int} {v : Value} {l : List Stp}

theorem DS.call (h : DS w0 W g ao cap bs v l) (hc : Cur W' g ao cap bs) (hk : Keep g W W') : DS w0 W' g ao cap bs v l := by
  refine ⟨hc, h.keep.trans hk, ?_, h.gg, h.fresh⟩
  obtain ⟨h1, h2⟩ := h.own
  refine ⟨h1, ?_⟩
  rcases h2 with h2 | ⟨b, c, cur, h2, h3, h4, h5⟩
  · exact Or.inl h2
  · have hb := (Array.getElem?_eq_some_iff.1 h4).1
    have := h.gg
    exact Or.inr ⟨b, c, cur, h2, h3, (hk.block b hb (by omega)).trans h4, h5⟩
theorem DS.alloc (h : DS w0 W g ao cap bs v l) (o : Obj) : DS w0 (W.alloc o) g ao cap bs v l :=
  h.call (h.cur.below ((Below.refl _ _).alloc h.cur.1 _)) ((Keep.refl g W).alloc o)
theorem DS.drewN (h : DS w0 W g ao cap bs v l) (n : Nat) : DS w0 (W.drewN n) g ao cap bs v l := ⟨h.cur, h.keep.drewN n, h.own, h.gg, h.fresh⟩
theorem DS.drew (h : DS w0 W g ao cap bs v l) : DS w0 W.drew g ao cap bs v l := h.drewN 1
theorem DS.form (h : DS w0 W g ao cap bs v l) : ∃ ad c, v = .slice ad l.length c := by
  rcases h.own.2 with ⟨h1, h2⟩ | ⟨b, c, cur, h2, _⟩
  · exact ⟨none, 0, by rw [h1, h2]⟩
  · exact ⟨_, _, h2⟩
theorem DS.row (h : DS w0 W g ao cap bs v l) : Rw 4 csT W v l := (own_of rfl h.own).row
/-- Some steps more are put behind. -/
theorem DS.app {v' : Value} {ms : List Stp} (h : DS w0 W g ao cap bs v l) (hf : Fresh ms) (ho : W'.ownsRow w0.heap.size 58 4 v' (l.length + ms.length) (cellsL 4 csT l ++ cellsL 4 csT ms)) (hg : W.grownBy W' v.ownBlock) : DS w0 W' g ao cap bs v' (l ++ ms) := by
  have hne : ∀ j, j < w0.heap.size → some j ≠ v.ownBlock := by
    intro j hj
    rcases h.own.2 with ⟨rfl, _⟩ | ⟨b, c, cur, rfl, h3, _⟩
    · simp [Value.ownBlock]
    · simp [Value.ownBlock]; omega
  have hs := h.keep.size
  have hgg := h.gg
  refine ⟨h.cur.below ⟨hg.os, hg.tape, hg.output, hg.size, fun j hj => hg.block j (by omega) (hne j (by omega))⟩, ?_, ?_, h.gg, fresh_app h.fresh hf⟩
  · exact ⟨hg.os.trans h.keep.os, hg.tape.trans h.keep.tape, hg.output.trans h.keep.output, Nat.le_trans hs hg.size, fun j hj hjg => (hg.block j (by omega) (hne j hj)).trans (h.keep.block j hj hjg)⟩
  · rw [cellsT_app, List.length_append]; exact ho
theorem DS.anew (h : DS w0 W g ao cap bs v l) : DS w0 (W.alloc (.cells #[] 58)) g ao cap bs (.slice (some ⟨W.heap.size, 0, none⟩) 0 0) [] := by
  have k := h.alloc (.cells #[] 58)
  exact ⟨k.cur, k.keep, ⟨rfl, .inr ⟨W.heap.size, 0, #[], rfl, h.keep.size, heap_alloc_new W _, Nat.le_refl _, Nat.zero_le _, rfl, rfl⟩⟩, h.gg, fun x hx => by cases hx⟩
theorem DS.start (hc : Cur w0 g ao cap bs) : DS w0 (w0.alloc (.cells #[] 58)) g ao cap bs (.slice (some ⟨w0.heap.size, 0, none⟩) 0 0) [] :=
  DS.anew (v := .slice none 0 0) (l := []) ⟨hc, Keep.refl _ _, ⟨rfl, .inl ⟨rfl, rfl⟩⟩, hc.1, fun x hx => by cases hx⟩
/-- One of the steps, and that its cells may be written. -/
theorem DS.one {ad : Option Addr} {c : Nat} (h : DS w0 W g ao cap bs (.slice ad l.length c) l) {i : Nat} (hi : i < l.length) : ∃ G, ad = some ⟨G, 0, none⟩ ∧ g < G ∧ G < W.heap.size ∧ (∀ j, j < 4 → (∃ u, W.cell? ⟨G, i * 4 + j, none⟩ = some u) ∧ W.frozen? ⟨G, i * 4 + j, none⟩ = false) ∧ ∀ j y, j < 4 → (j = 2 → y ≠ 900) → (j = 3 → y ≠ 77) → ∃ l', l'.length = l.length ∧ DS w0 (W.setCell ⟨G, i * 4 + j, none⟩ (.int .i64 y)) g ao cap bs (.slice ad l.length c) l' := by
  rcases h.own.2 with ⟨h1, h2⟩ | ⟨G, c', cur, he, h3, h4, h5, h6, h7, h8⟩
  · omega
  obtain ⟨rfl, rfl⟩ : ad = some ⟨G, 0, none⟩ ∧ c = c' := by simpa using he
  have hgg := h.gg
  have hlen : l.length * 4 ≤ cur.size := by rw [h7]; omega
  refine ⟨G, rfl, by omega, (Array.getElem?_eq_some_iff.1 h4).1, fun j hj => ⟨?_, ?_⟩, fun j y hj hc hp => ?_⟩
  · refine ⟨cur[i * 4 + j]'(by omega), ?_⟩
    simp only [World.cell?, h4]
    exact Array.getElem?_eq_getElem (by omega)
  · simp only [World.frozen?, h4]; simp
  have e := setCell_eq_setRow W G (i * 4 + j) _ _ _ (.int .i64 y) h4
  have hb : Below (g + 1) W (W.setCell ⟨G, i * 4 + j, none⟩ (.int .i64 y)) := (Below.refl _ W).setCell (p := ⟨G, i * 4 + j, none⟩) (show g + 1 ≤ G by omega) _
  have hx := List.getElem?_eq_getElem hi
  refine ⟨l.set i (setS l[i] j y), by simp, h.cur.below hb, ⟨h.keep.os, h.keep.tape, h.keep.output, by have := h.keep.size; simpa [World.setCell] using this, fun b hb' hbg => ?_⟩, ?_, h.gg, fresh_set h.fresh hx hc hp hj⟩
  · rw [e, setRow_other _ _ _ _ (by omega)]
    exact h.keep.block b hb' hbg
  · refine ⟨by rw [cellsL_len], .inr ⟨G, c, cur.setIfInBounds (i * 4 + j) (.int .i64 y), by simp, h3, ?_, by simpa using h5, h6, by simpa using h7, ?_⟩⟩
    · rw [e]; exact setRow_heap _ _ _ _ _ _ h4
    · rw [Array.toList_setIfInBounds, List.take_set, List.length_set, h8, cellsT_set j hj y l i _ hx]
theorem cell_list_new (w : World) (xs : List Value) (t : TypeId) : ∀ (j : Nat) (u : Value), xs[j]? = some u → (w.alloc (.cells xs.toArray t)).cell? ((⟨w.heap.size, 0, none⟩ : Addr).add j) = some u := fun j u hu => by
  have e0 := heap_alloc_new w (Obj.cells xs.toArray t)
  rw [Addr.add_lit, Nat.zero_add]
  simp only [World.cell?, e0]
  simpa using hu
theorem cellsT_one (ms : List Stp) : ∀ u ∈ cellsL 4 csT ms, u.oneCell' = true := by
  intro u hu
  unfold cellsL at hu
  simp only [List.mem_flatMap, List.mem_map] at hu
  obtain ⟨x, -, k, -, rfl⟩ := hu
  rfl
end
end Go.Proofs.Ytklgadaefngnnaa
