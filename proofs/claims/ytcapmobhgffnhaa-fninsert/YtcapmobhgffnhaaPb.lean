/-
  An operation that is drawn of a cursor: its box, the box of the answer, its team, which grows.
-/
import Derived.Test.YtcapmobhgffnhaaAd
import Derived.Test.YtcapmobhgffnhaaOy
import Derived.Deep.RegionLawGrows
namespace Go.Proofs.Ytcapmobhgffnhaa
open Go.RowKit Va Oa
set_option linter.unusedVariables false

theorem step_append_ownP {P : Program} {ops : Array Oper} {o : Oper} {a : Act} {w : World} {K : Act → World → Prop} {Q : Exit → Act → World → Prop} {E : Prop} (hg : o.guard = none) (s x : Operand) (t : TypeId)
    (ho : o.op = .call { callee := .builtin .append, args := #[s, x], argTypes := #[t, t] })
    (base : Nat) (e : TypeId) (i : TypeInfo) (z : Value) (size bytes : Nat) (ht : P.underlying t = some (.slice e)) (hi : P.info? e = some i) (hz : i.zero = some z)
    (hsize : i.size = size) (hby : i.bytes = bytes) (hzs : z.cells.size = size) (hsz : 0 < size)
    (v : Value) (n : Nat) (xs : List Value) (hs : a.eval s = v) (hown : w.ownsRow base e size v n xs)
    (ad : Addr) (m c : Nat) (news : List Value) (hx : a.eval x = .slice (some ad) m c) (hl : news.length = m * size) (hnews : ∀ j u, news[j]? = some u → w.cell? (ad.add j) = some u) (h1 : ∀ u ∈ news, u.oneCell' = true)
    (h63 : n + m ≤ maxLen) (hbytes : (n + m) * bytes ≤ 140737488355328) (hbase : base ≤ w.heap.size)
    (h : ∀ v' w', w'.ownsRow base e size v' (n + m) (xs ++ news) → w.grownBy w' v.ownBlock → (v' = .slice none 0 0 ↔ v = .slice none 0 0 ∧ m = 0) → K (a.put o.dst v') w') :
    if Region.wanted o (yielded ops a.tmps) = true then Oper.wp P o a w K Q else E := by
  rw [if_pos (by simp [Region.wanted, hg])]
  exact wp_append_own w s x t ho base e i z size bytes ht hi hz hsize hby hzs hsz v n xs hs hown ad m c news hx hl hnews h1 h63 hbytes hbase h

theorem own_keepP {w w' : World} {g b e s n : Nat} {v : Value} {xs : List Value} (h : w.ownsRow b e s v n xs) (hk : Keep g w w') (hg : g < b) : w'.ownsRow b e s v n xs := by
  obtain ⟨q, ⟨q1, q2⟩ | ⟨G, c, cur, rfl, hG, hh, r⟩⟩ := h
  · exact ⟨q, Or.inl ⟨q1, q2⟩⟩
  · exact ⟨q, Or.inr ⟨G, c, cur, rfl, hG, (hk.block G (Array.getElem?_eq_some_iff.1 hh).1 (by omega)).trans hh, r⟩⟩
theorem TBox.keep {W W' : World} {g B : Nat} {vs : Array Value} {t : TypeId} (h : TBox W B vs t) (hk : Keep g W W') (hg : B ≠ g) : TBox W' B vs t := (hk.block B h.lt hg).trans h
theorem own_far {w : World} {base e s n : Nat} {v : Value} {xs : List Value} (h : w.ownsRow base e s v n xs) {b o : Nat} (hb : ∀ k, v.ownBlock = some k → k ≠ b) (u : Value) : (w.setCell ⟨b, o, none⟩ u).ownsRow base e s v n xs := by
  obtain ⟨q, ⟨q1, q2⟩ | ⟨g, c, cur, rfl, hg, hh, r⟩⟩ := h
  · exact ⟨q, Or.inl ⟨q1, q2⟩⟩
  · exact ⟨q, Or.inr ⟨g, c, cur, rfl, hg, by rw [Below.heap_setCell _ _ _ _ (by show g ≠ b; exact hb g rfl)]; exact hh, r⟩⟩

/-- The operation x with the team at tv, in the box V; the box of the answer R; beside a cursor at g. -/
structure DP (w0 W : World) (g : Nat) (ao : Option Addr) (cap : Nat) (bs : List Int) (R V : Nat) (tv : Value) (x : Opn) : Prop where
  cur : Cur W g ao cap bs
  keep : Keep g w0 W
  res : TBox W R #[.int .i64 0, .int .i64 0, .int .i64 0, .slice none 0 0] 31
  box : TBox W V #[.int .i64 x.room, .int .i64 x.fr, .int .i64 x.to, tv] 31
  team : W.ownsRow w0.heap.size 2 1 tv x.team.length (x.team.map fun z => Value.int .i64 z)
  gg : g < w0.heap.size
  rr : w0.heap.size ≤ R
  vv : w0.heap.size ≤ V
  rv : R ≠ V
section
variable {w0 W W' : World} {g cap R V : Nat} {ao : Option Addr} {bs : List Int} {tv : Value} {x : Opn}

theorem DP.call (h : DP w0 W g ao cap bs R V tv x) (hc : Cur W' g ao cap bs) (hk : Keep g W W') : DP w0 W' g ao cap bs R V tv x := by
  have := h.gg
  have := h.rr
  have := h.vv
  exact ⟨hc, h.keep.trans hk, h.res.keep hk (by omega), h.box.keep hk (by omega), own_keepP h.team hk h.gg, h.gg, h.rr, h.vv, h.rv⟩
theorem DP.alloc (h : DP w0 W g ao cap bs R V tv x) (o : Obj) : DP w0 (W.alloc o) g ao cap bs R V tv x :=
  h.call (h.cur.below ((Below.refl _ _).alloc h.cur.1 _)) ((Keep.refl g W).alloc o)
theorem DP.drewN (h : DP w0 W g ao cap bs R V tv x) (n : Nat) : DP w0 (W.drewN n) g ao cap bs R V tv x := ⟨h.cur, h.keep.drewN n, h.res, h.box, h.team, h.gg, h.rr, h.vv, h.rv⟩
theorem DP.drew (h : DP w0 W g ao cap bs R V tv x) : DP w0 W.drew g ao cap bs R V tv x := h.drewN 1
theorem DP.form (h : DP w0 W g ao cap bs R V tv x) : ∃ ad c, tv = .slice ad x.team.length c := ownO_slice h.team
theorem DP.row (h : DP w0 W g ao cap bs R V tv x) : IRw W tv x.team := own_irw h.team
theorem DP.apart (h : DP w0 W g ao cap bs R V tv x) : ∀ k, tv.ownBlock = some k → k ≠ V ∧ k ≠ R := fun k hk => ⟨TBox.ne h.box h.team (by decide) k hk, TBox.ne h.res h.team (by decide) k hk⟩
theorem DP.head {ad : Option Addr} {c n : Nat} (h : DP w0 W g ao cap bs R V (.slice ad n c) x) (h1 : 1 ≤ x.team.length) : ∃ G y, ad = some ⟨G, 0, none⟩ ∧ G < W.heap.size ∧ x.team[0]? = some y ∧ W.cell? ⟨G, 0, none⟩ = some (.int .i64 y) := by
  rcases h.team.2 with ⟨-, h2⟩ | ⟨b, c', cur, h2, h3, h4, h5, h6, h7, h8⟩
  · omega
  · simp only [Value.slice.injEq] at h2
    obtain ⟨rfl, -, -⟩ := h2
    have hx : 0 < x.team.length := h1
    refine ⟨b, x.team[0], rfl, (Array.getElem?_eq_some_iff.1 h4).1, List.getElem?_eq_getElem hx, ?_⟩
    have e : (cur.toList.take (x.team.length * 1))[0]? = some (.int .i64 x.team[0]) := by rw [h8, List.getElem?_map, List.getElem?_eq_getElem hx]; rfl
    rw [List.getElem?_take, if_pos (by omega)] at e
    simp only [World.cell?, h4]
    simpa using e
/-- A store into the box. -/
theorem DP.set (h : DP w0 W g ao cap bs R V tv x) (j : Nat) (u : Value) (x' : Opn) (tv' : Value) (he : (#[.int .i64 x.room, .int .i64 x.fr, .int .i64 x.to, tv] : Array Value).setIfInBounds j u = #[.int .i64 x'.room, .int .i64 x'.fr, .int .i64 x'.to, tv'])
    (ht : W.ownsRow w0.heap.size 2 1 tv' x'.team.length (x'.team.map fun z => Value.int .i64 z)) : DP w0 (W.setCell ⟨V, j, none⟩ u) g ao cap bs R V tv' x' := by
  have a1 := h.gg
  have a2 := h.rr
  have a3 := h.vv
  have hb : Below (g + 1) W (W.setCell ⟨V, j, none⟩ u) := (Below.refl _ W).setCell (p := ⟨V, j, none⟩) (show g + 1 ≤ V by omega) _
  refine ⟨h.cur.below hb, ⟨h.keep.os, h.keep.tape, h.keep.output, by have := h.keep.size; simpa [World.setCell] using this, fun b hb' hbg => ?_⟩, h.res.far (Ne.symm h.rv) j u, ?_, own_far ht (fun k hk => TBox.ne h.box ht (by decide) k hk) u, h.gg, h.rr, h.vv, h.rv⟩
  · rw [Below.heap_setCell _ _ _ _ (by show b ≠ V; omega)]
    exact h.keep.block b hb' hbg
  · have := h.box.set j u
    rw [he] at this
    exact this
theorem DP.room (h : DP w0 W g ao cap bs R V tv x) (y : Int) : DP w0 (W.setCell ⟨V, 0, none⟩ (.int .i64 y)) g ao cap bs R V tv { x with room := y } := h.set 0 _ _ _ rfl h.team
theorem DP.fr (h : DP w0 W g ao cap bs R V tv x) (y : Int) : DP w0 (W.setCell ⟨V, 1, none⟩ (.int .i64 y)) g ao cap bs R V tv { x with fr := y } := h.set 1 _ _ _ rfl h.team
theorem DP.to (h : DP w0 W g ao cap bs R V tv x) (y : Int) : DP w0 (W.setCell ⟨V, 2, none⟩ (.int .i64 y)) g ao cap bs R V tv ⟨x.room, x.fr, y, x.team⟩ := h.set 2 _ _ _ rfl h.team
/-- Somebody more in the team: behind the append, and behind the store of it. -/
theorem DP.grown {tv' : Value} {y : Int} (h : DP w0 W g ao cap bs R V tv x) (ho : W'.ownsRow w0.heap.size 2 1 tv' (x.team.length + 1) ((x.team.map fun z => Value.int .i64 z) ++ [.int .i64 y])) (hg : W.grownBy W' tv.ownBlock) :
    (TBox W' V #[.int .i64 x.room, .int .i64 x.fr, .int .i64 x.to, tv] 31) ∧ DP w0 (W'.setCell ⟨V, 3, none⟩ tv') g ao cap bs R V tv' { x with team := x.team ++ [y] } := by
  have a1 := h.gg
  have a2 := h.rr
  have a3 := h.vv
  have hs := h.keep.size
  have hne : ∀ j, j < w0.heap.size → some j ≠ tv.ownBlock := by
    intro j hj
    rcases h.team.2 with ⟨rfl, _⟩ | ⟨b, c, cur, rfl, h3, _⟩
    · simp [Value.ownBlock]
    · simp [Value.ownBlock]; omega
  have hbx : TBox W' V #[.int .i64 x.room, .int .i64 x.fr, .int .i64 x.to, tv] 31 := h.box.grown hg (fun k hk => (h.apart k hk).1)
  have hrs : TBox W' R #[.int .i64 0, .int .i64 0, .int .i64 0, .slice none 0 0] 31 := h.res.grown hg (fun k hk => (h.apart k hk).2)
  have hc' : Cur W' g ao cap bs := h.cur.below ⟨hg.os, hg.tape, hg.output, hg.size, fun j hj => hg.block j (by omega) (hne j (by omega))⟩
  have hk' : Keep g w0 W' := ⟨hg.os.trans h.keep.os, hg.tape.trans h.keep.tape, hg.output.trans h.keep.output, Nat.le_trans hs hg.size, fun j hj hjg => (hg.block j (by omega) (hne j hj)).trans (h.keep.block j hj hjg)⟩
  refine ⟨hbx, ?_⟩
  have hb : Below (g + 1) W' (W'.setCell ⟨V, 3, none⟩ tv') := (Below.refl _ W').setCell (p := ⟨V, 3, none⟩) (show g + 1 ≤ V by omega) _
  refine ⟨hc'.below hb, ⟨hk'.os, hk'.tape, hk'.output, by have := hk'.size; simpa [World.setCell] using this, fun b hb' hbg => ?_⟩, hrs.far (Ne.symm h.rv) 3 _, ?_, ?_, h.gg, h.rr, h.vv, h.rv⟩
  · rw [Below.heap_setCell _ _ _ _ (by show b ≠ V; omega)]
    exact hk'.block b hb' hbg
  · exact hbx.set 3 tv'
  · have e1 : (x.team ++ [y]).length = x.team.length + 1 := by simp
    have e2 : (x.team ++ [y]).map (fun z => Value.int .i64 z) = (x.team.map fun z => Value.int .i64 z) ++ [.int .i64 y] := by simp
    show (W'.setCell ⟨V, 3, none⟩ tv').ownsRow w0.heap.size 2 1 tv' (x.team ++ [y]).length ((x.team ++ [y]).map fun z => Value.int .i64 z)
    rw [e1, e2]
    exact own_far ho (fun k hk => TBox.ne hbx ho (by decide) k hk) _
/-- The answer is laid. -/
theorem DP.done (h : DP w0 W g ao cap bs R V tv x) : TBox ((((W.setCell ⟨R, 0, none⟩ (.int .i64 x.room)).setCell ⟨R, 1, none⟩ (.int .i64 x.fr)).setCell ⟨R, 2, none⟩ (.int .i64 x.to)).setCell ⟨R, 3, none⟩ tv) R #[.int .i64 x.room, .int .i64 x.fr, .int .i64 x.to, tv] 31 ∧
    Cur ((((W.setCell ⟨R, 0, none⟩ (.int .i64 x.room)).setCell ⟨R, 1, none⟩ (.int .i64 x.fr)).setCell ⟨R, 2, none⟩ (.int .i64 x.to)).setCell ⟨R, 3, none⟩ tv) g ao cap bs ∧
    Keep g w0 ((((W.setCell ⟨R, 0, none⟩ (.int .i64 x.room)).setCell ⟨R, 1, none⟩ (.int .i64 x.fr)).setCell ⟨R, 2, none⟩ (.int .i64 x.to)).setCell ⟨R, 3, none⟩ tv) ∧
    ((((W.setCell ⟨R, 0, none⟩ (.int .i64 x.room)).setCell ⟨R, 1, none⟩ (.int .i64 x.fr)).setCell ⟨R, 2, none⟩ (.int .i64 x.to)).setCell ⟨R, 3, none⟩ tv).ownsRow w0.heap.size 2 1 tv x.team.length (x.team.map fun z => Value.int .i64 z) := by
  have a1 := h.gg
  have a2 := h.rr
  have hnk : ∀ k, tv.ownBlock = some k → k ≠ R := fun k hk => (h.apart k hk).2
  refine ⟨h.res.put4 _ _ _ _, h.cur.below ((((( Below.refl (g + 1) W).setCell (p := ⟨R, 0, none⟩) (show g + 1 ≤ R by omega) _).setCell (p := ⟨R, 1, none⟩) (show g + 1 ≤ R by omega) _).setCell (p := ⟨R, 2, none⟩) (show g + 1 ≤ R by omega) _).setCell (p := ⟨R, 3, none⟩) (show g + 1 ≤ R by omega) _), ⟨h.keep.os, h.keep.tape, h.keep.output, by have := h.keep.size; simpa [World.setCell] using this, fun b hb' hbg => ?_⟩, own_far (own_far (own_far (own_far h.team hnk _) hnk _) hnk _) hnk _⟩
  rw [Below.heap_setCell _ _ _ _ (by show b ≠ R; omega), Below.heap_setCell _ _ _ _ (by show b ≠ R; omega), Below.heap_setCell _ _ _ _ (by show b ≠ R; omega), Below.heap_setCell _ _ _ _ (by show b ≠ R; omega)]
  exact h.keep.block b hb' hbg
end
/-- The fields of a drawn operation stay small. -/
def Small (x : Opn) : Prop := (-1 ≤ x.room ∧ x.room ≤ 100) ∧ (0 ≤ x.fr ∧ x.fr ≤ 10000000) ∧ (-1 ≤ x.to ∧ x.to ≤ 10000001) ∧ x.team.length ≤ 8 ∧ 1 ≤ x.team.length
end Go.Proofs.Ytcapmobhgffnhaa
