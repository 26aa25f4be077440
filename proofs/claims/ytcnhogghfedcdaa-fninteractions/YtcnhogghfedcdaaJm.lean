/-
  A drug and a list of doses given, beside a cursor.
-/
import Derived.Test.YtcnhogghfedcdaaJk
import Derived.Test.YtcnhogghfedcdaaMn
namespace Go.Proofs.Ytcnhogghfedcdaa
open Go.RowKit Va Ga
set_option linter.unusedVariables false

theorem own_keep {g base e s n : Nat} {w w' : World} {v : Value} {xs : List Value} (ho : w.ownsRow base e s v n xs) (hk : Keep g w w') (hg : g < base) : w'.ownsRow base e s v n xs := by
  obtain ⟨q, ⟨q1, q2⟩ | ⟨b, c, cur, rfl, hb, hh, r⟩⟩ := ho
  · exact ⟨q, Or.inl ⟨q1, q2⟩⟩
  · exact ⟨q, Or.inr ⟨b, c, cur, rfl, hb, (hk.block b (Array.getElem?_eq_some_iff.1 hh).1 (by omega)).trans hh, r⟩⟩
theorem own_ne {W : World} {b e s n B : Nat} {v : Value} {xs : List Value} {vs : Array Value} {t : TypeId} (ho : W.ownsRow b e s v n xs) (hB : PB W B vs t) (hne : t ≠ e) : ∀ k, v.ownBlock = some k → k ≠ B := by
  obtain ⟨_, ⟨rfl, _⟩ | ⟨g, cap, cur, rfl, hb, hh, _⟩⟩ := ho
  · intro k hk; cases hk
  · intro k hk
    obtain rfl : g = k := Option.some.inj hk
    intro e'
    subst e'
    unfold PB at hB
    rw [hB] at hh
    cases hh
    exact hne rfl
theorem own_ne2 {W : World} {b e s n b2 e2 s2 n2 : Nat} {v v2 : Value} {xs xs2 : List Value} (ho : W.ownsRow b e s v n xs) (ho2 : W.ownsRow b2 e2 s2 v2 n2 xs2) (hne : e ≠ e2) : ∀ k, v.ownBlock = some k → v2.ownBlock ≠ some k := by
  obtain ⟨_, ⟨rfl, _⟩ | ⟨g, cap, cur, rfl, hb, hh, _⟩⟩ := ho2
  · intro k hk h; cases h
  · intro k hk h
    exact own_ne ho (show PB W g cur e2 from hh) (Ne.symm hne) k hk (Option.some.inj h).symm
theorem own_grown {base e s n : Nat} {w w' : World} {v : Value} {xs : List Value} {r : Option Nat} (ho : w.ownsRow base e s v n xs) (hg : w.grownBy w' r) (hr : ∀ k, v.ownBlock = some k → r ≠ some k) : w'.ownsRow base e s v n xs := by
  obtain ⟨q, ⟨q1, q2⟩ | ⟨b, c, cur, rfl, hb, hh, r2⟩⟩ := ho
  · exact ⟨q, Or.inl ⟨q1, q2⟩⟩
  · exact ⟨q, Or.inr ⟨b, c, cur, rfl, hb, (hg.block b (Array.getElem?_eq_some_iff.1 hh).1 (fun h => hr b rfl h.symm)).trans hh, r2⟩⟩
theorem own_far {base e s n B j : Nat} {w : World} {v u : Value} {xs : List Value} (ho : w.ownsRow base e s v n xs) (hr : ∀ k, v.ownBlock = some k → k ≠ B) : (w.setCell ⟨B, j, none⟩ u).ownsRow base e s v n xs := by
  obtain ⟨q, ⟨q1, q2⟩ | ⟨b, c, cur, rfl, hb, hh, r2⟩⟩ := ho
  · exact ⟨q, Or.inl ⟨q1, q2⟩⟩
  · exact ⟨q, Or.inr ⟨b, c, cur, rfl, hb, (heap_setCell_other w ⟨B, j, none⟩ b u (hr b rfl)).trans hh, r2⟩⟩
theorem DI.grown {w0 W W' : World} {g cap : Nat} {ao : Option Addr} {bs : List Int} {v : Value} {l : List Int} {r : Option Nat} (h : DI w0 W g ao cap bs v l) (hg : W.grownBy W' r) (h0 : ∀ k, r = some k → w0.heap.size ≤ k) (hr : ∀ k, v.ownBlock = some k → r ≠ some k) : DI w0 W' g ao cap bs v l := by
  have hgg := h.gg
  have hb : Below w0.heap.size W W' := (Below.refl _ _).grown hg h.keep.size h0
  exact ⟨h.cur.below (hb.mono hgg), ⟨hb.os.trans h.keep.os, hb.tape.trans h.keep.tape, hb.output.trans h.keep.output, Nat.le_trans h.keep.size hg.size, fun i hi hig => (hb.block i hi).trans (h.keep.block i hi hig)⟩, own_grown h.own hg hr, h.gg⟩
/-- A drug in box V, a box R for the answer, doses given at v, in blocks of the call's own, beside a cursor at g. -/
structure DM (wN W : World) (g : Nat) (ao : Option Addr) (cap : Nat) (bs : List Int) (R V : Nat) (x : Dg) (ad : Option Addr) (c : Nat) (v : Value) (l : List Gv) : Prop where
  di : DI wN W g ao cap bs (.slice ad x.cls.length c) x.cls
  res : PB W R #[.int .i64 0, .slice none 0 0, .int .i64 0, .int .i64 0, .int .i64 0, .int .i64 0] 26
  box : PB W V #[.int .i64 x.id, .slice ad x.cls.length c, .int .i64 x.pk, .int .i64 x.most, .int .i64 x.day, .int .i64 x.kid] 26
  own : W.ownsRow wN.heap.size 49 3 v l.length (cellsL 3 csGv l)
  rg : R ≠ g
  vg : V ≠ g
section
variable {wN W W' : World} {g cap R V : Nat} {ao : Option Addr} {bs : List Int} {x : Dg} {ad : Option Addr} {c : Nat} {v : Value} {l : List Gv}
theorem DM.call (h : DM wN W g ao cap bs R V x ad c v l) (hc : Cur W' g ao cap bs) (hk : Keep g W W') : DM wN W' g ao cap bs R V x ad c v l :=
  ⟨h.di.call hc hk, h.res.keep hk h.rg, h.box.keep hk h.vg, own_keep h.own hk h.di.gg, h.rg, h.vg⟩
theorem DM.alloc (h : DM wN W g ao cap bs R V x ad c v l) (o : Obj) : DM wN (W.alloc o) g ao cap bs R V x ad c v l := h.call (h.di.cur.alloc o) ((Keep.refl g W).alloc o)
theorem DM.drewN (h : DM wN W g ao cap bs R V x ad c v l) (n : Nat) : DM wN (W.drewN n) g ao cap bs R V x ad c v l := h.call (h.di.cur.drewN n) ((Keep.refl g W).drewN n)
theorem DM.form (h : DM wN W g ao cap bs R V x ad c v l) : ∃ a k, v = .slice a l.length k := ownW_slice h.own
theorem DM.row (h : DM wN W g ao cap bs R V x ad c v l) : Rw 3 csGv W v l := (own_of rfl h.own).row
theorem DM.app {v' : Value} {y : Gv} (h : DM wN W g ao cap bs R V x ad c v l) (ho : W'.ownsRow wN.heap.size 49 3 v' (l.length + 1) (cellsL 3 csGv l ++ [.int .i64 y.d, .int .i64 y.t, .int .i64 y.n])) (hg : W.grownBy W' v.ownBlock) : DM wN W' g ao cap bs R V x ad c v' (l ++ [y]) := by
  have h0 := ownW_lt h.own
  refine ⟨h.di.grown hg (fun k hk => (h0 k hk).1) (own_ne2 h.di.own h.own (by decide)), h.res.grown hg (own_ne h.own h.res (by decide)), h.box.grown hg (own_ne h.own h.box (by decide)), ?_, h.rg, h.vg⟩
  rw [List.length_append, cellsL_app]
  exact ho
theorem DM.far {B : Nat} {vs : Array Value} (h : DM wN W g ao cap bs R V x ad c v l) (hB : PB W B vs 49) (hge : wN.heap.size ≤ B) (hne : ∀ k, v.ownBlock = some k → k ≠ B) (j : Nat) (u : Value) : DM wN (W.setCell ⟨B, j, none⟩ u) g ao cap bs R V x ad c v l := by
  have hgg := h.di.gg
  have e1 : B ≠ R := fun e => by have a := h.res; subst e; unfold PB at a hB; rw [a] at hB; cases hB
  have e2 : B ≠ V := fun e => by have a := h.box; subst e; unfold PB at a hB; rw [a] at hB; cases hB
  exact ⟨⟨h.di.cur.far (by omega) u, Keep.far (n := 0) h.di.keep hge u, own_far h.di.own (own_ne h.di.own hB (by decide)), h.di.gg⟩, h.res.far e1 j u, h.box.far e2 j u, own_far h.own hne, h.rg, h.vg⟩
theorem DM.start {X : World} (h : DI wN X g ao cap bs (.slice ad x.cls.length c) x.cls) (hr : PB X R #[.int .i64 0, .slice none 0 0, .int .i64 0, .int .i64 0, .int .i64 0, .int .i64 0] 26) (hv : PB X V #[.int .i64 x.id, .slice ad x.cls.length c, .int .i64 x.pk, .int .i64 x.most, .int .i64 x.day, .int .i64 x.kid] 26) (rg : R ≠ g) (vg : V ≠ g) : DM wN (X.alloc (.cells #[] 49)) g ao cap bs R V x ad c (.slice (some ⟨X.heap.size, 0, none⟩) 0 0) [] :=
  ⟨h.alloc _, hr.alloc _, hv.alloc _, ⟨rfl, .inr ⟨X.heap.size, 0, #[], rfl, h.keep.size, heap_alloc_new X _, Nat.le_refl _, Nat.zero_le _, rfl, rfl⟩⟩, rg, vg⟩
end
theorem infoGvJ : (Try.prog.info? 49).map (fun i => (i.zero, i.size, i.bytes)) = some (some (.agg #[.int .i64 0, .int .i64 0, .int .i64 0]), 3, 24) := by kernel_rfl
theorem results_cttt0 {fn : Func} {p u v z : Tmp} {ty : TypeId} (h : fn.results = #[.cell p ty, .tmp u, .tmp v, .tmp z]) (tmps : Array Value) (P : Program) (w : World) :
    (results fn tmps).run P w =
      ((asAddr (tmps.getD p undef)).run P w).andThen fun a w₁ => ((loadVar ty a).run P w₁).andThen fun y w₂ => .ok (.tuple #[y, tmps.getD u undef, tmps.getD v undef, tmps.getD z undef]) w₂ := by
  simp only [results, h]
  simp [Sem.run_bind, Result.andThen]
theorem results_cttt {P : Program} {fn : Func} {p u v z : Tmp} {ty : TypeId} (h : fn.results = #[.cell p ty, .tmp u, .tmp v, .tmp z]) (tmps : Array Value) (w : World) (g : Nat) (t : TypeId) (cs : Array Value) (d : TypeDesc)
    (hp : tmps.getD p undef = .pointer (some ⟨g, 0, none⟩)) (hg : PB w g cs t) (hu : P.underlying ty = some d) (hd : (match d with | .struct _ | .array _ _ => true | _ => false) = true) (hi : (P.info? ty).map (·.size) = some cs.size) :
    (results fn tmps).run P w = .ok (.tuple #[.agg cs, tmps.getD u undef, tmps.getD v undef, tmps.getD z undef]) w := by
  have hl := run_loadVar_row (P := P) w g t ty cs _ d hg hu hd hi
  rw [results_cttt0 h, hp]
  simp [asAddr, hl, Result.andThen]
end Go.Proofs.Ytcnhogghfedcdaa
