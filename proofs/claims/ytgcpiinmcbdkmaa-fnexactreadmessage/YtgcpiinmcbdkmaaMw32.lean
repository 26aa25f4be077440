/-
  Merged: Rm24.
-/
import Derived.Test.YtgcpiinmcbdkmaaMw31
namespace Go.Proofs.Ytgcpiinmcbdkmaa
open Go.RowKit Va Ms
set_option linter.all false
theorem PB.belF {w w' : World} {F g t : Nat} {vs : Array Value} (h : PB w g vs t) (k : Below F w w') (hg : g < F) : PB w' g vs t := (k.block g hg).trans h
theorem own_belF {w w' : World} {F b e s n : Nat} {v : Value} {xs : List Value} (ho : w.ownsRow b e s v n xs) (k : Below F w w') (hv : ∀ j, v.ownBlock = some j → j < F) : w'.ownsRow b e s v n xs := by
  obtain ⟨q, ⟨q1, q2⟩ | ⟨g, c, cur, rfl, hg, hh, r'⟩⟩ := ho
  · exact ⟨q, Or.inl ⟨q1, q2⟩⟩
  · exact ⟨q, Or.inr ⟨g, c, cur, rfl, hg, (k.block g (hv g rfl)).trans hh, r'⟩⟩
theorem own_grown {w w' : World} {b1 e1 s1 n1 b2 e2 s2 n2 : Nat} {v1 v2 : Value} {x1 x2 : List Value} (h1 : w.ownsRow b1 e1 s1 v1 n1 x1) (h2 : w.ownsRow b2 e2 s2 v2 n2 x2) (hne : e1 ≠ e2) (g : w.grownBy w' v2.ownBlock) : w'.ownsRow b1 e1 s1 v1 n1 x1 := by
  have ha := own_apartB h1 h2 hne
  obtain ⟨q, ⟨q1, q2⟩ | ⟨b, c, cur, rfl, hg, hh, r'⟩⟩ := h1
  · exact ⟨q, Or.inl ⟨q1, q2⟩⟩
  · exact ⟨q, Or.inr ⟨b, c, cur, rfl, hg, (g.block b (Array.getElem?_eq_some_iff.1 hh).1 (fun e => ha b rfl e.symm)).trans hh, r'⟩⟩
structure Sm (w W : World) (A B M : Nat) (pv : Value) (L : List (Pt × Value)) (F : Nat) : Prop where
  two : Two0 w W A B
  hA : A < M
  hB : B < M
  box : PB W M #[pv] 56
  MF : M < F
  Fs : F ≤ W.heap.size
  parts : W.ownsRow (M + 1) 106 2 pv L.length (cellsP L)
  pF : ∀ k, pv.ownBlock = some k → k < F
  each : ∀ p ∈ L, W.ownsRow (M + 1) 9 1 p.2 p.1.fs.length (strV p.1.fs) ∧ ∀ k, p.2.ownBlock = some k → k < F
  dist : L.Pairwise fun p q => ∀ k, p.2.ownBlock = some k → q.2.ownBlock ≠ some k
theorem Sm.far {w W W' : World} {A B M F : Nat} {pv : Value} {L : List (Pt × Value)} (h : Sm w W A B M pv L F) (k : Below F W W') : Sm w W' A B M pv L F := by
  have h1 := h.two.ha
  have h2 := h.hA
  have h3 := h.hB
  have h4 := h.MF
  exact ⟨⟨h.two.pa.belF k (by omega), h.two.pf.belF k (by omega), h.two.bel.trans (k.mono (by omega)), h.two.ha, h.two.hb, h.two.ne⟩, h2, h3, h.box.belF k h4, h4, Nat.le_trans h.Fs k.size,
    own_belF h.parts k h.pF, h.pF, fun p hp => ⟨own_belF (h.each p hp).1 k (h.each p hp).2, (h.each p hp).2⟩, h.dist⟩
theorem Sm.up {w W : World} {A B M F F' : Nat} {pv : Value} {L : List (Pt × Value)} (h : Sm w W A B M pv L F) (hF : F ≤ F') (hs : F' ≤ W.heap.size) : Sm w W A B M pv L F' :=
  ⟨h.two, h.hA, h.hB, h.box, Nat.lt_of_lt_of_le h.MF hF, hs, h.parts, fun k hk => Nat.lt_of_lt_of_le (h.pF k hk) hF, fun p hp => ⟨(h.each p hp).1, fun k hk => Nat.lt_of_lt_of_le ((h.each p hp).2 k hk) hF⟩, h.dist⟩
theorem Sm.below {w W W' : World} {A B M F : Nat} {pv : Value} {L : List (Pt × Value)} (h : Sm w W A B M pv L F) (k : Below W.heap.size W W') : Sm w W' A B M pv L F := h.far (k.mono h.Fs)
theorem Sm.start {w W : World} {A B : Nat} (h : Two0 w W A B) : Sm w (W.alloc (.cells #[.slice none 0 0] 56)) A B W.heap.size (.slice none 0 0) [] (W.heap.size + 1) :=
  ⟨⟨h.pa.alloc _, h.pf.alloc _, h.bel.alloc h.bel.size _, h.ha, h.hb, h.ne⟩, h.pa.lt, h.pf.lt, PB.new W _ _, Nat.lt_succ_self _, by simp, own_nil _ _ _ _, (fun k hk => by cases hk), (fun p hp => by cases hp), List.Pairwise.nil⟩
structure Sp (w W : World) (A B M : Nat) (pv : Value) (L : List (Pt × Value)) (F P : Nat) (nm : ByteArray) (fv dv : Value) (fs : List ByteArray) (fd : List Nat) : Prop where
  m : Sm w W A B M pv L F
  pb : PB W P #[.string nm, fv] 106
  hP : F ≤ P
  fld : W.ownsRow F 9 1 fv fs.length (strV fs)
  dat : W.ownsRow F 5 1 dv fd.length (bytV fd)
  lt : ∀ x ∈ fd, x < 256
section
variable {w W W' : World} {A B M F P : Nat} {pv fv dv : Value} {L : List (Pt × Value)} {nm : ByteArray} {fs : List ByteArray} {fd : List Nat}
theorem Sp.below (h : Sp w W A B M pv L F P nm fv dv fs fd) (k : Below W.heap.size W W') : Sp w W' A B M pv L F P nm fv dv fs fd :=
  ⟨h.m.below k, h.pb.below k, h.hP, own_belF h.fld k (fun j hj => (ownW_lt h.fld j hj).2), own_belF h.dat k (fun j hj => (ownW_lt h.dat j hj).2), h.lt⟩
theorem Sp.drew (h : Sp w W A B M pv L F P nm fv dv fs fd) : Sp w W.drew A B M pv L F P nm fv dv fs fd := h.below (st_drew (Below.refl _ _))
theorem Sp.start (h : Sm w W A B M pv L F) (nm : ByteArray) : Sp w ((W.alloc (.cells #[.string nm, .slice none 0 0] 106)).alloc (.cells #[] 5)) A B M pv L W.heap.size W.heap.size nm (.slice none 0 0) (.slice (some ⟨W.heap.size + 1, 0, none⟩) 0 0) [] [] := by
  have hz : (W.alloc (Obj.cells #[.string nm, .slice none 0 0] 106)).heap.size = W.heap.size + 1 := by simp
  refine ⟨(h.up h.Fs (Nat.le_refl _)).far (by repeat (first | exact Below.refl _ _ | assumption | refine st_drew ?_ | refine st_drewN ?_ _ | refine Below.setCell ?_ (by first | omega | (simp; done) | (simp; omega)) _ | refine Below.alloc ?_ (by first | omega | (simp; done) | (simp; omega)) _)), (PB.new W _ _).alloc _, Nat.le_refl _, own_nil _ _ _ _, ?_, fun x hx => by cases hx⟩
  have := own_none0 (s := 1) (PB.new (W.alloc (.cells #[.string nm, .slice none 0 0] 106)) #[] 5)
  rw [hz] at this
  exact ownW_base this (Nat.le_succ _)
theorem Sp.byte (h : Sp w W A B M pv L F P nm fv dv fs fd) (g : W.grownBy W' dv.ownBlock) {dv' : Value} {x : Nat} (hx : x < 256) (ho : W'.ownsRow F 5 1 dv' (fd.length + 1) (bytV fd ++ [.int .u8 (x : Nat)])) : Sp w W' A B M pv L F P nm fv dv' fs (fd ++ [x]) := by
  refine ⟨h.m.far ((Below.refl F W).grown g h.m.Fs (fun k hk => ownB_lt h.dat k hk)), h.pb.kept g (ownU_ty h.dat h.pb (by decide)), h.hP, own_grown h.fld h.dat (by decide) g, ?_, fun y hy => ?_⟩
  · rw [List.length_append]
    have e : bytV (fd ++ [x]) = bytV fd ++ [.int .u8 (x : Nat)] := by simp [bytV]
    rw [e]; exact ho
  · rcases List.mem_append.1 hy with q | q
    · exact h.lt y q
    · obtain rfl := List.mem_singleton.1 q; exact hx
theorem Sp.field (h : Sp w W A B M pv L F P nm fv dv fs fd) (g : W.grownBy W' fv.ownBlock) {fv' : Value} {x : ByteArray} (ho : W'.ownsRow F 9 1 fv' (fs.length + 1) (strV fs ++ [.string x])) : Sp w (W'.setCell ⟨P, 1, none⟩ fv') A B M pv L F P nm fv' dv (fs ++ [x]) fd := by
  have hb := h.pb.kept g (ownU_ty h.fld h.pb (by decide))
  have hd := own_grown h.dat h.fld (by decide) g
  refine ⟨h.m.far (((Below.refl F W).grown g h.m.Fs (fun k hk => ownB_lt h.fld k hk)).setCell (p := ⟨P, 1, none⟩) h.hP _), hb.put 1 fv' rfl, h.hP, ?_, ownB_far hd (ownU_ty hd hb (by decide)) _ _, h.lt⟩
  rw [List.length_append]
  have e : strV (fs ++ [x]) = strV fs ++ [.string x] := by simp [strV]
  rw [e]; exact ownB_far ho (ownU_ty ho hb (by decide)) _ _
theorem Sp.fresh (h : Sp w W A B M pv L F P nm fv dv fs fd) : Sp w (W.alloc (.cells #[] 5)) A B M pv L F P nm fv (.slice (some ⟨W.heap.size, 0, none⟩) 0 0) fs [] := by
  have k := h.below (by repeat (first | exact Below.refl _ _ | assumption | refine st_drew ?_ | refine st_drewN ?_ _ | refine Below.setCell ?_ (by first | omega | (simp; done) | (simp; omega)) _ | refine Below.alloc ?_ (by first | omega | (simp; done) | (simp; omega)) _) : Below W.heap.size W (W.alloc (.cells #[] 5)))
  exact ⟨k.m, k.pb, k.hP, k.fld, ownW_base (own_none0 (s := 1) (PB.new W #[] 5)) h.m.Fs, fun x hx => by cases hx⟩
theorem Sp.push (h : Sp w W A B M pv L F P nm fv dv fs fd) (g : W.grownBy W' pv.ownBlock) {pv' : Value} (ho : W'.ownsRow (M + 1) 106 2 pv' (L.length + 1) (cellsP L ++ [.string nm, fv])) : Sm w (W'.setCell ⟨M, 0, none⟩ pv') A B M pv' (L ++ [(⟨nm, fs⟩, fv)]) W'.heap.size := by
  have h1 := h.m.two.ha
  have h2 := h.m.hA
  have h3 := h.m.hB
  have h4 := h.m.MF
  have h5 := h.m.Fs
  have h6 := g.size
  have kM : Below (M + 1) W W' := (Below.refl (M + 1) W).grown g (by omega) (fun k hk => ownB_lt h.m.parts k hk)
  have hb := h.m.box.belF kM (Nat.lt_succ_self _)
  have pa := h.m.two.pa.belF kM (by omega)
  have pf := h.m.two.pf.belF kM (by omega)
  have own : ∀ {b v n xs}, W.ownsRow b 9 1 v n xs → (W'.setCell ⟨M, 0, none⟩ pv').ownsRow b 9 1 v n xs := fun q => by
    have r := own_grown q h.m.parts (by decide) g
    exact ownB_far r (ownU_ty r hb (by decide)) _ _
  have hs : (W'.setCell ⟨M, 0, none⟩ pv').heap.size = W'.heap.size := by simp [World.setCell]
  refine ⟨⟨pa.far (by omega) 0 pv', pf.far (by omega) 0 pv', (h.m.two.bel.trans (kM.mono (by omega))).setCell (p := ⟨M, 0, none⟩) (by show w.heap.size ≤ M; omega) _, h.m.two.ha, h.m.two.hb, h.m.two.ne⟩, h2, h3, hb.put 0 pv' rfl, by omega, by rw [hs]; exact Nat.le_refl _, ?_, fun k hk => (ownW_lt ho k hk).2, fun p hp => ?_, List.pairwise_append.2 ⟨h.m.dist, List.pairwise_singleton _ _, fun p hpm q hq k hk e => by obtain rfl := List.mem_singleton.1 hq; have i1 := (h.m.each p hpm).2 k hk; have i2 := ownB_lt h.fld k e; omega⟩⟩
  · rw [List.length_append, cellsP_app]
    exact ownB_far ho (ownU_ty ho hb (by decide)) _ _
  · rcases List.mem_append.1 hp with q | q
    · exact ⟨own (h.m.each p q).1, fun k hk => Nat.lt_of_lt_of_le ((h.m.each p q).2 k hk) (by omega)⟩
    · obtain rfl := List.mem_singleton.1 q
      refine ⟨own (ownW_base h.fld (by omega)), fun k hk => Nat.lt_of_lt_of_le (ownW_lt h.fld k hk).2 h6⟩
end
end Go.Proofs.Ytgcpiinmcbdkmaa
