/-
  What the program does to the room: a tray is loaded into a cycle.
-/
import Derived.Test.YtklgadaefngnnaaWg
namespace Go.Proofs.Ytklgadaefngnnaa
open Go.RowKit Va Wa Go.Maps
set_option linter.unusedVariables false

theorem eq_mapN (w : World) : (binOp BinOp.eql 92 (.map none) (.map none)).run Try.prog w = .ok (.bool true) w := by kernel_rfl
theorem eq_mapS (m : Nat) (w : World) : (binOp BinOp.eql 92 (.map (some m)) (.map none)).run Try.prog w = .ok (.bool false) w := by kernel_rfl
theorem mk_map (w : World) : (Instr.makeMap 92 none).run Try.prog w = .ok (.map (some w.heap.size)) (w.alloc (.map #[] 0)) := by
  simp [Instr.makeMap]
theorem set_heap {w : World} {g : Nat} {vs : Array Value} {T : TypeId} {fr : Nat × Nat} (h : w.heap[g]? = some (Obj.cells vs T fr)) (j : Nat) (v : Value) : (w.setCell ⟨g, j, none⟩ v).heap[g]? = some (Obj.cells (vs.setIfInBounds j v) T fr) := by
  rw [setCell_eq_setRow w g j vs _ _ _ h]
  exact setRow_heap w g vs _ _ _ h
theorem Tf.setG {base g : Nat} {vs : Array Value} {fr : Nat × Nat} {w : World} (h1 : w.heap[g]? = some (Obj.cells vs 97 fr)) (hl : base ≤ g) (j : Nat) (v : Value) : Tf base w (w.setCell ⟨g, j, none⟩ v) := by
  have hb := (Below.refl g w).setCell (p := ⟨g, j, none⟩) (Nat.le_refl _) v
  refine ⟨hb.os, hb.tape, hb.output, by simp [World.setCell], fun b q => Below.heap_setCell _ _ _ _ (by show b ≠ g; omega), fun b us t fr q ht => Below.heap_setCell _ _ _ _ (fun e => ?_)⟩
  have e2 : b = g := e
  rw [e2, h1] at q
  simp only [Option.some.injEq, Obj.cells.injEq] at q
  exact ht q.2.1.symm
theorem Room.mpAt {w : World} {base g K : Nat} {R : Rm} (h : Room w base g K R) {c : Nat} (hc : c < 1000) :
    (w.cell? ⟨g, 2000 + c * 2 + 1, none⟩ = some (.map none) ∧ ∀ t, t < 1000 → inC R c t = false) ∨ ∃ m, w.cell? ⟨g, 2000 + c * 2 + 1, none⟩ = some (.map (some m)) ∧ base ≤ m ∧ m ≠ g ∧ MapIs w m K R c := by
  obtain ⟨vs, mp, h1, h2, h3, h4, h5, h6⟩ := h
  have e := h2.mp c hc
  have e2 : w.cell? ⟨g, 2000 + c * 2 + 1, none⟩ = some (.map (mp c)) := by simp only [World.cell?, h1]; exact e
  cases q : mp c with
  | none => exact Or.inl ⟨by rw [e2, q], h4 c hc q⟩
  | some m =>
    refine Or.inr ⟨m, by rw [e2, q], (h5 c m hc q).1, fun e3 => ?_, (h5 c m hc q).2⟩
    obtain ⟨es, cl, q2⟩ := (h5 c m hc q).2.isMap
    rw [e3, h1] at q2; cases q2
/-- A cycle gets a map of its own. -/
theorem Room.made {w : World} {base g K : Nat} {R : Rm} (h : Room w base g K R) {c : Nat} (hc : c < 1000) (hn : w.cell? ⟨g, 2000 + c * 2 + 1, none⟩ = some (.map none)) :
    Room ((w.alloc (.map #[] 0)).setCell ⟨g, 2000 + c * 2 + 1, none⟩ (.map (some w.heap.size))) base g K R ∧ Tf base w ((w.alloc (.map #[] 0)).setCell ⟨g, 2000 + c * 2 + 1, none⟩ (.map (some w.heap.size))) := by
  have hl := h.lt
  have hb0 : Below w.heap.size w (w.alloc (.map #[] 0)) := (Below.refl _ w).alloc (Nat.le_refl _) _
  have hA := h.below hb0
  refine ⟨?_, (Tf.of_below hb0 (by omega)).trans (Tf.set hA _ _)⟩
  obtain ⟨vs, mp, h1, h2, h3, h4, h5, h6⟩ := h
  have hmc : mp c = none := by
    have e := h2.mp c hc
    have e2 : w.cell? ⟨g, 2000 + c * 2 + 1, none⟩ = some (.map (mp c)) := by simp only [World.cell?, h1]; exact e
    rw [hn] at e2
    simpa using e2.symm
  have hg1 : (w.alloc (.map #[] 0)).heap[g]? = some (Obj.cells vs 97 (0, 0)) := (hb0.block g hl.2).trans h1
  have hk : ∀ b, b ≠ g → ((w.alloc (.map #[] 0)).setCell ⟨g, 2000 + c * 2 + 1, none⟩ (.map (some w.heap.size))).heap[b]? = (w.alloc (.map #[] 0)).heap[b]? := fun b hb => Below.heap_setCell _ _ _ _ hb
  refine ⟨_, fun d => if d = c then some w.heap.size else mp d, set_heap hg1 _ _, ⟨by simp [h2.size], fun s hs => ?_, fun s hs => ?_, fun d hd => ?_, fun d hd => ?_⟩, h3, fun d hd hm => ?_, fun d m hd hm => ?_, fun d e m hd he hm hm2 => ?_⟩
  · rw [sib_ne (by omega), h2.st s hs]
  · obtain ⟨x, e1, e2⟩ := h2.cy s hs
    exact ⟨x, by rw [sib_ne (by omega), e1], e2⟩
  · rw [sib_ne (by omega), h2.ov d hd]
  · by_cases q : d = c
    · subst q; rw [sib_eq (by rw [h2.size]; omega)]; simp
    · rw [sib_ne (by omega), h2.mp d hd]; simp [q]
  · by_cases q : d = c
    · simp [q] at hm
    · simp only [if_neg q] at hm; exact h4 d hd hm
  · by_cases q : d = c
    · simp only [if_pos q, Option.some.injEq] at hm
      subst hm
      refine ⟨by omega, (MapIs.keep (w := w.alloc (.map #[] 0)) ?_ (hk _ (by omega)))⟩
      refine ⟨.map [], ((World.ownsMap_made w Try.prog _ unitElem).mono (Nat.zero_le _)), fun x hx => ?_⟩
      subst q
      by_cases q2 : 0 ≤ x ∧ x ≤ 999
      · rw [h4 d hd hmc x.toNat (by omega)]; simp [Maps.has]
      · simp [q2, Maps.has]
    · simp only [if_neg q] at hm
      obtain ⟨es, cl, q2⟩ := (h5 d m hd hm).2.isMap
      have hlt : m < w.heap.size := (Array.getElem?_eq_some_iff.1 q2).1
      refine ⟨(h5 d m hd hm).1, (h5 d m hd hm).2.keep ((hk m (fun e => ?_)).trans (hb0.block m hlt))⟩
      rw [e, h1] at q2; cases q2
  · have hold : ∀ d m, d < 1000 → mp d = some m → m < w.heap.size := fun d m hd hm => by
      obtain ⟨es, cl, q2⟩ := (h5 d m hd hm).2.isMap
      exact (Array.getElem?_eq_some_iff.1 q2).1
    by_cases q : d = c <;> by_cases q2 : e = c
    · omega
    · simp only [if_pos q, if_neg q2, Option.some.injEq] at hm hm2
      have := hold e m he hm2; omega
    · simp only [if_neg q, if_pos q2, Option.some.injEq] at hm hm2
      have := hold d m hd hm; omega
    · simp only [if_neg q, if_neg q2] at hm hm2
      exact h6 d e m hd he hm hm2
theorem made_cell {w : World} {base g K : Nat} {R : Rm} (h : Room w base g K R) {c : Nat} (hn : w.cell? ⟨g, 2000 + c * 2 + 1, none⟩ = some (.map none)) :
    ((w.alloc (.map #[] 0)).setCell ⟨g, 2000 + c * 2 + 1, none⟩ (.map (some w.heap.size))).cell? ⟨g, 2000 + c * 2 + 1, none⟩ = some (.map (some w.heap.size)) :=
  World.cell?_setCell_same _ _ _ ((((bcell ((Below.refl _ w).alloc (Nat.le_refl _) (.map #[] 0))).1 _ _ h.lt.2)).trans hn)
theorem Tf.map {base m K : Nat} {w w1 : World} {R : Rm} {c : Nat} (hm : MapIs w m K R c) (hb : base ≤ m) (hg : w.grownBy w1 (some m)) : Tf base w w1 := by
  obtain ⟨es, cl, q⟩ := hm.isMap
  have hlt : m < w.heap.size := (Array.getElem?_eq_some_iff.1 q).1
  refine ⟨hg.os, hg.tape, hg.output, hg.size, fun b h => hg.block b (by omega) (fun e => ?_), fun b vs t fr h _ => hg.block b (Array.getElem?_eq_some_iff.1 h).1 (fun e => ?_)⟩
  · have : b = m := by simpa using e
    omega
  · have : b = m := by simpa using e
    rw [this, q] at h; cases h
/-- A tray has come into the map, and into the cycle. -/
theorem Room.loaded {w w1 : World} {base g K c t m : Nat} {R : Rm} {D : DataW Unit} (h : Room w base g K R) (hc : c < 1000) (ht : t < 1000) (hst : R.st t = 1) (hm : w.cell? ⟨g, 2000 + c * 2 + 1, none⟩ = some (.map (some m)))
    (hD : ∀ x, wfI x → Maps.has D (.int .i64 x) = (decide (0 ≤ x ∧ x ≤ 999) && inC R c x.toNat)) (hiM : Maps.IsMap D) (hg : w.grownBy w1 (some m)) (ho : w1.ownsMap Try.prog 2 unitElem m (K + 1) (D.put (.int .i64 t) (.agg []))) :
    Room ((w1.setCell ⟨g, t * 2, none⟩ (.int .i64 2)).setCell ⟨g, t * 2 + 1, none⟩ (.int .i64 c)) base g (K + 1) ⟨upd R.st t 2, upd R.cy t c, R.ov⟩ ∧ Tf base w1 ((w1.setCell ⟨g, t * 2, none⟩ (.int .i64 2)).setCell ⟨g, t * 2 + 1, none⟩ (.int .i64 c)) := by
  have hl := h.lt
  obtain ⟨vs, mp, h1, h2, h3, h4, h5, h6⟩ := h
  have hmc : mp c = some m := by
    have e := h2.mp c hc
    have e2 : w.cell? ⟨g, 2000 + c * 2 + 1, none⟩ = some (.map (mp c)) := by simp only [World.cell?, h1]; exact e
    rw [hm] at e2
    simpa using e2.symm
  have hmg : g ≠ m := fun e => by
    obtain ⟨es, cl, q2⟩ := (h5 c m hc hmc).2.isMap
    rw [← e, h1] at q2; cases q2
  have hg1 : w1.heap[g]? = some (Obj.cells vs 97 (0, 0)) := (hg.block g hl.2 (by simpa using hmg)).trans h1
  have hk : ∀ b, b ≠ g → ((w1.setCell ⟨g, t * 2, none⟩ (.int .i64 2)).setCell ⟨g, t * 2 + 1, none⟩ (.int .i64 c)).heap[b]? = w1.heap[b]? := fun b hb => (Below.heap_setCell _ _ _ _ hb).trans (Below.heap_setCell _ _ _ _ hb)
  have hi : ∀ (d s : Nat), d ≠ c → inC ⟨upd R.st t 2, upd R.cy t c, R.ov⟩ d s = inC R d s := fun d s hd => by
    unfold inC upd
    by_cases q : s = t
    · subst q; simp [hst]; omega
    · simp [q]
  refine ⟨?_, (Tf.setG hg1 h3 _ _).trans (Tf.setG (set_heap hg1 _ _) h3 _ _)⟩
  refine ⟨_, mp, set_heap (set_heap hg1 _ _) _ _, ⟨by simp [h2.size], fun s hs => ?_, fun s hs => ?_, fun d hd => ?_, fun d hd => ?_⟩, h3, fun d hd hm2 s hs => ?_, fun d m2 hd hm2 => ?_, h6⟩
  · rw [sib_ne (by omega)]
    by_cases q : s = t
    · subst q; rw [sib_eq (by rw [h2.size]; omega)]; simp [upd]
    · rw [sib_ne (by omega), h2.st s hs]; simp [upd, q]
  · by_cases q : s = t
    · subst q; exact ⟨c, by rw [sib_eq (by simp [h2.size]; omega)], fun _ => by simp [upd]⟩
    · obtain ⟨x, e1, e2⟩ := h2.cy s hs
      exact ⟨x, by rw [sib_ne (by omega), sib_ne (by omega), e1], fun q3 => by simp only [upd, if_neg q] at q3 ⊢; exact e2 q3⟩
  · rw [sib_ne (by omega), sib_ne (by omega), h2.ov d hd]
  · rw [sib_ne (by omega), sib_ne (by omega), h2.mp d hd]
  · rw [hi d s (fun e => by rw [e, hmc] at hm2; cases hm2)]; exact h4 d hd hm2 s hs
  · by_cases q : d = c
    · subst q
      rw [hmc] at hm2
      obtain rfl := Option.some.inj hm2
      refine ⟨(h5 d m hd hmc).1, MapIs.keep (w := w1) ⟨_, ho, fun x hx => ?_⟩ (hk m (fun e => hmg e.symm))⟩
      have hwt : WideAt.IsKeyLit (.int .i64 (t : Int)) := trivial
      by_cases q2 : x = (t : Int)
      · subst q2
        rw [Maps.has_put_same hiM hwt]
        simp [inC, upd]; omega
      · rw [Maps.has_put_other (fun e => q2 (by simpa using e)), hD x hx]
        by_cases q3 : 0 ≤ x ∧ x ≤ 999
        · have : x.toNat ≠ t := by omega
          simp [q3, inC, upd, this]
        · simp [q3]
    · have hne : m2 ≠ m := fun e => q (h6 d c m hd hc (by rw [← e]; exact hm2) hmc)
      obtain ⟨es, cl, q2⟩ := (h5 d m2 hd hm2).2.isMap
      have hlt : m2 < w.heap.size := (Array.getElem?_eq_some_iff.1 q2).1
      refine ⟨(h5 d m2 hd hm2).1, (((h5 d m2 hd hm2).2.mono (Nat.le_succ _)).turn (fun s _ => hi d s q)).keep ((hk m2 (fun e => ?_)).trans (hg.block m2 hlt (by simpa using hne)))⟩
      rw [e, h1] at q2; cases q2

set_option maxRecDepth 20000 in
set_option maxHeartbeats 2000000 in
theorem iload_any (base g K t c : Nat) (R : Rm) (w : World) (h : Room w base g K R) (ht : t < 1000) (hc : c < 1000) (hK : K < 100000) :
    Calls Try.prog 101 #[.pointer (some ⟨g, 0, none⟩), .int .i64 t, .int .i64 c] w fun e w' => e = .returned (.int .i64 (if R.st t ≠ 1 then 2 else if R.ov c = true then 3 else 0)) ∧ Room w' base g (K + 1) (if R.st t ≠ 1 then R else if R.ov c = true then R else ⟨upd R.st t 2, upd R.cy t c, R.ov⟩) ∧ Tf base w w' := by
  have hti : (t : Int) < 1000 := by omega
  have hci : (c : Int) < 1000 := by omega
  have c0 := h.cellSt ht
  by_cases q : R.st t = 1
  case neg =>
    have q1 : (R.st t != 1) = true := by simp [q]
    have q2 : (R.st t == 1) = false := by simp [q]
    rw [if_pos q, if_pos q]
    have HH := hidden (h.mono (Nat.le_succ K))
    clear h q
    generalize R.st t = v at c0 q1 q2
    go_enter Try.func101, Try.ntmps101
    go_wp2_with fail
    go_ret
    exact ⟨rfl, HH.out, Tf.refl _ _⟩
  have q' : ¬ (R.st t ≠ 1) := by simp [q]
  rw [if_neg q', if_neg q']
  clear q'
  have HQ := hidden q
  rw [q] at c0
  clear q
  have c1 := h.cellOv hc
  cases q : R.ov c with
  | true =>
    rw [q] at c1
    have HH := hidden (h.mono (Nat.le_succ K))
    clear h q
    go_enter Try.func101, Try.ntmps101
    go_wp2_with fail
    go_ret
    exact ⟨rfl, HH.out, Tf.refl _ _⟩
  | false =>
  rw [q] at c1
  clear q
  have hl := h.lt.2
  rcases h.mpAt hc with ⟨c2, hnone⟩ | ⟨m, c2, hbm, hmg, D, hD, hDh⟩
  · have hf2 := h.fro (2000 + c * 2 + 1)
    obtain ⟨hR, hT⟩ := h.made hc c2
    have c3 := made_cell h c2
    have hsw := World.setCell_alloc_past (w := w) (.map #[] 0) g (2000 + c * 2 + 1) (.map (some w.heap.size)) hl
    rw [hsw] at hR hT c3
    clear hsw
    rcases hR.mpAt hc with ⟨c4, -⟩ | ⟨m, c4, hbm, hmg, D, hD, hDh⟩
    · rw [c3] at c4; cases c4
    rw [c3] at c4
    obtain rfl : w.heap.size = m := by simpa using c4
    have hl2 := hR.lt.2
    have HP := hidden (fun W1 (hg : World.grownBy _ W1 (some w.heap.size)) ho => And.intro (hR.loaded hc ht HQ.out c3 hDh hD.isMap hg ho) (hT.trans (Tf.map ⟨D, hD, hDh⟩ hbm hg)))
    have HC := hidden (fun W1 (hg : World.grownBy ((w.setCell ⟨g, 2000 + c * 2 + 1, none⟩ (.map (some w.heap.size))).alloc (.map #[] 0)) W1 (some w.heap.size)) => And.intro (hg.block g hl2 (by simpa using (fun e => hmg e.symm))) (And.intro (hR.cellSt ht) (And.intro (hR.cellCy ht) hR.fro)))
    have hwt : (Lit.int .i64 (t : Int)).wf = true := wfI_of (by omega) (by omega)
    have HD := hidden hD
    clear h hR hT hDh hD hnone
    have hq0 := eq_mapN
    have hq1 := mk_map w
    go_enter Try.func101, Try.ntmps101
    go_wp2_with (first | (at_mapUpdate; refine wpList_mapUpdate_own _ rfl _ _ _ 92 rfl 2 146 keyI Try.underlying92 _ w.heap.size K D rfl HD.out (by unfold maxLen; omega) _ _ _ rfl rfl (keyOf_int_mk Try.underlying2 hwt) (.agg []) [] unitElem_mk ?_; intro w3 ho3 hg3; obtain ⟨k1, k2, ⟨x5, k3, -⟩, k4⟩ := HC.out w3 hg3; have k5 : w3.cell? ⟨g, t * 2, none⟩ = _ := (World.cell?_of_block k1).trans k2; have k6 : w3.cell? ⟨g, t * 2 + 1, none⟩ = _ := (World.cell?_of_block k1).trans k3; have k7 : w3.frozen? ⟨g, t * 2, none⟩ = false := (World.frozen?_of_block k1).trans (k4 _); have k8 : w3.frozen? ⟨g, t * 2 + 1, none⟩ = false := (World.frozen?_of_block k1).trans (k4 _); clear k1 k2 k3 k4) | go_in)
    go_ret
    exact ⟨rfl, (HP.out w3 hg3 ho3).1.1, (HP.out w3 hg3 ho3).2.trans (HP.out w3 hg3 ho3).1.2⟩
  · have hR := h
    have hT := Tf.refl base w
    have c3 := c2
    have hl2 := hl
    have HP := hidden (fun W1 (hg : World.grownBy _ W1 (some m)) ho => And.intro (hR.loaded hc ht HQ.out c3 hDh hD.isMap hg ho) (hT.trans (Tf.map ⟨D, hD, hDh⟩ hbm hg)))
    have HC := hidden (fun W1 (hg : World.grownBy w W1 (some m)) => And.intro (hg.block g hl2 (by simpa using (fun e => hmg e.symm))) (And.intro (hR.cellSt ht) (And.intro (hR.cellCy ht) hR.fro)))
    have hwt : (Lit.int .i64 (t : Int)).wf = true := wfI_of (by omega) (by omega)
    have HD := hidden hD
    clear h hR hT hDh hD c3
    have hq0 := eq_mapS m
    go_enter Try.func101, Try.ntmps101
    go_wp2_with (first | (at_mapUpdate; refine wpList_mapUpdate_own _ rfl _ _ _ 92 rfl 2 146 keyI Try.underlying92 _ m K D rfl HD.out (by unfold maxLen; omega) _ _ _ rfl rfl (keyOf_int_mk Try.underlying2 hwt) (.agg []) [] unitElem_mk ?_; intro w3 ho3 hg3; obtain ⟨k1, k2, ⟨x5, k3, -⟩, k4⟩ := HC.out w3 hg3; have k5 : w3.cell? ⟨g, t * 2, none⟩ = _ := (World.cell?_of_block k1).trans k2; have k6 : w3.cell? ⟨g, t * 2 + 1, none⟩ = _ := (World.cell?_of_block k1).trans k3; have k7 : w3.frozen? ⟨g, t * 2, none⟩ = false := (World.frozen?_of_block k1).trans (k4 _); have k8 : w3.frozen? ⟨g, t * 2 + 1, none⟩ = false := (World.frozen?_of_block k1).trans (k4 _); clear k1 k2 k3 k4) | go_in)
    go_ret
    exact ⟨rfl, (HP.out w3 hg3 ho3).1.1, (HP.out w3 hg3 ho3).2.trans (HP.out w3 hg3 ho3).1.2⟩
end Go.Proofs.Ytklgadaefngnnaa
