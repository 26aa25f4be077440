/-
  What the program does to the room: a cycle ends.
-/
import Derived.Test.YtklgadaefngnnaaWh
namespace Go.Proofs.Ytklgadaefngnnaa
open Go.RowKit Va Wa Go.Maps Go.ChangeMaps Go.MapKept
set_option linter.unusedVariables false

theorem has_of_size {w : World} {b n : Nat} {D : DataW Unit} {R : Value → Option (DataW Unit × List MemPlace)} (h : w.ownsMap Try.prog 2 R b n D) (hs : Maps.size D ≠ 0) : ∃ x, wfI x ∧ Maps.has D (.int .i64 x) = true := by
  obtain ⟨es, clock, hb, F, hn, rfl⟩ := h
  have hz : 0 < es.size := by
    rcases Nat.eq_zero_or_pos es.size with q | q
    · exfalso; apply hs; simp [Maps.size, length_sorted, q]
    · exact q
  have hm : es[0] ∈ es.toList := by simp
  obtain ⟨y, hy⟩ := F.reads es[0] hm
  obtain ⟨x, h1, h2, h3⟩ := Maps.keyOf_int_inv Try.underlying2 (WideElems.rd_key hy)
  refine ⟨x, h3, ?_⟩
  refine List.any_eq_true.2 ⟨_, mem_sorted.2 (List.mem_map.2 ⟨es[0], hm, rfl⟩), ?_⟩
  rw [WideElems.rg_of hy, h2]
  exact WideAt.sameKey_self trivial
theorem has_none {D : DataW Unit} (hi : Maps.IsMap D) (hs : Maps.size D = 0) (k : Lit) : Maps.has D k = false := by
  obtain ⟨es, rfl⟩ := hi
  have : es = [] := List.length_eq_zero_iff.1 hs
  rw [this]; rfl
theorem clear_ran {w : World} {b n : Nat} {D : DataW Unit} {R : Value → Option (DataW Unit × List MemPlace)} (h : w.ownsMap Try.prog 2 R b n D) :
    ∃ W, (∀ ty, (Builtin.clear_ #[92] ty #[.map (some b)]).run Try.prog w = .ok (.tuple #[]) W) ∧ W.ownsMap Try.prog 2 R b 0 (.map []) ∧ w.grownBy W (some b) := by
  obtain ⟨es, clock, hb, F, hn, rfl⟩ := h
  refine ⟨setBlock w b (.map #[] clock), fun ty => ?_, ⟨#[], clock, heap_setBlock_same hb _, ⟨by simp, stamped_empty clock, by simp⟩, Nat.le_refl _, rfl⟩, ⟨rfl, rfl, rfl, by simp [setBlock], fun i _ hi => heap_setBlock_other hb _ (fun e => hi (by rw [e]))⟩⟩
  simp [Builtin.clear_, run_underlying Try.underlying92, MapKept.run_getObj_map hb, MapKept.run_setObj_map _ hb, Result.andThen]
  rfl
theorem Rcs.stEq {vs : Array Value} {s s' : Nat → Int} {cy : Nat → Int} {ov : Nat → Bool} {mp : Nat → Option Nat} (h : Rcs vs ⟨s, cy, ov⟩ mp) (hs : ∀ t, t < 1000 → s' t = s t) : Rcs vs ⟨s', cy, ov⟩ mp :=
  ⟨h.size, fun t ht => by have := h.st t ht; simp only at this ⊢; rw [hs t ht]; exact this, fun t ht => by have := h.cy t ht; simp only at this ⊢; rw [hs t ht]; exact this, h.ov, h.mp⟩
/-- While the trays of a cycle come out of its map: those that came have the new state. -/
def stL (R : Rm) (c v : Int) (left : Lit → Bool) (t : Nat) : Int := if inC R c t = true ∧ left (.int .i64 t) = false then v else R.st t
structure RL (w : World) (g : Nat) (R : Rm) (c v : Int) (mp : Nat → Option Nat) (left : Lit → Bool) (wr : World) : Prop where
  os : wr.os = w.os
  tape : wr.tape = w.tape
  output : wr.output = w.output
  size : w.heap.size + 1 ≤ wr.heap.size
  block : ∀ b : Nat, b < w.heap.size → b ≠ g → wr.heap[b]? = w.heap[b]?
  room : ∃ vs, wr.heap[g]? = some (Obj.cells vs 97 (0, 0)) ∧ Rcs vs ⟨stL R c v left, R.cy, R.ov⟩ mp
theorem RL.next {w : World} {g r : Nat} {R : Rm} {c v : Int} {mp : Nat → Option Nat} {left left' : Lit → Bool} {wr w1 : World} (h : RL w g R c v mp left wr) (hg : wr.grownBy w1 (some r)) (hr : w.heap.size ≤ r) (hgl : g < w.heap.size) (hrl : r < wr.heap.size) {t : Nat} (ht : t < 1000) (hi : inC R c t = true)
    (h1 : left' (.int .i64 t) = false) (h2 : ∀ s : Nat, s ≠ t → left' (.int .i64 s) = left (.int .i64 s)) : RL w g R c v mp left' (w1.setCell ⟨g, t * 2, none⟩ (.int .i64 v)) := by
  have hb := (Below.refl g w1).setCell (p := ⟨g, t * 2, none⟩) (Nat.le_refl _) (.int .i64 v)
  obtain ⟨vs, k1, k2⟩ := h.room
  have hsz := h.size
  have k3 : w1.heap[g]? = some (Obj.cells vs 97 (0, 0)) := (hg.block g (by omega) (by simp; omega)).trans k1
  refine ⟨(hb.os.trans hg.os).trans h.os, (hb.tape.trans hg.tape).trans h.tape, (hb.output.trans hg.output).trans h.output, by have := hg.size; simp [World.setCell]; omega, fun b hb1 hb2 => ?_, _, set_heap k3 _ _, ⟨by simp [k2.size], fun s hs => ?_, fun s hs => ?_, fun d hd => ?_, fun d hd => ?_⟩⟩
  · exact ((Below.heap_setCell _ _ _ _ (show b ≠ g from hb2)).trans (hg.block b (by omega) (by simp; omega))).trans (h.block b hb1 hb2)
  · by_cases q : s = t
    · subst q
      rw [sib_eq (by rw [k2.size]; omega)]
      simp [stL, hi, h1]
    · rw [sib_ne (by omega), k2.st s hs]
      simp [stL, h2 s q]
  · obtain ⟨x, e1, e2⟩ := k2.cy s hs
    refine ⟨x, by rw [sib_ne (by omega), e1], fun q => ?_⟩
    by_cases q2 : inC R c s = true
    · simp only at e2 ⊢
      by_cases q3 : left (.int .i64 s) = false
      · have e3 : stL R c v left s = v := by simp [stL, q2, q3]
        have e4 : stL R c v left' s = v := by
          by_cases q4 : s = t
          · subst q4; simp [stL, q2, h1]
          · simp [stL, q2, h2 s q4, q3]
        simp only [e4] at q
        exact e2 (by rw [e3]; exact q)
      · have e3 : stL R c v left s = R.st s := by simp [stL, q3]
        have e5 : R.st s = 2 := by simp only [inC, decide_eq_true_eq] at q2; exact q2.1
        exact e2 (by rw [e3]; exact Or.inl e5)
    · have e3 : ∀ l, stL R c v l s = R.st s := fun l => by simp [stL, q2]
      simp only [e3] at q e2 ⊢
      exact e2 q
  · rw [sib_ne (by omega), k2.ov d hd]
  · rw [sib_ne (by omega), k2.mp d hd]
theorem RL.cell {w wr : World} {g : Nat} {R : Rm} {c v : Int} {mp : Nat → Option Nat} {left : Lit → Bool} (h : RL w g R c v mp left wr) {t : Nat} (ht : t < 1000) : wr.cell? ⟨g, t * 2, none⟩ = some (.int .i64 (stL R c v left t)) ∧ ∀ j, wr.frozen? ⟨g, j, none⟩ = false := by
  obtain ⟨vs, k1, k2⟩ := h.room
  exact ⟨by have := k2.st t ht; simp only at this; simp [World.cell?, k1, this], fun j => by simp [World.frozen?, k1]⟩
theorem RL.cellMp {w wr : World} {g : Nat} {R : Rm} {c v : Int} {mp : Nat → Option Nat} {left : Lit → Bool} (h : RL w g R c v mp left wr) {d : Nat} (hd : d < 1000) : wr.cell? ⟨g, 2000 + d * 2 + 1, none⟩ = some (.map (mp d)) ∧ wr.cell? ⟨g, 2000 + d * 2, none⟩ = some (.bool (R.ov d)) := by
  obtain ⟨vs, k1, k2⟩ := h.room
  exact ⟨by have := k2.mp d hd; simp only [World.cell?, k1]; exact this, by have := k2.ov d hd; simp only [World.cell?, k1]; exact this⟩
theorem inC_ends {R : Rm} {c d v : Int} {ov : Nat → Bool} {t : Nat} (ht : t < 1000) (hv : v ≠ 2) : inC ⟨ends R c v 1000, R.cy, ov⟩ d t = (inC R d t && !decide (c = d)) := by
  unfold inC ends
  by_cases q : R.st t = 2 ∧ R.cy t = c
  · have : (t < 1000 ∧ inC R c t = true) := ⟨ht, by simp [inC, q]⟩
    simp only [if_pos this]
    by_cases q2 : R.cy t = d
    · have : c = d := by omega
      simp [hv, this]
    · simp [hv, q2]
  · have : ¬ (t < 1000 ∧ inC R c t = true) := fun z => q (by simpa [inC] using z.2)
    simp only [if_neg this]
    by_cases q2 : c = d
    · subst q2; simp [q]
    · simp [q2]
/-- All have come out; the map is cleared; the cycle is over. -/
theorem RL.over {w wr W : World} {base g K m c : Nat} {R : Rm} {v : Int} {vs0 : Array Value} {mp : Nat → Option Nat} {left : Lit → Bool} (h : RL w g R c v mp left wr) (hl : ∀ kl, left kl = false) (hc : c < 1000) (hv : v ≠ 2) (hmc : mp c = some m)
    (h1 : w.heap[g]? = some (Obj.cells vs0 97 (0, 0))) (h3 : base ≤ g) (h4 : ∀ c, c < 1000 → mp c = none → ∀ t, t < 1000 → inC R c t = false)
    (h5 : ∀ c m, c < 1000 → mp c = some m → base ≤ m ∧ MapIs w m K R c) (h6 : ∀ c d m, c < 1000 → d < 1000 → mp c = some m → mp d = some m → c = d)
    (ho : W.ownsMap Try.prog 2 unitElem m 0 (DataW.map (H := Unit) [])) (hg : wr.grownBy W (some m)) :
    Room (W.setCell ⟨g, 2000 + c * 2, none⟩ (.bool true)) base g K ⟨ends R c v 1000, R.cy, upd R.ov c true⟩ ∧ Tf base w (W.setCell ⟨g, 2000 + c * 2, none⟩ (.bool true)) := by
  obtain ⟨vs, k1, k2⟩ := h.room
  have hsz := h.size
  have hgl : g < w.heap.size := (Array.getElem?_eq_some_iff.1 h1).1
  obtain ⟨esm, clm, qm⟩ := (h5 c m hc hmc).2.isMap
  have hml : m < w.heap.size := (Array.getElem?_eq_some_iff.1 qm).1
  have hmb := (h5 c m hc hmc).1
  have hgm : g ≠ m := fun e => by rw [← e, h1] at qm; cases qm
  have k3 : W.heap[g]? = some (Obj.cells vs 97 (0, 0)) := (hg.block g (by omega) (by simpa using hgm)).trans k1
  have hk : ∀ b, b < w.heap.size → b ≠ g → b ≠ m → (W.setCell ⟨g, 2000 + c * 2, none⟩ (.bool true)).heap[b]? = w.heap[b]? := fun b b1 b2 b3 => ((Below.heap_setCell _ _ _ _ (show b ≠ g from b2)).trans (hg.block b (by omega) (by simpa using b3))).trans (h.block b b1 b2)
  have hb := (Below.refl g W).setCell (p := ⟨g, 2000 + c * 2, none⟩) (Nat.le_refl _) (.bool true)
  have hst : ∀ t, t < 1000 → ends R c v 1000 t = stL R c v left t := fun t ht => by
    unfold ends stL
    by_cases q : inC R c t = true
    · rw [if_pos ⟨ht, q⟩, if_pos ⟨q, hl _⟩]
    · rw [if_neg (fun z => q z.2), if_neg (fun z => q z.1)]
  have k4 := k2.stEq (s' := ends R c v 1000) hst
  refine ⟨⟨_, mp, set_heap k3 _ _, ⟨by simp [k4.size], fun s hs => ?_, fun s hs => ?_, fun d hd => ?_, fun d hd => ?_⟩, h3, fun d hd hm t ht => ?_, fun d m2 hd hm => ?_, h6⟩, ?_⟩
  · rw [sib_ne (by omega)]; exact k4.st s hs
  · obtain ⟨x, e1, e2⟩ := k4.cy s hs
    exact ⟨x, by rw [sib_ne (by omega), e1], e2⟩
  · by_cases q : d = c
    · subst q; rw [sib_eq (by rw [k4.size]; omega)]; simp [upd]
    · rw [sib_ne (by omega)]
      have := k4.ov d hd
      simpa [upd, q] using this
  · rw [sib_ne (by omega)]; exact k4.mp d hd
  · rw [inC_ends ht hv, h4 d hd hm t ht]; rfl
  · by_cases q : d = c
    · subst q
      rw [hmc] at hm
      obtain rfl := Option.some.inj hm
      refine ⟨hmb, MapIs.keep (w := W) ⟨_, ho.mono (Nat.zero_le _), fun x hx => ?_⟩ (Below.heap_setCell _ _ _ _ (fun e => hgm e.symm))⟩
      by_cases q2 : 0 ≤ x ∧ x ≤ 999
      · rw [inC_ends (by omega) hv]; simp [Maps.has]
      · simp [q2, Maps.has]
    · obtain ⟨es2, cl2, q2⟩ := (h5 d m2 hd hm).2.isMap
      have hl2 : m2 < w.heap.size := (Array.getElem?_eq_some_iff.1 q2).1
      refine ⟨(h5 d m2 hd hm).1, ((h5 d m2 hd hm).2.turn (fun t ht => ?_)).keep (hk m2 hl2 (fun e => by rw [e, h1] at q2; cases q2) (fun e => q (h6 d c m hd hc (by rw [← e]; exact hm) hmc)))⟩
      rw [inC_ends ht hv]
      have : ¬ (c : Int) = (d : Int) := by omega
      simp [this]
  · refine ⟨(hb.os.trans hg.os).trans h.os, (hb.tape.trans hg.tape).trans h.tape, (hb.output.trans hg.output).trans h.output, by have := hg.size; simp [World.setCell]; omega, fun b q => hk b (by omega) (by omega) (by omega), fun b us t fr q ht => hk b (Array.getElem?_eq_some_iff.1 q).1 (fun e => ?_) (fun e => ?_)⟩
    · rw [e, h1] at q
      simp only [Option.some.injEq, Obj.cells.injEq] at q
      exact ht q.2.1.symm
    · rw [e, qm] at q; cases q

set_option maxRecDepth 20000 in
set_option maxHeartbeats 2000000 in
theorem iend_any (base g K c : Nat) (v : Int) (R : Rm) (w : World) (h : Room w base g K R) (hc : c < 1000) (hv : v ≠ 2) :
    Calls Try.prog 102 #[.pointer (some ⟨g, 0, none⟩), .int .i64 c, .int .i64 v] w fun e w' => e = .returned (.int .i64 (if anyC R c 1000 = true then 0 else 3)) ∧ Room w' base g K (if anyC R c 1000 = true then ⟨ends R c v 1000, R.cy, upd R.ov c true⟩ else R) ∧ Tf base w w' := by
  have hci : (c : Int) < 1000 := by omega
  have hlt := h.lt
  have HR := hidden h
  obtain ⟨vs0, mp, h1, h2, h3, h4, h5, h6⟩ := h
  have c2 : w.cell? ⟨g, 2000 + c * 2 + 1, none⟩ = some (.map (mp c)) := by have := h2.mp c hc; simp only [World.cell?, h1]; exact this
  cases hmc : mp c with
  | none =>
    have hno : ¬ anyC R c 1000 = true := fun q => by
      obtain ⟨t, ht, q⟩ := anyC_iff.1 q
      rw [h4 c hc hmc t ht] at q; cases q
    rw [hmc] at c2
    rw [if_neg hno, if_neg hno]
    have hlen := fun ty => Maps.len_nil (w := w) (P := Try.prog) Try.underlying92 ty
    clear hno hmc h1 h2 h3 h4 h5 h6
    go_enter Try.func102, Try.ntmps102
    go_wp2_with fail
    go_ret
    exact ⟨rfl, HR.out, Tf.refl _ _⟩
  | some m =>
  obtain ⟨D, hD, hDh⟩ := (h5 c m hc hmc).2
  have hlen := fun ty => hD.len (P := Try.prog) Try.underlying92 ty
  rw [hmc] at c2
  by_cases hs : Maps.size D = 0
  · have hno : ¬ anyC R c 1000 = true := fun q => by
      obtain ⟨t, ht, q⟩ := anyC_iff.1 q
      have := hDh (t : Int) (wfI_of (by omega) (by omega))
      rw [has_none hD.isMap hs] at this
      simp [q] at this; omega
    rw [hs] at hlen
    rw [if_neg hno, if_neg hno]
    clear hno hmc h1 h2 h3 h4 h5 h6 hs hDh hD
    go_enter Try.func102, Try.ntmps102
    go_wp2_with fail
    go_ret
    exact ⟨rfl, HR.out, Tf.refl _ _⟩
  · have hyes : anyC R c 1000 = true := by
      obtain ⟨x, hx, hh⟩ := has_of_size hD hs
      rw [hDh x hx] at hh
      simp only [Bool.and_eq_true, decide_eq_true_eq] at hh
      exact anyC_iff.2 ⟨x.toNat, by omega, hh.2⟩
    rw [if_pos hyes, if_pos hyes]
    have hsz : ((Maps.size D : Int) == 0) = false := by simp; exact hs
    have HH := hidden (And.intro h1 (And.intro h3 (And.intro h4 (And.intro h5 (And.intro h6 hmc)))))
    have HDh := hidden hDh
    have HD := hidden hD
    have HS := hidden (fun (W : World) (hg : w.grownBy W none) (hz : W.heap.size = w.heap.size + 1) => (⟨hg.os, hg.tape, hg.output, by omega, fun b hb _ => hg.block b hb (by simp), vs0, (hg.block g hlt.2 (by simp)).trans h1, by
      refine Rcs.stEq (s := R.st) h2 (fun t ht => ?_)
      have := hDh (t : Int) (wfI_of (by omega) (by omega))
      unfold stL
      rw [this]
      by_cases q : inC R c t = true
      · rw [if_neg]; simp [q]; omega
      · rw [if_neg (fun z => q z.1)]⟩ : RL w g R c v mp (Maps.has D) W))
    clear hyes hs h1 h2 h3 h4 h5 h6 hDh hD hmc HR
    go_enter Try.func102, Try.ntmps102
    go_wp2_with (first
      | (at_range; refine wpList_range_own _ rfl _ 92 rfl 2 146 keyI Try.underlying92 _ m K D rfl HD.out ?_; intro w0 hrg0 hg0 hs0)
      | go_in)
    have hR0 := HS.out w0 hg0 hs0
    clear HS c2 hg0 hs0
    go_frame
    go_loopw [8] (fun _ wr => ∃ (left : Lit → Bool) (cnt : Nat), wr.ranges Try.prog 2 unitElem m w.heap.size K D left cnt ∧ RL w g R c v mp left wr)
      (fun _ wr => wr.rangeLeft m w.heap.size)
    case atStart => exact ⟨_, _, hrg0, hR0⟩
    case round =>
      clear hrg0 hR0
      obtain ⟨left, cnt, hrg, hR⟩ := hrel
      go_wp2_with (first
        | (at_next; refine wpList_next_ranges _ rfl _ rfl 2 keyI unitElem (Value.int .i64) (fun _ : Unit => Value.agg #[]) (fun key kl hk => by obtain ⟨x, rfl, -⟩ := Maps.keyOf_int_inv Try.underlying2 hk; exact ⟨x, rfl⟩) (fun z y hz => ⟨(), (unitElem_inv hz).1⟩) m w.heap.size K _ _ _ rfl hrg ?_ ?_)
        | go_in)
      · intro hc0 hl0
        obtain ⟨h1, h3, h4, h5, h6, hmc⟩ := HH.out
        have c2 := (hR.cellMp hc).1
        rw [hmc] at c2
        have c3 := (hR.cellMp hc).2
        obtain ⟨W, hW, hWo, hWg⟩ := clear_ran hrg.owns
        have hgm : g ≠ m := fun e => by
          obtain ⟨es2, cl2, q2⟩ := (h5 c m hc hmc).2.isMap
          rw [← e, h1] at q2; cases q2
        have hbg : W.heap[g]? = wr.heap[g]? := hWg.block g (by have := hR.size; omega) (by simpa using hgm)
        have c4 : W.cell? ⟨g, 2000 + c * 2, none⟩ = _ := (World.cell?_of_block hbg).trans c3
        have c5 : W.frozen? ⟨g, 2000 + c * 2, none⟩ = false := (World.frozen?_of_block hbg).trans ((hR.cell (show 0 < 1000 by omega)).2 _)
        have HO := hidden (hR.over hl0 hc hv hmc h1 h3 h4 h5 h6 hWo hWg)
        clear h1 h3 h4 h5 h6 hmc hWo hWg hbg c3 hR hrg hl0 hgm
        go_wp2_with fail
        go_ret
        exact ⟨rfl, HO.out.1, HO.out.2⟩
      · intro x u kl y w1 cnt1 hkey hlk hyv hat hrg1 hltc hg1 hs1 hen
        obtain ⟨x', ex, rfl, hwx⟩ := Maps.keyOf_int_inv Try.underlying2 hkey
        cases ex
        have hhas := HDh.out x hwx
        rw [Maps.has_true_of_atKey hat] at hhas
        have hh := hhas.symm
        simp only [Bool.and_eq_true, decide_eq_true_eq] at hh
        obtain ⟨t, rfl⟩ : ∃ t : Nat, x = (t : Int) := ⟨x.toNat, by omega⟩
        have ht : t < 1000 := by omega
        have hti : (t : Int) < 1000 := by omega
        have hin : inC R c t = true := by have := hh.2; simpa using this
        have hrl := hrg.lt
        have hbg : w1.heap[g]? = wr.heap[g]? := hg1.block g (by have := hR.size; omega) (by simp; omega)
        have c0 : w1.cell? ⟨g, t * 2, none⟩ = _ := (World.cell?_of_block hbg).trans (hR.cell ht).1
        have f0 : w1.frozen? ⟨g, t * 2, none⟩ = false := (World.frozen?_of_block hbg).trans ((hR.cell ht).2 _)
        have HN := hidden (hR.next hg1 (Nat.le_refl _) hlt.2 hrl ht hin (left' := fun z => left z && !z.sameKey (.int .i64 t)) (by simp [WideAt.sameKey_self (show WideAt.IsKeyLit (.int .i64 (t : Int)) from trivial)]) (fun s hs => by rw [Maps.sameKey_ne (by simp; omega)]; simp))
        have hgm : g ≠ m := fun e => by
          obtain ⟨h1, h3, h4, h5, h6, hmc⟩ := HH.out
          obtain ⟨es2, cl2, q2⟩ := (h5 c m hc hmc).2.isMap
          rw [← e, h1] at q2; cases q2
        have hb2 := (Below.refl g w1).setCell (p := ⟨g, t * 2, none⟩) (Nat.le_refl _) (.int .i64 v)
        have hrg2 := hrg1.kept (w' := w1.setCell ⟨g, t * 2, none⟩ (.int .i64 v)) (row := some g) ⟨hb2.os, hb2.tape, hb2.output, hb2.size, fun i _ hi => Below.heap_setCell _ _ _ _ (fun e => hi (by rw [e]))⟩ (by simpa using fun e => hgm e.symm) (by simp; omega)
        have HG := hidden hrg2
        generalize stL R c v left t = z at c0
        clear hh hhas hat hlk hin hbg hR hrg1 hb2 hrg2 hkey hwx hgm
        go_wp2_with fail
        go_roundw
        case rel => exact ⟨_, cnt1, HG.out, HN.out⟩
        case measure => rw [HG.out.left_eq, hrg.left_eq]; exact hltc
end Go.Proofs.Ytklgadaefngnnaa
