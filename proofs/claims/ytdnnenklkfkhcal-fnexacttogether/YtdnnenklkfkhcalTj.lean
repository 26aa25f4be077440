/-
  The law's own helpers on rows of joins: their size, a copy, sameness.
-/
import Derived.Test.YtdnnenklkfkhcalSj
import Derived.Deep.RegionHeld3
namespace Go.Proofs.Ytdnnenklkfkhcal
open Go.RowKit Jn Go.Maps

set_option maxHeartbeats 400000 in
theorem tj_any (k g : Int) (w : World) :
    Calls Try.prog 26 #[.agg #[.int .i64 k, .int .i64 g]] w fun r w' => r = .returned (.agg #[.int .i64 k, .int .i64 g]) ∧ Below w.heap.size w w' := by
  go_enter Try.func26, Try.ntmps26
  go_wp2
  exact bodyPost_ret (v := .agg #[.int .i64 k, .int .i64 g]) (by simp [results, Try.results26, go_sem]) rfl
    ⟨rfl, by repeat (first | exact Below.refl _ _ | refine Below.setCell ?_ (by first | (simp; done) | (simp; omega)) _ | refine Below.alloc ?_ (by first | (simp; done) | (simp; omega)) _)⟩

theorem info52 : (Try.prog.info? 41).map (fun i => (i.zero, i.size, i.bytes)) = some (some (.agg #[.int .i64 0, .int .i64 0]), 2, 16) := by kernel_rfl
/-- Block G takes n joins; the first i of l lie there. -/
def Out (w : World) (G n : Nat) (l : List J) (i : Nat) : Prop :=
  G < w.heap.size ∧ (∀ j, j < 2 * n → (∃ u, w.cell? ⟨G, j, none⟩ = some u) ∧ w.frozen? ⟨G, j, none⟩ = false) ∧
    ∀ j, j < i → w.cell? ⟨G, j * 2, none⟩ = some (.int .i64 (l.getD j (0, 0)).1) ∧ w.cell? ⟨G, j * 2 + 1, none⟩ = some (.int .i64 (l.getD j (0, 0)).2)
theorem Out.below {w w' : World} {G n i : Nat} {l : List J} (h : Out w G n l i) (hb : Below w.heap.size w w') : Out w' G n l i :=
  ⟨Nat.lt_of_lt_of_le h.1 hb.size, fun j hj => ⟨by
      obtain ⟨u, hu⟩ := (h.2.1 j hj).1
      exact ⟨u, (hb.cell (p := ⟨G, j, none⟩) h.1).trans hu⟩, by
      have := (h.2.1 j hj).2
      simp only [World.frozen?, hb.block G h.1] at this ⊢
      exact this⟩,
    fun j hj => ⟨(hb.cell (p := ⟨G, j * 2, none⟩) h.1).trans (h.2.2 j hj).1, (hb.cell (p := ⟨G, j * 2 + 1, none⟩) h.1).trans (h.2.2 j hj).2⟩⟩
theorem Out.set {w : World} {G n i : Nat} {l : List J} (h : Out w G n l i) (hi : i < n) : Out ((w.setCell ⟨G, i * 2, none⟩ (.int .i64 (l.getD i (0, 0)).1)).setCell ⟨G, i * 2 + 1, none⟩ (.int .i64 (l.getD i (0, 0)).2)) G n l (i + 1) := by
  obtain ⟨h1, h2, h3⟩ := h
  obtain ⟨⟨u0, hu0⟩, hf0⟩ := h2 (i * 2) (by omega)
  obtain ⟨⟨u1, hu1⟩, hf1⟩ := h2 (i * 2 + 1) (by omega)
  have e1 : (w.setCell ⟨G, i * 2, none⟩ (.int .i64 (l.getD i (0, 0)).1)).cell? ⟨G, i * 2 + 1, none⟩ = some u1 := by rw [World.cell?_setCell_other (h := by simp)]; exact hu1
  have key : ∀ j, j ≠ i * 2 → j ≠ i * 2 + 1 → ((w.setCell ⟨G, i * 2, none⟩ (.int .i64 (l.getD i (0, 0)).1)).setCell ⟨G, i * 2 + 1, none⟩ (.int .i64 (l.getD i (0, 0)).2)).cell? ⟨G, j, none⟩ = w.cell? ⟨G, j, none⟩ := fun j a b => by
    rw [World.cell?_setCell_other (h := by first | (simp; done) | (simp; exact b)), World.cell?_setCell_other (h := by first | (simp; done) | (simp; exact a))]
  have k0 : ((w.setCell ⟨G, i * 2, none⟩ (.int .i64 (l.getD i (0, 0)).1)).setCell ⟨G, i * 2 + 1, none⟩ (.int .i64 (l.getD i (0, 0)).2)).cell? ⟨G, i * 2, none⟩ = some (.int .i64 (l.getD i (0, 0)).1) := by
    rw [World.cell?_setCell_other (h := by simp), World.cell?_setCell_same _ _ _ hu0]
  have k1 : ((w.setCell ⟨G, i * 2, none⟩ (.int .i64 (l.getD i (0, 0)).1)).setCell ⟨G, i * 2 + 1, none⟩ (.int .i64 (l.getD i (0, 0)).2)).cell? ⟨G, i * 2 + 1, none⟩ = some (.int .i64 (l.getD i (0, 0)).2) :=
    World.cell?_setCell_same _ _ _ e1
  refine ⟨by simpa [World.setCell] using h1, fun j hj => ⟨?_, by rw [World.frozen?_setCell, World.frozen?_setCell]; exact (h2 j hj).2⟩, fun j hj => ?_⟩
  · by_cases a : j = i * 2
    · subst a; exact ⟨_, k0⟩
    · by_cases b : j = i * 2 + 1
      · subst b; exact ⟨_, k1⟩
      · rw [key j a b]; exact (h2 j hj).1
  · by_cases a : j = i
    · subst a; exact ⟨k0, k1⟩
    · rw [key (j * 2) (by omega) (by omega), key (j * 2 + 1) (by omega) (by omega)]
      exact h3 j (by omega)
theorem Out.made {w w' : World} {b n : Nat} {l : List J} (h : w'.ownsRow b 41 2 (.slice (some ⟨w.heap.size, 0, none⟩) n n) n (madeCells (Value.agg #[.int .i64 0, .int .i64 0]).cells (n * 2)).toList) : Out w' w.heap.size n l 0 := by
  obtain ⟨h1, h2⟩ := h
  rcases h2 with ⟨h2, h3⟩ | ⟨g, cap, cur, h2, h3, h4, h5, h6, h7, h8⟩
  · cases h2
  · simp only [Value.slice.injEq, Option.some.injEq, Addr.mk.injEq, and_true, true_and] at h2
    obtain ⟨rfl, rfl⟩ := h2
    refine ⟨(Array.getElem?_eq_some_iff.1 h4).1, fun j hj => ⟨?_, ?_⟩, fun j hj => absurd hj (by omega)⟩
    · have hj' : j < cur.size := by omega
      exact ⟨cur[j], by simp only [World.cell?, h4]; exact Array.getElem?_eq_getElem hj'⟩
    · simp only [World.frozen?, h4]
      simp
theorem Out.row {w : World} {G : Nat} {l : List J} (h : Out w G l.length l l.length) (c : Nat) : JRow w (.slice (some ⟨G, 0, none⟩) l.length c) l :=
  ⟨_, c, rfl, Or.inr ⟨G, 0, rfl, h.1, fun i hi => by rw [Nat.zero_add]; exact h.2.2 i hi⟩⟩

set_option maxRecDepth 20000 in
set_option maxHeartbeats 2000000 in
theorem tos_any (v : Value) (l : List J) (w : World) (h : JRow w v l) (hn : l.length ≤ 1048576) :
    Calls Try.prog 9 #[v] w fun e w' => ∃ v', e = .returned v' ∧ JRow w' v' l ∧ Below w.heap.size w w' := by
  obtain ⟨ao, cap, rfl, hrow⟩ := h
  obtain ⟨i0, hi, hz0, hz1, hz2⟩ := info_parts info52
  go_enter Try.func9, Try.ntmps9
  go_wp2_with (refine wpList_make_full _ rfl (.tmp 6) (.tmp 6) 25 rfl w.heap.size 41 i0 (.agg #[.int .i64 0, .int .i64 0]) 2 Try.underlying25 hi hz0 hz1 .i64 .i64 _ _ l.length rfl rfl rfl rfl (by rw [hz2]; omega) (by unfold maxLen; omega) (Nat.le_refl _) ?_; intro w1 ho1 hg1)
  have b1 : Below w.heap.size w w1 := (Below.refl _ w).grown hg1 (Nat.le_refl _) (by simp)
  have ho := Out.made (l := l) ho1
  clear ho1
  go_wp2_with fail
  go_loopw [4] (fun iv wr => ∃ i : Nat, i ≤ l.length ∧ iv = .int .i64 i ∧ Below w.heap.size w wr ∧ Out wr w.heap.size l.length l i) (fun iv _ => l.length - (intOf iv).toNat)
  case atStart => exact ⟨0, Nat.zero_le _, rfl, b1, ho⟩
  case round =>
    clear b1 ho
    obtain ⟨i, hil, rfl, hb, ho⟩ := hrel
    by_cases hlt : i < l.length
    · have hlti : (i : Int) < (l.length : Int) := by omega
      rcases hrow with h0 | ⟨b, off, rfl, hbw, hcells⟩
      · omega
      obtain ⟨hc1, hc2⟩ := hcells i hlt
      have hc1' := (hb.cell (p := ⟨b, off + i * 2, none⟩) hbw).trans hc1
      have hc2' := (hb.cell (p := ⟨b, off + i * 2 + 1, none⟩) hbw).trans hc2
      clear hc1 hc2 hcells
      have hT := tj_any (l.getD i (0, 0)).1 (l.getD i (0, 0)).2
      have hSet := fun W (hW : Below wr.heap.size wr W) => (ho.below hW).set hlt
      have hOld := fun W (hW : Below wr.heap.size wr W) => (ho.below hW).2.1
      have HSet := hidden hSet
      have HOld := hidden hOld
      clear hSet hOld
      generalize (l.getD i (0, 0)).1 = k at *
      generalize (l.getD i (0, 0)).2 = g at *
      go_wp2_with fail
      refine (hT _).mono ?_
      rintro e w2 ⟨rfl, hb2⟩
      have b2 := onto hb hb2
      have hset := HSet.out w2 hb2
      obtain ⟨⟨u0, hu0⟩, hf0⟩ := HOld.out w2 hb2 (i * 2) (by omega)
      obtain ⟨⟨u1, hu1⟩, hf1⟩ := HOld.out w2 hb2 (i * 2 + 1) (by omega)
      have b3 : Below w.heap.size w ((w2.setCell ⟨w.heap.size, i * 2, none⟩ (.int .i64 k)).setCell ⟨w.heap.size, i * 2 + 1, none⟩ (.int .i64 g)) := (b2.setCell (Nat.le_refl _) _).setCell (Nat.le_refl _) _
      clear HSet HOld hT hc1' hc2' hb hb2 ho b2
      go_wp2_with fail
      go_roundw
      case rel => exact ⟨i + 1, by omega, rfl, b3, hset⟩
      case measure => simp [intOf]; omega
    · have hlti : ¬ (i : Int) < (l.length : Int) := by omega
      have hil2 : i = l.length := by omega
      subst hil2
      go_wp2_with fail
      go_ret
      exact ⟨_, rfl, ho.row _, hb⟩

theorem sz_any (ao : Option Addr) (n cap : Nat) (w : World) (hn : (n : Int) ≤ 9223372036854775807) :
    Calls Try.prog 7 #[.slice ao n cap, .int .i64 1048576] w fun e w' => e = .returned (.int .i64 (if (1048576 : Int) < n then -1 else 1048576 - n)) ∧ w' = w := by
  by_cases h : (1048576 : Int) < (n : Int)
  · rw [if_pos h]
    have h2 : (1048576 : Int) - n < 0 := by omega
    go_enter Try.func7, Try.ntmps7
    go_wp2
    go_ret
    exact ⟨rfl, rfl⟩
  · rw [if_neg h]
    have h2 : ¬ (1048576 : Int) - n < 0 := by omega
    go_enter Try.func7, Try.ntmps7
    go_wp2
    go_ret
    exact ⟨rfl, rfl⟩

set_option maxHeartbeats 400000 in
theorem eqj_any (k g : Int) (w : World) :
    Calls Try.prog 30 #[.agg #[.int .i64 k, .int .i64 g], .agg #[.int .i64 k, .int .i64 g]] w fun r w' => r = .returned (.bool true) ∧ Below w.heap.size w w' := by
  go_enter Try.func30, Try.ntmps30
  go_wp2
  go_ret
  exact ⟨rfl, by repeat (first | exact Below.refl _ _ | refine Below.setCell ?_ (by first | (simp; done) | (simp; omega)) _ | refine Below.alloc ?_ (by first | (simp; done) | (simp; omega)) _)⟩

theorem st_drew {w0 w : World} (h : Below w0.heap.size w0 w) : Below w0.heap.size w0 w.drew := ⟨h.os, h.tape, h.output, h.size, h.block⟩
set_option maxRecDepth 20000 in
set_option maxHeartbeats 2000000 in
theorem eqs_any (v u : Value) (l : List J) (w : World) (h : JRow w v l) (h' : JRow w u l) (hn : l.length ≤ 1048576) :
    Calls Try.prog 11 #[v, u] w fun e w' => e = .returned (.bool true) ∧ Below w.heap.size w w' := by
  obtain ⟨ao, cap, rfl, hrow⟩ := h
  obtain ⟨ao', cap', rfl, hrow'⟩ := h'
  go_enter Try.func11, Try.ntmps11
  go_wp2_with fail
  go_loopw [5] (fun iv wr => ∃ i : Nat, i ≤ l.length ∧ iv = .int .i64 i ∧ Below w.heap.size w wr) (fun iv _ => l.length - (intOf iv).toNat)
  case atStart => exact ⟨0, Nat.zero_le _, rfl, Below.refl _ _⟩
  case round =>
    obtain ⟨i, hil, rfl, hb⟩ := hrel
    by_cases hlt : i < l.length
    · have hlti : (i : Int) < (l.length : Int) := by omega
      have hi0 : (0 : Int) ≤ (i : Int) := by omega
      rcases hrow with h0 | ⟨b, off, rfl, hbw, hcells⟩
      · omega
      rcases hrow' with h0 | ⟨b', off', rfl, hbw', hcells'⟩
      · omega
      obtain ⟨hc1, hc2⟩ := hcells i hlt
      obtain ⟨hd1, hd2⟩ := hcells' i hlt
      have hc1' := (hb.cell (p := ⟨b, off + i * 2, none⟩) hbw).trans hc1
      have hc2' := (hb.cell (p := ⟨b, off + i * 2 + 1, none⟩) hbw).trans hc2
      have hd1' := (hb.cell (p := ⟨b', off' + i * 2, none⟩) hbw').trans hd1
      have hd2' := (hb.cell (p := ⟨b', off' + i * 2 + 1, none⟩) hbw').trans hd2
      clear hc1 hc2 hcells hd1 hd2 hcells'
      generalize (l.getD i (0, 0)).1 = k at *
      generalize (l.getD i (0, 0)).2 = g at *
      have HE := hidden (eqj_any k g)
      go_wp2_with fail
      go_region_with (go_at_call 30; refine (HE.out _).mono ?_; rintro e w2 ⟨rfl, hb2⟩; have b2 := onto (show Below w.heap.size w _ from by first | exact hb | exact st_drew hb) hb2)
      all_goals go_wp2_with fail
      all_goals go_roundw
      all_goals first
        | exact ⟨i + 1, by omega, rfl, by first | exact b2 | exact st_drew b2⟩
        | (simp [intOf]; omega)
        | (trace_state; fail)
    · have hlti : ¬ (i : Int) < (l.length : Int) := by omega
      go_wp2_with fail
      go_ret
      exact ⟨rfl, hb⟩

end Go.Proofs.Ytdnnenklkfkhcal
