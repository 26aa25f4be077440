/-
  A row of joins of the call's own: marked, and asked for its marks.
-/
import Derived.Test.YtdnnenklkfkhcalPj
namespace Go.Proofs.Ytdnnenklkfkhcal
open Go.RowKit Jn Go.Maps

/-- The joins l lie at v, in a block from base on that nobody else holds. -/
def Own (w : World) (base : Nat) (v : Value) (l : List J) : Prop :=
  ∃ ao cap, v = .slice ao l.length cap ∧ (l.length = 0 ∨ ∃ G, ao = some ⟨G, 0, none⟩ ∧ base ≤ G ∧ Out w G l.length l l.length)
theorem Own.row {w : World} {base : Nat} {v : Value} {l : List J} (h : Own w base v l) : JRow w v l := by
  obtain ⟨ao, cap, rfl, h0 | ⟨G, rfl, _, ho⟩⟩ := h
  · exact ⟨ao, cap, rfl, Or.inl h0⟩
  · exact ho.row cap
theorem Own.below {w w' : World} {base : Nat} {v : Value} {l : List J} (h : Own w base v l) (hb : Below w.heap.size w w') : Own w' base v l := by
  obtain ⟨ao, cap, rfl, h0 | ⟨G, rfl, hG, ho⟩⟩ := h
  · exact ⟨ao, cap, rfl, Or.inl h0⟩
  · exact ⟨_, cap, rfl, Or.inr ⟨G, rfl, hG, ho.below hb⟩⟩
theorem Own.base_le {w : World} {base b2 : Nat} {v : Value} {l : List J} (h : Own w base v l) (hb : b2 ≤ base) : Own w b2 v l := by
  obtain ⟨ao, cap, rfl, h0 | ⟨G, rfl, hG, ho⟩⟩ := h
  · exact ⟨ao, cap, rfl, Or.inl h0⟩
  · exact ⟨_, cap, rfl, Or.inr ⟨G, rfl, Nat.le_trans hb hG, ho⟩⟩
/-- Nothing but v's block has turned. -/
structure Aside (w w' : World) (v : Value) : Prop where
  os : w'.os = w.os
  tape : w'.tape = w.tape
  output : w'.output = w.output
  size : w'.heap.size = w.heap.size
  block : ∀ j, v.ownBlock ≠ some j → w'.heap[j]? = w.heap[j]?
theorem Aside.refl (w : World) (v : Value) : Aside w w v := ⟨rfl, rfl, rfl, rfl, fun _ _ => rfl⟩
theorem Aside.set {w w' : World} {G n c o : Nat} (h : Aside w w' (.slice (some ⟨G, 0, none⟩) n c)) (x : Value) : Aside w (w'.setCell ⟨G, o, none⟩ x) (.slice (some ⟨G, 0, none⟩) n c) := by
  have hb := (Below.refl G w').setCell (p := ⟨G, o, none⟩) (Nat.le_refl _) x
  refine ⟨hb.os.trans h.os, hb.tape.trans h.tape, hb.output.trans h.output, by rw [← h.size]; simp [World.setCell], fun j hj => ?_⟩
  rw [← h.block j hj]
  have hne : G ≠ j := fun e => hj (by rw [e]; rfl)
  rw [Go.Sort.setCell_eq]
  simp [Go.Sort.mapBlock, Array.getElem?_modify, hne]
theorem Aside.below {w0 w w' : World} {base : Nat} {v : Value} (h : Aside w w' v) (hb : Below base w0 w) (hv : ∀ j, v.ownBlock = some j → base ≤ j) : Below base w0 w' :=
  ⟨h.os.trans hb.os, h.tape.trans hb.tape, h.output.trans hb.output, by rw [h.size]; exact hb.size, fun k hk => by
    rw [← hb.block k hk]
    exact h.block k (fun e => absurd (hv k e) (by omega))⟩
theorem Own.from_base {w : World} {base : Nat} {v : Value} {l : List J} (h : Own w base v l) (hn : l.length ≠ 0) : ∀ j, v.ownBlock = some j → base ≤ j := by
  obtain ⟨ao, cap, rfl, h0 | ⟨G, rfl, hG, _⟩⟩ := h
  · exact absurd h0 hn
  · intro j hj; cases hj; exact hG
theorem Out.aside {w w' : World} {G n i : Nat} {l : List J} {v : Value} (h : Out w G n l i) (ha : Aside w w' v) (hv : v.ownBlock ≠ some G) : Out w' G n l i := by
  have hb := ha.block G hv
  have hc : ∀ j, w'.cell? ⟨G, j, none⟩ = w.cell? ⟨G, j, none⟩ := fun j => by simp only [World.cell?, hb]
  have hf : ∀ j, w'.frozen? ⟨G, j, none⟩ = w.frozen? ⟨G, j, none⟩ := fun j => by simp only [World.frozen?, hb]
  refine ⟨by rw [ha.size]; exact h.1, fun j hj => ?_, fun j hj => ?_⟩
  · rw [hc, hf]; exact h.2.1 j hj
  · rw [hc, hc]; exact h.2.2 j hj

def marks (n : Nat) : List J := (List.range n).map (fun i : Nat => (1 + 2 * (i : Int), 1 + 2 * (i : Int) + 1))
theorem marks_len (n : Nat) : (marks n).length = n := by simp [marks]
theorem marks_get (n i : Nat) (h : i < n) : (marks n).getD i (0, 0) = (1 + 2 * (i : Int), 1 + 2 * (i : Int) + 1) := by
  rw [List.getD_eq_getElem?_getD, List.getElem?_eq_getElem (by rw [marks_len]; exact h)]
  simp [marks]

set_option maxRecDepth 20000 in
set_option maxHeartbeats 2000000 in
theorem mark_some (G n cap : Nat) (l0 : List J) (w : World) (h : Out w G n l0 n) (hn : n ≤ 1048576) :
    Calls Try.prog 14 #[.slice (some ⟨G, 0, none⟩) n cap, .int .i64 1] w fun e w' => e = .returned (.int .i64 (1 + 2 * (n : Int))) ∧ Out w' G n (marks n) n ∧ Aside w w' (.slice (some ⟨G, 0, none⟩) n cap) := by
  have h0 : Out w G n (marks n) 0 := ⟨h.1, h.2.1, fun j hj => absurd hj (by omega)⟩
  clear h
  go_enter Try.func14, Try.ntmps14
  go_wp2_with fail
  go_loopw [1, 5] (fun kv iv wr => ∃ i : Nat, i ≤ n ∧ kv = .int .i64 (1 + 2 * (i : Int)) ∧ iv = .int .i64 i ∧ Out wr G n (marks n) i ∧ Aside w wr (.slice (some ⟨G, 0, none⟩) n cap)) (fun _ iv _ => n - (intOf iv).toNat)
  case atStart => exact ⟨0, Nat.zero_le _, rfl, rfl, h0, Aside.refl _ _⟩
  case round =>
    clear h0
    obtain ⟨i, hi, rfl, rfl, ho, ha⟩ := hrel
    by_cases hlt : i < n
    · have hlti : (i : Int) < (n : Int) := by omega
      have hset := ho.set hlt
      rw [marks_get n i hlt] at hset
      obtain ⟨⟨u0, hu0⟩, hf0⟩ := ho.2.1 (i * 2) (by omega)
      obtain ⟨⟨u1, hu1⟩, hf1⟩ := ho.2.1 (i * 2 + 1) (by omega)
      have ha2 := (ha.set (o := i * 2) (.int .i64 (1 + 2 * (i : Int)))).set (o := i * 2 + 1) (.int .i64 (1 + 2 * (i : Int) + 1))
      clear ho ha
      go_wp2_with fail
      go_roundw
      case rel => exact ⟨i + 1, by omega, by congr 1, rfl, hset, ha2⟩
      case measure => simp [intOf]; omega
    · have hlti : ¬ (i : Int) < (n : Int) := by omega
      have hin : i = n := by omega
      subst hin
      go_wp2_with fail
      go_ret
      exact ⟨rfl, ho, ha⟩

set_option maxRecDepth 20000 in
set_option maxHeartbeats 2000000 in
theorem mark_none (ao : Option Addr) (cap : Nat) (w : World) :
    Calls Try.prog 14 #[.slice ao 0 cap, .int .i64 1] w fun e w' => e = .returned (.int .i64 1) ∧ w' = w := by
  go_enter Try.func14, Try.ntmps14
  go_wp2_with fail
  go_loopw [1, 5] (fun kv iv wr => wr = w ∧ kv = .int .i64 1 ∧ iv = .int .i64 0) (fun _ _ _ => 0)
  case atStart => exact ⟨rfl, rfl, rfl⟩
  case round =>
    obtain ⟨rfl, rfl, rfl⟩ := hrel
    go_wp2_with fail
    go_ret
    exact ⟨rfl, rfl⟩

/-- What a marking does. -/
theorem mark_any (v : Value) (l : List J) (base : Nat) (w : World) (h : Own w base v l) (hn : l.length ≤ 1048576) :
    Calls Try.prog 14 #[v, .int .i64 1] w fun e w' => e = .returned (.int .i64 (1 + 2 * (l.length : Int))) ∧ Own w' base v (marks l.length) ∧ Aside w w' v ∧ (l.length = 0 → w' = w) := by
  obtain ⟨ao, cap, rfl, hh⟩ := h
  rcases Nat.eq_zero_or_pos l.length with h0 | hpos
  · rw [h0]
    refine (mark_none ao cap w).mono ?_
    rintro e w' ⟨rfl, rfl⟩
    exact ⟨rfl, ⟨ao, cap, rfl, Or.inl rfl⟩, Aside.refl _ _, fun _ => rfl⟩
  · obtain ⟨G, rfl, hG, ho⟩ := hh.resolve_left (by omega)
    refine (mark_some G l.length cap l w ho hn).mono ?_
    rintro e w' ⟨rfl, ho', ha⟩
    exact ⟨rfl, ⟨_, cap, by rw [marks_len], Or.inr ⟨G, rfl, hG, by rw [marks_len]; exact ho'⟩⟩, ha, fun h0 => absurd h0 (by omega)⟩
theorem Own.mark_below {w w' w0 : World} {base b0 : Nat} {v : Value} {l : List J} (h : Own w base v l) (ha : Aside w w' v) (hz : l.length = 0 → w' = w) (hb : Below b0 w0 w) (h0 : b0 ≤ base) : Below b0 w0 w' := by
  rcases Nat.eq_zero_or_pos l.length with q | q
  · rw [hz q]; exact hb
  · exact ha.below hb (fun j hj => Nat.le_trans h0 (h.from_base (by omega) j hj))
theorem Own.mark_own {wx w w' : World} {base b2 : Nat} {v v2 : Value} {l l2 : List J} (h : Own wx base v l) (hx : wx.heap.size ≤ b2) (ha : Aside w w' v) (hz : l.length = 0 → w' = w) (h2 : Own w b2 v2 l2) : Own w' b2 v2 l2 := by
  rcases Nat.eq_zero_or_pos l.length with q | q
  · rw [hz q]; exact h2
  · obtain ⟨ao, cap, rfl, hh⟩ := h
    obtain ⟨G, rfl, hG, ho⟩ := hh.resolve_left (by omega)
    obtain ⟨ao2, cap2, rfl, h0 | ⟨G2, rfl, hG2, ho2⟩⟩ := h2
    · exact ⟨_, _, rfl, Or.inl h0⟩
    · refine ⟨_, _, rfl, Or.inr ⟨G2, rfl, hG2, ho2.aside ha ?_⟩⟩
      intro e
      have e2 : G = G2 := Option.some.inj e
      have := ho.1
      omega

set_option maxRecDepth 20000 in
set_option maxHeartbeats 2000000 in
theorem held_any (v : Value) (n : Nat) (w : World) (h : JRow w v (marks n)) (hn : n ≤ 1048576) :
    Calls Try.prog 15 #[v, .int .i64 1] w fun e w' => e = .returned (.int .i64 (1 + 2 * (n : Int))) ∧ w' = w := by
  obtain ⟨ao, cap, rfl, hrow⟩ := h
  rw [marks_len] at hrow ⊢
  go_enter Try.func15, Try.ntmps15
  go_wp2_with fail
  go_loopw [1, 5] (fun kv iv wr => wr = w ∧ ∃ i : Nat, i ≤ n ∧ kv = .int .i64 (1 + 2 * (i : Int)) ∧ iv = .int .i64 i) (fun _ iv _ => n - (intOf iv).toNat)
  case atStart => exact ⟨rfl, 0, Nat.zero_le _, rfl, rfl⟩
  case round =>
    obtain ⟨rfl, i, hi, rfl, rfl⟩ := hrel
    by_cases hlt : i < n
    · have hlti : (i : Int) < (n : Int) := by omega
      rcases hrow with h0 | ⟨b, off, rfl, hbw, hcells⟩
      · omega
      obtain ⟨hc1, hc2⟩ := hcells i hlt
      rw [marks_get n i hlt] at hc1 hc2
      clear hcells
      go_wp2_with fail
      go_roundw
      case rel => exact ⟨trivial, i + 1, by omega, by congr 1, rfl⟩
      case measure => simp [intOf]; omega
    · have hlti : ¬ (i : Int) < (n : Int) := by omega
      have hin : i = n := by omega
      subst hin
      go_wp2_with fail
      go_ret
      exact ⟨rfl, rfl⟩

set_option maxRecDepth 20000 in
set_option maxHeartbeats 2000000 in
theorem tos2_any (v : Value) (l : List J) (w : World) (h : JRow w v l) (hn : l.length ≤ 1048576) :
    Calls Try.prog 9 #[v] w fun e w' => ∃ v', e = .returned v' ∧ Own w' w.heap.size v' l ∧ Below w.heap.size w w' := by
  obtain ⟨ao, cap, rfl, hrow⟩ := h
  obtain ⟨i0, hi, hz0, hz1, hz2⟩ := info_parts info52
  go_enter Try.func9, Try.ntmps9
  go_wp2_with (refine wpList_make_full _ rfl (.tmp 6) (.tmp 6) 25 rfl w.heap.size 41 i0 (.agg #[.int .i64 0, .int .i64 0]) 2 Try.underlying25 hi hz0 hz1 .i64 .i64 _ _ l.length rfl rfl rfl rfl (by rw [hz2]; omega) (by unfold maxLen; omega) (Nat.le_refl _) ?_; intro w1 ho1 hg1)
  have b1 : Below w.heap.size w w1 := (Below.refl _ w).grown hg1 (Nat.le_refl _) (by simp)
  have ho := Out.made (l := l) ho1
  clear ho1
  go_wp2_with fail
  go_loopw [4] (fun iv wr => ∃ i : Nat, i ≤ l.length ∧ iv = .int .i64 i ∧ Below w.heap.size w wr ∧ Out wr w.heap.size l.length l i) (fun iv _ => l.length - (intOf iv).toNat)
  case atStart => exact ⟨0, Nat.zero_le _, rfl, b1, ho⟩
  case round =>
    clear b1 ho
    obtain ⟨i, hil, rfl, hb, ho⟩ := hrel
    by_cases hlt : i < l.length
    · have hlti : (i : Int) < (l.length : Int) := by omega
      rcases hrow with h0 | ⟨b, off, rfl, hbw, hcells⟩
      · omega
      obtain ⟨hc1, hc2⟩ := hcells i hlt
      have hc1' := (hb.cell (p := ⟨b, off + i * 2, none⟩) hbw).trans hc1
      have hc2' := (hb.cell (p := ⟨b, off + i * 2 + 1, none⟩) hbw).trans hc2
      clear hc1 hc2 hcells
      have hT := tj_any (l.getD i (0, 0)).1 (l.getD i (0, 0)).2
      have hSet := fun W (hW : Below wr.heap.size wr W) => (ho.below hW).set hlt
      have hOld := fun W (hW : Below wr.heap.size wr W) => (ho.below hW).2.1
      have HSet := hidden hSet
      have HOld := hidden hOld
      clear hSet hOld
      generalize (l.getD i (0, 0)).1 = k at *
      generalize (l.getD i (0, 0)).2 = g at *
      go_wp2_with fail
      refine (hT _).mono ?_
      rintro e w2 ⟨rfl, hb2⟩
      have b2 := onto hb hb2
      have hset := HSet.out w2 hb2
      obtain ⟨⟨u0, hu0⟩, hf0⟩ := HOld.out w2 hb2 (i * 2) (by omega)
      obtain ⟨⟨u1, hu1⟩, hf1⟩ := HOld.out w2 hb2 (i * 2 + 1) (by omega)
      have b3 : Below w.heap.size w ((w2.setCell ⟨w.heap.size, i * 2, none⟩ (.int .i64 k)).setCell ⟨w.heap.size, i * 2 + 1, none⟩ (.int .i64 g)) := (b2.setCell (Nat.le_refl _) _).setCell (Nat.le_refl _) _
      clear HSet HOld hT hc1' hc2' hb hb2 ho b2
      go_wp2_with fail
      go_roundw
      case rel => exact ⟨i + 1, by omega, rfl, b3, hset⟩
      case measure => simp [intOf]; omega
    · have hlti : ¬ (i : Int) < (l.length : Int) := by omega
      have hil2 : i = l.length := by omega
      subst hil2
      go_wp2_with fail
      go_ret
      exact ⟨_, rfl, ⟨_, _, rfl, Or.inr ⟨w.heap.size, rfl, Nat.le_refl _, ho⟩⟩, hb⟩

end Go.Proofs.Ytdnnenklkfkhcal
