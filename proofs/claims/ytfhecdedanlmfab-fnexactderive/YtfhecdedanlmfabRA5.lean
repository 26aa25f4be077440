/-
  The law's own markings of laws and of numbers.
-/
import Derived.Test.YtfhecdedanlmfabRA4
namespace Go.Proofs.Ytfhecdedanlmfab
open Go.RowKit Go.WideShapes Va Rc
set_option linter.all false

/-- Nothing but blocks from lo to hi has turned; all cells are there still. -/
structure Kp (lo hi : Nat) (w w' : World) : Prop where
  os : w'.os = w.os
  tape : w'.tape = w.tape
  output : w'.output = w.output
  size : w'.heap.size = w.heap.size
  block : ∀ b, (b < lo ∨ hi ≤ b) → w'.heap[b]? = w.heap[b]?
  cell : ∀ b o, (∃ u, w.cell? ⟨b, o, none⟩ = some u) → ∃ u, w'.cell? ⟨b, o, none⟩ = some u
  fro : ∀ b o, w'.frozen? ⟨b, o, none⟩ = w.frozen? ⟨b, o, none⟩
theorem Kp.refl (lo hi : Nat) (w : World) : Kp lo hi w w := ⟨rfl, rfl, rfl, rfl, fun _ _ => rfl, fun _ _ h => h, fun _ _ => rfl⟩
theorem Kp.trans {lo hi a b : Nat} {w w1 w2 : World} (h : Kp lo hi w w1) (h2 : Kp a b w1 w2) (ha : lo ≤ a) (hb : b ≤ hi) : Kp lo hi w w2 :=
  ⟨h2.os.trans h.os, h2.tape.trans h.tape, h2.output.trans h.output, h2.size.trans h.size, fun c hc => (h2.block c (by omega)).trans (h.block c hc), fun c o hc => h2.cell c o (h.cell c o hc), fun c o => (h2.fro c o).trans (h.fro c o)⟩
theorem Kp.one (w : World) (b o : Nat) (v : Value) : Kp b (b + 1) w (w.setCell ⟨b, o, none⟩ v) := by
  have hb := (Below.refl b w).setCell (p := ⟨b, o, none⟩) (Nat.le_refl _) v
  refine ⟨hb.os, hb.tape, hb.output, by simp [World.setCell], fun c hc => Below.heap_setCell _ _ _ _ (by show c ≠ b; omega), fun c o' hc => ?_, fun c o' => by rw [World.frozen?_setCell]⟩
  obtain ⟨u, hu⟩ := hc
  by_cases q : c = b ∧ o' = o
  · obtain ⟨rfl, rfl⟩ := q
    exact ⟨v, World.cell?_setCell_same _ _ _ hu⟩
  · exact ⟨u, (World.cell?_setCell_other _ _ _ _ (by intro z; simp only [Addr.mk.injEq, and_true] at z; exact q ⟨z.1.symm, z.2.symm⟩)).trans hu⟩
theorem Kp.set {lo hi : Nat} {w w' : World} (h : Kp lo hi w w') {b : Nat} (h1 : lo ≤ b) (h2 : b < hi) (o : Nat) (v : Value) : Kp lo hi w (w'.setCell ⟨b, o, none⟩ v) := h.trans (Kp.one w' b o v) h1 (by omega)
theorem Kp.below {lo hi base : Nat} {w0 w w' : World} (h : Kp lo hi w w') (hb : Below base w0 w) (hl : base ≤ lo) : Below base w0 w' :=
  ⟨h.os.trans hb.os, h.tape.trans hb.tape, h.output.trans hb.output, by rw [h.size]; exact hb.size, fun k hk => (h.block k (by omega)).trans (hb.block k hk)⟩
theorem Kp.own {lo hi base e s n : Nat} {w w' : World} {v : Value} {xs : List Value} (h : Kp lo hi w w') (ho : w.ownsRow base e s v n xs) (hl : hi ≤ base) : w'.ownsRow base e s v n xs := by
  obtain ⟨q, ⟨q1, q2⟩ | ⟨g, c, cur, rfl, hg, hh, r⟩⟩ := ho
  · exact ⟨q, Or.inl ⟨q1, q2⟩⟩
  · exact ⟨q, Or.inr ⟨g, c, cur, rfl, hg, (h.block g (by omega)).trans hh, r⟩⟩

set_option maxRecDepth 20000 in
set_option maxHeartbeats 2000000 in
theorem markints_any (T n c : Nat) (k0 : Int) (w : World) (h : ∀ m, m < n → (∃ u, w.cell? ⟨T, m, none⟩ = some u) ∧ w.frozen? ⟨T, m, none⟩ = false) (hn : n ≤ 1048576) (hk0 : 0 ≤ k0) (hk1 : k0 ≤ 1000000000000000) :
    Calls Try.prog 12 #[.slice (some ⟨T, 0, none⟩) n c, .int .i64 k0] w fun e w' => e = .returned (.int .i64 (k0 + n)) ∧ Kp T (T + 1) w w' := by
  have HH := hidden h
  clear h
  go_enter Try.func12, Try.ntmps12
  go_wp2_with fail
  go_loopw [1, 5] (fun kv iv wr => ∃ i : Nat, i ≤ n ∧ kv = .int .i64 (k0 + (i : Int)) ∧ iv = .int .i64 i ∧ Kp T (T + 1) w wr) (fun _ iv _ => n - (intOf iv).toNat)
  case atStart => exact ⟨0, Nat.zero_le _, by simp, rfl, Kp.refl _ _ _⟩
  case round =>
    obtain ⟨i, hi, rfl, rfl, ha⟩ := hrel
    by_cases hlt : i < n
    · have hlti : (i : Int) < (n : Int) := by omega
      obtain ⟨u0, hu0⟩ := ha.cell T i (HH.out i hlt).1
      have hf0 := (ha.fro T i).trans (HH.out i hlt).2
      have ha2 := ha.set (b := T) (Nat.le_refl _) (by omega) i (.int .i64 (k0 + (i : Int)))
      clear ha
      go_wp2_with fail
      go_roundw
      case rel => exact ⟨i + 1, by omega, by congr 1; omega, rfl, ha2⟩
      case measure => simp [intOf]; omega
    · have hlti : ¬ (i : Int) < (n : Int) := by omega
      have hin : i = n := by omega
      subst hin
      go_wp2_with fail
      go_ret
      exact ⟨rfl, ha⟩

/-- A list of laws in blocks from lo to hi that may be written. -/
structure MRow (w : World) (lo hi G : Nat) (l : List Lw) : Prop where
  gl : lo ≤ G
  gh : G < hi
  row : ∀ j, j < l.length * 3 → (∃ u, w.cell? ⟨G, j, none⟩ = some u) ∧ w.frozen? ⟨G, j, none⟩ = false
  team : ∀ j x, l[j]? = some x → ∃ T T', (lo ≤ T ∧ T < hi ∧ T ≠ G) ∧ (lo ≤ T' ∧ T' < hi ∧ T' ≠ G) ∧ w.cell? ⟨G, j * 3, none⟩ = some (.slice (some ⟨T, 0, none⟩) x.ifs.length x.ifs.length) ∧ w.cell? ⟨G, j * 3 + 1, none⟩ = some (.slice (some ⟨T', 0, none⟩) x.nots.length x.nots.length) ∧ (∀ m, m < x.ifs.length → (∃ u, w.cell? ⟨T, m, none⟩ = some u) ∧ w.frozen? ⟨T, m, none⟩ = false) ∧ (∀ m, m < x.nots.length → (∃ u, w.cell? ⟨T', m, none⟩ = some u) ∧ w.frozen? ⟨T', m, none⟩ = false)
theorem MRow.step {w w' : World} {lo hi G a b : Nat} {l : List Lw} (h : MRow w lo hi G l) (hk : Kp a b w w') (h3 : ∀ j, j < l.length → w'.cell? ⟨G, j * 3, none⟩ = w.cell? ⟨G, j * 3, none⟩ ∧ w'.cell? ⟨G, j * 3 + 1, none⟩ = w.cell? ⟨G, j * 3 + 1, none⟩) : MRow w' lo hi G l := by
  refine ⟨h.gl, h.gh, fun j hj => ⟨hk.cell _ _ (h.row j hj).1, (hk.fro _ _).trans (h.row j hj).2⟩, fun j x hx => ?_⟩
  obtain ⟨T, T', k1, k2, k3, k4, k5, k6⟩ := h.team j x hx
  exact ⟨T, T', k1, k2, (h3 j (get_lt' hx)).1.trans k3, (h3 j (get_lt' hx)).2.trans k4, fun m hm => ⟨hk.cell _ _ (k5 m hm).1, (hk.fro _ _).trans (k5 m hm).2⟩, fun m hm => ⟨hk.cell _ _ (k6 m hm).1, (hk.fro _ _).trans (k6 m hm).2⟩⟩
theorem WOut.marked {w : World} {base G : Nat} {l : List Lw} (h : WOut w base G l.length l l.length) : MRow w base w.heap.size G l := by
  obtain ⟨h0, h1, h2, h3⟩ := h
  refine ⟨h0, h1, h2, fun j x hx => ?_⟩
  obtain ⟨T, T', k1, k3, k4, k5⟩ := h3 j x (get_lt' hx) hx
  exact ⟨T, T', ⟨k1.1, k4.1, k1.2.1⟩, ⟨k1.2.2.1, k5.1, k1.2.2.2⟩, k3.1, k3.2.1, fun m hm => k4.2.1 m (by omega), fun m hm => k5.2.1 m (by omega)⟩
theorem MRow.below {w w' : World} {lo hi G : Nat} {l : List Lw} (h : MRow w lo hi G l) (hh : hi ≤ w.heap.size) (hb : Below w.heap.size w w') : MRow w' lo hi G l := by
  have hG : G < w.heap.size := by have := h.gh; omega
  refine ⟨h.gl, h.gh, fun j hj => ⟨?_, ((bcell hb).2 _ _ hG).trans (h.row j hj).2⟩, fun j x hx => ?_⟩
  · obtain ⟨u, hu⟩ := (h.row j hj).1
    exact ⟨u, ((bcell hb).1 _ _ hG).trans hu⟩
  · obtain ⟨T, T', k1, k2, k3, k4, k5, k6⟩ := h.team j x hx
    have hT : T < w.heap.size := by omega
    have hT' : T' < w.heap.size := by omega
    exact ⟨T, T', k1, k2, ((bcell hb).1 _ _ hG).trans k3, ((bcell hb).1 _ _ hG).trans k4, fun m hm => ⟨by obtain ⟨u, hu⟩ := (k5 m hm).1; exact ⟨u, ((bcell hb).1 _ _ hT).trans hu⟩, ((bcell hb).2 _ _ hT).trans (k5 m hm).2⟩, fun m hm => ⟨by obtain ⟨u, hu⟩ := (k6 m hm).1; exact ⟨u, ((bcell hb).1 _ _ hT').trans hu⟩, ((bcell hb).2 _ _ hT').trans (k6 m hm).2⟩⟩

set_option maxRecDepth 20000 in
set_option maxHeartbeats 4000000 in
theorem marklaws_any (lo hi G c : Nat) (l : List Lw) (k0 : Int) (w : World) (h : MRow w lo hi G l) (hn : l.length ≤ 1048576) (ht : ∀ x ∈ l, x.ifs.length ≤ 1048576 ∧ x.nots.length ≤ 1048576) (hk0 : 0 ≤ k0) (hk1 : k0 ≤ 10000000) :
    Calls Try.prog 13 #[.slice (some ⟨G, 0, none⟩) l.length c, .int .i64 k0] w fun e w' => ∃ k : Int, e = .returned (.int .i64 k) ∧ (0 ≤ k ∧ k ≤ 10000000 + l.length * 2097160) ∧ Kp lo hi w w' := by
  have HH := hidden h
  have HT := hidden ht
  clear h ht
  go_enter Try.func13, Try.ntmps13
  go_wp2_with fail
  go_loopw [1, 5] (fun kv iv wr => ∃ (i : Nat) (k : Int), i ≤ l.length ∧ kv = .int .i64 k ∧ iv = .int .i64 i ∧ 0 ≤ k ∧ k ≤ 10000000 + i * 2097160 ∧ Hid (Kp lo hi w wr) ∧ Hid (MRow wr lo hi G l)) (fun _ iv _ => l.length - (intOf iv).toNat)
  case atStart => exact ⟨0, k0, Nat.zero_le _, rfl, rfl, hk0, by omega, Kp.refl _ _ _, HH⟩
  case round =>
    obtain ⟨i, k, hi', rfl, rfl, hka, hkb, ha, hm⟩ := hrel
    by_cases hlt : i < l.length
    · have hlti : (i : Int) < (l.length : Int) := by omega
      obtain ⟨x, hx⟩ := some_of l i hlt
      have hxl := HT.out x (List.mem_of_getElem? hx)
      have hxl1 := hxl.1
      have hxl2 := hxl.2
      obtain ⟨T, T', t1, t2, t4, t4', t5, t5'⟩ := hm.out.team i x hx
      have hlo := hm.out.gl
      have hhi := hm.out.gh
      have hK := markints_any T x.ifs.length x.ifs.length k _ t5 hxl1 hka (by omega)
      have T5 := hidden t5'
      clear t5 t5' hx hxl
      go_wp2_with (go_at_call 12; with_reducible refine hK.mono ?_; rintro e w4 ⟨rfl, kp4⟩; have m4 := hidden (hm.out.step kp4 (fun j hj => ⟨World.cell?_of_block (kp4.block G (by omega)), World.cell?_of_block (kp4.block G (by omega))⟩)); have a4 := hidden (ha.out.trans kp4 t1.1 (by omega)); have d4 := (World.cell?_of_block (kp4.block G (by omega)) : w4.cell? ⟨G, i * 3 + 1, none⟩ = _).trans t4'; have T6 := hidden (fun m hm2 => (⟨kp4.cell _ _ (T5.out m hm2).1, (kp4.fro _ _).trans (T5.out m hm2).2⟩ : (∃ u, w4.cell? ⟨T', m, none⟩ = some u) ∧ w4.frozen? ⟨T', m, none⟩ = false)); clear kp4)
      generalize hk : k + (x.ifs.length : Int) = kk at *
      have hK2 := markints_any T' x.nots.length x.nots.length kk _ T6.out hxl2 (by omega) (by omega)
      go_wp2_with (go_at_call 12; with_reducible refine hK2.mono ?_; rintro e w5 ⟨rfl, kp5⟩; have m5 := hidden (m4.out.step kp5 (fun j hj => ⟨World.cell?_of_block (kp5.block G (by omega)), World.cell?_of_block (kp5.block G (by omega))⟩)); have a5 := hidden (a4.out.trans kp5 t2.1 (by omega)); obtain ⟨⟨u2, hu2⟩, hf2⟩ := m5.out.row (i * 3 + 2) (by omega); clear kp5)
      have z := Kp.one w5 G (i * 3 + 2) (.int .i64 (kk + (x.nots.length : Int)))
      have m6 := hidden (m5.out.step z (fun j hj => ⟨by rw [World.cell?_setCell_other _ _ _ _ (by first | (simp; done) | (simp; omega))], by rw [World.cell?_setCell_other _ _ _ _ (by first | (simp; done) | (simp; omega))]⟩))
      have a6 := hidden (a5.out.trans z hlo (by omega))
      go_roundw
      case rel => exact ⟨i + 1, _, by omega, rfl, rfl, by omega, by omega, a6, m6⟩
      case measure => simp [intOf]; omega
    · have hlti : ¬ (i : Int) < (l.length : Int) := by omega
      go_wp2_with fail
      go_ret
      exact ⟨k, rfl, ⟨hka, by omega⟩, ha.out⟩

theorem int_cell {cs : Int → Nat → Int} {w : World} {ao : Option Addr} {n cap : Nat} {l : List Int} {i : Nat} {x : Int} (h : Rw 1 cs w (.slice ao n cap) l) (hk : l[i]? = some x) :
    ∃ g off, ao = some ⟨g, off, none⟩ ∧ g < w.heap.size ∧ w.cell? ⟨g, off + i, none⟩ = some (.int .i64 (cs x 0)) := by
  obtain ⟨g, off, h1, h2, h3⟩ := h.at hk
  have := h3 0 (by omega)
  rw [Nat.mul_one, Nat.add_zero] at this
  exact ⟨g, off, h1, h2, this⟩

set_option maxRecDepth 20000 in
set_option maxHeartbeats 4000000 in
theorem markint_some (G n cap : Nat) (l0 : List Int) (k0 : Int) (w : World) (h : Out 1 csI w G n l0 n) (hn : n ≤ 1048576) (hk0 : 0 ≤ k0) (hk1 : k0 ≤ 1000000000) :
    Calls Try.prog 12 #[.slice (some ⟨G, 0, none⟩) n cap, .int .i64 k0] w fun e w' => e = .returned (.int .i64 (k0 + (n : Int))) ∧ Out 1 csM w' G n (marks 1 k0 n) n ∧ Aside w w' (.slice (some ⟨G, 0, none⟩) n cap) := by
  have h0 : Out 1 csM w G n (marks 1 k0 n) 0 := ⟨h.1, h.2.1, fun j x hj => absurd hj (by omega)⟩
  clear h
  go_enter Try.func12, Try.ntmps12
  go_wp2_with fail
  go_loopw [1, 5] (fun kv iv wr => ∃ i : Nat, i ≤ n ∧ kv = .int .i64 (k0 + (i : Int)) ∧ iv = .int .i64 i ∧ Out 1 csM wr G n (marks 1 k0 n) i ∧ Aside w wr (.slice (some ⟨G, 0, none⟩) n cap)) (fun _ iv _ => n - (intOf iv).toNat)
  case atStart => exact ⟨0, Nat.zero_le _, by simp, rfl, h0, Aside.refl _ _⟩
  case round =>
    clear h0
    obtain ⟨i, hi, rfl, rfl, ho, ha⟩ := hrel
    by_cases hlt : i < n
    · have hlti : (i : Int) < (n : Int) := by omega
      have hset := ho.set hlt (marks_get 1 k0 n i hlt) [.int .i64 (k0 + (i : Int))] rfl (fun k hk => by
        match k, hk with
        | 0, _ => exact congrArg (fun z => some (Value.int .i64 z)) (by unfold csM; omega))
      obtain ⟨⟨u0, hu0⟩, hf0⟩ := ho.old hlt (show 0 < 1 by omega)
      rw [Nat.mul_one] at hset hu0 hf0
      simp only [Nat.add_zero] at hu0 hf0
      have ha2 := Aside.put [.int .i64 (k0 + (i : Int))] i ha
      clear ho ha
      go_wp2_with fail
      go_roundw
      case rel => exact ⟨i + 1, by omega, by congr 1; omega, rfl, hset, ha2⟩
      case measure => simp [intOf]; omega
    · have hlti : ¬ (i : Int) < (n : Int) := by omega
      have hin : i = n := by omega
      subst hin
      go_wp2_with fail
      go_ret
      exact ⟨rfl, ho, ha⟩

set_option maxRecDepth 20000 in
set_option maxHeartbeats 2000000 in
theorem markint_none (ao : Option Addr) (cap : Nat) (k0 : Int) (w : World) :
    Calls Try.prog 12 #[.slice ao 0 cap, .int .i64 k0] w fun e w' => e = .returned (.int .i64 k0) ∧ w' = w := by
  go_enter Try.func12, Try.ntmps12
  go_wp2_with fail
  go_loopw [1, 5] (fun kv iv wr => wr = w ∧ kv = .int .i64 k0 ∧ iv = .int .i64 0) (fun _ _ _ => 0)
  case atStart => exact ⟨rfl, rfl, rfl⟩
  case round =>
    obtain ⟨rfl, rfl, rfl⟩ := hrel
    go_wp2_with fail
    go_ret
    exact ⟨rfl, rfl⟩

/-- What a marking does. -/
theorem markint_any (v : Value) (l : List Int) (base : Nat) (k0 : Int) (w : World) (h : Own 1 csI w base v l) (hn : l.length ≤ 1048576) (hk0 : 0 ≤ k0) (hk1 : k0 ≤ 1000000000) :
    Calls Try.prog 12 #[v, .int .i64 k0] w fun e w' => e = .returned (.int .i64 (k0 + (l.length : Int))) ∧ Own 1 csM w' base v (marks 1 k0 l.length) ∧ Aside w w' v ∧ (l.length = 0 → w' = w) := by
  obtain ⟨ao, cap, rfl, hc, hh⟩ := h
  rcases Nat.eq_zero_or_pos l.length with h0 | hpos
  · rw [h0]
    refine (markint_none ao cap k0 w).mono ?_
    rintro e w' ⟨rfl, rfl⟩
    exact ⟨by simp, ⟨ao, cap, rfl, Nat.zero_le _, Or.inl rfl⟩, Aside.refl _ _, fun _ => rfl⟩
  · obtain ⟨G, rfl, hG, ho⟩ := hh.resolve_left (by omega)
    refine (markint_some G l.length cap l k0 w ho hn hk0 hk1).mono ?_
    rintro e w' ⟨rfl, ho', ha⟩
    exact ⟨rfl, ⟨_, cap, by rw [marks_len], by rw [marks_len]; exact hc, Or.inr ⟨G, rfl, hG, by rw [marks_len]; exact ho'⟩⟩, ha, fun h0 => absurd h0 (by omega)⟩

set_option maxRecDepth 20000 in
set_option maxHeartbeats 4000000 in
theorem heldint_any (v : Value) (k0 : Int) (n : Nat) (w : World) (h : Rw 1 csM w v (marks 1 k0 n)) (hn : n ≤ 1048576) (hk0 : 0 ≤ k0) (hk1 : k0 ≤ 1000000000) :
    Calls Try.prog 14 #[v, .int .i64 k0] w fun e w' => e = .returned (.int .i64 (k0 + (n : Int))) ∧ w' = w := by
  have HH := hidden h
  obtain ⟨ao, cap, rfl⟩ := h.form
  clear h
  rw [marks_len]
  rw [marks_len] at HH
  go_enter Try.func14, Try.ntmps14
  go_wp2_with fail
  go_loopw [1, 5] (fun kv iv wr => wr = w ∧ ∃ i : Nat, i ≤ n ∧ kv = .int .i64 (k0 + (i : Int)) ∧ iv = .int .i64 i) (fun _ iv _ => n - (intOf iv).toNat)
  case atStart => exact ⟨rfl, 0, Nat.zero_le _, by simp, rfl⟩
  case round =>
    obtain ⟨rfl, i, hi, rfl, rfl⟩ := hrel
    by_cases hlt : i < n
    · have hlti : (i : Int) < (n : Int) := by omega
      obtain ⟨g, off, rfl, hg, c0⟩ := int_cell HH.out (marks_get 1 k0 n i hlt)
      have c1 : wr.cell? ⟨g, off + i, none⟩ = some (.int .i64 (k0 + (i : Int))) := c0.trans (congrArg (fun z => some (Value.int .i64 z)) (by unfold csM; omega))
      clear c0
      go_wp2_with fail
      go_roundw
      case rel => exact ⟨by first | rfl | trivial, i + 1, by omega, by congr 1; omega, rfl⟩
      case measure => simp [intOf]; omega
    · have hlti : ¬ (i : Int) < (n : Int) := by omega
      have hin : i = n := by omega
      subst hin
      go_wp2_with fail
      go_ret
      exact ⟨rfl, rfl⟩

theorem kp_own {lo hi base e s n : Nat} {w w' : World} {v : Value} {xs : List Value} (h : Kp lo hi w w') (ho : w.ownsRow base e s v n xs) (hl : ∀ k, v.ownBlock = some k → k < lo ∨ hi ≤ k) : w'.ownsRow base e s v n xs := by
  obtain ⟨q, ⟨q1, q2⟩ | ⟨g, c, cur, rfl, hg, hh, r⟩⟩ := ho
  · exact ⟨q, Or.inl ⟨q1, q2⟩⟩
  · exact ⟨q, Or.inr ⟨g, c, cur, rfl, hg, (h.block g (hl g rfl)).trans hh, r⟩⟩
theorem aside_own {base e s n : Nat} {w w' : World} {v v2 : Value} {xs : List Value} (h : Aside w w' v) (ho : w.ownsRow base e s v2 n xs) (hl : ∀ k, v2.ownBlock = some k → v.ownBlock ≠ some k) : w'.ownsRow base e s v2 n xs := by
  obtain ⟨q, ⟨q1, q2⟩ | ⟨g, c, cur, rfl, hg, hh, r⟩⟩ := ho
  · exact ⟨q, Or.inl ⟨q1, q2⟩⟩
  · exact ⟨q, Or.inr ⟨g, c, cur, rfl, hg, (h.block g (hl g rfl)).trans hh, r⟩⟩
theorem intsV_len (l : List Int) : (intsV l).length = l.length := by simp [intsV]
theorem intsV_cells (l : List Int) : intsV l = cellsL 1 csI l := by
  induction l with
  | nil => rfl
  | cons x l ih => show Value.int .i64 x :: intsV l = [Value.int .i64 x] ++ cellsL 1 csI l; rw [ih]; rfl
theorem ownI_own {w : World} {base : Nat} {v : Value} {l : List Int} (h : w.ownsRow base 2 1 v l.length (intsV l)) : Own 1 csI w base v l := own_of rfl (by rw [← intsV_cells]; exact h)
end Go.Proofs.Ytfhecdedanlmfab
