/-
  Merged: Q8.
-/
import Derived.Test.YtgcpiinmcbdkmaaMg4
namespace Go.Proofs.Ytgcpiinmcbdkmaa
open Go.RowKit Va Bl
set_option linter.unusedVariables false
structure Kp (lo hi : Nat) (w w' : World) : Prop where
  os : w'.os = w.os
  tape : w'.tape = w.tape
  output : w'.output = w.output
  size : w'.heap.size = w.heap.size
  block : ∀ b, (b < lo ∨ hi ≤ b) → w'.heap[b]? = w.heap[b]?
  cell : ∀ b o, (∃ u, w.cell? ⟨b, o, none⟩ = some u) → ∃ u, w'.cell? ⟨b, o, none⟩ = some u
  fro : ∀ b o, w'.frozen? ⟨b, o, none⟩ = w.frozen? ⟨b, o, none⟩
theorem Kp.refl (lo hi : Nat) (w : World) : Kp lo hi w w := ⟨rfl, rfl, rfl, rfl, fun _ _ => rfl, fun _ _ h => h, fun _ _ => rfl⟩
theorem Kp.trans {lo hi a b : Nat} {w w1 w2 : World} (h : Kp lo hi w w1) (h2 : Kp a b w1 w2) (ha : lo ≤ a) (hb : b ≤ hi) : Kp lo hi w w2 :=
  ⟨h2.os.trans h.os, h2.tape.trans h.tape, h2.output.trans h.output, h2.size.trans h.size, fun c hc => (h2.block c (by omega)).trans (h.block c hc), fun c o hc => h2.cell c o (h.cell c o hc), fun c o => (h2.fro c o).trans (h.fro c o)⟩
theorem Kp.one (w : World) (b o : Nat) (v : Value) : Kp b (b + 1) w (w.setCell ⟨b, o, none⟩ v) := by
  have hb := (Below.refl b w).setCell (p := ⟨b, o, none⟩) (Nat.le_refl _) v
  refine ⟨hb.os, hb.tape, hb.output, by simp [World.setCell], fun c hc => Below.heap_setCell _ _ _ _ (by show c ≠ b; omega), fun c o' hc => ?_, fun c o' => by rw [World.frozen?_setCell]⟩
  obtain ⟨u, hu⟩ := hc
  by_cases q : c = b ∧ o' = o
  · obtain ⟨rfl, rfl⟩ := q
    exact ⟨v, World.cell?_setCell_same _ _ _ hu⟩
  · exact ⟨u, (World.cell?_setCell_other _ _ _ _ (by intro z; simp only [Addr.mk.injEq, and_true] at z; exact q ⟨z.1.symm, z.2.symm⟩)).trans hu⟩
theorem Kp.set {lo hi : Nat} {w w' : World} (h : Kp lo hi w w') {b : Nat} (h1 : lo ≤ b) (h2 : b < hi) (o : Nat) (v : Value) : Kp lo hi w (w'.setCell ⟨b, o, none⟩ v) := h.trans (Kp.one w' b o v) h1 (by omega)
theorem Kp.below {lo hi base : Nat} {w0 w w' : World} (h : Kp lo hi w w') (hb : Below base w0 w) (hl : base ≤ lo) : Below base w0 w' :=
  ⟨h.os.trans hb.os, h.tape.trans hb.tape, h.output.trans hb.output, by rw [h.size]; exact hb.size, fun k hk => (h.block k (by omega)).trans (hb.block k hk)⟩
theorem Kp.own {lo hi base e s n : Nat} {w w' : World} {v : Value} {xs : List Value} (h : Kp lo hi w w') (ho : w.ownsRow base e s v n xs) (hl : hi ≤ base) : w'.ownsRow base e s v n xs := by
  obtain ⟨q, ⟨q1, q2⟩ | ⟨g, c, cur, rfl, hg, hh, r⟩⟩ := ho
  · exact ⟨q, Or.inl ⟨q1, q2⟩⟩
  · exact ⟨q, Or.inr ⟨g, c, cur, rfl, hg, (h.block g (by omega)).trans hh, r⟩⟩
set_option maxRecDepth 20000 in
set_option maxHeartbeats 2000000 in
theorem markints_any (T n c : Nat) (k0 : Int) (w : World) (h : ∀ m, m < n → (∃ u, w.cell? ⟨T, m, none⟩ = some u) ∧ w.frozen? ⟨T, m, none⟩ = false) (hn : n ≤ 1048576) (hk0 : 0 ≤ k0) (hk1 : k0 ≤ 1000000000000000) :
    Calls Try.prog 28 #[.slice (some ⟨T, 0, none⟩) n c, .int .i64 k0] w fun e w' => e = .returned (.int .i64 (k0 + n)) ∧ Kp T (T + 1) w w' := by
  have HH := hidden h
  clear h
  go_enter Try.func28, Try.ntmps28
  go_wp2_with fail
  go_loopw [1, 5] (fun kv iv wr => ∃ i : Nat, i ≤ n ∧ kv = .int .i64 (k0 + (i : Int)) ∧ iv = .int .i64 i ∧ Kp T (T + 1) w wr) (fun _ iv _ => n - (intOf iv).toNat)
  case atStart => exact ⟨0, Nat.zero_le _, by simp, rfl, Kp.refl _ _ _⟩
  case round =>
    obtain ⟨i, hi, rfl, rfl, ha⟩ := hrel
    by_cases hlt : i < n
    · have hlti : (i : Int) < (n : Int) := by omega
      obtain ⟨u0, hu0⟩ := ha.cell T i (HH.out i hlt).1
      have hf0 := (ha.fro T i).trans (HH.out i hlt).2
      have ha2 := ha.set (b := T) (Nat.le_refl _) (by omega) i (.int .i64 (k0 + (i : Int)))
      clear ha
      go_wp2_with fail
      go_roundw
      case rel => exact ⟨i + 1, by omega, by congr 1; omega, rfl, ha2⟩
      case measure => simp [intOf]; omega
    · have hlti : ¬ (i : Int) < (n : Int) := by omega
      have hin : i = n := by omega
      subst hin
      go_wp2_with fail
      go_ret
      exact ⟨rfl, ha⟩
structure MRow (w : World) (lo hi G : Nat) (l : List Ut) : Prop where
  gl : lo ≤ G
  gh : G < hi
  row : ∀ j, j < l.length * 6 → (∃ u, w.cell? ⟨G, j, none⟩ = some u) ∧ w.frozen? ⟨G, j, none⟩ = false
  team : ∀ j x, l[j]? = some x → ∃ T, lo ≤ T ∧ T < hi ∧ T ≠ G ∧ w.cell? ⟨G, j * 6 + 2, none⟩ = some (.slice (some ⟨T, 0, none⟩) x.ant.length x.ant.length) ∧ ∀ m, m < x.ant.length → (∃ u, w.cell? ⟨T, m, none⟩ = some u) ∧ w.frozen? ⟨T, m, none⟩ = false
theorem MRow.step {w w' : World} {lo hi G a b : Nat} {l : List Ut} (h : MRow w lo hi G l) (hk : Kp a b w w') (h3 : ∀ j, j < l.length → w'.cell? ⟨G, j * 6 + 2, none⟩ = w.cell? ⟨G, j * 6 + 2, none⟩) : MRow w' lo hi G l := by
  refine ⟨h.gl, h.gh, fun j hj => ⟨hk.cell _ _ (h.row j hj).1, (hk.fro _ _).trans (h.row j hj).2⟩, fun j x hx => ?_⟩
  obtain ⟨T, k1, k2, k3, k4, k5⟩ := h.team j x hx
  exact ⟨T, k1, k2, k3, (h3 j (get_lt' hx)).trans k4, fun m hm => ⟨hk.cell _ _ (k5 m hm).1, (hk.fro _ _).trans (k5 m hm).2⟩⟩
theorem WOut.marked {w : World} {base G : Nat} {l : List Ut} (h : WOut w base G l.length l l.length) : MRow w base w.heap.size G l := by
  obtain ⟨h0, h1, h2, h3⟩ := h
  refine ⟨h0, h1, h2, fun j x hx => ?_⟩
  obtain ⟨T, k1, k2, k3, k4⟩ := h3 j x (get_lt' hx) hx
  exact ⟨T, k1, k4.1, k2, k3.2.2.1, fun m hm => by
    have := k4.2.1 m (by omega)
    exact this⟩
theorem MRow.below {w w' : World} {lo hi G : Nat} {l : List Ut} (h : MRow w lo hi G l) (hh : hi ≤ w.heap.size) (hb : Below w.heap.size w w') : MRow w' lo hi G l := by
  have hG : G < w.heap.size := by have := h.gh; omega
  refine ⟨h.gl, h.gh, fun j hj => ⟨?_, ((bcell hb).2 _ _ hG).trans (h.row j hj).2⟩, fun j x hx => ?_⟩
  · obtain ⟨u, hu⟩ := (h.row j hj).1
    exact ⟨u, ((bcell hb).1 _ _ hG).trans hu⟩
  · obtain ⟨T, k1, k2, k3, k4, k5⟩ := h.team j x hx
    have hT : T < w.heap.size := by omega
    exact ⟨T, k1, k2, k3, ((bcell hb).1 _ _ hG).trans k4, fun m hm => ⟨by obtain ⟨u, hu⟩ := (k5 m hm).1; exact ⟨u, ((bcell hb).1 _ _ hT).trans hu⟩, ((bcell hb).2 _ _ hT).trans (k5 m hm).2⟩⟩
set_option maxRecDepth 20000 in
set_option maxHeartbeats 4000000 in
theorem markunits_any (lo hi G c : Nat) (l : List Ut) (k0 : Int) (w : World) (h : MRow w lo hi G l) (hn : l.length ≤ 1048576) (ht : ∀ x ∈ l, x.ant.length ≤ 1048576) (hk0 : 0 ≤ k0) (hk1 : k0 ≤ 1000) :
    Calls Try.prog 26 #[.slice (some ⟨G, 0, none⟩) l.length c, .int .i64 k0] w fun e w' => ∃ k : Int, e = .returned (.int .i64 k) ∧ (0 ≤ k ∧ k ≤ 1000 + l.length * 1048581) ∧ Kp lo hi w w' := by
  have HH := hidden h
  have HT := hidden ht
  clear h ht
  go_enter Try.func26, Try.ntmps26
  go_wp2_with fail
  go_loopw [1, 5] (fun kv iv wr => ∃ (i : Nat) (k : Int), i ≤ l.length ∧ kv = .int .i64 k ∧ iv = .int .i64 i ∧ 0 ≤ k ∧ k ≤ 1000 + i * 1048581 ∧ Kp lo hi w wr ∧ MRow wr lo hi G l) (fun _ iv _ => l.length - (intOf iv).toNat)
  case atStart => exact ⟨0, k0, Nat.zero_le _, rfl, rfl, hk0, by omega, Kp.refl _ _ _, HH.out⟩
  case round =>
    obtain ⟨i, k, hi', rfl, rfl, hka, hkb, ha, hm⟩ := hrel
    by_cases hlt : i < l.length
    · have hlti : (i : Int) < (l.length : Int) := by omega
      obtain ⟨x, hx⟩ := some_of l i hlt
      have hxl := HT.out x (List.mem_of_getElem? hx)
      obtain ⟨T, t1, t2, t3, t4, t5⟩ := hm.team i x hx
      obtain ⟨⟨u0, hu0⟩, hf0⟩ := hm.row (i * 6) (by omega)
      have hlo := hm.gl
      have hhi := hm.gh
      obtain ⟨⟨u1, hu1⟩, hf1⟩ := hm.row (i * 6 + 1) (by omega)
      have z0 := Kp.one wr G (i * 6) (.int .i64 k)
      have z1 := z0.set (b := G) (Nat.le_refl _) (by omega) (i * 6 + 1) (.int .i64 (k + 1))
      have m1 := hm.step z1 (fun j hj => by rw [World.cell?_setCell_other _ _ _ _ (by first | (simp; done) | (simp; omega)), World.cell?_setCell_other _ _ _ _ (by first | (simp; done) | (simp; omega))])
      have ha1 := ha.trans z1 hlo (by omega)
      have M1 := hidden m1
      have A1 := hidden ha1
      have hK := markints_any T x.ant.length x.ant.length (k + 1 + 1) _ (fun m hm2 => ⟨z1.cell _ _ (t5 m hm2).1, (z1.fro _ _).trans (t5 m hm2).2⟩) hxl (by omega) (by omega)
      clear hm ha z0 z1 m1 ha1 t5 hx
      go_wp2_with (go_at_call 28; refine hK.mono ?_; rintro e w4 ⟨rfl, kp4⟩; have m4 := M1.out.step kp4 (fun j hj => World.cell?_of_block (kp4.block G (by omega))); have a4 := A1.out.trans kp4 t1 (by omega); obtain ⟨⟨u3, hu3⟩, hf3⟩ := m4.row (i * 6 + 3) (by omega); obtain ⟨⟨u4, hu4⟩, hf4⟩ := m4.row (i * 6 + 4) (by omega); obtain ⟨⟨u5, hu5⟩, hf5⟩ := m4.row (i * 6 + 5) (by omega); clear kp4)
      generalize hk : k + 1 + 1 + (x.ant.length : Int) = kk at *
      have z3 := Kp.one w4 G (i * 6 + 3) (.int .i64 kk)
      have z4 := z3.set (b := G) (Nat.le_refl _) (by omega) (i * 6 + 4) (.int .i64 (kk + 1))
      have z5 := z4.set (b := G) (Nat.le_refl _) (by omega) (i * 6 + 5) (.int .i64 (kk + 1 + 1))
      have m5 := m4.step z5 (fun j hj => by rw [World.cell?_setCell_other _ _ _ _ (by first | (simp; done) | (simp; omega)), World.cell?_setCell_other _ _ _ _ (by first | (simp; done) | (simp; omega)), World.cell?_setCell_other _ _ _ _ (by first | (simp; done) | (simp; omega))])
      have a5 := a4.trans z5 hlo (by omega)
      clear z3 z4 z5 m4 a4
      go_roundw
      case rel => exact ⟨i + 1, _, by omega, rfl, rfl, by omega, by omega, a5, m5⟩
      case measure => simp [intOf]; omega
    · have hlti : ¬ (i : Int) < (l.length : Int) := by omega
      go_wp2_with fail
      go_ret
      exact ⟨k, rfl, ⟨hka, by omega⟩, ha⟩
end Go.Proofs.Ytgcpiinmcbdkmaa
