/-
  The law's own markings of operations and of clashes.
-/
import Derived.Test.YtcfghnffacdekanOq
namespace Go.Proofs.Ytcfghnffacdekan
open Go.RowKit Va Oa
set_option linter.unusedVariables false

/-- Nothing but blocks from lo to hi has turned; all cells are there still. -/
structure Kp (lo hi : Nat) (w w' : World) : Prop where
  os : w'.os = w.os
  tape : w'.tape = w.tape
  output : w'.output = w.output
  size : w'.heap.size = w.heap.size
  block : ∀ b, (b < lo ∨ hi ≤ b) → w'.heap[b]? = w.heap[b]?
  cell : ∀ b o, (∃ u, w.cell? ⟨b, o, none⟩ = some u) → ∃ u, w'.cell? ⟨b, o, none⟩ = some u
  fro : ∀ b o, w'.frozen? ⟨b, o, none⟩ = w.frozen? ⟨b, o, none⟩
theorem Kp.refl (lo hi : Nat) (w : World) : Kp lo hi w w := ⟨rfl, rfl, rfl, rfl, fun _ _ => rfl, fun _ _ h => h, fun _ _ => rfl⟩
theorem Kp.trans {lo hi a b : Nat} {w w1 w2 : World} (h : Kp lo hi w w1) (h2 : Kp a b w1 w2) (ha : lo ≤ a) (hb : b ≤ hi) : Kp lo hi w w2 :=
  ⟨h2.os.trans h.os, h2.tape.trans h.tape, h2.output.trans h.output, h2.size.trans h.size, fun c hc => (h2.block c (by omega)).trans (h.block c hc), fun c o hc => h2.cell c o (h.cell c o hc), fun c o => (h2.fro c o).trans (h.fro c o)⟩
theorem Kp.one (w : World) (b o : Nat) (v : Value) : Kp b (b + 1) w (w.setCell ⟨b, o, none⟩ v) := by
  have hb := (Below.refl b w).setCell (p := ⟨b, o, none⟩) (Nat.le_refl _) v
  refine ⟨hb.os, hb.tape, hb.output, by simp [World.setCell], fun c hc => Below.heap_setCell _ _ _ _ (by show c ≠ b; omega), fun c o' hc => ?_, fun c o' => by rw [World.frozen?_setCell]⟩
  obtain ⟨u, hu⟩ := hc
  by_cases q : c = b ∧ o' = o
  · obtain ⟨rfl, rfl⟩ := q
    exact ⟨v, World.cell?_setCell_same _ _ _ hu⟩
  · exact ⟨u, (World.cell?_setCell_other _ _ _ _ (by intro z; simp only [Addr.mk.injEq, and_true] at z; exact q ⟨z.1.symm, z.2.symm⟩)).trans hu⟩
theorem Kp.set {lo hi : Nat} {w w' : World} (h : Kp lo hi w w') {b : Nat} (h1 : lo ≤ b) (h2 : b < hi) (o : Nat) (v : Value) : Kp lo hi w (w'.setCell ⟨b, o, none⟩ v) := h.trans (Kp.one w' b o v) h1 (by omega)
theorem Kp.below {lo hi base : Nat} {w0 w w' : World} (h : Kp lo hi w w') (hb : Below base w0 w) (hl : base ≤ lo) : Below base w0 w' :=
  ⟨h.os.trans hb.os, h.tape.trans hb.tape, h.output.trans hb.output, by rw [h.size]; exact hb.size, fun k hk => (h.block k (by omega)).trans (hb.block k hk)⟩
theorem Kp.own {lo hi base e s n : Nat} {w w' : World} {v : Value} {xs : List Value} (h : Kp lo hi w w') (ho : w.ownsRow base e s v n xs) (hl : hi ≤ base) : w'.ownsRow base e s v n xs := by
  obtain ⟨q, ⟨q1, q2⟩ | ⟨g, c, cur, rfl, hg, hh, r⟩⟩ := ho
  · exact ⟨q, Or.inl ⟨q1, q2⟩⟩
  · exact ⟨q, Or.inr ⟨g, c, cur, rfl, hg, (h.block g (by omega)).trans hh, r⟩⟩

set_option maxRecDepth 20000 in
set_option maxHeartbeats 2000000 in
theorem markints_any (T n c : Nat) (k0 : Int) (w : World) (h : ∀ m, m < n → (∃ u, w.cell? ⟨T, m, none⟩ = some u) ∧ w.frozen? ⟨T, m, none⟩ = false) (hn : n ≤ 1048576) (hk0 : 0 ≤ k0) (hk1 : k0 ≤ 1000000000000000) :
    Calls Try.prog 21 #[.slice (some ⟨T, 0, none⟩) n c, .int .i64 k0] w fun e w' => e = .returned (.int .i64 (k0 + n)) ∧ Kp T (T + 1) w w' := by
  have HH := hidden h
  clear h
  go_enter Try.func21, Try.ntmps21
  go_wp2_with fail
  go_loopw [1, 5] (fun kv iv wr => ∃ i : Nat, i ≤ n ∧ kv = .int .i64 (k0 + (i : Int)) ∧ iv = .int .i64 i ∧ Kp T (T + 1) w wr) (fun _ iv _ => n - (intOf iv).toNat)
  case atStart => exact ⟨0, Nat.zero_le _, by simp, rfl, Kp.refl _ _ _⟩
  case round =>
    obtain ⟨i, hi, rfl, rfl, ha⟩ := hrel
    by_cases hlt : i < n
    · have hlti : (i : Int) < (n : Int) := by omega
      obtain ⟨u0, hu0⟩ := ha.cell T i (HH.out i hlt).1
      have hf0 := (ha.fro T i).trans (HH.out i hlt).2
      have ha2 := ha.set (b := T) (Nat.le_refl _) (by omega) i (.int .i64 (k0 + (i : Int)))
      clear ha
      go_wp2_with fail
      go_roundw
      case rel => exact ⟨i + 1, by omega, by congr 1; omega, rfl, ha2⟩
      case measure => simp [intOf]; omega
    · have hlti : ¬ (i : Int) < (n : Int) := by omega
      have hin : i = n := by omega
      subst hin
      go_wp2_with fail
      go_ret
      exact ⟨rfl, ha⟩

/-- A list of operations in blocks from lo to hi that may be written. -/
structure MRow (w : World) (lo hi G : Nat) (l : List Opn) : Prop where
  gl : lo ≤ G
  gh : G < hi
  row : ∀ j, j < l.length * 4 → (∃ u, w.cell? ⟨G, j, none⟩ = some u) ∧ w.frozen? ⟨G, j, none⟩ = false
  team : ∀ j x, l[j]? = some x → ∃ T, lo ≤ T ∧ T < hi ∧ T ≠ G ∧ w.cell? ⟨G, j * 4 + 3, none⟩ = some (.slice (some ⟨T, 0, none⟩) x.team.length x.team.length) ∧ ∀ m, m < x.team.length → (∃ u, w.cell? ⟨T, m, none⟩ = some u) ∧ w.frozen? ⟨T, m, none⟩ = false
theorem MRow.step {w w' : World} {lo hi G a b : Nat} {l : List Opn} (h : MRow w lo hi G l) (hk : Kp a b w w') (h3 : ∀ j, j < l.length → w'.cell? ⟨G, j * 4 + 3, none⟩ = w.cell? ⟨G, j * 4 + 3, none⟩) : MRow w' lo hi G l := by
  refine ⟨h.gl, h.gh, fun j hj => ⟨hk.cell _ _ (h.row j hj).1, (hk.fro _ _).trans (h.row j hj).2⟩, fun j x hx => ?_⟩
  obtain ⟨T, k1, k2, k3, k4, k5⟩ := h.team j x hx
  exact ⟨T, k1, k2, k3, (h3 j (get_lt' hx)).trans k4, fun m hm => ⟨hk.cell _ _ (k5 m hm).1, (hk.fro _ _).trans (k5 m hm).2⟩⟩
theorem WOut.marked {w : World} {base G : Nat} {l : List Opn} (h : WOut w base G l.length l l.length) : MRow w base w.heap.size G l := by
  obtain ⟨h0, h1, h2, h3⟩ := h
  refine ⟨h0, h1, h2, fun j x hx => ?_⟩
  obtain ⟨T, k1, k2, k3, k4⟩ := h3 j x (get_lt' hx) hx
  exact ⟨T, k1, k4.1, k2, k3.2.2.2, fun m hm => by
    have := k4.2.1 m (by omega)
    exact this⟩
theorem MRow.below {w w' : World} {lo hi G : Nat} {l : List Opn} (h : MRow w lo hi G l) (hh : hi ≤ w.heap.size) (hb : Below w.heap.size w w') : MRow w' lo hi G l := by
  have hG : G < w.heap.size := by have := h.gh; omega
  refine ⟨h.gl, h.gh, fun j hj => ⟨?_, ((bcell hb).2 _ _ hG).trans (h.row j hj).2⟩, fun j x hx => ?_⟩
  · obtain ⟨u, hu⟩ := (h.row j hj).1
    exact ⟨u, ((bcell hb).1 _ _ hG).trans hu⟩
  · obtain ⟨T, k1, k2, k3, k4, k5⟩ := h.team j x hx
    have hT : T < w.heap.size := by omega
    exact ⟨T, k1, k2, k3, ((bcell hb).1 _ _ hG).trans k4, fun m hm => ⟨by obtain ⟨u, hu⟩ := (k5 m hm).1; exact ⟨u, ((bcell hb).1 _ _ hT).trans hu⟩, ((bcell hb).2 _ _ hT).trans (k5 m hm).2⟩⟩

set_option maxRecDepth 20000 in
set_option maxHeartbeats 4000000 in
theorem markops_any (lo hi G c : Nat) (l : List Opn) (k0 : Int) (w : World) (h : MRow w lo hi G l) (hn : l.length ≤ 1048576) (ht : ∀ x ∈ l, x.team.length ≤ 1048576) (hk0 : 0 ≤ k0) (hk1 : k0 ≤ 1000) :
    Calls Try.prog 36 #[.slice (some ⟨G, 0, none⟩) l.length c, .int .i64 k0] w fun e w' => ∃ k : Int, e = .returned (.int .i64 k) ∧ 0 ≤ k ∧ Kp lo hi w w' := by
  have HH := hidden h
  have HT := hidden ht
  clear h ht
  go_enter Try.func36, Try.ntmps36
  go_wp2_with fail
  go_loopw [1, 5] (fun kv iv wr => ∃ (i : Nat) (k : Int), i ≤ l.length ∧ kv = .int .i64 k ∧ iv = .int .i64 i ∧ 0 ≤ k ∧ k ≤ 1000 + i * 1048579 ∧ Kp lo hi w wr ∧ MRow wr lo hi G l) (fun _ iv _ => l.length - (intOf iv).toNat)
  case atStart => exact ⟨0, k0, Nat.zero_le _, rfl, rfl, hk0, by omega, Kp.refl _ _ _, HH.out⟩
  case round =>
    obtain ⟨i, k, hi', rfl, rfl, hka, hkb, ha, hm⟩ := hrel
    by_cases hlt : i < l.length
    · have hlti : (i : Int) < (l.length : Int) := by omega
      obtain ⟨x, hx⟩ := some_of l i hlt
      have hxl := HT.out x (List.mem_of_getElem? hx)
      obtain ⟨T, t1, t2, t3, t4, t5⟩ := hm.team i x hx
      obtain ⟨⟨u0, hu0⟩, hf0⟩ := hm.row (i * 4) (by omega)
      obtain ⟨⟨v1, hu1⟩, hf1⟩ := hm.row (i * 4 + 1) (by omega)
      obtain ⟨⟨v2, hu2⟩, hf2⟩ := hm.row (i * 4 + 2) (by omega)
      have hlo := hm.gl
      have hhi := hm.gh
      have z1 := Kp.one wr G (i * 4) (.int .i64 k)
      have z2 := z1.set (b := G) (Nat.le_refl _) (by omega) (i * 4 + 1) (.int .i64 (k + 1))
      have z3 := z2.set (b := G) (Nat.le_refl _) (by omega) (i * 4 + 2) (.int .i64 (k + 1 + 1))
      have m3 := hm.step z3 (fun j hj => by rw [World.cell?_setCell_other _ _ _ _ (by first | (simp; done) | (simp; omega)), World.cell?_setCell_other _ _ _ _ (by first | (simp; done) | (simp; omega)), World.cell?_setCell_other _ _ _ _ (by first | (simp; done) | (simp; omega))])
      have ha3 := ha.trans z3 hlo (by omega)
      have H3 := hidden z3
      have M3 := hidden m3
      have A3 := hidden ha3
      have hK := markints_any T x.team.length x.team.length (k + 1 + 1 + 1) _ (fun m hm2 => ⟨z3.cell _ _ (t5 m hm2).1, (z3.fro _ _).trans (t5 m hm2).2⟩) hxl (by omega) (by omega)
      clear hm ha z1 z2 z3 m3 ha3 t5 hx
      go_wp2_with (go_at_call 21; refine hK.mono ?_; rintro e w4 ⟨rfl, kp4⟩)
      have m4 := M3.out.step kp4 (fun j hj => World.cell?_of_block (kp4.block G (by omega)) )
      have a4 := A3.out.trans kp4 t1 (by omega)
      go_roundw
      case rel => exact ⟨i + 1, _, by omega, rfl, rfl, by omega, by omega, a4, m4⟩
      case measure => simp [intOf]; omega
    · have hlti : ¬ (i : Int) < (l.length : Int) := by omega
      go_wp2_with fail
      go_ret
      exact ⟨k, rfl, hka, ha⟩

def aC (x : Cl) : Value := .agg #[.int .i64 x.a, .int .i64 x.b, .int .i64 x.w]
theorem clash_len (l : List Opn) (r : Int) : (clash l r).length ≤ 40000 := by
  rcases Classical.em (OpsOk l ∧ isR r) with h | h
  · rw [clash_yes h.1 h.2]
    have z1 := upto_len l r l.length
    have z2 : l.length * l.length ≤ 200 * 200 := Nat.mul_le_mul h.1.1 h.1.1
    omega
  · rw [clash_no h]; simp

set_option maxRecDepth 20000 in
set_option maxHeartbeats 4000000 in
theorem markcl_some (G n cap : Nat) (l0 : List Cl) (k0 : Int) (w : World) (h : Out 3 csC w G n l0 n) (hn : n ≤ 1048576) (hk0 : 0 ≤ k0) (hk1 : k0 ≤ 1000000000) :
    Calls Try.prog 37 #[.slice (some ⟨G, 0, none⟩) n cap, .int .i64 k0] w fun e w' => e = .returned (.int .i64 (k0 + 3 * (n : Int))) ∧ Out 3 csM w' G n (marks 3 k0 n) n ∧ Aside w w' (.slice (some ⟨G, 0, none⟩) n cap) := by
  have h0 : Out 3 csM w G n (marks 3 k0 n) 0 := ⟨h.1, h.2.1, fun j x hj => absurd hj (by omega)⟩
  clear h
  go_enter Try.func37, Try.ntmps37
  go_wp2_with fail
  go_loopw [1, 5] (fun kv iv wr => ∃ i : Nat, i ≤ n ∧ kv = .int .i64 (k0 + 3 * (i : Int)) ∧ iv = .int .i64 i ∧ Out 3 csM wr G n (marks 3 k0 n) i ∧ Aside w wr (.slice (some ⟨G, 0, none⟩) n cap)) (fun _ iv _ => n - (intOf iv).toNat)
  case atStart => exact ⟨0, Nat.zero_le _, by simp, rfl, h0, Aside.refl _ _⟩
  case round =>
    clear h0
    obtain ⟨i, hi, rfl, rfl, ho, ha⟩ := hrel
    by_cases hlt : i < n
    · have hlti : (i : Int) < (n : Int) := by omega
      have hset := ho.set hlt (marks_get 3 k0 n i hlt) [.int .i64 (k0 + 3 * (i : Int)), .int .i64 (k0 + 3 * (i : Int) + 1), .int .i64 (k0 + 3 * (i : Int) + 1 + 1)] rfl (fun k hk => by
        match k, hk with
        | 0, _ => exact congrArg (fun z => some (Value.int .i64 z)) (by unfold csM; omega)
        | 1, _ => exact congrArg (fun z => some (Value.int .i64 z)) (by unfold csM; omega)
        | 2, _ => exact congrArg (fun z => some (Value.int .i64 z)) (by unfold csM; omega)
)
      obtain ⟨⟨u0, hu0⟩, hf0⟩ := ho.old hlt (show 0 < 3 by omega)
      obtain ⟨⟨u1, hu1⟩, hf1⟩ := ho.old hlt (show 1 < 3 by omega)
      obtain ⟨⟨u2, hu2⟩, hf2⟩ := ho.old hlt (show 2 < 3 by omega)
      simp only [Nat.add_zero] at hu0 hf0
      have ha2 := Aside.put [.int .i64 (k0 + 3 * (i : Int)), .int .i64 (k0 + 3 * (i : Int) + 1), .int .i64 (k0 + 3 * (i : Int) + 1 + 1)] (i * 3) ha
      clear ho ha
      go_wp2_with fail
      go_roundw
      case rel => exact ⟨i + 1, by omega, by congr 1; omega, rfl, hset, ha2⟩
      case measure => simp [intOf]; omega
    · have hlti : ¬ (i : Int) < (n : Int) := by omega
      have hin : i = n := by omega
      subst hin
      go_wp2_with fail
      go_ret
      exact ⟨rfl, ho, ha⟩

set_option maxRecDepth 20000 in
set_option maxHeartbeats 2000000 in
theorem markcl_none (ao : Option Addr) (cap : Nat) (k0 : Int) (w : World) :
    Calls Try.prog 37 #[.slice ao 0 cap, .int .i64 k0] w fun e w' => e = .returned (.int .i64 k0) ∧ w' = w := by
  go_enter Try.func37, Try.ntmps37
  go_wp2_with fail
  go_loopw [1, 5] (fun kv iv wr => wr = w ∧ kv = .int .i64 k0 ∧ iv = .int .i64 0) (fun _ _ _ => 0)
  case atStart => exact ⟨rfl, rfl, rfl⟩
  case round =>
    obtain ⟨rfl, rfl, rfl⟩ := hrel
    go_wp2_with fail
    go_ret
    exact ⟨rfl, rfl⟩

/-- What a marking does. -/
theorem markcl_any (v : Value) (l : List Cl) (base : Nat) (k0 : Int) (w : World) (h : Own 3 csC w base v l) (hn : l.length ≤ 1048576) (hk0 : 0 ≤ k0) (hk1 : k0 ≤ 1000000000) :
    Calls Try.prog 37 #[v, .int .i64 k0] w fun e w' => e = .returned (.int .i64 (k0 + 3 * (l.length : Int))) ∧ Own 3 csM w' base v (marks 3 k0 l.length) ∧ Aside w w' v ∧ (l.length = 0 → w' = w) := by
  obtain ⟨ao, cap, rfl, hc, hh⟩ := h
  rcases Nat.eq_zero_or_pos l.length with h0 | hpos
  · rw [h0]
    refine (markcl_none ao cap k0 w).mono ?_
    rintro e w' ⟨rfl, rfl⟩
    exact ⟨by simp, ⟨ao, cap, rfl, Nat.zero_le _, Or.inl rfl⟩, Aside.refl _ _, fun _ => rfl⟩
  · obtain ⟨G, rfl, hG, ho⟩ := hh.resolve_left (by omega)
    refine (markcl_some G l.length cap l k0 w ho hn hk0 hk1).mono ?_
    rintro e w' ⟨rfl, ho', ha⟩
    exact ⟨rfl, ⟨_, cap, by rw [marks_len], by rw [marks_len]; exact hc, Or.inr ⟨G, rfl, hG, by rw [marks_len]; exact ho'⟩⟩, ha, fun h0 => absurd h0 (by omega)⟩

set_option maxRecDepth 20000 in
set_option maxHeartbeats 4000000 in
theorem heldcl_any (v : Value) (k0 : Int) (n : Nat) (w : World) (h : Rw 3 csM w v (marks 3 k0 n)) (hn : n ≤ 1048576) (hk0 : 0 ≤ k0) (hk1 : k0 ≤ 1000000000) :
    Calls Try.prog 38 #[v, .int .i64 k0] w fun e w' => e = .returned (.int .i64 (k0 + 3 * (n : Int))) ∧ w' = w := by
  have HH := hidden h
  obtain ⟨ao, cap, rfl⟩ := h.form
  clear h
  rw [marks_len]
  rw [marks_len] at HH
  go_enter Try.func38, Try.ntmps38
  go_wp2_with fail
  go_loopw [1, 5] (fun kv iv wr => wr = w ∧ ∃ i : Nat, i ≤ n ∧ kv = .int .i64 (k0 + 3 * (i : Int)) ∧ iv = .int .i64 i) (fun _ iv _ => n - (intOf iv).toNat)
  case atStart => exact ⟨rfl, 0, Nat.zero_le _, by simp, rfl⟩
  case round =>
    obtain ⟨rfl, i, hi, rfl, rfl⟩ := hrel
    by_cases hlt : i < n
    · have hlti : (i : Int) < (n : Int) := by omega
      obtain ⟨g, off, rfl, hg, hcs⟩ := HH.out.at (marks_get 3 k0 n i hlt)
      have c0 : wr.cell? ⟨g, off + i * 3, none⟩ = some (.int .i64 (k0 + 3 * (i : Int))) := (hcs 0 (by omega)).trans (congrArg (fun z => some (Value.int .i64 z)) (by unfold csM; omega))
      have c1 : wr.cell? ⟨g, off + i * 3 + 1, none⟩ = some (.int .i64 (k0 + 3 * (i : Int) + 1)) := (hcs 1 (by omega)).trans (congrArg (fun z => some (Value.int .i64 z)) (by unfold csM; omega))
      have c2 : wr.cell? ⟨g, off + i * 3 + 2, none⟩ = some (.int .i64 (k0 + 3 * (i : Int) + 1 + 1)) := (hcs 2 (by omega)).trans (congrArg (fun z => some (Value.int .i64 z)) (by unfold csM; omega))
      clear hcs
      go_wp2_with fail
      go_roundw
      case rel => exact ⟨by first | rfl | trivial, i + 1, by omega, by congr 1; omega, rfl⟩
      case measure => simp [intOf]; omega
    · have hlti : ¬ (i : Int) < (n : Int) := by omega
      have hin : i = n := by omega
      subst hin
      go_wp2_with fail
      go_ret
      exact ⟨rfl, rfl⟩


set_option maxRecDepth 20000 in
set_option maxHeartbeats 1000000 in
theorem eqcl_any (x : Cl) (w : World) : Calls Try.prog 69 #[aC x, aC x] w fun r w' => r = .returned (.bool true) ∧ Below w.heap.size w w' := by
  unfold aC
  go_enter Try.func69, Try.ntmps69
  go_wp2
  go_ret
  exact ⟨rfl, by repeat (first | exact Below.refl _ _ | assumption | refine st_drew ?_ | refine st_drewN ?_ _ | refine Below.setCell ?_ (by first | omega | (simp; done) | (simp; omega)) _ | refine Below.alloc ?_ (by first | omega | (simp; done) | (simp; omega)) _)⟩

set_option maxRecDepth 20000 in
set_option maxHeartbeats 2000000 in
theorem eqcls_any (v u : Value) (l : List Cl) (w : World) (h : Rw 3 csC w v l) (h' : Rw 3 csC w u l) (hn : l.length ≤ 1048576) :
    Calls Try.prog 35 #[v, u] w fun e w' => e = .returned (.bool true) ∧ Below w.heap.size w w' := by
  have HH := hidden h
  have HH' := hidden h'
  obtain ⟨ao, cap, rfl⟩ := h.form
  obtain ⟨ao', cap', rfl⟩ := h'.form
  clear h h'
  go_enter Try.func35, Try.ntmps35
  go_wp2_with fail
  go_loopw [5] (fun iv wr => ∃ i : Nat, i ≤ l.length ∧ iv = .int .i64 i ∧ Below w.heap.size w wr) (fun iv _ => l.length - (intOf iv).toNat)
  case atStart => exact ⟨0, Nat.zero_le _, rfl, Below.refl _ _⟩
  case round =>
    obtain ⟨i, hil, rfl, hb⟩ := hrel
    by_cases hlt : i < l.length
    · have hlti : (i : Int) < (l.length : Int) := by omega
      have hi0 : (0 : Int) ≤ (i : Int) := by omega
      obtain ⟨x, hx⟩ := some_of l i hlt
      obtain ⟨g, off, rfl, hg, hcs⟩ := (HH.out.below hb).at hx
      obtain ⟨g', off', rfl, hg', hcs'⟩ := (HH'.out.below hb).at hx
      have c0 : wr.cell? ⟨g, off + i * 3, none⟩ = some (.int .i64 x.a) := hcs 0 (by omega)
      have d0 : wr.cell? ⟨g', off' + i * 3, none⟩ = some (.int .i64 x.a) := hcs' 0 (by omega)
      have c1 : wr.cell? ⟨g, off + i * 3 + 1, none⟩ = some (.int .i64 x.b) := hcs 1 (by omega)
      have d1 : wr.cell? ⟨g', off' + i * 3 + 1, none⟩ = some (.int .i64 x.b) := hcs' 1 (by omega)
      have c2 : wr.cell? ⟨g, off + i * 3 + 2, none⟩ = some (.int .i64 x.w) := hcs 2 (by omega)
      have d2 : wr.cell? ⟨g', off' + i * 3 + 2, none⟩ = some (.int .i64 x.w) := hcs' 2 (by omega)
      have HE := hidden (eqcl_any x)
      unfold aC at HE
      clear hcs hcs' hx
      go_wp2_with fail
      go_region_with (go_at_call 69; refine (HE.out _).mono ?_; rintro e w2 ⟨rfl, hb2⟩; have b2 := onto (show Below w.heap.size w _ from by first | exact hb | exact st_drew hb) hb2)
      all_goals go_wp2_with fail
      all_goals go_roundw
      all_goals first
        | (simp [intOf]; omega)
        | exact ⟨i + 1, by omega, rfl, by first | exact b2 | exact st_drew b2⟩
    · have hlti : ¬ (i : Int) < (l.length : Int) := by omega
      go_wp2_with fail
      go_ret
      exact ⟨rfl, hb⟩
end Go.Proofs.Ytcfghnffacdekan
