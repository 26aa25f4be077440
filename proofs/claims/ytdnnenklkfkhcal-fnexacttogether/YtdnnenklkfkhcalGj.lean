/-
  Rows of numbers of the call's own: same, marked, asked for their marks.
-/
import Derived.Test.YtdnnenklkfkhcalDj
import Derived.Test.YtdnnenklkfkhcalGp
namespace Go.Proofs.Ytdnnenklkfkhcal
open Go.RowKit Jn Go.Maps

/-- Block G takes n numbers; the first i of zs lie there. -/
def Out1 (w : World) (G n : Nat) (zs : List Int) (i : Nat) : Prop :=
  G < w.heap.size ∧ (∀ j, j < n → (∃ u, w.cell? ⟨G, j, none⟩ = some u) ∧ w.frozen? ⟨G, j, none⟩ = false) ∧
    ∀ j, j < i → w.cell? ⟨G, j, none⟩ = some (.int .i64 (zs.getD j 0))
theorem Out1.below {w w' : World} {G n i : Nat} {zs : List Int} (h : Out1 w G n zs i) (hb : Below w.heap.size w w') : Out1 w' G n zs i :=
  ⟨Nat.lt_of_lt_of_le h.1 hb.size, fun j hj => ⟨by
      obtain ⟨u, hu⟩ := (h.2.1 j hj).1
      exact ⟨u, (hb.cell (p := ⟨G, j, none⟩) h.1).trans hu⟩, by
      have := (h.2.1 j hj).2
      simp only [World.frozen?, hb.block G h.1] at this ⊢
      exact this⟩,
    fun j hj => (hb.cell (p := ⟨G, j, none⟩) h.1).trans (h.2.2 j hj)⟩
theorem Out1.aside {w w' : World} {G n i : Nat} {zs : List Int} {v : Value} (h : Out1 w G n zs i) (ha : Aside w w' v) (hv : v.ownBlock ≠ some G) : Out1 w' G n zs i := by
  have hb := ha.block G hv
  have hc : ∀ j, w'.cell? ⟨G, j, none⟩ = w.cell? ⟨G, j, none⟩ := fun j => by simp only [World.cell?, hb]
  have hf : ∀ j, w'.frozen? ⟨G, j, none⟩ = w.frozen? ⟨G, j, none⟩ := fun j => by simp only [World.frozen?, hb]
  refine ⟨by rw [ha.size]; exact h.1, fun j hj => ?_, fun j hj => ?_⟩
  · rw [hc, hf]; exact h.2.1 j hj
  · rw [hc]; exact h.2.2 j hj
theorem Out1.set {w : World} {G n i : Nat} {zs : List Int} (h : Out1 w G n zs i) (hi : i < n) : Out1 (w.setCell ⟨G, i, none⟩ (.int .i64 (zs.getD i 0))) G n zs (i + 1) := by
  obtain ⟨h1, h2, h3⟩ := h
  obtain ⟨⟨u0, hu0⟩, hf0⟩ := h2 i hi
  have key : ∀ j, j ≠ i → (w.setCell ⟨G, i, none⟩ (.int .i64 (zs.getD i 0))).cell? ⟨G, j, none⟩ = w.cell? ⟨G, j, none⟩ := fun j a => by
    rw [World.cell?_setCell_other (h := by first | (simp; done) | (simp; exact a))]
  have k0 : (w.setCell ⟨G, i, none⟩ (.int .i64 (zs.getD i 0))).cell? ⟨G, i, none⟩ = some (.int .i64 (zs.getD i 0)) := World.cell?_setCell_same _ _ _ hu0
  refine ⟨by simpa [World.setCell] using h1, fun j hj => ⟨?_, by rw [World.frozen?_setCell]; exact (h2 j hj).2⟩, fun j hj => ?_⟩
  · by_cases a : j = i
    · subst a; exact ⟨_, k0⟩
    · rw [key j a]; exact (h2 j hj).1
  · by_cases a : j = i
    · subst a; exact k0
    · rw [key j a]; exact h3 j (by omega)
/-- The numbers zs lie at v, in a block from base on that nobody else holds. -/
def IOwn (w : World) (base : Nat) (v : Value) (zs : List Int) : Prop :=
  ∃ ao cap, v = .slice ao zs.length cap ∧ (zs.length = 0 ∨ ∃ G, ao = some ⟨G, 0, none⟩ ∧ base ≤ G ∧ Out1 w G zs.length zs zs.length)
theorem IOwn.below {w w' : World} {base : Nat} {v : Value} {l : List Int} (h : IOwn w base v l) (hb : Below w.heap.size w w') : IOwn w' base v l := by
  obtain ⟨ao, cap, rfl, h0 | ⟨G, rfl, hG, ho⟩⟩ := h
  · exact ⟨ao, cap, rfl, Or.inl h0⟩
  · exact ⟨_, cap, rfl, Or.inr ⟨G, rfl, hG, ho.below hb⟩⟩
theorem IOwn.base_le {w : World} {base b2 : Nat} {v : Value} {l : List Int} (h : IOwn w base v l) (hb : b2 ≤ base) : IOwn w b2 v l := by
  obtain ⟨ao, cap, rfl, h0 | ⟨G, rfl, hG, ho⟩⟩ := h
  · exact ⟨ao, cap, rfl, Or.inl h0⟩
  · exact ⟨_, cap, rfl, Or.inr ⟨G, rfl, Nat.le_trans hb hG, ho⟩⟩
theorem IOwn.from_base {w : World} {base : Nat} {v : Value} {l : List Int} (h : IOwn w base v l) (hn : l.length ≠ 0) : ∀ j, v.ownBlock = some j → base ≤ j := by
  obtain ⟨ao, cap, rfl, h0 | ⟨G, rfl, hG, _⟩⟩ := h
  · exact absurd h0 hn
  · intro j hj; cases hj; exact hG
theorem IOwn.mark_below {w w' w0 : World} {base b0 : Nat} {v : Value} {l : List Int} (h : IOwn w base v l) (ha : Aside w w' v) (hz : l.length = 0 → w' = w) (hb : Below b0 w0 w) (h0 : b0 ≤ base) : Below b0 w0 w' := by
  rcases Nat.eq_zero_or_pos l.length with q | q
  · rw [hz q]; exact hb
  · exact ha.below hb (fun j hj => Nat.le_trans h0 (h.from_base (by omega) j hj))
theorem Own.mark_iown {wx w w' : World} {base b2 : Nat} {v v2 : Value} {l : List J} {l2 : List Int} (h : Own wx base v l) (hx : wx.heap.size ≤ b2) (ha : Aside w w' v) (hz : l.length = 0 → w' = w) (h2 : IOwn w b2 v2 l2) : IOwn w' b2 v2 l2 := by
  rcases Nat.eq_zero_or_pos l.length with q | q
  · rw [hz q]; exact h2
  · obtain ⟨ao, cap, rfl, hh⟩ := h
    obtain ⟨G, rfl, hG, ho⟩ := hh.resolve_left (by omega)
    obtain ⟨ao2, cap2, rfl, h0 | ⟨G2, rfl, hG2, ho2⟩⟩ := h2
    · exact ⟨_, _, rfl, Or.inl h0⟩
    · refine ⟨_, _, rfl, Or.inr ⟨G2, rfl, hG2, ho2.aside ha ?_⟩⟩
      intro e
      have e2 : G = G2 := Option.some.inj e
      have := ho.1
      omega
theorem iown_of {w : World} {base : Nat} {v : Value} {l : List Int} (h : w.ownsRow base 2 1 v l.length (l.map encZ)) : IOwn w base v l := by
  obtain ⟨h1, ⟨rfl, h2⟩ | ⟨g, cap, cur, rfl, hb, hg, hc, _, hs, ht⟩⟩ := h
  · exact ⟨none, 0, by rw [h2], Or.inl h2⟩
  · have hcell : ∀ j, j < l.length → w.cell? ⟨g, j, none⟩ = some (.int .i64 (l.getD j 0)) := fun j hj => by
      have e : (cur.toList.take (l.length * 1))[j]? = (l.map encZ)[j]? := by rw [ht]
      rw [List.getElem?_take, if_pos (by omega), Array.getElem?_toList, List.getElem?_map, List.getElem?_eq_getElem hj] at e
      simp only [World.cell?, hg]
      rw [List.getD_eq_getElem?_getD, List.getElem?_eq_getElem hj]
      exact e
    refine ⟨_, cap, rfl, Or.inr ⟨g, rfl, hb, (Array.getElem?_eq_some_iff.1 hg).1, fun j hj => ⟨⟨_, hcell j hj⟩, ?_⟩, hcell⟩⟩
    simp only [World.frozen?, hg]
    simp

def marksI (n : Nat) : List Int := (List.range n).map (fun i : Nat => 1 + (i : Int))
theorem marksI_len (n : Nat) : (marksI n).length = n := by simp [marksI]
theorem marksI_get (n i : Nat) (h : i < n) : (marksI n).getD i 0 = 1 + (i : Int) := by
  rw [List.getD_eq_getElem?_getD, List.getElem?_eq_getElem (by rw [marksI_len]; exact h)]
  simp [marksI]

set_option maxRecDepth 20000 in
set_option maxHeartbeats 2000000 in
theorem imark_some (G n cap : Nat) (l0 : List Int) (w : World) (h : Out1 w G n l0 n) (hn : n ≤ 1048576) :
    Calls Try.prog 21 #[.slice (some ⟨G, 0, none⟩) n cap, .int .i64 1] w fun e w' => e = .returned (.int .i64 (1 + (n : Int))) ∧ Out1 w' G n (marksI n) n ∧ Aside w w' (.slice (some ⟨G, 0, none⟩) n cap) := by
  have h0 : Out1 w G n (marksI n) 0 := ⟨h.1, h.2.1, fun j hj => absurd hj (by omega)⟩
  clear h
  go_enter Try.func21, Try.ntmps21
  go_wp2_with fail
  go_loopw [1, 5] (fun kv iv wr => ∃ i : Nat, i ≤ n ∧ kv = .int .i64 (1 + (i : Int)) ∧ iv = .int .i64 i ∧ Out1 wr G n (marksI n) i ∧ Aside w wr (.slice (some ⟨G, 0, none⟩) n cap)) (fun _ iv _ => n - (intOf iv).toNat)
  case atStart => exact ⟨0, Nat.zero_le _, rfl, rfl, h0, Aside.refl _ _⟩
  case round =>
    clear h0
    obtain ⟨i, hi, rfl, rfl, ho, ha⟩ := hrel
    by_cases hlt : i < n
    · have hlti : (i : Int) < (n : Int) := by omega
      have hset := ho.set hlt
      rw [marksI_get n i hlt] at hset
      obtain ⟨⟨u0, hu0⟩, hf0⟩ := ho.2.1 i hlt
      have ha2 := ha.set (o := i) (.int .i64 (1 + (i : Int)))
      clear ho ha
      go_wp2_with fail
      go_roundw
      case rel => exact ⟨i + 1, by omega, by congr 1, rfl, hset, ha2⟩
      case measure => simp [intOf]; omega
    · have hlti : ¬ (i : Int) < (n : Int) := by omega
      have hin : i = n := by omega
      subst hin
      go_wp2_with fail
      go_ret
      exact ⟨rfl, ho, ha⟩

set_option maxRecDepth 20000 in
set_option maxHeartbeats 2000000 in
theorem imark_none (ao : Option Addr) (cap : Nat) (w : World) :
    Calls Try.prog 21 #[.slice ao 0 cap, .int .i64 1] w fun e w' => e = .returned (.int .i64 1) ∧ w' = w := by
  go_enter Try.func21, Try.ntmps21
  go_wp2_with fail
  go_loopw [1, 5] (fun kv iv wr => wr = w ∧ kv = .int .i64 1 ∧ iv = .int .i64 0) (fun _ _ _ => 0)
  case atStart => exact ⟨rfl, rfl, rfl⟩
  case round =>
    obtain ⟨rfl, rfl, rfl⟩ := hrel
    go_wp2_with fail
    go_ret
    exact ⟨rfl, rfl⟩

theorem imark_any (v : Value) (l : List Int) (base : Nat) (w : World) (h : IOwn w base v l) (hn : l.length ≤ 1048576) :
    Calls Try.prog 21 #[v, .int .i64 1] w fun e w' => e = .returned (.int .i64 (1 + (l.length : Int))) ∧ IOwn w' base v (marksI l.length) ∧ Aside w w' v ∧ (l.length = 0 → w' = w) := by
  obtain ⟨ao, cap, rfl, hh⟩ := h
  rcases Nat.eq_zero_or_pos l.length with h0 | hpos
  · rw [h0]
    refine (imark_none ao cap w).mono ?_
    rintro e w' ⟨rfl, rfl⟩
    exact ⟨rfl, ⟨ao, cap, rfl, Or.inl rfl⟩, Aside.refl _ _, fun _ => rfl⟩
  · obtain ⟨G, rfl, hG, ho⟩ := hh.resolve_left (by omega)
    refine (imark_some G l.length cap l w ho hn).mono ?_
    rintro e w' ⟨rfl, ho', ha⟩
    exact ⟨rfl, ⟨_, cap, by rw [marksI_len], Or.inr ⟨G, rfl, hG, by rw [marksI_len]; exact ho'⟩⟩, ha, fun h0 => absurd h0 (by omega)⟩

set_option maxRecDepth 20000 in
set_option maxHeartbeats 2000000 in
theorem iheld_any (v : Value) (n base : Nat) (w : World) (h : IOwn w base v (marksI n)) (hn : n ≤ 1048576) :
    Calls Try.prog 22 #[v, .int .i64 1] w fun e w' => e = .returned (.int .i64 (1 + (n : Int))) ∧ w' = w := by
  obtain ⟨ao, cap, rfl, hrow⟩ := h
  rw [marksI_len] at hrow ⊢
  go_enter Try.func22, Try.ntmps22
  go_wp2_with fail
  go_loopw [1, 5] (fun kv iv wr => wr = w ∧ ∃ i : Nat, i ≤ n ∧ kv = .int .i64 (1 + (i : Int)) ∧ iv = .int .i64 i) (fun _ iv _ => n - (intOf iv).toNat)
  case atStart => exact ⟨rfl, 0, Nat.zero_le _, rfl, rfl⟩
  case round =>
    obtain ⟨rfl, i, hi, rfl, rfl⟩ := hrel
    by_cases hlt : i < n
    · have hlti : (i : Int) < (n : Int) := by omega
      rcases hrow with h0 | ⟨b, rfl, hbw, hcells⟩
      · omega
      have hc1 := hcells.2.2 i hlt
      rw [marksI_get n i hlt] at hc1
      clear hcells
      go_wp2_with fail
      go_roundw
      case rel => exact ⟨trivial, i + 1, by omega, by congr 1, rfl⟩
      case measure => simp [intOf]; omega
    · have hlti : ¬ (i : Int) < (n : Int) := by omega
      have hin : i = n := by omega
      subst hin
      go_wp2_with fail
      go_ret
      exact ⟨rfl, rfl⟩

set_option maxRecDepth 20000 in
set_option maxHeartbeats 2000000 in
theorem ieq_any (v u : Value) (l : List Int) (b1 b2 : Nat) (w : World) (h : IOwn w b1 v l) (h' : IOwn w b2 u l) (hn : l.length ≤ 1048576) :
    Calls Try.prog 20 #[v, u] w fun e w' => e = .returned (.bool true) ∧ Below w.heap.size w w' := by
  obtain ⟨ao, cap, rfl, hrow⟩ := h
  obtain ⟨ao', cap', rfl, hrow'⟩ := h'
  go_enter Try.func20, Try.ntmps20
  go_wp2_with fail
  go_loopw [5] (fun iv wr => ∃ i : Nat, i ≤ l.length ∧ iv = .int .i64 i ∧ Below w.heap.size w wr) (fun iv _ => l.length - (intOf iv).toNat)
  case atStart => exact ⟨0, Nat.zero_le _, rfl, Below.refl _ _⟩
  case round =>
    obtain ⟨i, hil, rfl, hb⟩ := hrel
    by_cases hlt : i < l.length
    · have hlti : (i : Int) < (l.length : Int) := by omega
      have hi0 : (0 : Int) ≤ (i : Int) := by omega
      rcases hrow with h0 | ⟨b, rfl, -, hcells⟩
      · omega
      rcases hrow' with h0 | ⟨b', rfl, -, hcells'⟩
      · omega
      have hc1' := (hb.cell (p := ⟨b, i, none⟩) hcells.1).trans (hcells.2.2 i hlt)
      have hd1' := (hb.cell (p := ⟨b', i, none⟩) hcells'.1).trans (hcells'.2.2 i hlt)
      clear hcells hcells'
      generalize l.getD i 0 = k at *
      go_wp2_with fail
      go_region_with fail
      all_goals go_wp2_with fail
      all_goals go_roundw
      all_goals first
        | exact ⟨i + 1, by omega, rfl, by first | exact hb | exact st_drew hb⟩
        | (simp [intOf]; omega)
        | (trace_state; fail)
    · have hlti : ¬ (i : Int) < (l.length : Int) := by omega
      go_wp2_with fail
      go_ret
      exact ⟨rfl, hb⟩
end Go.Proofs.Ytdnnenklkfkhcal
