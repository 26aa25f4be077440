/-
  Rows of numbers of the call's own: same, marked, asked for their marks.
-/
import Derived.Test.YtdnnenklkfkhcaaDj
import Derived.Test.YtdnnenklkfkhcaaGp
namespace Go.Proofs.Ytdnnenklkfkhcaa
open Go.RowKit Jn Go.Maps

/-- Block G takes n numbers; the first i of zs lie there. -/
def Out1 (w : World) (G n : Nat) (zs : List Int) (i : Nat) : Prop :=
  G < w.heap.size ∧ (∀ j, j < n → (∃ u, w.cell? ⟨G, j, none⟩ = some u) ∧ w.frozen? ⟨G, j, none⟩ = false) ∧
    ∀ j, j < i → w.cell? ⟨G, j, none⟩ = some (.int .i64 (zs.getD j 0))
theorem Out1.below {w w' : World} {G n i : Nat} {zs : List Int} (h : Out1 w G n zs i) (hb : Below w.heap.size w w') : Out1 w' G n zs i :=
  ⟨Nat.lt_of_lt_of_le h.1 hb.size, fun j hj => ⟨by
      obtain ⟨u, hu⟩ := (h.2.1 j hj).1
      exact ⟨u, (hb.cell (p := ⟨G, j, none⟩) h.1).trans hu⟩, by
      have := (h.2.1 j hj).2
      simp only [World.frozen?, hb.block G h.1] at this ⊢
      exact this⟩,
    fun j hj => (hb.cell (p := ⟨G, j, none⟩) h.1).trans (h.2.2 j hj)⟩
theorem Out1.aside {w w' : World} {G n i : Nat} {zs : List Int} {v : Value} (h : Out1 w G n zs i) (ha : Aside w w' v) (hv : v.ownBlock ≠ some G) : Out1 w' G n zs i := by
  have hb := ha.block G hv
  have hc : ∀ j, w'.cell? ⟨G, j, none⟩ = w.cell? ⟨G, j, none⟩ := fun j => by simp only [World.cell?, hb]
  have hf : ∀ j, w'.frozen? ⟨G, j, none⟩ = w.frozen? ⟨G, j, none⟩ := fun j => by simp only [World.frozen?, hb]
  refine ⟨by rw [ha.size]; exact h.1, fun j hj => ?_, fun j hj => ?_⟩
  · rw [hc, hf]; exact h.2.1 j hj
  · rw [hc]; exact h.2.2 j hj
theorem Out1.set {w : World} {G n i : Nat} {zs : List Int} (h : Out1 w G n zs i) (hi : i < n) : Out1 (w.setCell ⟨G, i, none⟩ (.int .i64 (zs.getD i 0))) G n zs (i + 1) := by
  obtain ⟨h1, h2, h3⟩ := h
  obtain ⟨⟨u0, hu0⟩, hf0⟩ := h2 i hi
  have key : ∀ j, j ≠ i → (w.setCell ⟨G, i, none⟩ (.int .i64 (zs.getD i 0))).cell? ⟨G, j, none⟩ = w.cell? ⟨G, j, none⟩ := fun j a => by
    rw [World.cell?_setCell_other (h := by first | (simp; done) | (simp; exact a))]
  have k0 : (w.setCell ⟨G, i, none⟩ (.int .i64 (zs.getD i 0))).cell? ⟨G, i, none⟩ = some (.int .i64 (zs.getD i 0)) := World.cell?_setCell_same _ _ _ hu0
  refine ⟨by simpa [World.setCell] using h1, fun j hj => ⟨?_, by rw [World.frozen?_setCell]; exact (h2 j hj).2⟩, fun j hj => ?_⟩
  · by_cases a : j = i
    · subst a; exact ⟨_, k0⟩
    · rw [key j a]; exact (h2 j hj).1
  · by_cases a : j = i
    · subst a; exact k0
    · rw [key j a]; exact h3 j (by omega)
/-- The numbers zs lie at v, in a block from base on that nobody else holds. -/
def IOwn (w : World) (base : Nat) (v : Value) (zs : List Int) : Prop :=
  ∃ ao cap, v = .slice ao zs.length cap ∧ (zs.length = 0 ∨ ∃ G, ao = some ⟨G, 0, none⟩ ∧ base ≤ G ∧ Out1 w G zs.length zs zs.length)
theorem IOwn.below {w w' : World} {base : Nat} {v : Value} {l : List Int} (h : IOwn w base v l) (hb : Below w.heap.size w w') : IOwn w' base v l := by
  obtain ⟨ao, cap, rfl, h0 | ⟨G, rfl, hG, ho⟩⟩ := h
  · exact ⟨ao, cap, rfl, Or.inl h0⟩
  · exact ⟨_, cap, rfl, Or.inr ⟨G, rfl, hG, ho.below hb⟩⟩
theorem IOwn.base_le {w : World} {base b2 : Nat} {v : Value} {l : List Int} (h : IOwn w base v l) (hb : b2 ≤ base) : IOwn w b2 v l := by
  obtain ⟨ao, cap, rfl, h0 | ⟨G, rfl, hG, ho⟩⟩ := h
  · exact ⟨ao, cap, rfl, Or.inl h0⟩
  · exact ⟨_, cap, rfl, Or.inr ⟨G, rfl, Nat.le_trans hb hG, ho⟩⟩
theorem IOwn.from_base {w : World} {base : Nat} {v : Value} {l : List Int} (h : IOwn w base v l) (hn : l.length ≠ 0) : ∀ j, v.ownBlock = some j → base ≤ j := by
  obtain ⟨ao, cap, rfl, h0 | ⟨G, rfl, hG, _⟩⟩ := h
  · exact absurd h0 hn
  · intro j hj; cases hj; exact hG
theorem IOwn.mark_below {w w' w0 : World} {base b0 : Nat} {v : Value} {l : List Int} (h : IOwn w base v l) (ha : Aside w w' v) (hz : l.length = 0 → w' = w) (hb : Below b0 w0 w) (h0 : b0 ≤ base) : Below b0 w0 w' := by
  rcases Nat.eq_zero_or_pos l.length with q | q
  · rw [hz q]; exact hb
  · exact ha.below hb (fun j hj => Nat.le_trans h0 (h.from_base (by omega) j hj))
theorem Own.mark_iown {wx w w' : World} {base b2 : Nat} {v v2 : Value} {l : List J} {l2 : List Int} (h : Own wx base v l) (hx : wx.heap.size ≤ b2) (ha : Aside w w' v) (hz : l.length = 0 → w' = w) (h2 : IOwn w b2 v2 l2) : IOwn w' b2 v2 l2 := by
  rcases Nat.eq_zero_or_pos l.length with q | q
  · rw [hz q]; exact h2
  · obtain ⟨ao, cap, rfl, hh⟩ := h
    obtain ⟨G, rfl, hG, ho⟩ := hh.resolve_left (by omega)
    obtain ⟨ao2, cap2, rfl, h0 | ⟨G2, rfl, hG2, ho2⟩⟩ := h2
    · exact ⟨_, _, rfl, Or.inl h0⟩
    · refine ⟨_, _, rfl, Or.inr ⟨G2, rfl, hG2, ho2.aside ha ?_⟩⟩
      intro e
      have e2 : G = G2 := Option.some.inj e
      have := ho.1
      omega
theorem iown_of {w : World} {base : Nat} {v : Value} {l : List Int} (h : w.ownsRow base 2 1 v l.length (l.map encZ)) : IOwn w base v l := by
  obtain ⟨h1, ⟨rfl, h2⟩ | ⟨g, cap, cur, rfl, hb, hg, hc, _, hs, ht⟩⟩ := h
  · exact ⟨none, 0, by rw [h2], Or.inl h2⟩
  · have hcell : ∀ j, j < l.length → w.cell? ⟨g, j, none⟩ = some (.int .i64 (l.getD j 0)) := fun j hj => by
      have e : (cur.toList.take (l.length * 1))[j]? = (l.map encZ)[j]? := by rw [ht]
      rw [List.getElem?_take, if_pos (by omega), Array.getElem?_toList, List.getElem?_map, List.getElem?_eq_getElem hj] at e
      simp only [World.cell?, hg]
      rw [List.getD_eq_getElem?_getD, List.getElem?_eq_getElem hj]
      exact e
    refine ⟨_, cap, rfl, Or.inr ⟨g, rfl, hb, (Array.getElem?_eq_some_iff.1 hg).1, fun j hj => ⟨⟨_, hcell j hj⟩, ?_⟩, hcell⟩⟩
    simp only [World.frozen?, hg]
    simp

def marksI (n : Nat) : List Int := (List.range n).map (fun i : Nat => 1 + (i : Int))
theorem marksI_len (n : Nat) : (marksI n).length = n := by simp [marksI]
theorem marksI_get (n i : Nat) (h : i < n) : (marksI n).getD i 0 = 1 + (i : Int) := by
  rw [List.getD_eq_getElem?_getD, List.getElem?_eq_getElem (by rw [marksI_len]; exact h)]
  simp [marksI]
end Go.Proofs.Ytdnnenklkfkhcaa
