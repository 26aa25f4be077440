/-
  The law's own helpers on operations: copies, sizes, sameness.
-/
import Derived.Test.YtcapmobhgffnhaaOc
import Derived.Deep.RegionWith
import Derived.BigQuiet
import Derived.WideShapes
import Derived.ProofKit
import Derived.OpenShut
import Derived.ShutString
import Derived.ChangeOld
import Derived.Below
namespace Go.Proofs.Ytcapmobhgffnhaa
open Go.RowKit Va Oa
set_option linter.unusedVariables false

/-- The parts that a proof reads of a type's row. -/
theorem info_partsO {P : Program} {t : TypeId} {z : Value} {n b : Nat} (h : (P.info? t).map (fun i => (i.zero, i.size, i.bytes)) = some (some z, n, b)) : ∃ i, P.info? t = some i ∧ i.zero = some z ∧ i.size = n ∧ i.bytes = b := by
  obtain ⟨i, h1, h2⟩ := Option.map_eq_some_iff.1 h
  simp only [Prod.mk.injEq] at h2
  exact ⟨i, h1, h2.1, h2.2.1, h2.2.2⟩

def csI (x : Int) (_ : Nat) : Int := x
theorem infoI64 : (Try.prog.info? 2).map (fun i => (i.zero, i.size, i.bytes)) = some (some (.int .i64 0), 1, 8) := by kernel_rfl

/-- A row of numbers in a block of one's own, as a row. -/
theorem out_irw {w : World} {G : Nat} {l : List Int} (h : Out 1 csI w G l.length l l.length) (c : Nat) (hc : l.length ≤ c) : IRw w (.slice (some ⟨G, 0, none⟩) l.length c) l :=
  ⟨_, c, rfl, hc, Or.inr ⟨G, 0, rfl, h.1, fun i x hx => by
    have := h.2.2 i x (get_lt' hx) hx 0 (by omega)
    simp only [Nat.mul_one, Nat.add_zero] at this
    rw [Nat.zero_add]
    exact this⟩⟩

/-- A block that was just laid, behind what grows on it. -/
theorem box_in {W w1 : World} {vs : Array Value} {t : TypeId} (hb : Below (W.alloc (.cells vs t)).heap.size (W.alloc (.cells vs t)) w1) : (∀ j v, vs[j]? = some v → w1.cell? ⟨W.heap.size, j, none⟩ = some v) ∧ (∀ j, w1.frozen? ⟨W.heap.size, j, none⟩ = false) := by
  have e := heap_alloc_new W (.cells vs t)
  have hl : W.heap.size < (W.alloc (.cells vs t)).heap.size := by rw [World.size_alloc]; omega
  refine ⟨fun j v hv => ?_, fun j => ?_⟩
  · rw [hb.cell (p := ⟨W.heap.size, j, none⟩) hl]
    simp only [World.cell?, e]
    exact hv
  · rw [hb.frozen (p := ⟨W.heap.size, j, none⟩) hl]
    simp only [World.frozen?, e]
    simp
theorem three_box {w w1 : World} {a b c : Array Value} {t s r : TypeId} (hb : Below (((w.alloc (.cells a t)).alloc (.cells b s)).alloc (.cells c r)).heap.size (((w.alloc (.cells a t)).alloc (.cells b s)).alloc (.cells c r)) w1) :
    (∀ j v, b[j]? = some v → w1.cell? ⟨w.heap.size + 1, j, none⟩ = some v) ∧ (∀ j v, c[j]? = some v → w1.cell? ⟨w.heap.size + 1 + 1, j, none⟩ = some v) ∧ (∀ j, w1.frozen? ⟨w.heap.size + 1, j, none⟩ = false) ∧ (∀ j, w1.frozen? ⟨w.heap.size + 1 + 1, j, none⟩ = false) := by
  have h3 := box_in hb
  have hb2 : Below ((w.alloc (.cells a t)).alloc (.cells b s)).heap.size ((w.alloc (.cells a t)).alloc (.cells b s)) w1 := ((Below.refl _ _).alloc (Nat.le_refl _) _).trans (hb.mono (by simp only [World.size_alloc]; omega))
  have h2 := box_in hb2
  simp only [World.size_alloc] at h2 h3
  exact ⟨h2.1, h3.1, h2.2, h3.2⟩
theorem out_far {α : Type} {s : Nat} {cs : α → Nat → Int} {w : World} {G n i : Nat} {l : List α} (h : Out s cs w G n l i) {b : Nat} (hb : b ≠ G) (o : Nat) (v : Value) : Out s cs (w.setCell ⟨b, o, none⟩ v) G n l i := by
  obtain ⟨h1, h2, h3⟩ := h
  refine ⟨by simpa [World.setCell] using h1, fun j hj => ⟨?_, by rw [World.frozen?_setCell]; exact (h2 j hj).2⟩, fun j x hj hx k hk => ?_⟩
  · obtain ⟨u, hu⟩ := (h2 j hj).1
    exact ⟨u, (World.cell?_setCell_far _ _ _ _ (fun e => hb e)).trans hu⟩
  · exact (World.cell?_setCell_far _ _ _ _ (fun e => hb e)).trans (h3 j x hj hx k hk)

/-- Four cells of a block. -/
def OBox4 (W : World) (b : Nat) (v0 v1 v2 v3 : Value) : Prop := W.cell? ⟨b, 0, none⟩ = some v0 ∧ W.cell? ⟨b, 1, none⟩ = some v1 ∧ W.cell? ⟨b, 2, none⟩ = some v2 ∧ W.cell? ⟨b, 3, none⟩ = some v3
theorem box_put {W : World} {b : Nat} {v0 v1 v2 v3 u0 u1 u2 u3 : Value} (h : OBox4 W b v0 v1 v2 v3) : OBox4 ((((W.setCell ⟨b, 0, none⟩ u0).setCell ⟨b, 1, none⟩ u1).setCell ⟨b, 2, none⟩ u2).setCell ⟨b, 3, none⟩ u3) b u0 u1 u2 u3 := by
  obtain ⟨c0, c1, c2, c3⟩ := h
  refine ⟨?_, ?_, ?_, ?_⟩
  all_goals simp [World.cell?_setCell_other, World.cell?_setCell_same, c0, c1, c2, c3]

/-- The first i of l lie in block G, which takes n, their teams in blocks of their own from base on. -/
def WOut (w : World) (base G n : Nat) (l : List Opn) (i : Nat) : Prop :=
  base ≤ G ∧ G < w.heap.size ∧ (∀ j, j < n * 4 → (∃ u, w.cell? ⟨G, j, none⟩ = some u) ∧ w.frozen? ⟨G, j, none⟩ = false) ∧
    ∀ j x, j < i → l[j]? = some x → ∃ T, base ≤ T ∧ T ≠ G ∧ OCell w G (j * 4) x (.slice (some ⟨T, 0, none⟩) x.team.length x.team.length) ∧ Out 1 csI w T x.team.length x.team x.team.length
theorem WOut.below {w w' : World} {base G n i : Nat} {l : List Opn} (h : WOut w base G n l i) (hb : Below w.heap.size w w') : WOut w' base G n l i := by
  obtain ⟨h0, h1, h2, h3⟩ := h
  refine ⟨h0, Nat.lt_of_lt_of_le h1 hb.size, fun j hj => ⟨?_, ((bcell hb).2 _ _ h1).trans (h2 j hj).2⟩, fun j x hj hx => ?_⟩
  · obtain ⟨u, hu⟩ := (h2 j hj).1
    exact ⟨u, ((bcell hb).1 _ _ h1).trans hu⟩
  · obtain ⟨T, k1, k2, k3, k4⟩ := h3 j x hj hx
    exact ⟨T, k1, k2, k3.below hb h1, k4.below hb⟩
theorem WOut.orw {w : World} {base G : Nat} {l : List Opn} (h : WOut w base G l.length l l.length) (c : Nat) (hc : l.length ≤ c) : ORw w (.slice (some ⟨G, 0, none⟩) l.length c) l :=
  ⟨_, c, rfl, hc, Or.inr ⟨G, 0, rfl, h.2.1, fun i x hx => by
    obtain ⟨T, -, -, k3, k4⟩ := h.2.2.2 i x (get_lt' hx) hx
    rw [Nat.zero_add]
    exact ⟨_, k3, out_irw k4 _ (Nat.le_refl _)⟩⟩⟩
theorem WOut.set {w : World} {base G n i : Nat} {l : List Opn} {x : Opn} (h : WOut w base G n l i) (hi : i < n) (hx : l[i]? = some x) {T : Nat} (hT : base ≤ T) (hTG : T ≠ G) (ho : Out 1 csI w T x.team.length x.team x.team.length) :
    WOut (put w G (i * 4) [.int .i64 x.room, .int .i64 x.fr, .int .i64 x.to, .slice (some ⟨T, 0, none⟩) x.team.length x.team.length]) base G n l (i + 1) := by
  obtain ⟨h0, h1, h2, h3⟩ := h
  generalize hvs : [Value.int .i64 x.room, .int .i64 x.fr, .int .i64 x.to, .slice (some ⟨T, 0, none⟩) x.team.length x.team.length] = vs
  have hlen : vs.length = 4 := by rw [← hvs]; rfl
  have hnew : ∀ k v, vs[k]? = some v → (put w G (i * 4) vs).cell? ⟨G, i * 4 + k, none⟩ = some v := put_same vs w G (i * 4) (fun k hk => (h2 (i * 4 + k) (by omega)).1)
  have hoth : ∀ T', T' ≠ G → ∀ j, (put w G (i * 4) vs).cell? ⟨T', j, none⟩ = w.cell? ⟨T', j, none⟩ := fun T' hT' j => by
    rw [← hvs]
    show (World.setCell (World.setCell (World.setCell (World.setCell w _ _) _ _) _ _) _ _).cell? _ = _
    rw [World.cell?_setCell_far _ _ _ _ (fun e => hT' e.symm), World.cell?_setCell_far _ _ _ _ (fun e => hT' e.symm), World.cell?_setCell_far _ _ _ _ (fun e => hT' e.symm), World.cell?_setCell_far _ _ _ _ (fun e => hT' e.symm)]
  have hout : ∀ (T' : Nat) (t : List Int), T' ≠ G → Out 1 csI w T' t.length t t.length → Out 1 csI (put w G (i * 4) vs) T' t.length t t.length := fun T' t hT' ho' => by
    obtain ⟨k1, k2, k3⟩ := ho'
    refine ⟨by rw [put_size]; exact k1, fun j hj => ⟨?_, ?_⟩, fun j y hj hy k hk => by rw [hoth T' hT']; exact k3 j y hj hy k hk⟩
    · rw [hoth T' hT']; exact (k2 j hj).1
    · rw [← hvs]
      show (World.setCell (World.setCell (World.setCell (World.setCell w _ _) _ _) _ _) _ _).frozen? _ = _
      simp only [World.frozen?_setCell]
      exact (k2 j hj).2
  refine ⟨h0, by rw [put_size]; exact h1, fun j hj => ⟨?_, by rw [put_frozen]; exact (h2 j hj).2⟩, fun j y hj hy => ?_⟩
  · by_cases a : i * 4 ≤ j ∧ j < i * 4 + 4
    · obtain ⟨v, hv⟩ : ∃ v, vs[j - i * 4]? = some v := ⟨_, List.getElem?_eq_getElem (by omega)⟩
      have := hnew (j - i * 4) v hv
      rw [show i * 4 + (j - i * 4) = j by omega] at this
      exact ⟨_, this⟩
    · rw [put_other _ _ _ _ _ (by omega)]; exact (h2 j hj).1
  · by_cases a : j = i
    · subst a
      rw [hx] at hy
      cases hy
      refine ⟨T, hT, hTG, ⟨hnew 0 _ (by rw [← hvs]; rfl), hnew 1 _ (by rw [← hvs]; rfl), hnew 2 _ (by rw [← hvs]; rfl), hnew 3 _ (by rw [← hvs]; rfl)⟩, hout T _ hTG ho⟩
    · obtain ⟨T', k1, k2, ⟨e0, e1, e2, e3⟩, k4⟩ := h3 j y (by omega) hy
      refine ⟨T', k1, k2, ⟨?_, ?_, ?_, ?_⟩, hout T' _ k2 k4⟩
      · rw [put_other _ _ _ _ _ (by omega)]; exact e0
      · rw [put_other _ _ _ _ _ (by omega)]; exact e1
      · rw [put_other _ _ _ _ _ (by omega)]; exact e2
      · rw [put_other _ _ _ _ _ (by omega)]; exact e3
theorem infoOp : (Try.prog.info? 31).map (fun i => (i.zero, i.size, i.bytes)) = some (some (.agg #[.int .i64 0, .int .i64 0, .int .i64 0, .slice none 0 0]), 4, 48) := by kernel_rfl
end Go.Proofs.Ytcapmobhgffnhaa
