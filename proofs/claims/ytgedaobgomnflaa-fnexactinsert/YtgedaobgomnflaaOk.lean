/-
  The law's own helpers on operations: copies, sizes, sameness.
-/
import Derived.Test.YtgedaobgomnflaaOc
import Derived.Deep.RegionWith
import Derived.BigQuiet
import Derived.WideShapes
import Derived.ProofKit
import Derived.OpenShut
import Derived.ShutString
import Derived.ChangeOld
import Derived.Below
namespace Go.Proofs.Ytgedaobgomnflaa
open Go.RowKit Va Oa
set_option linter.unusedVariables false

/-- The parts that a proof reads of a type's row. -/
theorem info_partsO {P : Program} {t : TypeId} {z : Value} {n b : Nat} (h : (P.info? t).map (fun i => (i.zero, i.size, i.bytes)) = some (some z, n, b)) : ∃ i, P.info? t = some i ∧ i.zero = some z ∧ i.size = n ∧ i.bytes = b := by
  obtain ⟨i, h1, h2⟩ := Option.map_eq_some_iff.1 h
  simp only [Prod.mk.injEq] at h2
  exact ⟨i, h1, h2.1, h2.2.1, h2.2.2⟩

def csI (x : Int) (_ : Nat) : Int := x
theorem infoI64 : (Try.prog.info? 2).map (fun i => (i.zero, i.size, i.bytes)) = some (some (.int .i64 0), 1, 8) := by kernel_rfl

/-- A row of numbers in a block of one's own, as a row. -/
theorem out_irw {w : World} {G : Nat} {l : List Int} (h : Out 1 csI w G l.length l l.length) (c : Nat) (hc : l.length ≤ c) : IRw w (.slice (some ⟨G, 0, none⟩) l.length c) l :=
  ⟨_, c, rfl, hc, Or.inr ⟨G, 0, rfl, h.1, fun i x hx => by
    have := h.2.2 i x (get_lt' hx) hx 0 (by omega)
    simp only [Nat.mul_one, Nat.add_zero] at this
    rw [Nat.zero_add]
    exact this⟩⟩

set_option maxRecDepth 20000 in
set_option maxHeartbeats 2000000 in
theorem toints_any (ao : Option Addr) (n cap : Nat) (l : List Int) (w : World) (h : IRw w (.slice ao n cap) l) (hn : l.length ≤ 1048576) :
    Calls Try.prog 45 #[.slice ao n cap] w fun e w' => e = .returned (.slice (some ⟨w.heap.size, 0, none⟩) l.length l.length) ∧ Out 1 csI w' w.heap.size l.length l l.length ∧ Below w.heap.size w w' := by
  obtain rfl := h.len
  have HH := hidden h
  clear h
  obtain ⟨i0, hi, hz0, hz1, hz2⟩ := info_partsO infoI64
  go_enter Try.func45, Try.ntmps45
  go_wp2_with (refine wpList_make_full _ rfl (.tmp 6) (.tmp 6) 23 rfl w.heap.size 2 i0 (.int .i64 0) 1 Try.underlying23 hi hz0 hz1 .i64 .i64 _ _ l.length rfl rfl rfl rfl (by rw [hz2]; omega) (by unfold maxLen; omega) (Nat.le_refl _) ?_; intro w1 ho1 hg1)
  have b1 : Below w.heap.size w w1 := (Below.refl _ w).grown hg1 (Nat.le_refl _) (by simp)
  have ho := Out.made (cs := csI) l ho1
  clear ho1 hg1
  go_wp2_with fail
  go_loopw [4] (fun iv wr => ∃ i : Nat, i ≤ l.length ∧ iv = .int .i64 i ∧ Below w.heap.size w wr ∧ Out 1 csI wr w.heap.size l.length l i) (fun iv _ => l.length - (intOf iv).toNat)
  case atStart => exact ⟨0, Nat.zero_le _, rfl, b1, ho⟩
  case round =>
    clear b1 ho
    obtain ⟨i, hil, rfl, hb, ho⟩ := hrel
    by_cases hlt : i < l.length
    · have hlti : (i : Int) < (l.length : Int) := by omega
      obtain ⟨x, hx⟩ := some_of l i hlt
      obtain ⟨g, off, rfl, hg, hcs⟩ := (HH.out.below hb).at hx
      have c0 := hcs i x hx
      have hset := ho.set hlt hx [.int .i64 x] rfl (fun k hk => by
        match k, hk with
        | 0, _ => rfl)
      obtain ⟨⟨u0, hu0⟩, hf0⟩ := ho.old hlt (k := 0) (by omega)
      simp only [Nat.mul_one, Nat.add_zero] at hu0 hf0
      rw [Nat.mul_one] at hset
      have HS := hidden hset
      have b3 : Below w.heap.size w (wr.setCell ⟨w.heap.size, i, none⟩ (.int .i64 x)) := hb.setCell (Nat.le_refl _) _
      clear hcs hx ho hset
      go_wp2_with fail
      go_roundw
      case rel => exact ⟨i + 1, by omega, rfl, b3, HS.out⟩
      case measure => simp [intOf]; omega
    · have hlti : ¬ (i : Int) < (l.length : Int) := by omega
      have hil2 : i = l.length := by omega
      subst hil2
      go_wp2_with fail
      go_ret
      exact ⟨rfl, ho, hb⟩

/-- A block that was just laid, behind what grows on it. -/
theorem box_in {W w1 : World} {vs : Array Value} {t : TypeId} (hb : Below (W.alloc (.cells vs t)).heap.size (W.alloc (.cells vs t)) w1) : (∀ j v, vs[j]? = some v → w1.cell? ⟨W.heap.size, j, none⟩ = some v) ∧ (∀ j, w1.frozen? ⟨W.heap.size, j, none⟩ = false) := by
  have e := heap_alloc_new W (.cells vs t)
  have hl : W.heap.size < (W.alloc (.cells vs t)).heap.size := by rw [World.size_alloc]; omega
  refine ⟨fun j v hv => ?_, fun j => ?_⟩
  · rw [hb.cell (p := ⟨W.heap.size, j, none⟩) hl]
    simp only [World.cell?, e]
    exact hv
  · rw [hb.frozen (p := ⟨W.heap.size, j, none⟩) hl]
    simp only [World.frozen?, e]
    simp
theorem three_box {w w1 : World} {a b c : Array Value} {t s r : TypeId} (hb : Below (((w.alloc (.cells a t)).alloc (.cells b s)).alloc (.cells c r)).heap.size (((w.alloc (.cells a t)).alloc (.cells b s)).alloc (.cells c r)) w1) :
    (∀ j v, b[j]? = some v → w1.cell? ⟨w.heap.size + 1, j, none⟩ = some v) ∧ (∀ j v, c[j]? = some v → w1.cell? ⟨w.heap.size + 1 + 1, j, none⟩ = some v) ∧ (∀ j, w1.frozen? ⟨w.heap.size + 1, j, none⟩ = false) ∧ (∀ j, w1.frozen? ⟨w.heap.size + 1 + 1, j, none⟩ = false) := by
  have h3 := box_in hb
  have hb2 : Below ((w.alloc (.cells a t)).alloc (.cells b s)).heap.size ((w.alloc (.cells a t)).alloc (.cells b s)) w1 := ((Below.refl _ _).alloc (Nat.le_refl _) _).trans (hb.mono (by simp only [World.size_alloc]; omega))
  have h2 := box_in hb2
  simp only [World.size_alloc] at h2 h3
  exact ⟨h2.1, h3.1, h2.2, h3.2⟩
theorem out_far {α : Type} {s : Nat} {cs : α → Nat → Int} {w : World} {G n i : Nat} {l : List α} (h : Out s cs w G n l i) {b : Nat} (hb : b ≠ G) (o : Nat) (v : Value) : Out s cs (w.setCell ⟨b, o, none⟩ v) G n l i := by
  obtain ⟨h1, h2, h3⟩ := h
  refine ⟨by simpa [World.setCell] using h1, fun j hj => ⟨?_, by rw [World.frozen?_setCell]; exact (h2 j hj).2⟩, fun j x hj hx k hk => ?_⟩
  · obtain ⟨u, hu⟩ := (h2 j hj).1
    exact ⟨u, (World.cell?_setCell_far _ _ _ _ (fun e => hb e)).trans hu⟩
  · exact (World.cell?_setCell_far _ _ _ _ (fun e => hb e)).trans (h3 j x hj hx k hk)

/-- Four cells of a block. -/
def OBox4 (W : World) (b : Nat) (v0 v1 v2 v3 : Value) : Prop := W.cell? ⟨b, 0, none⟩ = some v0 ∧ W.cell? ⟨b, 1, none⟩ = some v1 ∧ W.cell? ⟨b, 2, none⟩ = some v2 ∧ W.cell? ⟨b, 3, none⟩ = some v3
theorem box_put {W : World} {b : Nat} {v0 v1 v2 v3 u0 u1 u2 u3 : Value} (h : OBox4 W b v0 v1 v2 v3) : OBox4 ((((W.setCell ⟨b, 0, none⟩ u0).setCell ⟨b, 1, none⟩ u1).setCell ⟨b, 2, none⟩ u2).setCell ⟨b, 3, none⟩ u3) b u0 u1 u2 u3 := by
  obtain ⟨c0, c1, c2, c3⟩ := h
  refine ⟨?_, ?_, ?_, ?_⟩
  all_goals simp [World.cell?_setCell_other, World.cell?_setCell_same, c0, c1, c2, c3]

set_option maxRecDepth 20000 in
set_option maxHeartbeats 2000000 in
theorem toop_any (x : Opn) (ta : Option Addr) (tn tc : Nat) (w : World) (h : IRw w (.slice ta tn tc) x.team) (hn : x.team.length ≤ 1048576) :
    Calls Try.prog 13 #[aO x (.slice ta tn tc)] w fun e w' => ∃ G, w.heap.size ≤ G ∧ e = .returned (aO x (.slice (some ⟨G, 0, none⟩) x.team.length x.team.length)) ∧ Out 1 csI w' G x.team.length x.team x.team.length ∧ Below w.heap.size w w' := by
  have k1 := fun W hW => toints_any ta tn tc x.team W hW hn
  have HT := hidden (fun W (hW : Below w.heap.size w W) => h.below hW)
  clear h
  unfold aO
  go_enter Try.func13, Try.ntmps13
  go_wp2_with (go_at_call 45; refine (k1 _ (HT.out _ (by repeat (first | exact Below.refl _ _ | assumption | refine st_drew ?_ | refine st_drewN ?_ _ | refine Below.setCell ?_ (by first | omega | (simp; done) | (simp; omega)) _ | refine Below.alloc ?_ (by first | omega | (simp; done) | (simp; omega)) _)))).mono ?_; rintro e w1 ⟨rfl, ho1, hb1⟩; simp only [World.size_alloc] at ho1; have HO := hidden ho1; have bA := onto (show Below w.heap.size w _ from by repeat (first | exact Below.refl _ _ | assumption | refine st_drew ?_ | refine st_drewN ?_ _ | refine Below.setCell ?_ (by first | omega | (simp; done) | (simp; omega)) _ | refine Below.alloc ?_ (by first | omega | (simp; done) | (simp; omega)) _)) hb1; obtain ⟨pp, qq, pf, qf⟩ := three_box hb1; have p0 := pp 0 _ rfl; have p1 := pp 1 _ rfl; have p2 := pp 2 _ rfl; have p3 := pp 3 _ rfl; have q0 := qq 0 _ rfl; have q1 := qq 1 _ rfl; have q2 := qq 2 _ rfl; have q3 := qq 3 _ rfl; clear pp qq; have hsz := hb1.size; simp only [World.size_alloc] at hsz; clear hb1 ho1)
  have z0 := HO.out
  have hw : ∀ v : Value, OBox4 (((((w1.setCell ⟨w.heap.size + 1 + 1, 3, none⟩ v).setCell ⟨w.heap.size + 1, 0, none⟩ (.int .i64 x.room)).setCell ⟨w.heap.size + 1, 1, none⟩ (.int .i64 x.fr)).setCell ⟨w.heap.size + 1, 2, none⟩ (.int .i64 x.to)).setCell ⟨w.heap.size + 1, 3, none⟩ v) (w.heap.size + 1) (.int .i64 x.room) (.int .i64 x.fr) (.int .i64 x.to) v := fun v =>
    box_put ⟨(World.cell?_setCell_far _ _ _ _ (by simp)).trans p0, (World.cell?_setCell_far _ _ _ _ (by simp)).trans p1, (World.cell?_setCell_far _ _ _ _ (by simp)).trans p2, (World.cell?_setCell_far _ _ _ _ (by simp)).trans p3⟩
  obtain ⟨y0, y1, y2, y3⟩ := hw (.slice (some ⟨w.heap.size + 1 + 1 + 1, 0, none⟩) x.team.length x.team.length)
  have hfin := out_far (out_far (out_far (out_far (out_far z0 (b := w.heap.size + 1 + 1) (by omega) 3 (.slice (some ⟨w.heap.size + 1 + 1 + 1, 0, none⟩) x.team.length x.team.length)) (b := w.heap.size + 1) (by omega) 0 (.int .i64 x.room)) (b := w.heap.size + 1) (by omega) 1 (.int .i64 x.fr)) (b := w.heap.size + 1) (by omega) 2 (.int .i64 x.to)) (b := w.heap.size + 1) (by omega) 3 (.slice (some ⟨w.heap.size + 1 + 1 + 1, 0, none⟩) x.team.length x.team.length)
  exact bodyPost_ret (v := .agg #[.int .i64 x.room, .int .i64 x.fr, .int .i64 x.to, .slice (some ⟨w.heap.size + 1 + 1 + 1, 0, none⟩) x.team.length x.team.length]) (by simp [results, Try.results13, go_sem, y0, y1, y2, y3]) rfl
    ⟨_, by omega, rfl, hfin, by repeat (first | exact Below.refl _ _ | assumption | refine st_drew ?_ | refine st_drewN ?_ _ | refine Below.setCell ?_ (by first | omega | (simp; done) | (simp; omega)) _ | refine Below.alloc ?_ (by first | omega | (simp; done) | (simp; omega)) _)⟩

/-- The first i of l lie in block G, which takes n, their teams in blocks of their own from base on. -/
def WOut (w : World) (base G n : Nat) (l : List Opn) (i : Nat) : Prop :=
  base ≤ G ∧ G < w.heap.size ∧ (∀ j, j < n * 4 → (∃ u, w.cell? ⟨G, j, none⟩ = some u) ∧ w.frozen? ⟨G, j, none⟩ = false) ∧
    ∀ j x, j < i → l[j]? = some x → ∃ T, base ≤ T ∧ T ≠ G ∧ OCell w G (j * 4) x (.slice (some ⟨T, 0, none⟩) x.team.length x.team.length) ∧ Out 1 csI w T x.team.length x.team x.team.length
theorem WOut.below {w w' : World} {base G n i : Nat} {l : List Opn} (h : WOut w base G n l i) (hb : Below w.heap.size w w') : WOut w' base G n l i := by
  obtain ⟨h0, h1, h2, h3⟩ := h
  refine ⟨h0, Nat.lt_of_lt_of_le h1 hb.size, fun j hj => ⟨?_, ((bcell hb).2 _ _ h1).trans (h2 j hj).2⟩, fun j x hj hx => ?_⟩
  · obtain ⟨u, hu⟩ := (h2 j hj).1
    exact ⟨u, ((bcell hb).1 _ _ h1).trans hu⟩
  · obtain ⟨T, k1, k2, k3, k4⟩ := h3 j x hj hx
    exact ⟨T, k1, k2, k3.below hb h1, k4.below hb⟩
theorem WOut.orw {w : World} {base G : Nat} {l : List Opn} (h : WOut w base G l.length l l.length) (c : Nat) (hc : l.length ≤ c) : ORw w (.slice (some ⟨G, 0, none⟩) l.length c) l :=
  ⟨_, c, rfl, hc, Or.inr ⟨G, 0, rfl, h.2.1, fun i x hx => by
    obtain ⟨T, -, -, k3, k4⟩ := h.2.2.2 i x (get_lt' hx) hx
    rw [Nat.zero_add]
    exact ⟨_, k3, out_irw k4 _ (Nat.le_refl _)⟩⟩⟩
theorem WOut.set {w : World} {base G n i : Nat} {l : List Opn} {x : Opn} (h : WOut w base G n l i) (hi : i < n) (hx : l[i]? = some x) {T : Nat} (hT : base ≤ T) (hTG : T ≠ G) (ho : Out 1 csI w T x.team.length x.team x.team.length) :
    WOut (put w G (i * 4) [.int .i64 x.room, .int .i64 x.fr, .int .i64 x.to, .slice (some ⟨T, 0, none⟩) x.team.length x.team.length]) base G n l (i + 1) := by
  obtain ⟨h0, h1, h2, h3⟩ := h
  generalize hvs : [Value.int .i64 x.room, .int .i64 x.fr, .int .i64 x.to, .slice (some ⟨T, 0, none⟩) x.team.length x.team.length] = vs
  have hlen : vs.length = 4 := by rw [← hvs]; rfl
  have hnew : ∀ k v, vs[k]? = some v → (put w G (i * 4) vs).cell? ⟨G, i * 4 + k, none⟩ = some v := put_same vs w G (i * 4) (fun k hk => (h2 (i * 4 + k) (by omega)).1)
  have hoth : ∀ T', T' ≠ G → ∀ j, (put w G (i * 4) vs).cell? ⟨T', j, none⟩ = w.cell? ⟨T', j, none⟩ := fun T' hT' j => by
    rw [← hvs]
    show (World.setCell (World.setCell (World.setCell (World.setCell w _ _) _ _) _ _) _ _).cell? _ = _
    rw [World.cell?_setCell_far _ _ _ _ (fun e => hT' e.symm), World.cell?_setCell_far _ _ _ _ (fun e => hT' e.symm), World.cell?_setCell_far _ _ _ _ (fun e => hT' e.symm), World.cell?_setCell_far _ _ _ _ (fun e => hT' e.symm)]
  have hout : ∀ (T' : Nat) (t : List Int), T' ≠ G → Out 1 csI w T' t.length t t.length → Out 1 csI (put w G (i * 4) vs) T' t.length t t.length := fun T' t hT' ho' => by
    obtain ⟨k1, k2, k3⟩ := ho'
    refine ⟨by rw [put_size]; exact k1, fun j hj => ⟨?_, ?_⟩, fun j y hj hy k hk => by rw [hoth T' hT']; exact k3 j y hj hy k hk⟩
    · rw [hoth T' hT']; exact (k2 j hj).1
    · rw [← hvs]
      show (World.setCell (World.setCell (World.setCell (World.setCell w _ _) _ _) _ _) _ _).frozen? _ = _
      simp only [World.frozen?_setCell]
      exact (k2 j hj).2
  refine ⟨h0, by rw [put_size]; exact h1, fun j hj => ⟨?_, by rw [put_frozen]; exact (h2 j hj).2⟩, fun j y hj hy => ?_⟩
  · by_cases a : i * 4 ≤ j ∧ j < i * 4 + 4
    · obtain ⟨v, hv⟩ : ∃ v, vs[j - i * 4]? = some v := ⟨_, List.getElem?_eq_getElem (by omega)⟩
      have := hnew (j - i * 4) v hv
      rw [show i * 4 + (j - i * 4) = j by omega] at this
      exact ⟨_, this⟩
    · rw [put_other _ _ _ _ _ (by omega)]; exact (h2 j hj).1
  · by_cases a : j = i
    · subst a
      rw [hx] at hy
      cases hy
      refine ⟨T, hT, hTG, ⟨hnew 0 _ (by rw [← hvs]; rfl), hnew 1 _ (by rw [← hvs]; rfl), hnew 2 _ (by rw [← hvs]; rfl), hnew 3 _ (by rw [← hvs]; rfl)⟩, hout T _ hTG ho⟩
    · obtain ⟨T', k1, k2, ⟨e0, e1, e2, e3⟩, k4⟩ := h3 j y (by omega) hy
      refine ⟨T', k1, k2, ⟨?_, ?_, ?_, ?_⟩, hout T' _ k2 k4⟩
      · rw [put_other _ _ _ _ _ (by omega)]; exact e0
      · rw [put_other _ _ _ _ _ (by omega)]; exact e1
      · rw [put_other _ _ _ _ _ (by omega)]; exact e2
      · rw [put_other _ _ _ _ _ (by omega)]; exact e3
theorem infoOp : (Try.prog.info? 32).map (fun i => (i.zero, i.size, i.bytes)) = some (some (.agg #[.int .i64 0, .int .i64 0, .int .i64 0, .slice none 0 0]), 4, 48) := by kernel_rfl
end Go.Proofs.Ytgedaobgomnflaa
