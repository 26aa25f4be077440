/-
  Merged: Gx Q4 Q5 Q6.
-/
import Derived.Test.YtgcpiinmcbdkmaaMg1
import Derived.Deep.RegionWith
import Derived.Test.YtgcpiinmcbdkmaaMg2
namespace Go.Proofs.Ytgcpiinmcbdkmaa
open Go.RowKit Va
set_option linter.unusedVariables false
def PB (W : World) (B : Nat) (vs : Array Value) (t : TypeId) : Prop := W.heap[B]? = some (.cells vs t)
section
variable {W W' : World} {B b : Nat} {vs : Array Value} {t : TypeId}
theorem PB.below (h : PB W B vs t) (hb : Below W.heap.size W W') : PB W' B vs t := (hb.block B (Array.getElem?_eq_some_iff.1 h).1).trans h
theorem PB.lt (h : PB W B vs t) : B < W.heap.size := (Array.getElem?_eq_some_iff.1 h).1
theorem PB.cell (h : PB W B vs t) (j : Nat) : W.cell? ⟨B, j, none⟩ = vs[j]? := by
  unfold PB at h
  simp only [World.cell?, h]
  rfl
theorem PB.frozen (h : PB W B vs t) (j : Nat) : W.frozen? ⟨B, j, none⟩ = false := by
  unfold PB at h
  simp only [World.frozen?, h]
  simp
theorem PB.new (W : World) (vs : Array Value) (t : TypeId) : PB (W.alloc (.cells vs t)) W.heap.size vs t := heap_alloc_new _ _
theorem PB.alloc (h : PB W B vs t) (o : Obj) : PB (W.alloc o) B vs t := h.below ((Below.refl _ _).alloc (Nat.le_refl _) o)
theorem PB.set (h : PB W B vs t) (j : Nat) (v : Value) : PB (W.setCell ⟨B, j, none⟩ v) B (vs.setIfInBounds j v) t := by
  unfold PB at *
  simp only [World.setCell, Array.getElem?_modify]
  rw [if_pos trivial, h]
  rfl
theorem PB.far (h : PB W B vs t) (hb : b ≠ B) (j : Nat) (v : Value) : PB (W.setCell ⟨b, j, none⟩ v) B vs t := by
  unfold PB at *
  rw [Below.heap_setCell _ _ _ _ (by show B ≠ b; omega)]
  exact h
theorem PB.drewN (h : PB W B vs t) (n : Nat) : PB (W.drewN n) B vs t := h
end
theorem PB.cold {W : World} {B : Nat} {t : TypeId} {vs : Array Value} (h : PB W B vs t) : W.frozen? ⟨B, 0, none⟩ = false ∧ W.frozen? ⟨B, 1, none⟩ = false ∧ W.frozen? ⟨B, 2, none⟩ = false ∧ W.frozen? ⟨B, 3, none⟩ = false ∧ W.frozen? ⟨B, 4, none⟩ = false ∧ W.frozen? ⟨B, 5, none⟩ = false ∧ W.frozen? ⟨B, 6, none⟩ = false ∧ W.frozen? ⟨B, 7, none⟩ = false ∧ W.frozen? ⟨B, 8, none⟩ = false ∧ W.frozen? ⟨B, 9, none⟩ = false :=
  ⟨h.frozen 0, h.frozen 1, h.frozen 2, h.frozen 3, h.frozen 4, h.frozen 5, h.frozen 6, h.frozen 7, h.frozen 8, h.frozen 9⟩
theorem PB.put {W : World} {B : Nat} {vs : Array Value} {t : TypeId} (h : PB W B vs t) (j : Nat) (v : Value) {vs' : Array Value} (e : vs.setIfInBounds j v = vs') : PB (W.setCell ⟨B, j, none⟩ v) B vs' t := e ▸ h.set j v
theorem PB.six {W : World} {B : Nat} {t : TypeId} {v0 v1 v2 v3 v4 v5 : Value} (h : PB W B #[v0, v1, v2, v3, v4, v5] t) : W.cell? ⟨B, 0, none⟩ = some v0 ∧ W.cell? ⟨B, 1, none⟩ = some v1 ∧ W.cell? ⟨B, 2, none⟩ = some v2 ∧ W.cell? ⟨B, 3, none⟩ = some v3 ∧ W.cell? ⟨B, 4, none⟩ = some v4 ∧ W.cell? ⟨B, 5, none⟩ = some v5 := ⟨h.cell 0, h.cell 1, h.cell 2, h.cell 3, h.cell 4, h.cell 5⟩
theorem PB.three {W : World} {B : Nat} {t : TypeId} {v0 v1 v2 : Value} (h : PB W B #[v0, v1, v2] t) : W.cell? ⟨B, 0, none⟩ = some v0 ∧ W.cell? ⟨B, 1, none⟩ = some v1 ∧ W.cell? ⟨B, 2, none⟩ = some v2 := ⟨h.cell 0, h.cell 1, h.cell 2⟩
theorem PB.fill6 {W : World} {B : Nat} {t : TypeId} {v0 v1 v2 v3 v4 v5 : Value} (h : PB W B #[v0, v1, v2, v3, v4, v5] t) (x0 x1 x2 x3 x4 x5 : Value) :
    PB ((((((W.setCell ⟨B, 0, none⟩ x0).setCell ⟨B, 1, none⟩ x1).setCell ⟨B, 2, none⟩ x2).setCell ⟨B, 3, none⟩ x3).setCell ⟨B, 4, none⟩ x4).setCell ⟨B, 5, none⟩ x5) B #[x0, x1, x2, x3, x4, x5] t := by
  have h0 := h.put 0 x0 (vs' := #[x0, v1, v2, v3, v4, v5]) (by simp)
  have h1 := h0.put 1 x1 (vs' := #[x0, x1, v2, v3, v4, v5]) (by simp)
  have h2 := h1.put 2 x2 (vs' := #[x0, x1, x2, v3, v4, v5]) (by simp)
  have h3 := h2.put 3 x3 (vs' := #[x0, x1, x2, x3, v4, v5]) (by simp)
  have h4 := h3.put 4 x4 (vs' := #[x0, x1, x2, x3, x4, v5]) (by simp)
  exact h4.put 5 x5 (vs' := #[x0, x1, x2, x3, x4, x5]) (by simp)
end Go.Proofs.Ytgcpiinmcbdkmaa

namespace Go.Proofs.Ytgcpiinmcbdkmaa
open Go.RowKit Va Bl
set_option linter.unusedVariables false
theorem info_partsO {P : Program} {t : TypeId} {z : Value} {n b : Nat} (h : (P.info? t).map (fun i => (i.zero, i.size, i.bytes)) = some (some z, n, b)) : ∃ i, P.info? t = some i ∧ i.zero = some z ∧ i.size = n ∧ i.bytes = b := by
  obtain ⟨i, h1, h2⟩ := Option.map_eq_some_iff.1 h
  simp only [Prod.mk.injEq] at h2
  exact ⟨i, h1, h2.1, h2.2.1, h2.2.2⟩
def csI (x : Int) (_ : Nat) : Int := x
theorem infoI64 : (Try.prog.info? 2).map (fun i => (i.zero, i.size, i.bytes)) = some (some (.int .i64 0), 1, 8) := by kernel_rfl
theorem out_irw {w : World} {G : Nat} {l : List Int} (h : Out 1 csI w G l.length l l.length) (c : Nat) (hc : l.length ≤ c) : IRw w (.slice (some ⟨G, 0, none⟩) l.length c) l :=
  ⟨_, c, rfl, hc, Or.inr ⟨G, 0, rfl, h.1, fun i x hx => by
    have := h.2.2 i x (get_lt' hx) hx 0 (by omega)
    simp only [Nat.mul_one, Nat.add_zero] at this
    rw [Nat.zero_add]
    exact this⟩⟩
set_option maxRecDepth 20000 in
set_option maxHeartbeats 2000000 in
theorem toints_any (ao : Option Addr) (n cap : Nat) (l : List Int) (w : World) (h : IRw w (.slice ao n cap) l) (hn : l.length ≤ 1048576) :
    Calls Try.prog 65 #[.slice ao n cap] w fun e w' => e = .returned (.slice (some ⟨w.heap.size, 0, none⟩) l.length l.length) ∧ Out 1 csI w' w.heap.size l.length l l.length ∧ Below w.heap.size w w' := by
  obtain rfl := h.len
  have HH := hidden h
  clear h
  obtain ⟨i0, hi, hz0, hz1, hz2⟩ := info_partsO infoI64
  go_enter Try.func65, Try.ntmps65
  go_wp2_with (refine wpList_make_full _ rfl (.tmp 6) (.tmp 6) 25 rfl w.heap.size 2 i0 (.int .i64 0) 1 Try.underlying25 hi hz0 hz1 .i64 .i64 _ _ l.length rfl rfl rfl rfl (by rw [hz2]; omega) (by unfold maxLen; omega) (Nat.le_refl _) ?_; intro w1 ho1 hg1)
  have b1 : Below w.heap.size w w1 := (Below.refl _ w).grown hg1 (Nat.le_refl _) (by simp)
  have ho := Out.made (cs := csI) l ho1
  clear ho1 hg1
  go_wp2_with fail
  go_loopw [4] (fun iv wr => ∃ i : Nat, i ≤ l.length ∧ iv = .int .i64 i ∧ Below w.heap.size w wr ∧ Out 1 csI wr w.heap.size l.length l i) (fun iv _ => l.length - (intOf iv).toNat)
  case atStart => exact ⟨0, Nat.zero_le _, rfl, b1, ho⟩
  case round =>
    clear b1 ho
    obtain ⟨i, hil, rfl, hb, ho⟩ := hrel
    by_cases hlt : i < l.length
    · have hlti : (i : Int) < (l.length : Int) := by omega
      obtain ⟨x, hx⟩ := some_of l i hlt
      obtain ⟨g, off, rfl, hg, hcs⟩ := (HH.out.below hb).at hx
      have c0 := hcs i x hx
      have hset := ho.set hlt hx [.int .i64 x] rfl (fun k hk => by
        match k, hk with
        | 0, _ => rfl)
      obtain ⟨⟨u0, hu0⟩, hf0⟩ := ho.old hlt (k := 0) (by omega)
      simp only [Nat.mul_one, Nat.add_zero] at hu0 hf0
      rw [Nat.mul_one] at hset
      have HS := hidden hset
      have b3 : Below w.heap.size w (wr.setCell ⟨w.heap.size, i, none⟩ (.int .i64 x)) := hb.setCell (Nat.le_refl _) _
      clear hcs hx ho hset
      go_wp2_with fail
      go_roundw
      case rel => exact ⟨i + 1, by omega, rfl, b3, HS.out⟩
      case measure => simp [intOf]; omega
    · have hlti : ¬ (i : Int) < (l.length : Int) := by omega
      have hil2 : i = l.length := by omega
      subst hil2
      go_wp2_with fail
      go_ret
      exact ⟨rfl, ho, hb⟩
theorem out_far {α : Type} {s : Nat} {cs : α → Nat → Int} {w : World} {G n i : Nat} {l : List α} (h : Out s cs w G n l i) {b : Nat} (hb : b ≠ G) (o : Nat) (v : Value) : Out s cs (w.setCell ⟨b, o, none⟩ v) G n l i := by
  obtain ⟨h1, h2, h3⟩ := h
  refine ⟨by simpa [World.setCell] using h1, fun j hj => ⟨?_, by rw [World.frozen?_setCell]; exact (h2 j hj).2⟩, fun j x hj hx k hk => ?_⟩
  · obtain ⟨u, hu⟩ := (h2 j hj).1
    exact ⟨u, (World.cell?_setCell_far _ _ _ _ (fun e => hb e)).trans hu⟩
  · exact (World.cell?_setCell_far _ _ _ _ (fun e => hb e)).trans (h3 j x hj hx k hk)
end Go.Proofs.Ytgcpiinmcbdkmaa

namespace Go.Proofs.Ytgcpiinmcbdkmaa
open Go.RowKit Va Bl
set_option linter.unusedVariables false
set_option maxRecDepth 20000 in
set_option maxHeartbeats 4000000 in
theorem tounit_any (x : Ut) (ta : Option Addr) (tn tc : Nat) (w : World) (h : IRw w (.slice ta tn tc) x.ant) (hn : x.ant.length ≤ 1048576) :
    Calls Try.prog 64 #[aU x (.slice ta tn tc)] w fun e w' => ∃ G, w.heap.size ≤ G ∧ G < w'.heap.size ∧ e = .returned (aU x (.slice (some ⟨G, 0, none⟩) x.ant.length x.ant.length)) ∧ Out 1 csI w' G x.ant.length x.ant x.ant.length ∧ Below w.heap.size w w' := by
  have k1 := fun W hW => toints_any ta tn tc x.ant W hW hn
  have HT := hidden (fun W (hW : Below w.heap.size w W) => h.below hW)
  clear h
  have P0 := hidden (((PB.new w #[.int .i64 x.id, .int .i64 x.grp, .slice ta tn tc, .int .i64 x.til, .int .i64 x.st, .int .i64 x.fr] 98).alloc (.cells #[.int .i64 0, .int .i64 0, .slice none 0 0, .int .i64 0, .int .i64 0, .int .i64 0] 81)).alloc (.cells #[.int .i64 x.id, .int .i64 x.grp, .slice none 0 0, .int .i64 0, .int .i64 0, .int .i64 0] 81))
  have P1 := hidden ((PB.new (w.alloc (.cells #[.int .i64 x.id, .int .i64 x.grp, .slice ta tn tc, .int .i64 x.til, .int .i64 x.st, .int .i64 x.fr] 98)) #[.int .i64 0, .int .i64 0, .slice none 0 0, .int .i64 0, .int .i64 0, .int .i64 0] 81).alloc (.cells #[.int .i64 x.id, .int .i64 x.grp, .slice none 0 0, .int .i64 0, .int .i64 0, .int .i64 0] 81))
  have P2 := hidden (PB.new ((w.alloc (.cells #[.int .i64 x.id, .int .i64 x.grp, .slice ta tn tc, .int .i64 x.til, .int .i64 x.st, .int .i64 x.fr] 98)).alloc (.cells #[.int .i64 0, .int .i64 0, .slice none 0 0, .int .i64 0, .int .i64 0, .int .i64 0] 81)) #[.int .i64 x.id, .int .i64 x.grp, .slice none 0 0, .int .i64 0, .int .i64 0, .int .i64 0] 81)
  simp only [World.size_alloc] at P0 P1 P2
  unfold aU
  go_enter Try.func64, Try.ntmps64
  go_wp2_with (go_at_call 65; refine (k1 _ (HT.out _ (by repeat (first | exact Below.refl _ _ | assumption | refine st_drew ?_ | refine st_drewN ?_ _ | refine Below.setCell ?_ (by first | omega | (simp; done) | (simp; omega)) _ | refine Below.alloc ?_ (by first | omega | (simp; done) | (simp; omega)) _)))).mono ?_; rintro e w1 ⟨rfl, ho1, hb1⟩; have HO := hidden ho1; have hp := P0.out.below hb1; have hq := P1.out.below hb1; have hr := P2.out.below hb1; obtain ⟨p0, p1, p2, p3, p4, p5⟩ := hp.six; obtain ⟨q0, q1, q2, q3, q4, q5⟩ := hq.six; obtain ⟨r0, r1, r2, r3, r4, r5⟩ := hr.six; obtain ⟨f0, f1, f2, f3, f4, f5, -⟩ := hq.cold; obtain ⟨g0, g1, g2, g3, g4, g5, -⟩ := hr.cold; have bA := onto (show Below w.heap.size w _ from by repeat (first | exact Below.refl _ _ | assumption | refine st_drew ?_ | refine st_drewN ?_ _ | refine Below.setCell ?_ (by first | omega | (simp; done) | (simp; omega)) _ | refine Below.alloc ?_ (by first | omega | (simp; done) | (simp; omega)) _)) hb1; have hsz := hb1.size; simp only [World.size_alloc] at hsz; have HR := hidden hr; clear hb1 ho1 hp hr; have HQ := hidden hq; clear hq)
  simp only [World.size_alloc] at HO
  have o0 := HO.out
  have b0 := bA
  have e0 := HQ.out
  have o1 := out_far o0 (b := w.heap.size + 1 + 1) (by omega) 2 (.slice (some ⟨w.heap.size + 1 + 1 + 1, 0, none⟩) x.ant.length x.ant.length)
  have b1 := b0.setCell (p := ⟨w.heap.size + 1 + 1, 2, none⟩) (by show w.heap.size ≤ w.heap.size + 1 + 1; omega) (.slice (some ⟨w.heap.size + 1 + 1 + 1, 0, none⟩) x.ant.length x.ant.length)
  have e1 := e0.far (b := w.heap.size + 1 + 1) (by omega) 2 (.slice (some ⟨w.heap.size + 1 + 1 + 1, 0, none⟩) x.ant.length x.ant.length)
  have o2 := out_far o1 (b := w.heap.size + 1 + 1) (by omega) 3 (.int .i64 x.til)
  have b2 := b1.setCell (p := ⟨w.heap.size + 1 + 1, 3, none⟩) (by show w.heap.size ≤ w.heap.size + 1 + 1; omega) (.int .i64 x.til)
  have e2 := e1.far (b := w.heap.size + 1 + 1) (by omega) 3 (.int .i64 x.til)
  have o3 := out_far o2 (b := w.heap.size + 1 + 1) (by omega) 4 (.int .i64 x.st)
  have b3 := b2.setCell (p := ⟨w.heap.size + 1 + 1, 4, none⟩) (by show w.heap.size ≤ w.heap.size + 1 + 1; omega) (.int .i64 x.st)
  have e3 := e2.far (b := w.heap.size + 1 + 1) (by omega) 4 (.int .i64 x.st)
  have o4 := out_far o3 (b := w.heap.size + 1 + 1) (by omega) 5 (.int .i64 x.fr)
  have b4 := b3.setCell (p := ⟨w.heap.size + 1 + 1, 5, none⟩) (by show w.heap.size ≤ w.heap.size + 1 + 1; omega) (.int .i64 x.fr)
  have e4 := e3.far (b := w.heap.size + 1 + 1) (by omega) 5 (.int .i64 x.fr)
  have o5 := out_far o4 (b := w.heap.size + 1) (by omega) 0 (.int .i64 x.id)
  have b5 := b4.setCell (p := ⟨w.heap.size + 1, 0, none⟩) (by show w.heap.size ≤ w.heap.size + 1; omega) (.int .i64 x.id)
  have o6 := out_far o5 (b := w.heap.size + 1) (by omega) 1 (.int .i64 x.grp)
  have b6 := b5.setCell (p := ⟨w.heap.size + 1, 1, none⟩) (by show w.heap.size ≤ w.heap.size + 1; omega) (.int .i64 x.grp)
  have o7 := out_far o6 (b := w.heap.size + 1) (by omega) 2 (.slice (some ⟨w.heap.size + 1 + 1 + 1, 0, none⟩) x.ant.length x.ant.length)
  have b7 := b6.setCell (p := ⟨w.heap.size + 1, 2, none⟩) (by show w.heap.size ≤ w.heap.size + 1; omega) (.slice (some ⟨w.heap.size + 1 + 1 + 1, 0, none⟩) x.ant.length x.ant.length)
  have o8 := out_far o7 (b := w.heap.size + 1) (by omega) 3 (.int .i64 x.til)
  have b8 := b7.setCell (p := ⟨w.heap.size + 1, 3, none⟩) (by show w.heap.size ≤ w.heap.size + 1; omega) (.int .i64 x.til)
  have o9 := out_far o8 (b := w.heap.size + 1) (by omega) 4 (.int .i64 x.st)
  have b9 := b8.setCell (p := ⟨w.heap.size + 1, 4, none⟩) (by show w.heap.size ≤ w.heap.size + 1; omega) (.int .i64 x.st)
  have o10 := out_far o9 (b := w.heap.size + 1) (by omega) 5 (.int .i64 x.fr)
  have b10 := b9.setCell (p := ⟨w.heap.size + 1, 5, none⟩) (by show w.heap.size ≤ w.heap.size + 1; omega) (.int .i64 x.fr)
  have e5 := e4.fill6 (.int .i64 x.id) (.int .i64 x.grp) (.slice (some ⟨w.heap.size + 1 + 1 + 1, 0, none⟩) x.ant.length x.ant.length) (.int .i64 x.til) (.int .i64 x.st) (.int .i64 x.fr)
  obtain ⟨y0, y1, y2, y3, y4, y5⟩ := e5.six
  have hfin := o10
  clear o0 o1 o2 o3 o4 o5 o6 o7 o8 o9 o10 e0 e1 e2 e3 e4 e5
  exact bodyPost_ret (v := .agg #[.int .i64 x.id, .int .i64 x.grp, .slice (some ⟨w.heap.size + 1 + 1 + 1, 0, none⟩) x.ant.length x.ant.length, .int .i64 x.til, .int .i64 x.st, .int .i64 x.fr]) (by simp [results, Try.results64, go_sem, y0, y1, y2, y3, y4, y5]) rfl
    ⟨_, by omega, hfin.1, rfl, hfin, b10⟩
end Go.Proofs.Ytgcpiinmcbdkmaa

namespace Go.Proofs.Ytgcpiinmcbdkmaa
open Go.RowKit Va Bl
set_option linter.unusedVariables false
theorem szints_any (ao : Option Addr) (n cap : Nat) (L : Int) (w : World) (hn : (n : Int) ≤ 9223372036854775807) (h0 : 0 ≤ L) (h1 : L ≤ 1048576) :
    Calls Try.prog 63 #[.slice ao n cap, .int .i64 L] w fun e w' => e = .returned (.int .i64 (if L < n then -1 else L - n)) ∧ w' = w := by
  by_cases h : L < (n : Int)
  · rw [if_pos h]
    have h2 : L - n < 0 := by omega
    go_enter Try.func63, Try.ntmps63
    go_wp2
    go_ret
    exact ⟨rfl, rfl⟩
  · rw [if_neg h]
    have h2 : ¬ L - n < 0 := by omega
    go_enter Try.func63, Try.ntmps63
    go_wp2
    go_ret
    exact ⟨rfl, rfl⟩
set_option maxRecDepth 20000 in
set_option maxHeartbeats 1000000 in
theorem szunit_any (x : Ut) (ta : Option Addr) (n tc : Nat) (L : Int) (w : World) (hn : (n : Int) ≤ 9223372036854775807) (h0 : 0 ≤ L) (h1 : L ≤ 1048576) :
    Calls Try.prog 62 #[aU x (.slice ta n tc), .int .i64 L] w fun e w' => e = .returned (.int .i64 (if L < n then -1 else L - n)) ∧ Below w.heap.size w w' := by
  have hK := fun W => szints_any ta n tc L W hn h0 h1
  unfold aU
  by_cases h : L < (n : Int)
  · rw [if_pos h] at hK ⊢
    go_enter Try.func62, Try.ntmps62
    go_wp2_with (go_at_call 63; refine (hK _).mono ?_; rintro e w1 ⟨rfl, rfl⟩)
    go_ret
    exact ⟨rfl, by repeat (first | exact Below.refl _ _ | assumption | refine st_drew ?_ | refine st_drewN ?_ _ | refine Below.setCell ?_ (by first | omega | (simp; done) | (simp; omega)) _ | refine Below.alloc ?_ (by first | omega | (simp; done) | (simp; omega)) _)⟩
  · rw [if_neg h] at hK ⊢
    have h2 : ¬ L - n < 0 := by omega
    go_enter Try.func62, Try.ntmps62
    go_wp2_with (go_at_call 63; refine (hK _).mono ?_; rintro e w1 ⟨rfl, rfl⟩)
    go_ret
    exact ⟨rfl, by repeat (first | exact Below.refl _ _ | assumption | refine st_drew ?_ | refine st_drewN ?_ _ | refine Below.setCell ?_ (by first | omega | (simp; done) | (simp; omega)) _ | refine Below.alloc ?_ (by first | omega | (simp; done) | (simp; omega)) _)⟩
set_option maxRecDepth 20000 in
set_option maxHeartbeats 2000000 in
theorem eqints_any (a1 : Option Addr) (n1 c1 : Nat) (a2 : Option Addr) (n2 c2 : Nat) (l : List Int) (w : World) (h : IRw w (.slice a1 n1 c1) l) (h' : IRw w (.slice a2 n2 c2) l) (hn : l.length ≤ 1048576) :
    Calls Try.prog 23 #[.slice a1 n1 c1, .slice a2 n2 c2] w fun e w' => e = .returned (.bool true) ∧ Below w.heap.size w w' := by
  obtain rfl := h.len
  obtain rfl := h'.len
  have HH := hidden h
  have HH' := hidden h'
  clear h h'
  go_enter Try.func23, Try.ntmps23
  go_wp2_with fail
  go_loopw [5] (fun iv wr => ∃ i : Nat, i ≤ l.length ∧ iv = .int .i64 i ∧ Below w.heap.size w wr) (fun iv _ => l.length - (intOf iv).toNat)
  case atStart => exact ⟨0, Nat.zero_le _, rfl, Below.refl _ _⟩
  case round =>
    obtain ⟨i, hil, rfl, hb⟩ := hrel
    by_cases hlt : i < l.length
    · have hlti : (i : Int) < (l.length : Int) := by omega
      obtain ⟨x, hx⟩ := some_of l i hlt
      obtain ⟨g, off, rfl, hg, hcs⟩ := (HH.out.below hb).at hx
      obtain ⟨g', off', rfl, hg', hcs'⟩ := (HH'.out.below hb).at hx
      have c0 := hcs i x hx
      have d0 := hcs' i x hx
      clear hcs hcs' hx
      go_wp2_with fail
      go_quiet (fail)
      go_wp2_with fail
      go_roundw
      case rel => exact ⟨i + 1, by omega, rfl, by repeat (first | exact Below.refl _ _ | assumption | refine st_drew ?_ | refine st_drewN ?_ _ | refine Below.setCell ?_ (by first | omega | (simp; done) | (simp; omega)) _ | refine Below.alloc ?_ (by first | omega | (simp; done) | (simp; omega)) _)⟩
      case measure => simp [intOf]; omega
    · have hlti : ¬ (i : Int) < (l.length : Int) := by omega
      go_wp2_with fail
      go_ret
      exact ⟨rfl, hb⟩
set_option maxRecDepth 20000 in
set_option maxHeartbeats 1000000 in
theorem equnit_any (x : Ut) (a1 : Option Addr) (n1 c1 : Nat) (a2 : Option Addr) (n2 c2 : Nat) (w : World) (h : IRw w (.slice a1 n1 c1) x.ant) (h' : IRw w (.slice a2 n2 c2) x.ant) (hn : x.ant.length ≤ 1048576) :
    Calls Try.prog 66 #[aU x (.slice a1 n1 c1), aU x (.slice a2 n2 c2)] w fun e w' => e = .returned (.bool true) ∧ Below w.heap.size w w' := by
  have hK := fun W hW hW' => eqints_any a1 n1 c1 a2 n2 c2 x.ant W hW hW' hn
  have HA := hidden (fun W (hW : Below w.heap.size w W) => h.below hW)
  have HB := hidden (fun W (hW : Below w.heap.size w W) => h'.below hW)
  clear h h'
  have P0 := hidden ((PB.new w #[.int .i64 x.id, .int .i64 x.grp, .slice a1 n1 c1, .int .i64 x.til, .int .i64 x.st, .int .i64 x.fr] 81).alloc (.cells #[.int .i64 x.id, .int .i64 x.grp, .slice a2 n2 c2, .int .i64 x.til, .int .i64 x.st, .int .i64 x.fr] 81))
  have P1 := hidden (PB.new (w.alloc (.cells #[.int .i64 x.id, .int .i64 x.grp, .slice a1 n1 c1, .int .i64 x.til, .int .i64 x.st, .int .i64 x.fr] 81)) #[.int .i64 x.id, .int .i64 x.grp, .slice a2 n2 c2, .int .i64 x.til, .int .i64 x.st, .int .i64 x.fr] 81)
  simp only [World.size_alloc] at P0 P1
  unfold aU
  go_enter Try.func66, Try.ntmps66
  go_wp2_with (go_at_call 23; refine (hK _ (HA.out _ (by repeat (first | exact Below.refl _ _ | assumption | refine st_drew ?_ | refine st_drewN ?_ _ | refine Below.setCell ?_ (by first | omega | (simp; done) | (simp; omega)) _ | refine Below.alloc ?_ (by first | omega | (simp; done) | (simp; omega)) _))) (HB.out _ (by repeat (first | exact Below.refl _ _ | assumption | refine st_drew ?_ | refine st_drewN ?_ _ | refine Below.setCell ?_ (by first | omega | (simp; done) | (simp; omega)) _ | refine Below.alloc ?_ (by first | omega | (simp; done) | (simp; omega)) _)))).mono ?_; rintro e w1 ⟨rfl, hb1⟩; obtain ⟨p0, p1, p2, p3, p4, p5⟩ := (P0.out.below hb1).six; obtain ⟨q0, q1, q2, q3, q4, q5⟩ := (P1.out.below hb1).six; have bA := onto (show Below w.heap.size w _ from by repeat (first | exact Below.refl _ _ | assumption | refine st_drew ?_ | refine st_drewN ?_ _ | refine Below.setCell ?_ (by first | omega | (simp; done) | (simp; omega)) _ | refine Below.alloc ?_ (by first | omega | (simp; done) | (simp; omega)) _)) hb1; clear hb1)
  go_ret
  exact ⟨rfl, bA⟩
end Go.Proofs.Ytgcpiinmcbdkmaa
