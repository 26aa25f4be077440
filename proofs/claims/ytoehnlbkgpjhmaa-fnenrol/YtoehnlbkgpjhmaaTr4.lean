/-
  The law's own helpers on trials: copies, sizes, sameness, marks.
-/
import Derived.Test.YtoehnlbkgpjhmaaTr3
namespace Go.Proofs.Ytoehnlbkgpjhmaa
open Go.RowKit Go.WideShapes Va Lb Tr
set_option linter.all false

theorem own_farT {w : World} {base : Nat} {v : Value} {l : List Int} (h : VOwn 1 cvI w base v l) {b : Nat} (hb : b < base) (o : Nat) (x : Value) : VOwn 1 cvI (w.setCell ⟨b, o, none⟩ x) base v l := by
  obtain ⟨ao, cap, rfl, hc, h2⟩ := h
  refine ⟨ao, cap, rfl, hc, ?_⟩
  rcases h2 with h2 | ⟨G, rfl, hG, h3, h4, h5⟩
  · exact Or.inl h2
  · refine Or.inr ⟨G, rfl, hG, by simpa [World.setCell] using h3, fun j hj => ⟨?_, by rw [World.frozen?_setCell]; exact (h4 j hj).2⟩, fun j y hj hy k hk => ?_⟩
    · obtain ⟨u, hu⟩ := (h4 j hj).1
      exact ⟨u, (World.cell?_setCell_far _ _ _ _ (fun (e : b = G) => by omega)).trans hu⟩
    · exact (World.cell?_setCell_far _ _ _ _ (fun (e : b = G) => by omega)).trans (h5 j y hj hy k hk)
theorem PB.fill4 {W : World} {B : Nat} {t : TypeId} {v0 v1 v2 v3 : Value} (h : PB W B #[v0, v1, v2, v3] t) (x0 x1 x2 x3 : Value) :
    PB ((((W.setCell ⟨B, 0, none⟩ x0).setCell ⟨B, 1, none⟩ x1).setCell ⟨B, 2, none⟩ x2).setCell ⟨B, 3, none⟩ x3) B #[x0, x1, x2, x3] t := by
  have h0 := h.put 0 x0 (vs' := #[x0, v1, v2, v3]) (by simp)
  have h1 := h0.put 1 x1 (vs' := #[x0, x1, v2, v3]) (by simp)
  have h2 := h1.put 2 x2 (vs' := #[x0, x1, x2, v3]) (by simp)
  exact h2.put 3 x3 (vs' := #[x0, x1, x2, x3]) (by simp)

set_option maxRecDepth 20000 in
set_option maxHeartbeats 4000000 in
theorem totrial_any (x : Tl) (ta : Option Addr) (tn tc : Nat) (w : World) (h : VRw 1 cvI w (.slice ta tn tc) x.coins) (hn : x.coins.length ≤ 1048576) :
    Calls Try.prog 33 #[aT x (.slice ta tn tc)] w fun e w' => ∃ G, w.heap.size ≤ G ∧ e = .returned (aT x (.slice (some ⟨G, 0, none⟩) x.coins.length x.coins.length)) ∧ VOwn 1 cvI w' w.heap.size (.slice (some ⟨G, 0, none⟩) x.coins.length x.coins.length) x.coins ∧ Below w.heap.size w w' := by
  have k1 := fun W hW => toints_any ta tn tc x.coins W hW hn
  have HT := hidden (fun W (hW : Below w.heap.size w W) => h.below hW)
  clear h
  have P0 := hidden (((PB.new w #[.int .i64 x.arms, .int .i64 x.block, .slice ta tn tc, .int .i64 x.told] 57).alloc (.cells #[.int .i64 0, .int .i64 0, .slice none 0 0, .int .i64 0] 26)).alloc (.cells #[.int .i64 x.arms, .int .i64 x.block, .slice none 0 0, .int .i64 0] 26))
  have P1 := hidden ((PB.new (w.alloc (.cells #[.int .i64 x.arms, .int .i64 x.block, .slice ta tn tc, .int .i64 x.told] 57)) #[.int .i64 0, .int .i64 0, .slice none 0 0, .int .i64 0] 26).alloc (.cells #[.int .i64 x.arms, .int .i64 x.block, .slice none 0 0, .int .i64 0] 26))
  have P2 := hidden (PB.new ((w.alloc (.cells #[.int .i64 x.arms, .int .i64 x.block, .slice ta tn tc, .int .i64 x.told] 57)).alloc (.cells #[.int .i64 0, .int .i64 0, .slice none 0 0, .int .i64 0] 26)) #[.int .i64 x.arms, .int .i64 x.block, .slice none 0 0, .int .i64 0] 26)
  simp only [World.size_alloc] at P0 P1 P2
  unfold aT
  go_enter Try.func33, Try.ntmps33
  go_wp2_with (go_at_call 60; refine (k1 _ (HT.out _ (by repeat (first | exact Below.refl _ _ | assumption | refine st_drew ?_ | refine st_drewN ?_ _ | refine Below.setCell ?_ (by first | omega | (simp; done) | (simp; omega)) _ | refine Below.alloc ?_ (by first | omega | (simp; done) | (simp; omega)) _)))).mono ?_; rintro e w1 ⟨rfl, ho1, hb1⟩; have HO := hidden ho1; have hp := P0.out.below hb1; have hq := P1.out.below hb1; have hr := P2.out.below hb1; obtain ⟨p0, p1, p2, p3⟩ := hp.four; obtain ⟨q0, q1, q2, q3⟩ := hq.four; obtain ⟨r0, r1, r2, r3⟩ := hr.four; obtain ⟨f0, f1, f2, f3, -⟩ := hq.cold; obtain ⟨g0, g1, g2, g3, -⟩ := hr.cold; have bA := onto (show Below w.heap.size w _ from by repeat (first | exact Below.refl _ _ | assumption | refine st_drew ?_ | refine st_drewN ?_ _ | refine Below.setCell ?_ (by first | omega | (simp; done) | (simp; omega)) _ | refine Below.alloc ?_ (by first | omega | (simp; done) | (simp; omega)) _)) hb1; have hsz := hb1.size; simp only [World.size_alloc] at hsz; have HR := hidden hr; clear hb1 ho1 hp hr; have HQ := hidden hq; clear hq)
  simp only [World.size_alloc] at HO
  have o0 := HO.out
  have b0 := bA
  have e0 := HQ.out
  have o1 := own_farT o0 (b := w.heap.size + 1 + 1) (by omega) 2 (.slice (some ⟨w.heap.size + 1 + 1 + 1, 0, none⟩) x.coins.length x.coins.length)
  have b1 := b0.setCell (p := ⟨w.heap.size + 1 + 1, 2, none⟩) (by show w.heap.size ≤ w.heap.size + 1 + 1; omega) (.slice (some ⟨w.heap.size + 1 + 1 + 1, 0, none⟩) x.coins.length x.coins.length)
  have e1 := e0.far (b := w.heap.size + 1 + 1) (by omega) 2 (.slice (some ⟨w.heap.size + 1 + 1 + 1, 0, none⟩) x.coins.length x.coins.length)
  have o2 := own_farT o1 (b := w.heap.size + 1 + 1) (by omega) 3 (.int .i64 x.told)
  have b2 := b1.setCell (p := ⟨w.heap.size + 1 + 1, 3, none⟩) (by show w.heap.size ≤ w.heap.size + 1 + 1; omega) (.int .i64 x.told)
  have e2 := e1.far (b := w.heap.size + 1 + 1) (by omega) 3 (.int .i64 x.told)
  have o3 := own_farT o2 (b := w.heap.size + 1) (by omega) 0 (.int .i64 x.arms)
  have b3 := b2.setCell (p := ⟨w.heap.size + 1, 0, none⟩) (by show w.heap.size ≤ w.heap.size + 1; omega) (.int .i64 x.arms)
  have o4 := own_farT o3 (b := w.heap.size + 1) (by omega) 1 (.int .i64 x.block)
  have b4 := b3.setCell (p := ⟨w.heap.size + 1, 1, none⟩) (by show w.heap.size ≤ w.heap.size + 1; omega) (.int .i64 x.block)
  have o5 := own_farT o4 (b := w.heap.size + 1) (by omega) 2 (.slice (some ⟨w.heap.size + 1 + 1 + 1, 0, none⟩) x.coins.length x.coins.length)
  have b5 := b4.setCell (p := ⟨w.heap.size + 1, 2, none⟩) (by show w.heap.size ≤ w.heap.size + 1; omega) (.slice (some ⟨w.heap.size + 1 + 1 + 1, 0, none⟩) x.coins.length x.coins.length)
  have o6 := own_farT o5 (b := w.heap.size + 1) (by omega) 3 (.int .i64 x.told)
  have b6 := b5.setCell (p := ⟨w.heap.size + 1, 3, none⟩) (by show w.heap.size ≤ w.heap.size + 1; omega) (.int .i64 x.told)
  have e6 := e2.fill4 (.int .i64 x.arms) (.int .i64 x.block) (.slice (some ⟨w.heap.size + 1 + 1 + 1, 0, none⟩) x.coins.length x.coins.length) (.int .i64 x.told)
  obtain ⟨y0, y1, y2, y3⟩ := e6.four
  have hfin := o6
  clear o0 o1 o2 o3 o4 o5 o6 e0 e1 e2 e6
  exact bodyPost_ret (v := .agg #[.int .i64 x.arms, .int .i64 x.block, .slice (some ⟨w.heap.size + 1 + 1 + 1, 0, none⟩) x.coins.length x.coins.length, .int .i64 x.told]) (by simp [results, Try.results33, go_sem, y0, y1, y2, y3]) rfl
    ⟨_, by omega, rfl, hfin.base_le (by omega), b6⟩

theorem szints_any (ao : Option Addr) (n cap : Nat) (L : Int) (w : World) (hn : (n : Int) ≤ 9223372036854775807) (h0 : 0 ≤ L) (h1 : L ≤ 1048576) :
    Calls Try.prog 59 #[.slice ao n cap, .int .i64 L] w fun e w' => e = .returned (.int .i64 (if L < n then -1 else L - n)) ∧ w' = w := by
  by_cases h : L < (n : Int)
  · rw [if_pos h]
    have h2 : L - n < 0 := by omega
    go_enter Try.func59, Try.ntmps59
    go_wp2
    go_ret
    exact ⟨rfl, rfl⟩
  · rw [if_neg h]
    have h2 : ¬ L - n < 0 := by omega
    go_enter Try.func59, Try.ntmps59
    go_wp2
    go_ret
    exact ⟨rfl, rfl⟩

set_option maxRecDepth 20000 in
set_option maxHeartbeats 1000000 in
theorem sztrial_any (x : Tl) (ta : Option Addr) (n tc : Nat) (L : Int) (w : World) (hn : (n : Int) ≤ 9223372036854775807) (h0 : 0 ≤ L) (h1 : L ≤ 1048576) :
    Calls Try.prog 32 #[aT x (.slice ta n tc), .int .i64 L] w fun e w' => e = .returned (.int .i64 (if L < n then -1 else L - n)) ∧ Below w.heap.size w w' := by
  have hK := fun W => szints_any ta n tc L W hn h0 h1
  unfold aT
  by_cases h : L < (n : Int)
  · rw [if_pos h] at hK ⊢
    go_enter Try.func32, Try.ntmps32
    go_wp2_with (go_at_call 59; refine (hK _).mono ?_; rintro e w1 ⟨rfl, rfl⟩)
    go_ret
    exact ⟨rfl, by repeat (first | exact Below.refl _ _ | assumption | refine st_drew ?_ | refine st_drewN ?_ _ | refine Below.setCell ?_ (by first | omega | (simp; done) | (simp; omega)) _ | refine Below.alloc ?_ (by first | omega | (simp; done) | (simp; omega)) _)⟩
  · rw [if_neg h] at hK ⊢
    have h2 : ¬ L - n < 0 := by omega
    go_enter Try.func32, Try.ntmps32
    go_wp2_with (go_at_call 59; refine (hK _).mono ?_; rintro e w1 ⟨rfl, rfl⟩)
    go_ret
    exact ⟨rfl, by repeat (first | exact Below.refl _ _ | assumption | refine st_drew ?_ | refine st_drewN ?_ _ | refine Below.setCell ?_ (by first | omega | (simp; done) | (simp; omega)) _ | refine Below.alloc ?_ (by first | omega | (simp; done) | (simp; omega)) _)⟩

set_option maxRecDepth 20000 in
set_option maxHeartbeats 1000000 in
theorem eqtrial_any (x : Tl) (a1 : Option Addr) (n1 c1 : Nat) (a2 : Option Addr) (n2 c2 : Nat) (w : World) (h : VRw 1 cvI w (.slice a1 n1 c1) x.coins) (h' : VRw 1 cvI w (.slice a2 n2 c2) x.coins) (hn : x.coins.length ≤ 1048576) :
    Calls Try.prog 35 #[aT x (.slice a1 n1 c1), aT x (.slice a2 n2 c2)] w fun e w' => e = .returned (.bool true) ∧ Below w.heap.size w w' := by
  have hK := fun W hW hW' => veqints_any (.slice a1 n1 c1) (.slice a2 n2 c2) x.coins W hW hW' hn
  have HA := hidden (fun W (hW : Below w.heap.size w W) => h.below hW)
  have HB := hidden (fun W (hW : Below w.heap.size w W) => h'.below hW)
  clear h h'
  have P0 := hidden ((PB.new w #[.int .i64 x.arms, .int .i64 x.block, .slice a1 n1 c1, .int .i64 x.told] 26).alloc (.cells #[.int .i64 x.arms, .int .i64 x.block, .slice a2 n2 c2, .int .i64 x.told] 26))
  have P1 := hidden (PB.new (w.alloc (.cells #[.int .i64 x.arms, .int .i64 x.block, .slice a1 n1 c1, .int .i64 x.told] 26)) #[.int .i64 x.arms, .int .i64 x.block, .slice a2 n2 c2, .int .i64 x.told] 26)
  simp only [World.size_alloc] at P0 P1
  unfold aT
  go_enter Try.func35, Try.ntmps35
  go_wp2_with (go_at_call 62; refine (hK _ (HA.out _ (by repeat (first | exact Below.refl _ _ | assumption | refine st_drew ?_ | refine st_drewN ?_ _ | refine Below.setCell ?_ (by first | omega | (simp; done) | (simp; omega)) _ | refine Below.alloc ?_ (by first | omega | (simp; done) | (simp; omega)) _))) (HB.out _ (by repeat (first | exact Below.refl _ _ | assumption | refine st_drew ?_ | refine st_drewN ?_ _ | refine Below.setCell ?_ (by first | omega | (simp; done) | (simp; omega)) _ | refine Below.alloc ?_ (by first | omega | (simp; done) | (simp; omega)) _)))).mono ?_; rintro e w1 ⟨rfl, hb1⟩; obtain ⟨p0, p1, p2, p3⟩ := (P0.out.below hb1).four; obtain ⟨q0, q1, q2, q3⟩ := (P1.out.below hb1).four; have bA := onto (show Below w.heap.size w _ from by repeat (first | exact Below.refl _ _ | assumption | refine st_drew ?_ | refine st_drewN ?_ _ | refine Below.setCell ?_ (by first | omega | (simp; done) | (simp; omega)) _ | refine Below.alloc ?_ (by first | omega | (simp; done) | (simp; omega)) _)) hb1; clear hb1)
  go_ret
  exact ⟨rfl, bA⟩
end Go.Proofs.Ytoehnlbkgpjhmaa
