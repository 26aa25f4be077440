/-
  Trend, the program's.
-/
import Derived.Test.YtmigcbbjejbcganTa
import Derived.Test.YtmigcbbjejbcganVg
import Derived.RangeFuncNested
import Derived.RangeFuncBound
import Derived.RangeFuncCalls
import Derived.RangeFuncLeaves
import Derived.Shelf.Abstract
import Derived.Shelf.RegionOpen
import Derived.OwnWalkIn
import Derived.TacticsInMore
import Derived.LoopNIn
import Derived.LoopIn
namespace Go.Proofs.Ytmigcbbjejbcgan
open Go.RowKit Go.Shelf Va
set_option linter.unusedVariables false
attribute [local go_sem] Oper.semAt_some

def encs (x : Nat × Vt) : Array Value := #[.int .i64 x.1, aV x.2]

set_option maxRecDepth 100000 in
set_option maxHeartbeats 4000000 in
theorem back1_in (F : Fence) (n : Nat) (hF : ∀ f, F.fn f) (hro : F.round = none) (hn : 1 ≤ n) (l Bs n₀ cap : Nat) (ao : Option Addr) (S : List Vt) (hreach : S.length ≤ 1048576) (J Jx : List (Nat × Vt) → World → Prop)
    (hY : ∀ pre x W, J pre W → pre.length < S.length → YieldAt F (n - 1) Try.prog l (encs x) W fun e W' =>
      (e = .returned (.bool true) ∧ J (pre ++ [x]) W' ∧ Below n₀ W W') ∨ (e = .returned (.bool false) ∧ Jx (pre ++ [x]) W'))
    (W w0 : World) (hw0 : w0.heap.size = n₀) (hB0 : Below n₀ w0 W) (hBs1 : Bs < n₀) (hBs : w0.cell? ⟨Bs, 0, none⟩ = some (.slice ao S.length cap)) (hI : Rw 6 csV w0 (.slice ao S.length cap) S) (h0 : J [] W) :
    CallsIn F n Try.prog 90 #[.func (.yield l) #[] #[], .pointer (some ⟨Bs, 0, none⟩)] W fun e W' => (∃ v, e = .returned v) ∧
      ((∃ ys, ys = upto S S.length ∧ J ys W') ∨ (∃ pre, (∃ k, k < S.length ∧ pre = upto S (k + 1)) ∧ Jx pre W')) := by
  refine callsIn_of_wp Try.func90 rfl (hF _) ?_ hro
  have hB := hB0
  have hc0 := (hB.cell (p := ⟨Bs, 0, none⟩) hBs1).trans hBs
  simp only [Try.ntmps90, List.size_toArray, List.length_cons, List.length_nil, Nat.reduceAdd, Nat.reduceSub, Array.replicate_succ, Array.replicate_zero, List.push_toArray, List.append_toArray, List.nil_append, List.cons_append]
  gi_wp2
  gi_loopw [3] (fun i wr => ∃ k : Nat, k ≤ S.length ∧ i = .int .i64 ((S.length : Int) - 1 - k) ∧ J (upto S k) wr ∧ Below n₀ w0 wr) (fun i _ => (intOf i + 1).toNat)
  case atStart => exact ⟨0, Nat.zero_le _, by simp, h0, hB0⟩
  case round =>
    clear hB hc0
    obtain ⟨k, hk, rfl, hJs, hB⟩ := hrel
    have hc := (hB.cell (p := ⟨Bs, 0, none⟩) hBs1).trans hBs
    by_cases hlt : k < S.length
    · have q0 : (0 : Int) ≤ (S.length : Int) - 1 - k := by omega
      have q1 : (S.length : Int) - 1 - k < (S.length : Int) := by omega
      obtain ⟨i, hi⟩ : ∃ i : Nat, (S.length : Int) - 1 - k = (i : Int) ∧ i = S.length - 1 - k := ⟨S.length - 1 - k, by omega, rfl⟩
      obtain ⟨hi1, hi2⟩ := hi
      obtain ⟨x, hx⟩ := some_at S i (by omega)
      obtain ⟨g, off, rfl, hg, c0, c1, c2, c3, c4, c5⟩ := vit_cells (hI.below (by rw [hw0]; exact hB)) hx
      have HU : Hid (upto S (k + 1) = upto S k ++ [(i, x)]) := by rw [Hid, upto_succ, ← hi2, getD_of hx]
      have HK := hidden (And.intro hi1 hi2)
      obtain ⟨fn, tmps, assign, body, hy, hR⟩ := hY (upto S k) (i, x) wr hJs (by rw [upto_len]; exact hlt)
      unfold encs aV at hy
      dsimp only at hy
      rw [hi1]
      have q0' : (0 : Int) ≤ (i : Int) := by omega
      have q1' : (i : Int) < (S.length : Int) := by omega
      clear hx hi1 hi2 q0 q1
      gi_wp2
      refine hR.mono ?_
      rintro e W3 (⟨rfl, hJ3, hk3⟩ | ⟨rfl, hJx3⟩)
      · gi_wp2
        go_roundw
        case rel => exact ⟨k + 1, by omega, by have := HK.out.1; congr 1; omega, by rw [HU.out]; exact hJ3, hB.trans hk3⟩
        case measure => have := HK.out.1; first | (simp [intOf]; done) | (simp [intOf]; omega)
      · gi_wp2
        refine bodyPost_ret (results_none rfl _ _ _) rfl ?_
        exact ⟨⟨_, rfl⟩, .inr ⟨upto S k ++ [(i, x)], ⟨k, hlt, HU.out.symm⟩, hJx3⟩⟩
    · obtain rfl : k = S.length := by omega
      have q0 : ¬ (0 : Int) ≤ (S.length : Int) - 1 - S.length := by omega
      gi_wp2
      go_end0
      first | exact ⟨⟨_, rfl⟩, .inl ⟨_, rfl, hJs⟩⟩ | exact ⟨⟨_, rfl⟩, .inl hJs⟩

set_option maxRecDepth 20000 in
set_option maxHeartbeats 1000000 in
theorem backward_in (F : Fence) (n : Nat) (hF : ∀ f, F.fn f) (hro : F.round = none) (a : Option Addr) (len cap : Nat) (w : World) :
    CallsIn F n Try.prog 73 #[.slice a len cap] w fun e w' => e = .returned (.func (.func 90) #[] #[.pointer (some ⟨w.heap.size, 0, none⟩)]) ∧ w' = w.alloc (.cells #[.slice a len cap] 44) := by
  refine callsIn_of_wp Try.func73 rfl (hF _) ?_ hro
  simp only [Try.ntmps73, List.size_toArray, List.length_cons, List.length_nil, Nat.reduceAdd, Nat.reduceSub, Array.replicate_succ, Array.replicate_zero, List.push_toArray, List.append_toArray, List.nil_append, List.cons_append]
  gi_wp2
  go_ret
  exact ⟨rfl, rfl⟩

theorem back_stops (F : Fence) (n : Nat) (hF : ∀ f, F.fn f) (hro : F.round = none) (hn : 1 ≤ n) (Bs cap : Nat) (ao : Option Addr) (S : List Vt) (hreach : S.length ≤ 1048576) (w : World) (hBs1 : Bs < w.heap.size)
    (hBs : w.cell? ⟨Bs, 0, none⟩ = some (.slice ao S.length cap)) (hI : Rw 6 csV w (.slice ao S.length cap) S) :
    SeqStopsK F n Try.prog 90 #[.pointer (some ⟨Bs, 0, none⟩)] encs (Below w.heap.size) (fun ys => ys = upto S S.length) (fun pre => ∃ k, k < S.length ∧ pre = upto S (k + 1)) S.length w :=
  fun l J Jx W hW _ _ hY h0 => back1_in F n hF hro hn l Bs w.heap.size cap ao S hreach J Jx hY W w rfl hW hBs1 hBs hI h0

theorem keep_cell {W : World} {a : Addr} {v : Value} (o : Obj) (h : W.cell? a = some v) : (W.alloc o).cell? a = some v := by
  obtain ⟨b, x, s⟩ := a
  have hb := World.block_lt_of_cell? W _ h
  exact (((Below.refl W.heap.size W).alloc (Nat.le_refl _) o).cell (p := ⟨b, x, s⟩) hb).trans h
theorem keeps_below {B : Nat} {W W' : World} (hb : Below W.heap.size W W') : KeepsFrom B W W' := ⟨hb.size, fun k o _ hk _ => (hb.block k (Array.getElem?_eq_some_iff.1 hk).1).trans hk⟩

set_option maxRecDepth 100000 in
set_option maxHeartbeats 4000000 in
theorem lw_in (F : Fence) (n : Nat) (hF : ∀ f, F.fn f) (hro : F.round = none) (hn : 4 ≤ n) (ao : Option Addr) (m cap : Nat) (S : List Vt) (hl2 : S.length ≤ 4096) (w : World) (h : Rw 6 csV w (.slice ao m cap) S)
    (hP : ∀ v W, CallsIn F (n - 1 - 1 - 1) Try.prog 56 #[aV v] W fun e w' => e = .returned (.tuple #[.int .i64 (psum v), .int .i64 (pnone v), .bool (pthree v)]) ∧ Below W.heap.size W w')
    (hV : ∀ v W, CallsIn F (n - 1 - 1 - 1) Try.prog 38 #[aV v] W fun e w' => e = .returned (.bool (vOk v)) ∧ Below W.heap.size W w') :
    CallsIn F n Try.prog 55 #[.slice ao m cap] w fun e W' => (∃ r, e = .returned (.int .i64 r) ∧ LW S r) ∧ Below w.heap.size w W' := by
  have HH := hidden h
  obtain rfl := h.len
  have h1 : 1 ≤ n := by omega
  have HPP := hidden hP
  have HVV := hidden hV
  clear h hP hV
  refine callsIn_of_wp_marks Try.func55 rfl (hF _) ?_ hro
  simp only [Try.ntmps55, List.size_toArray, List.length_cons, List.length_nil, Nat.reduceAdd, Nat.reduceSub, Array.replicate_succ, Array.replicate_zero, List.push_toArray, List.append_toArray, List.nil_append, List.cons_append]
  have b1 : Below w.heap.size w (w.alloc (.cells #[.int .i64 0] 3)) := (Below.refl _ w).alloc (Nat.le_refl _) _
  have r4 : (w.alloc (.cells #[.int .i64 0] 3)).cell? ⟨w.heap.size, 0, none⟩ = some (.int .i64 0) := by simp
  have r5 : (w.alloc (.cells #[.int .i64 0] 3)).frozen? ⟨w.heap.size, 0, none⟩ = false := by simp
  have y1 : w.heap.size < (w.alloc (.cells #[.int .i64 0] 3)).heap.size := by simp
  have HRW := hidden (HH.out.below b1)
  generalize hw1 : w.alloc (.cells #[.int .i64 0] 3) = w1 at *
  gi_wp2_with (gi_at_call 73; refine (backward_in F (n - 1) hF hro _ _ _ _).mono ?_; rintro e w' ⟨rfl, rfl⟩)
  clear hw1
  have hbN : Below w1.heap.size w1 (w1.alloc (.cells #[.slice ao S.length cap] 44)) := (Below.refl _ _).alloc (Nat.le_refl _) _
  refine wpIn_rangeFunc_ownH hro h1 (gf := 90) (lb := #[.pointer (some ⟨w1.heap.size, 0, none⟩)]) rfl (hF _) (enters_of Try.func90 (by kernel_rfl) rfl)
    (back_stops F (n - 1) hF hro (by omega) w1.heap.size cap ao S (by omega) (w1.alloc (.cells #[.slice ao S.length cap] 44)) (by simp) (by simp) (HRW.out.below hbN)) belowK_t (belowK_b (Nat.le_refl _)) (Below.refl _ _) (fun _ => rfl)
    (fun pre W => (w1.heap.size + 1 ≤ W.heap.size ∧ W.cell? ⟨w.heap.size, 0, none⟩ = some (.int .i64 0) ∧ W.frozen? ⟨w.heap.size, 0, none⟩ = false) ∧ (Hid (noneW pre) ∧ Below w.heap.size w W))
    (fun c q W => (c = .ret ∧ ∃ pre x, q = pre ++ [x] ∧ noneW pre ∧ whole x.2 = true ∧ W.cell? ⟨w.heap.size, 0, none⟩ = some (.int .i64 x.1)) ∧ Below w.heap.size w W)
    (OwnFrom.and (Own.from (fun s A C row hs hg hr => ⟨Nat.le_trans hs.1 hg.size, cell_kept hs.2.1 hg hr, (frozen_kept hs.2.1 hg hr).trans hs.2.2⟩) _) (OwnFrom.and (ownFrom_pure _ _) (ownFrom_below (Nat.le_refl _) (by simp; omega))))
    (fun c => OwnFrom.and (Own.from (fun s A C row hs hg hr => by obtain ⟨h1, pre, x, h2, h3, h4, h5⟩ := hs; exact ⟨h1, pre, x, h2, h3, h4, cell_kept h5 hg hr⟩) _) (ownFrom_below (Nat.le_refl _) (by simp; omega)))
    ⟨⟨by simp, (old_cell (by omega) _ _).trans r4, (hbN.frozen (p := ⟨w.heap.size, 0, none⟩) y1).trans r5⟩, ⟨(fun x hx => absurd hx (List.not_mem_nil)), b1.alloc b1.size _⟩⟩
    (fun x a' W => ∃ Bx, (W.cell? ⟨Bx, 0, none⟩ = some (.int .i64 x.2.b) ∧ W.cell? ⟨Bx, 1, none⟩ = some (.int .i64 x.2.o) ∧ W.cell? ⟨Bx, 2, none⟩ = some (.int .i64 x.2.p) ∧ W.cell? ⟨Bx, 3, none⟩ = some (.int .i64 x.2.u) ∧ W.cell? ⟨Bx, 4, none⟩ = some (.int .i64 x.2.a) ∧ W.cell? ⟨Bx, 5, none⟩ = some (.int .i64 x.2.h)) ∧ a' = { tmps := #[.slice ao S.length cap, undef, .pointer (some ⟨w.heap.size, 0, none⟩), .int .i64 x.1, .pointer (some ⟨Bx, 0, none⟩), undef, undef, undef, .slice ao S.length cap, .func (.func 90) #[] #[.pointer (some ⟨w1.heap.size, 0, none⟩)], .int .i64 x.1, .agg #[.int .i64 x.2.b, .int .i64 x.2.o, .int .i64 x.2.p, .int .i64 x.2.u, .int .i64 x.2.a, .int .i64 x.2.h], undef, undef, undef, undef, undef, undef, undef, undef, undef, undef, undef, undef, undef], defers := [] })
    (fun x a' => Own.from (fun s A C row hs hg hr => by obtain ⟨Bx, ⟨h1, h2, h3, h4, h5, h6⟩, h7⟩ := hs; exact ⟨Bx, ⟨cell_kept h1 hg hr, cell_kept h2 hg hr, cell_kept h3 hg hr, cell_kept h4 hg hr, cell_kept h5 hg hr, cell_kept h6 hg hr⟩, h7⟩) _)
    ?assign ?body ?done ?stop
  case assign =>
    rintro l pre x W K ⟨⟨i0, i3, i4⟩, i5, i6⟩ hK
    have hl3 := World.block_lt_of_cell? W _ i3
    unfold encs aV
    gi_wp2
    exact hK _ _ ((KeepsOthers.alloc _ _).from _) ((Below.refl _ W).alloc (by simp; omega) _) ⟨⟨by simp; omega, keep_cell _ i3, ((Below.refl W.heap.size W).alloc (Nat.le_refl _) _).frozen (p := ⟨w.heap.size, 0, none⟩) hl3 |>.trans i4⟩, i5, i6.alloc i6.size _⟩ ⟨W.heap.size, ⟨by simp, by simp, by simp, by simp, by simp, by simp⟩, rfl⟩
  case body =>
    rintro l pre x a' W hl ⟨r, hr⟩ ⟨⟨i0, i3, i4⟩, i5, i6⟩ ⟨Bx, ⟨x0, x1, x2, x3, x4, x5⟩, rfl⟩ hlen
    have HSN : Hid (whole x.2 = false → noneW (pre ++ [x])) := fun q y hy => by
      rcases List.mem_append.1 hy with h | h
      · exact i5.out y h
      · rw [List.mem_singleton.1 h]; exact q
    have hl3 := World.block_lt_of_cell? W _ i3
    have hl4 := World.block_lt_of_cell? W _ x0
    have h2n : 1 ≤ n - 1 - 1 := by omega
    have h3n : 1 ≤ n - 1 - 1 - 1 := by omega
    have hPx := HPP.out x.2
    have hVx := HVV.out x.2
    have HW := hidden (show whole x.2 = (vOk x.2 && decide (pnone x.2 = 0)) from rfl)
    unfold aV at hPx hVx
    clear hr hl
    generalize psum x.2 = ps at *
    generalize pnone x.2 = pn at *
    generalize pthree x.2 = p3 at *
    generalize vOk x.2 = vo at *
    rcases vo with _ | _
    · gi_wp2_with (first | (gi_at_call 56; refine (CallsIn.inRound l (hPx _)).mono ?_; rintro e w5 ⟨rfl, hb1⟩; have d0 := ((bcell hb1).1 Bx 0 hl4).trans x0; have d1 := ((bcell hb1).1 Bx 1 hl4).trans x1; have d2 := ((bcell hb1).1 Bx 2 hl4).trans x2; have d3 := ((bcell hb1).1 Bx 3 hl4).trans x3; have d4 := ((bcell hb1).1 Bx 4 hl4).trans x4; have d5 := ((bcell hb1).1 Bx 5 hl4).trans x5; have k1 := ((bcell hb1).1 w.heap.size 0 hl3).trans i3; have k2 := ((bcell hb1).2 w.heap.size 0 hl3).trans i4; have z5 := hb1.size) | (gi_at_call 38; refine (CallsIn.inRound l (hVx _)).mono ?_; rintro e w6 ⟨rfl, hb2⟩; have m1 := ((bcell hb2).1 w.heap.size 0 (Nat.lt_of_lt_of_le hl3 z5)).trans k1; have m2 := ((bcell hb2).2 w.heap.size 0 (Nat.lt_of_lt_of_le hl3 z5)).trans k2; have z6 := hb2.size; have bB := onto hb1 hb2))
      exact ⟨keeps_below bB, bB.mono (by simp; omega), ⟨⟨by omega, m1, m2⟩, HSN.out (by rw [HW.out]; first | rfl | simp [hz]), onto i6 bB⟩⟩
    · by_cases hz : pn = 0
      · subst hz
        gi_wp2_with (first | (gi_at_call 56; refine (CallsIn.inRound l (hPx _)).mono ?_; rintro e w5 ⟨rfl, hb1⟩; have d0 := ((bcell hb1).1 Bx 0 hl4).trans x0; have d1 := ((bcell hb1).1 Bx 1 hl4).trans x1; have d2 := ((bcell hb1).1 Bx 2 hl4).trans x2; have d3 := ((bcell hb1).1 Bx 3 hl4).trans x3; have d4 := ((bcell hb1).1 Bx 4 hl4).trans x4; have d5 := ((bcell hb1).1 Bx 5 hl4).trans x5; have k1 := ((bcell hb1).1 w.heap.size 0 hl3).trans i3; have k2 := ((bcell hb1).2 w.heap.size 0 hl3).trans i4; have z5 := hb1.size) | (gi_at_call 38; refine (CallsIn.inRound l (hVx _)).mono ?_; rintro e w6 ⟨rfl, hb2⟩; have m1 := ((bcell hb2).1 w.heap.size 0 (Nat.lt_of_lt_of_le hl3 z5)).trans k1; have m2 := ((bcell hb2).2 w.heap.size 0 (Nat.lt_of_lt_of_le hl3 z5)).trans k2; have z6 := hb2.size; have bB := onto hb1 hb2))
        exact ⟨(keeps_below bB).trans ((KeepsOthers.setCell _ _ _).from _), ⟨rfl, pre, x, rfl, i5.out, by rw [HW.out]; rfl, by simp [go_sem, m1]⟩, (onto i6 bB).setCell (p := ⟨w.heap.size, 0, none⟩) (Nat.le_refl _) _⟩
      · have hz2 : (pn == 0) = false := by simpa using hz
        gi_wp2_with (first | (gi_at_call 56; refine (CallsIn.inRound l (hPx _)).mono ?_; rintro e w5 ⟨rfl, hb1⟩; have d0 := ((bcell hb1).1 Bx 0 hl4).trans x0; have d1 := ((bcell hb1).1 Bx 1 hl4).trans x1; have d2 := ((bcell hb1).1 Bx 2 hl4).trans x2; have d3 := ((bcell hb1).1 Bx 3 hl4).trans x3; have d4 := ((bcell hb1).1 Bx 4 hl4).trans x4; have d5 := ((bcell hb1).1 Bx 5 hl4).trans x5; have k1 := ((bcell hb1).1 w.heap.size 0 hl3).trans i3; have k2 := ((bcell hb1).2 w.heap.size 0 hl3).trans i4; have z5 := hb1.size) | (gi_at_call 38; refine (CallsIn.inRound l (hVx _)).mono ?_; rintro e w6 ⟨rfl, hb2⟩; have m1 := ((bcell hb2).1 w.heap.size 0 (Nat.lt_of_lt_of_le hl3 z5)).trans k1; have m2 := ((bcell hb2).2 w.heap.size 0 (Nat.lt_of_lt_of_le hl3 z5)).trans k2; have z6 := hb2.size; have bB := onto hb1 hb2))
        exact ⟨keeps_below bB, bB.mono (by simp; omega), ⟨⟨by omega, m1, m2⟩, HSN.out (by rw [HW.out]; first | rfl | simp [hz]), onto i6 bB⟩⟩
  case done =>
    rintro D ys W hD rfl ⟨⟨i0, i3, i4⟩, i5, i6⟩ hK
    have HRES : Hid (LW S (-1)) := lw_none i5.out
    gi_wp2
    have hK' := (KeepsOthers.setCell W ⟨w.heap.size, 0, none⟩ (.int .i64 (-1))).same D _ hK rfl
    refine ⟨by simp, .inl ⟨_, _, rfl, run_takeDeferred hK', ?_⟩⟩
    have hc9 : (W.setCell ⟨w.heap.size, 0, none⟩ (.int .i64 (-1))).cell? ⟨w.heap.size, 0, none⟩ = some (.int .i64 (-1)) := World.cell?_setCell_same _ _ _ i3
    have hc10 := cell_kept hc9 (grownBy_putObj' _ D (.deferred none)) (fun r e => by cases e; exact ⟨_, hK', rfl⟩)
    have hB9 : Below w.heap.size w (W.setCell ⟨w.heap.size, 0, none⟩ (.int .i64 (-1))) := i6.setCell (p := ⟨w.heap.size, 0, none⟩) (by first | omega | (simp; done) | (simp; omega)) _
    exact ⟨.int .i64 (-1), by simp [results, Try.results55, go_sem, hc10], ⟨-1, rfl, HRES.out⟩, hB9.trans (belowK_b (w := w) (Nat.le_refl _) _ D _ _ (by simp at hD; omega) hK' rfl rfl)⟩
  case stop =>
    rintro D c q W hD ⟨k, hk, rfl⟩ ⟨⟨rfl, pre, x, h2, h3, h4, h5⟩, h6⟩ hK
    have HRES : Hid (LW S (x.1 : Int)) := by
      rw [upto_succ] at h2
      obtain ⟨e1, e2⟩ := List.append_inj' h2 rfl
      have e3 : x = (S.length - 1 - k, S.getD (S.length - 1 - k) default) := (List.singleton_inj.1 e2).symm
      subst e1
      rw [e3] at h4 ⊢
      exact lw_hit hk h3 h4
    gi_wp2
    refine ⟨by simp, .inl ⟨_, _, rfl, run_takeDeferred hK, ?_⟩⟩
    have hc10 := cell_kept h5 (grownBy_putObj' _ D (.deferred none)) (fun r e => by cases e; exact ⟨_, hK, rfl⟩)
    exact ⟨.int .i64 x.1, by simp [results, Try.results55, go_sem, hc10], ⟨x.1, rfl, HRES.out⟩, h6.trans (belowK_b (w := w) (Nat.le_refl _) _ D _ _ (by simp at hD; omega) hK rfl rfl)⟩

theorem lw_any (ao : Option Addr) (m cap : Nat) (S : List Vt) (hl2 : S.length ≤ 4096) (w : World) (h : Rw 6 csV w (.slice ao m cap) S) :
    Calls Try.prog 55 #[.slice ao m cap] w fun e W' => (∃ r, e = .returned (.int .i64 r) ∧ LW S r) ∧ Below w.heap.size w W' :=
  (callsIn_wide (n := 4)).1 (lw_in Fence.wide 4 (fun _ => trivial) rfl (by omega) ao m cap S hl2 w h (fun v W => callsIn_wide.2 (ipts_any v W)) (fun v W => callsIn_wide.2 (ivok_any v W)))
end Go.Proofs.Ytmigcbbjejbcgan
