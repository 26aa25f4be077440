/-
  A vital and a time drawn of bytes.
-/
import Derived.Test.YtmigcbbjejbcgaiDv
import Derived.Laws.ResultCell
namespace Go.Proofs.Ytmigcbbjejbcgai
open Go.RowKit Va
set_option linter.unusedVariables false

theorem row_cells {W : World} {R : Nat} {cs : Array Value} {t : TypeId} (h : W.heap[R]? = some (.cells cs t (0, 0))) (j : Nat) : W.cell? ⟨R, j, none⟩ = cs[j]? ∧ W.frozen? ⟨R, j, none⟩ = false := by
  constructor
  · simp only [World.cell?, h]; rfl
  · simp only [World.frozen?, h]; simp
theorem keep_row {W W' : World} {R : Nat} {o : Obj} (h : W.heap[R]? = some o) (hb : Below W.heap.size W W') : W'.heap[R]? = some o := (hb.block R (Array.getElem?_eq_some_iff.1 h).1).trans h

set_option maxRecDepth 20000 in
set_option maxHeartbeats 4000000 in
theorem dnl_any (ao : Option Addr) (cap : Nat) (bs : List Int) (w : World) (hb : Bytes w w.heap.size ao bs) (hl : bs.length ≤ 1048576) :
    Calls Try.prog 6 #[.slice ao bs.length cap] w fun e w' => ∃ (x : Vt) (t : Int), e = .returned (.tuple #[aV x, .int .i64 t]) ∧ Below w.heap.size w w' := by
  have bA : Below w.heap.size w (w.alloc (.cells #[.int .i64 0, .int .i64 0, .int .i64 0, .int .i64 0, .int .i64 0, .int .i64 0] 25)) := (Below.refl _ _).alloc (Nat.le_refl _) _
  have hbA : Bytes (w.alloc (.cells #[.int .i64 0, .int .i64 0, .int .i64 0, .int .i64 0, .int .i64 0, .int .i64 0] 25)) w.heap.size ao bs := hb.below bA
  have hrA : (w.alloc (.cells #[.int .i64 0, .int .i64 0, .int .i64 0, .int .i64 0, .int .i64 0, .int .i64 0] 25)).heap[w.heap.size]? = some (.cells #[.int .i64 0, .int .i64 0, .int .i64 0, .int .i64 0, .int .i64 0, .int .i64 0] 25 (0, 0)) := heap_alloc_new _ _
  have zA := hidden (show (w.alloc (.cells #[.int .i64 0, .int .i64 0, .int .i64 0, .int .i64 0, .int .i64 0, .int .i64 0] 25)).heap.size = w.heap.size + 1 by simp)
  go_enter Try.func6, Try.ntmps6
  generalize hwA : w.alloc (.cells #[.int .i64 0, .int .i64 0, .int .i64 0, .int .i64 0, .int .i64 0, .int .i64 0] 25) = wA at *
  have hbB : Bytes wA wA.heap.size ao bs := by
    refine ⟨hbA.1, ?_⟩
    rcases hbA.2 with q | ⟨b, off, q1, q2, q3⟩
    · exact Or.inl q
    · exact Or.inr ⟨b, off, q1, by have := zA.out; omega, q3⟩
  go_wp2_with fail
  refine (new_any ao cap bs _ hbB hl).mono ?_
  rintro e w1 ⟨rfl, hc1, hb1⟩
  have hgR : w.heap.size < wA.heap.size := by have := zA.out; omega
  have hr1 := keep_row hrA hb1
  go_wp2_with fail
  refine (dvital_any _ ao cap bs _ hc1).mono ?_
  rintro e w2 ⟨x, rfl, hc2, hk2⟩
  have k2 : Below w.heap.size w w2 := bA.trans ((hb1.trans (hk2.below (Nat.le_refl _) hb1.size)).mono (by omega))
  have hr2 := (hk2.block w.heap.size (Array.getElem?_eq_some_iff.1 hr1).1 (by omega)).trans hr1
  generalize hg : wA.heap.size = g at *
  have hgl := hc2.1
  have hcA : Cur (w2.alloc (.cells #[.int .i64 x.b, .int .i64 x.o, .int .i64 x.p, .int .i64 x.u, .int .i64 x.a, .int .i64 x.h] 25)) g ao cap bs := hc2.below ((Below.refl _ _).alloc hgl _)
  have hvA : (w2.alloc (.cells #[.int .i64 x.b, .int .i64 x.o, .int .i64 x.p, .int .i64 x.u, .int .i64 x.a, .int .i64 x.h] 25)).heap[w2.heap.size]? = some (.cells #[.int .i64 x.b, .int .i64 x.o, .int .i64 x.p, .int .i64 x.u, .int .i64 x.a, .int .i64 x.h] 25 (0, 0)) := heap_alloc_new _ _
  have hr3 : (w2.alloc (.cells #[.int .i64 x.b, .int .i64 x.o, .int .i64 x.p, .int .i64 x.u, .int .i64 x.a, .int .i64 x.h] 25)).heap[w.heap.size]? = some (.cells #[.int .i64 0, .int .i64 0, .int .i64 0, .int .i64 0, .int .i64 0, .int .i64 0] 25 (0, 0)) := keep_row hr2 ((Below.refl _ _).alloc (Nat.le_refl _) _)
  have k3 : Below w.heap.size w (w2.alloc (.cells #[.int .i64 x.b, .int .i64 x.o, .int .i64 x.p, .int .i64 x.u, .int .i64 x.a, .int .i64 x.h] 25)) := k2.alloc k2.size _
  have y2 := k2.size
  have y3 := (Array.getElem?_eq_some_iff.1 hr2).1
  clear hwA hbA hbB hc1 hb1 hk2 hr1 hrA k2 hc2
  unfold aV
  go_wp2_with fail
  refine (below_any g ao cap bs 5000 _ hcA (by omega)).mono ?_
  rintro e w4 ⟨t0, rfl, ht0, ht1, hc4, hk4⟩
  have hv4 := (hk4.block w2.heap.size (by simp) (by omega)).trans hvA
  have hr4 := (hk4.block w.heap.size (Array.getElem?_eq_some_iff.1 hr3).1 (by omega)).trans hr3
  have k4 : Below w.heap.size w w4 := k3.trans (hk4.below (by omega) k3.size)
  clear hk4 hcA hvA hr3 k3
  generalize hVV : w2.heap.size = V at *
  go_upto_if 14 with (go_at_call 16; refine (once_any g ao cap bs 12 _ hc4 (by omega)).mono ?_; rintro e w5 ⟨t5, rfl, hc5, hk5⟩)
  have hv5 := (hk5.block V (Array.getElem?_eq_some_iff.1 hv4).1 (by omega)).trans hv4
  have hr5 := (hk5.block w.heap.size (Array.getElem?_eq_some_iff.1 hr4).1 (by omega)).trans hr4
  have k5 : Below w.heap.size w w5 := k4.trans (hk5.below (by omega) k4.size)
  clear hk5 hc4 hv4 hr4 k4
  go_cut [6] (fun tv wx => ∃ t : Int, tv = .int .i64 t ∧ wx.heap[V]? = some (.cells #[.int .i64 x.b, .int .i64 x.o, .int .i64 x.p, .int .i64 x.u, .int .i64 x.a, .int .i64 x.h] 25 (0, 0)) ∧ wx.heap[w.heap.size]? = some (.cells #[.int .i64 0, .int .i64 0, .int .i64 0, .int .i64 0, .int .i64 0, .int .i64 0] 25 (0, 0)) ∧ Below w.heap.size w wx)
  case first =>
    rcases t5 with _ | _
    · go_wp2_with fail
      go_meet
      case rel => exact ⟨t0, rfl, hv5, hr5, k5⟩
    · have hg5 := hc5.1
      have hcB := hc5.below ((Below.refl (g + 1) w5).alloc hg5 (.cells #[.int .i64 (-1), .int .i64 10000000, .int .i64 10000001, .int .i64 9999970, .int .i64 9999940] 2))
      have hvB := keep_row hv5 ((Below.refl _ w5).alloc (Nat.le_refl _) (.cells #[.int .i64 (-1), .int .i64 10000000, .int .i64 10000001, .int .i64 9999970, .int .i64 9999940] 2))
      have hrB := keep_row hr5 ((Below.refl _ w5).alloc (Nat.le_refl _) (.cells #[.int .i64 (-1), .int .i64 10000000, .int .i64 10000001, .int .i64 9999970, .int .i64 9999940] 2))
      have kB := k5.alloc k5.size (.cells #[.int .i64 (-1), .int .i64 10000000, .int .i64 10000001, .int .i64 9999970, .int .i64 9999940] 2)
      go_wp2_with fail
      refine (below_any g ao cap bs 5 _ hcB (by omega)).mono ?_
      rintro e w6 ⟨y, rfl, hy0, hy1, hc6, hk6⟩
      obtain ⟨k, rfl⟩ := Int.eq_ofNat_of_zero_le hy0
      have hk8 : k < 5 := by omega
      obtain ⟨q, hq⟩ := tab_at [-1, 10000000, 10000001, 9999970, 9999940] w5 w6 g _ hk6 hg5 k hk8
      have hv6 := (hk6.block V (Array.getElem?_eq_some_iff.1 hvB).1 (by omega)).trans hvB
      have hr6 := (hk6.block w.heap.size (Array.getElem?_eq_some_iff.1 hrB).1 (by omega)).trans hrB
      have k6 : Below w.heap.size w w6 := kB.trans (hk6.below (by omega) kB.size)
      clear hk6 hcB hvB hrB kB
      go_wp2_with fail
      go_meet
      case rel => exact ⟨q, rfl, hv6, hr6, k6⟩
  case rest =>
    obtain ⟨t, rfl, hv, hr, kk⟩ := hcut
    obtain ⟨r0, s0⟩ := row_cells hr 0
    replace r0 : wc.cell? ⟨w.heap.size, 0, none⟩ = some (.int .i64 0) := r0
    obtain ⟨v0, -⟩ := row_cells hv 0
    replace v0 : wc.cell? ⟨V, 0, none⟩ = some (.int .i64 x.b) := v0
    obtain ⟨r1, s1⟩ := row_cells hr 1
    replace r1 : wc.cell? ⟨w.heap.size, 1, none⟩ = some (.int .i64 0) := r1
    obtain ⟨v1, -⟩ := row_cells hv 1
    replace v1 : wc.cell? ⟨V, 1, none⟩ = some (.int .i64 x.o) := v1
    obtain ⟨r2, s2⟩ := row_cells hr 2
    replace r2 : wc.cell? ⟨w.heap.size, 2, none⟩ = some (.int .i64 0) := r2
    obtain ⟨v2, -⟩ := row_cells hv 2
    replace v2 : wc.cell? ⟨V, 2, none⟩ = some (.int .i64 x.p) := v2
    obtain ⟨r3, s3⟩ := row_cells hr 3
    replace r3 : wc.cell? ⟨w.heap.size, 3, none⟩ = some (.int .i64 0) := r3
    obtain ⟨v3, -⟩ := row_cells hv 3
    replace v3 : wc.cell? ⟨V, 3, none⟩ = some (.int .i64 x.u) := v3
    obtain ⟨r4, s4⟩ := row_cells hr 4
    replace r4 : wc.cell? ⟨w.heap.size, 4, none⟩ = some (.int .i64 0) := r4
    obtain ⟨v4, -⟩ := row_cells hv 4
    replace v4 : wc.cell? ⟨V, 4, none⟩ = some (.int .i64 x.a) := v4
    obtain ⟨r5, s5⟩ := row_cells hr 5
    replace r5 : wc.cell? ⟨w.heap.size, 5, none⟩ = some (.int .i64 0) := r5
    obtain ⟨v5, -⟩ := row_cells hv 5
    replace v5 : wc.cell? ⟨V, 5, none⟩ = some (.int .i64 x.h) := v5
    have hT1 := setRow_heap _ _ _ #[.int .i64 x.b, .int .i64 x.o, .int .i64 x.p, .int .i64 x.u, .int .i64 x.a, .int .i64 x.h] _ _ hr
    have hT2 : Below w.heap.size w (wc.setRow w.heap.size #[.int .i64 x.b, .int .i64 x.o, .int .i64 x.p, .int .i64 x.u, .int .i64 x.a, .int .i64 x.h]) := kk.trans ⟨rfl, rfl, rfl, by simp, fun k hk => setRow_other _ _ _ _ (by omega)⟩
    rw [← six_sets hr] at hT1 hT2
    clear hv5 hr5 k5 hv hr kk
    go_wp2_with fail
    refine bodyPost_ret (v := .tuple #[aV x, .int .i64 t]) ?_ rfl ⟨x, t, rfl, hT2⟩
    have hL := run_loadVar_row (P := Try.prog) _ w.heap.size 25 25 _ (0, 0) _ hT1 Try.underlying25 rfl (by kernel_rfl)
    simp [results, Try.results6, asAddr, hL, aV]
end Go.Proofs.Ytmigcbbjejbcgai
