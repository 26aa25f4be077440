/-
  Vital signs drawn of bytes.
-/
import Derived.Test.YtmigcbbjejbcgabDv
namespace Go.Proofs.Ytmigcbbjejbcgab
open Go.RowKit Va
set_option linter.unusedVariables false

theorem row_cells {W : World} {R : Nat} {cs : Array Value} {t : TypeId} (h : W.heap[R]? = some (.cells cs t (0, 0))) (j : Nat) : W.cell? ⟨R, j, none⟩ = cs[j]? ∧ W.frozen? ⟨R, j, none⟩ = false := by
  constructor
  · simp only [World.cell?, h]; rfl
  · simp only [World.frozen?, h]; simp
theorem keep_row {W W' : World} {R : Nat} {o : Obj} (h : W.heap[R]? = some o) (hb : Below W.heap.size W W') : W'.heap[R]? = some o := (hb.block R (Array.getElem?_eq_some_iff.1 h).1).trans h

set_option maxRecDepth 20000 in
set_option maxHeartbeats 4000000 in
theorem dvo_any (ao : Option Addr) (cap : Nat) (bs : List Int) (w : World) (hb : Bytes w w.heap.size ao bs) (hl : bs.length ≤ 1048576) :
    Calls Try.prog 54 #[.slice ao bs.length cap] w fun e w' => ∃ x : Vt, e = .returned (aV x) ∧ Below w.heap.size w w' := by
  have bA : Below w.heap.size w (w.alloc (.cells #[.int .i64 0, .int .i64 0, .int .i64 0, .int .i64 0, .int .i64 0, .int .i64 0] 49)) := (Below.refl _ _).alloc (Nat.le_refl _) _
  have hbA : Bytes (w.alloc (.cells #[.int .i64 0, .int .i64 0, .int .i64 0, .int .i64 0, .int .i64 0, .int .i64 0] 49)) w.heap.size ao bs := hb.below bA
  have hrA : (w.alloc (.cells #[.int .i64 0, .int .i64 0, .int .i64 0, .int .i64 0, .int .i64 0, .int .i64 0] 49)).heap[w.heap.size]? = some (.cells #[.int .i64 0, .int .i64 0, .int .i64 0, .int .i64 0, .int .i64 0, .int .i64 0] 49 (0, 0)) := heap_alloc_new _ _
  have zA := hidden (show (w.alloc (.cells #[.int .i64 0, .int .i64 0, .int .i64 0, .int .i64 0, .int .i64 0, .int .i64 0] 49)).heap.size = w.heap.size + 1 by simp)
  go_enter Try.func54, Try.ntmps54
  generalize hwA : w.alloc (.cells #[.int .i64 0, .int .i64 0, .int .i64 0, .int .i64 0, .int .i64 0, .int .i64 0] 49) = wA at *
  have hbB : Bytes wA wA.heap.size ao bs := by
    refine ⟨hbA.1, ?_⟩
    rcases hbA.2 with q | ⟨b, off, q1, q2, q3⟩
    · exact Or.inl q
    · exact Or.inr ⟨b, off, q1, by have := zA.out; omega, q3⟩
  go_wp2_with fail
  refine (new_any ao cap bs _ hbB hl).mono ?_
  rintro e w1 ⟨rfl, hc1, hb1⟩
  go_wp2_with fail
  refine (dvital_any _ ao cap bs _ hc1).mono ?_
  rintro e w2 ⟨x, rfl, hc2, hk2⟩
  have b2 : Below wA.heap.size wA w2 := hb1.trans (hk2.below (Nat.le_refl _) hb1.size)
  have b3 : Below w.heap.size w w2 := bA.trans (b2.mono (by have := zA.out; omega))
  have hr2 := keep_row hrA b2
  obtain ⟨r0, s0⟩ := row_cells hr2 0
  replace r0 : w2.cell? ⟨w.heap.size, 0, none⟩ = some (.int .i64 0) := r0
  obtain ⟨r1, s1⟩ := row_cells hr2 1
  replace r1 : w2.cell? ⟨w.heap.size, 1, none⟩ = some (.int .i64 0) := r1
  obtain ⟨r2, s2⟩ := row_cells hr2 2
  replace r2 : w2.cell? ⟨w.heap.size, 2, none⟩ = some (.int .i64 0) := r2
  obtain ⟨r3, s3⟩ := row_cells hr2 3
  replace r3 : w2.cell? ⟨w.heap.size, 3, none⟩ = some (.int .i64 0) := r3
  obtain ⟨r4, s4⟩ := row_cells hr2 4
  replace r4 : w2.cell? ⟨w.heap.size, 4, none⟩ = some (.int .i64 0) := r4
  obtain ⟨r5, s5⟩ := row_cells hr2 5
  replace r5 : w2.cell? ⟨w.heap.size, 5, none⟩ = some (.int .i64 0) := r5
  have hT1 := setRow_heap _ _ _ #[.int .i64 x.b, .int .i64 x.o, .int .i64 x.p, .int .i64 x.u, .int .i64 x.a, .int .i64 x.h] _ _ hr2
  have hT2 : Below w.heap.size w (w2.setRow w.heap.size #[.int .i64 x.b, .int .i64 x.o, .int .i64 x.p, .int .i64 x.u, .int .i64 x.a, .int .i64 x.h]) := b3.trans ⟨rfl, rfl, rfl, by simp, fun k hk => setRow_other _ _ _ _ (by omega)⟩
  rw [← six_sets hr2] at hT1 hT2
  clear hwA hbA hbB hc1 hb1 hc2 hk2 hr2 hrA
  unfold aV
  go_wp2_with fail
  exact bodyPost_ret (v := aV x) (results_cell_row Try.results54 _ _ w.heap.size 49 _ (0, 0) _ rfl hT1 Try.underlying49 rfl (by kernel_rfl)) rfl ⟨x, rfl, hT2⟩

set_option maxRecDepth 20000 in
set_option maxHeartbeats 4000000 in
theorem dpts_any (ao : Option Addr) (cap : Nat) (bs : List Int) (w : World) (hb : Bytes w w.heap.size ao bs) (hl : bs.length ≤ 1048576) :
    Calls Try.prog 22 #[.slice ao bs.length cap] w fun e w' => ∃ x : Vt, e = .returned (aV x) ∧ Below w.heap.size w w' := by
  have bA : Below w.heap.size w (w.alloc (.cells #[.int .i64 0, .int .i64 0, .int .i64 0, .int .i64 0, .int .i64 0, .int .i64 0] 49)) := (Below.refl _ _).alloc (Nat.le_refl _) _
  have hbA : Bytes (w.alloc (.cells #[.int .i64 0, .int .i64 0, .int .i64 0, .int .i64 0, .int .i64 0, .int .i64 0] 49)) w.heap.size ao bs := hb.below bA
  have hrA : (w.alloc (.cells #[.int .i64 0, .int .i64 0, .int .i64 0, .int .i64 0, .int .i64 0, .int .i64 0] 49)).heap[w.heap.size]? = some (.cells #[.int .i64 0, .int .i64 0, .int .i64 0, .int .i64 0, .int .i64 0, .int .i64 0] 49 (0, 0)) := heap_alloc_new _ _
  have zA := hidden (show (w.alloc (.cells #[.int .i64 0, .int .i64 0, .int .i64 0, .int .i64 0, .int .i64 0, .int .i64 0] 49)).heap.size = w.heap.size + 1 by simp)
  go_enter Try.func22, Try.ntmps22
  generalize hwA : w.alloc (.cells #[.int .i64 0, .int .i64 0, .int .i64 0, .int .i64 0, .int .i64 0, .int .i64 0] 49) = wA at *
  have hbB : Bytes wA wA.heap.size ao bs := by
    refine ⟨hbA.1, ?_⟩
    rcases hbA.2 with q | ⟨b, off, q1, q2, q3⟩
    · exact Or.inl q
    · exact Or.inr ⟨b, off, q1, by have := zA.out; omega, q3⟩
  go_wp2_with fail
  refine (dvo_any ao cap bs _ hbB hl).mono ?_
  rintro e w2 ⟨x, rfl, b2⟩
  have b3 : Below w.heap.size w w2 := bA.trans (b2.mono (by have := zA.out; omega))
  have hr2 := keep_row hrA b2
  obtain ⟨r0, s0⟩ := row_cells hr2 0
  replace r0 : w2.cell? ⟨w.heap.size, 0, none⟩ = some (.int .i64 0) := r0
  obtain ⟨r1, s1⟩ := row_cells hr2 1
  replace r1 : w2.cell? ⟨w.heap.size, 1, none⟩ = some (.int .i64 0) := r1
  obtain ⟨r2, s2⟩ := row_cells hr2 2
  replace r2 : w2.cell? ⟨w.heap.size, 2, none⟩ = some (.int .i64 0) := r2
  obtain ⟨r3, s3⟩ := row_cells hr2 3
  replace r3 : w2.cell? ⟨w.heap.size, 3, none⟩ = some (.int .i64 0) := r3
  obtain ⟨r4, s4⟩ := row_cells hr2 4
  replace r4 : w2.cell? ⟨w.heap.size, 4, none⟩ = some (.int .i64 0) := r4
  obtain ⟨r5, s5⟩ := row_cells hr2 5
  replace r5 : w2.cell? ⟨w.heap.size, 5, none⟩ = some (.int .i64 0) := r5
  have hT1 := setRow_heap _ _ _ #[.int .i64 x.b, .int .i64 x.o, .int .i64 x.p, .int .i64 x.u, .int .i64 x.a, .int .i64 x.h] _ _ hr2
  have hT2 : Below w.heap.size w (w2.setRow w.heap.size #[.int .i64 x.b, .int .i64 x.o, .int .i64 x.p, .int .i64 x.u, .int .i64 x.a, .int .i64 x.h]) := b3.trans ⟨rfl, rfl, rfl, by simp, fun k hk => setRow_other _ _ _ _ (by omega)⟩
  rw [← six_sets hr2] at hT1 hT2
  clear hwA hbA hbB hr2 hrA
  unfold aV
  go_wp2_with fail
  exact bodyPost_ret (v := aV x) (results_cell_row Try.results22 _ _ w.heap.size 49 _ (0, 0) _ rfl hT1 Try.underlying49 rfl (by kernel_rfl)) rfl ⟨x, rfl, hT2⟩

end Go.Proofs.Ytmigcbbjejbcgab
