/-
  TimesAmount: of the program and of the specification.
-/
import Derived.Test.YtiopmlepdjiapaaSMk
import Derived.Deep.RegionHeld3
namespace Go.Proofs.Ytiopmlepdjiapaa
open Go.RowKit Am

/-- Three cells of one block below what a callee made: as they were. -/
theorem keep3 {V w' : World} {b : Nat} {x y z : Value} (hb : Below V.heap.size V w') (hlt : b < V.heap.size)
    (h : V.cell? ⟨b, 0, none⟩ = some x ∧ V.cell? ⟨b, 1, none⟩ = some y ∧ V.cell? ⟨b, 2, none⟩ = some z) :
    w'.cell? ⟨b, 0, none⟩ = some x ∧ w'.cell? ⟨b, 1, none⟩ = some y ∧ w'.cell? ⟨b, 2, none⟩ = some z := by
  rw [hb.cell (p := ⟨b, 0, none⟩) hlt, hb.cell (p := ⟨b, 1, none⟩) hlt, hb.cell (p := ⟨b, 2, none⟩) hlt]; exact h

set_option maxHeartbeats 400000 in
theorem frac_any (n d u : Int) (w : World) :
    Calls Try.prog 31 #[.agg #[.int .i64 n, .int .i64 d, .int .i64 u]] w fun e w' => e = .returned (.agg #[.int .i64 n, .int .i64 d]) ∧ Below w.heap.size w w' := by
  go_enter Try.func31, Try.ntmps31
  go_wp2
  exact bodyPost_ret (v := .agg #[.int .i64 n, .int .i64 d]) (by simp [results, Try.results31, go_sem]) rfl
    ⟨rfl, by repeat (first | exact Below.refl _ _ | refine Below.setCell ?_ (by simp) _ | refine Below.alloc ?_ (by first | (simp; done) | (simp; omega)) _)⟩

/-- Whether TimesAmount is asked a thing that it takes. -/
def tB (n d u m e : Int) : Bool := okB n d u && decide (0 ≤ m ∧ m ≤ 1000000000 ∧ 1 ≤ e ∧ e ≤ 1000000000)

/-- What TimesAmount tells. -/
def tN (n d u m e : Int) : Int := if tB n d u m e = true then rN (n * m) (d * e) u else 0
def tD (n d u m e : Int) : Int := if tB n d u m e = true then rD (n * m) (d * e) u else 0
def tU (n d u m e : Int) : Int := if tB n d u m e = true then rU (n * m) (d * e) u else 0
def tR (n d u m e : Int) : Bool := tB n d u m e && rB (n * m) (d * e) u
theorem t_in {n d u m e : Int} (h : tB n d u m e = true) : tN n d u m e = rN (n * m) (d * e) u ∧ tD n d u m e = rD (n * m) (d * e) u ∧ tU n d u m e = rU (n * m) (d * e) u ∧ tR n d u m e = rB (n * m) (d * e) u := by
  unfold tN tD tU tR; simp [h]
theorem t_out {n d u m e : Int} (h : tB n d u m e = false) : tN n d u m e = 0 ∧ tD n d u m e = 0 ∧ tU n d u m e = 0 ∧ tR n d u m e = false := by
  unfold tN tD tU tR; simp [h]
theorem tB_true {n d u m e : Int} (h : tB n d u m e = true) : okB n d u = true ∧ 0 ≤ m ∧ m ≤ 1000000000 ∧ 1 ≤ e ∧ e ≤ 1000000000 := by
  unfold tB at h; simpa using h