/-
  Vital signs: the specification's VitalOk, the program's table and its VitalOk.
-/
import Derived.Test.YtgcpiinmcbdkmaaRows
import Derived.Test.YtgcpiinmcbdkmaaVa
import Derived.Test.YtgcpiinmcbdkmaaRw
import Derived.BigQuiet
import Derived.Deep.QuietTactic
import Derived.Deep.DeepCutAuto
import Derived.Deep.RegionHeld3
namespace Go.Proofs.Ytgcpiinmcbdkmaa
open Go.RowKit Va
set_option linter.unusedVariables false

def aV (v : Vt) : Value := .agg #[.int .i64 v.b, .int .i64 v.o, .int .i64 v.p, .int .i64 v.u, .int .i64 v.a, .int .i64 v.h]
theorem ret_bool {a b : Bool} (h : a = b) : Ending.returned (.bool a) = .returned (.bool b) := by rw [h]
theorem ret_int {k : IntKind} {a b : Int} (h : a = b) : Ending.returned (.int k a) = .returned (.int k b) := by rw [h]

theorem bcell {W w1 : World} (hb : Below W.heap.size W w1) : (∀ b o, b < W.heap.size → w1.cell? ⟨b, o, none⟩ = W.cell? ⟨b, o, none⟩) ∧ (∀ b o, b < W.heap.size → w1.frozen? ⟨b, o, none⟩ = W.frozen? ⟨b, o, none⟩) :=
  ⟨fun b o h => hb.cell (p := ⟨b, o, none⟩) h, fun b o h => hb.frozen (p := ⟨b, o, none⟩) h⟩
theorem old_cell {w : World} {g : Nat} (hg : g < w.heap.size) (o : Obj) (x : Nat) : (w.alloc o).cell? ⟨g, x, none⟩ = w.cell? ⟨g, x, none⟩ :=
  ((Below.refl w.heap.size w).alloc (Nat.le_refl _) o).cell (p := ⟨g, x, none⟩) hg
/-- An old cell, behind up to three new blocks. -/
theorem old_cells {w : World} {g : Nat} (hg : g < w.heap.size) : (∀ (a : Obj) (x : Nat), (w.alloc a).cell? ⟨g, x, none⟩ = w.cell? ⟨g, x, none⟩) ∧ (∀ (a b : Obj) (x : Nat), ((w.alloc a).alloc b).cell? ⟨g, x, none⟩ = w.cell? ⟨g, x, none⟩) ∧
    (∀ (a b c : Obj) (x : Nat), (((w.alloc a).alloc b).alloc c).cell? ⟨g, x, none⟩ = w.cell? ⟨g, x, none⟩) :=
  ⟨fun a x => old_cell hg a x, fun a b x => by rw [old_cell (by simp; omega), old_cell hg], fun a b c x => by rw [old_cell (by simp; omega), old_cell (by simp; omega), old_cell hg]⟩

set_option maxHeartbeats 400000 in
theorem lin_any (n lo hi : Int) (w : World) : Calls Try.prog 52 #[.int .i64 n, .int .i64 lo, .int .i64 hi] w fun e w' => e = .returned (.bool (rng n lo hi)) ∧ w = w' := by
  unfold rng
  go_enter Try.func52, Try.ntmps52
  go_wp2
  all_goals (go_ret; exact ⟨ret_bool (by first | (simp; done) | (simp; omega) | (simp_all; done) | (simp_all; omega) | (rw [Bool.eq_iff_iff]; simp; omega) | (rw [Bool.eq_iff_iff]; simp_all; omega)), rfl⟩)

end Go.Proofs.Ytgcpiinmcbdkmaa
