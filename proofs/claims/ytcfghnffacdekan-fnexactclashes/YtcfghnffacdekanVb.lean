/-
  Vital signs: the specification's VitalOk, the program's table and its VitalOk.
-/
import Derived.Test.YtcfghnffacdekanRows
import Derived.Test.YtcfghnffacdekanVa
import Derived.Test.YtcfghnffacdekanRw
import Derived.BigQuiet
import Derived.Deep.QuietTactic
import Derived.Deep.DeepCutAuto
import Derived.Deep.RegionHeld3
namespace Go.Proofs.Ytcfghnffacdekan
open Go.RowKit Va
set_option linter.unusedVariables false

def aV (v : Vt) : Value := .agg #[.int .i64 v.b, .int .i64 v.o, .int .i64 v.p, .int .i64 v.u, .int .i64 v.a, .int .i64 v.h]
theorem ret_bool {a b : Bool} (h : a = b) : Ending.returned (.bool a) = .returned (.bool b) := by rw [h]
theorem ret_int {k : IntKind} {a b : Int} (h : a = b) : Ending.returned (.int k a) = .returned (.int k b) := by rw [h]

theorem bcell {W w1 : World} (hb : Below W.heap.size W w1) : (∀ b o, b < W.heap.size → w1.cell? ⟨b, o, none⟩ = W.cell? ⟨b, o, none⟩) ∧ (∀ b o, b < W.heap.size → w1.frozen? ⟨b, o, none⟩ = W.frozen? ⟨b, o, none⟩) :=
  ⟨fun b o h => hb.cell (p := ⟨b, o, none⟩) h, fun b o h => hb.frozen (p := ⟨b, o, none⟩) h⟩
theorem old_cell {w : World} {g : Nat} (hg : g < w.heap.size) (o : Obj) (x : Nat) : (w.alloc o).cell? ⟨g, x, none⟩ = w.cell? ⟨g, x, none⟩ :=
  ((Below.refl w.heap.size w).alloc (Nat.le_refl _) o).cell (p := ⟨g, x, none⟩) hg
/-- An old cell, behind up to three new blocks. -/
theorem old_cells {w : World} {g : Nat} (hg : g < w.heap.size) : (∀ (a : Obj) (x : Nat), (w.alloc a).cell? ⟨g, x, none⟩ = w.cell? ⟨g, x, none⟩) ∧ (∀ (a b : Obj) (x : Nat), ((w.alloc a).alloc b).cell? ⟨g, x, none⟩ = w.cell? ⟨g, x, none⟩) ∧
    (∀ (a b c : Obj) (x : Nat), (((w.alloc a).alloc b).alloc c).cell? ⟨g, x, none⟩ = w.cell? ⟨g, x, none⟩) :=
  ⟨fun a x => old_cell hg a x, fun a b x => by rw [old_cell (by simp; omega), old_cell hg], fun a b c x => by rw [old_cell (by simp; omega), old_cell (by simp; omega), old_cell hg]⟩

set_option maxHeartbeats 400000 in
theorem lin_any (n lo hi : Int) (w : World) : Calls Try.prog 46 #[.int .i64 n, .int .i64 lo, .int .i64 hi] w fun e w' => e = .returned (.bool (rng n lo hi)) ∧ w = w' := by
  unfold rng
  go_enter Try.func46, Try.ntmps46
  go_wp2
  all_goals (go_ret; exact ⟨ret_bool (by first | (simp; done) | (simp; omega) | (simp_all; done) | (simp_all; omega) | (rw [Bool.eq_iff_iff]; simp; omega) | (rw [Bool.eq_iff_iff]; simp_all; omega)), rfl⟩)

set_option maxHeartbeats 400000 in
theorem f1_any (v : Vt) (w : World) : Calls Try.prog 86 #[aV v] w fun e w' => e = .returned (.int .i64 v.b) ∧ Below w.heap.size w w' := by
  unfold aV
  go_enter Try.func86, Try.ntmps86
  go_wp2
  go_ret
  exact ⟨rfl, by repeat (first | exact Below.refl _ _ | assumption | refine st_drew ?_ | refine st_drewN ?_ _ | refine Below.setCell ?_ (by first | omega | (simp; done) | (simp; omega)) _ | refine Below.alloc ?_ (by first | omega | (simp; done) | (simp; omega)) _)⟩

set_option maxHeartbeats 400000 in
theorem f2_any (v : Vt) (w : World) : Calls Try.prog 88 #[aV v] w fun e w' => e = .returned (.int .i64 v.o) ∧ Below w.heap.size w w' := by
  unfold aV
  go_enter Try.func88, Try.ntmps88
  go_wp2
  go_ret
  exact ⟨rfl, by repeat (first | exact Below.refl _ _ | assumption | refine st_drew ?_ | refine st_drewN ?_ _ | refine Below.setCell ?_ (by first | omega | (simp; done) | (simp; omega)) _ | refine Below.alloc ?_ (by first | omega | (simp; done) | (simp; omega)) _)⟩

set_option maxHeartbeats 400000 in
theorem f3_any (v : Vt) (w : World) : Calls Try.prog 90 #[aV v] w fun e w' => e = .returned (.int .i64 v.p) ∧ Below w.heap.size w w' := by
  unfold aV
  go_enter Try.func90, Try.ntmps90
  go_wp2
  go_ret
  exact ⟨rfl, by repeat (first | exact Below.refl _ _ | assumption | refine st_drew ?_ | refine st_drewN ?_ _ | refine Below.setCell ?_ (by first | omega | (simp; done) | (simp; omega)) _ | refine Below.alloc ?_ (by first | omega | (simp; done) | (simp; omega)) _)⟩

set_option maxHeartbeats 400000 in
theorem f4_any (v : Vt) (w : World) : Calls Try.prog 92 #[aV v] w fun e w' => e = .returned (.int .i64 v.u) ∧ Below w.heap.size w w' := by
  unfold aV
  go_enter Try.func92, Try.ntmps92
  go_wp2
  go_ret
  exact ⟨rfl, by repeat (first | exact Below.refl _ _ | assumption | refine st_drew ?_ | refine st_drewN ?_ _ | refine Below.setCell ?_ (by first | omega | (simp; done) | (simp; omega)) _ | refine Below.alloc ?_ (by first | omega | (simp; done) | (simp; omega)) _)⟩

set_option maxHeartbeats 400000 in
theorem f5_any (v : Vt) (w : World) : Calls Try.prog 94 #[aV v] w fun e w' => e = .returned (.int .i64 v.a) ∧ Below w.heap.size w w' := by
  unfold aV
  go_enter Try.func94, Try.ntmps94
  go_wp2
  go_ret
  exact ⟨rfl, by repeat (first | exact Below.refl _ _ | assumption | refine st_drew ?_ | refine st_drewN ?_ _ | refine Below.setCell ?_ (by first | omega | (simp; done) | (simp; omega)) _ | refine Below.alloc ?_ (by first | omega | (simp; done) | (simp; omega)) _)⟩

set_option maxHeartbeats 400000 in
theorem f6_any (v : Vt) (w : World) : Calls Try.prog 96 #[aV v] w fun e w' => e = .returned (.int .i64 v.h) ∧ Below w.heap.size w w' := by
  unfold aV
  go_enter Try.func96, Try.ntmps96
  go_wp2
  go_ret
  exact ⟨rfl, by repeat (first | exact Below.refl _ _ | assumption | refine st_drew ?_ | refine st_drewN ?_ _ | refine Below.setCell ?_ (by first | omega | (simp; done) | (simp; omega)) _ | refine Below.alloc ?_ (by first | omega | (simp; done) | (simp; omega)) _)⟩

set_option maxHeartbeats 1000000 in
theorem p1_any (n : Int) (w : World) : Calls Try.prog 87 #[.int .i64 n] w fun e w' => e = .returned (.int .i64 (bp n)) ∧ w = w' := by
  unfold bp
  go_enter Try.func87, Try.ntmps87
  go_wp2
  all_goals (go_ret; exact ⟨ret_int (by first | omega | (split <;> omega) | (simp_all; done) | (simp_all; omega) | (split <;> first | omega | (simp_all; omega) | (split <;> first | omega | (simp_all; omega)))), rfl⟩)

set_option maxHeartbeats 1000000 in
theorem p2_any (n : Int) (w : World) : Calls Try.prog 89 #[.int .i64 n] w fun e w' => e = .returned (.int .i64 (op n)) ∧ w = w' := by
  unfold op
  go_enter Try.func89, Try.ntmps89
  go_wp2
  all_goals (go_ret; exact ⟨ret_int (by first | omega | (split <;> omega) | (simp_all; done) | (simp_all; omega) | (split <;> first | omega | (simp_all; omega) | (split <;> first | omega | (simp_all; omega)))), rfl⟩)

set_option maxHeartbeats 1000000 in
theorem p3_any (n : Int) (w : World) : Calls Try.prog 91 #[.int .i64 n] w fun e w' => e = .returned (.int .i64 (pp n)) ∧ w = w' := by
  unfold pp
  go_enter Try.func91, Try.ntmps91
  go_wp2
  all_goals (go_ret; exact ⟨ret_int (by first | omega | (split <;> omega) | (simp_all; done) | (simp_all; omega) | (split <;> first | omega | (simp_all; omega) | (split <;> first | omega | (simp_all; omega)))), rfl⟩)

set_option maxHeartbeats 1000000 in
theorem p4_any (n : Int) (w : World) : Calls Try.prog 93 #[.int .i64 n] w fun e w' => e = .returned (.int .i64 (up n)) ∧ w = w' := by
  unfold up
  go_enter Try.func93, Try.ntmps93
  go_wp2
  all_goals (go_ret; exact ⟨ret_int (by first | omega | (split <;> omega) | (simp_all; done) | (simp_all; omega) | (split <;> first | omega | (simp_all; omega) | (split <;> first | omega | (simp_all; omega)))), rfl⟩)

set_option maxHeartbeats 1000000 in
theorem p5_any (n : Int) (w : World) : Calls Try.prog 95 #[.int .i64 n] w fun e w' => e = .returned (.int .i64 (ap n)) ∧ w = w' := by
  unfold ap
  go_enter Try.func95, Try.ntmps95
  go_wp2
  all_goals (go_ret; exact ⟨ret_int (by first | omega | (split <;> omega) | (simp_all; done) | (simp_all; omega) | (split <;> first | omega | (simp_all; omega) | (split <;> first | omega | (simp_all; omega)))), rfl⟩)

set_option maxHeartbeats 1000000 in
theorem p6_any (n : Int) (w : World) : Calls Try.prog 97 #[.int .i64 n] w fun e w' => e = .returned (.int .i64 (hp n)) ∧ w = w' := by
  unfold hp
  go_enter Try.func97, Try.ntmps97
  go_wp2
  all_goals (go_ret; exact ⟨ret_int (by first | omega | (split <;> omega) | (simp_all; done) | (simp_all; omega) | (split <;> first | omega | (simp_all; omega) | (split <;> first | omega | (simp_all; omega)))), rfl⟩)

end Go.Proofs.Ytcfghnffacdekan
