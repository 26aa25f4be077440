/-
  The program's table of vital signs, and its VitalOk.
-/
import Derived.Test.YtmigcbbjejbcgaiVb
import Derived.Laws.Tables
import Derived.Laws.Rows
import Derived.Great.BuildSlice
import Derived.Deep.RegionWith
namespace Go.Proofs.Ytmigcbbjejbcgai
open Go.RowKit Va
set_option linter.unusedVariables false

theorem below_row {B : Nat} {a w : World} (h : Below B a w) {g : Nat} (hg : B ≤ g) (cs : Array Value) : Below B a (w.setRow g cs) :=
  h.trans ⟨rfl, rfl, rfl, by simp, fun k hk => setRow_other _ _ _ _ (by omega)⟩
abbrev fnv (k : Nat) : Value := .func (.func k) #[] #[]
def tblC : Array Value := #[.int .i64 0, .int .i64 99, fnv 34, fnv 35, .int .i64 0, .int .i64 100, fnv 36, fnv 37, .int .i64 0, .int .i64 400, fnv 38, fnv 39, .int .i64 0, .int .i64 400, fnv 40, fnv 41, .int .i64 0, .int .i64 1, fnv 42, fnv 43, .int .i64 200, .int .i64 460, fnv 44, fnv 45]

set_option maxRecDepth 20000 in
set_option maxHeartbeats 1000000 in
theorem tbl_any (w : World) : Calls Try.prog 30 #[] w fun e w' => e = .returned (.agg tblC) ∧ Below w.heap.size w w' := by
  go_enter Try.func30, Try.ntmps30
  go_upto_region 1 with fail
  rename_i K hK
  apply wp_region_lit
  refine wpList_buildTo rfl 54 _ rfl (some 1) rfl #[.int .i64 0, .int .i64 99, fnv 34, fnv 35] (by kernel_rfl) ?_
  refine wpList_buildTo rfl 54 _ rfl (some 2) rfl #[.int .i64 0, .int .i64 100, fnv 36, fnv 37] (by kernel_rfl) ?_
  refine wpList_buildTo rfl 54 _ rfl (some 3) rfl #[.int .i64 0, .int .i64 400, fnv 38, fnv 39] (by kernel_rfl) ?_
  refine wpList_buildTo rfl 54 _ rfl (some 4) rfl #[.int .i64 0, .int .i64 400, fnv 40, fnv 41] (by kernel_rfl) ?_
  refine wpList_buildTo rfl 54 _ rfl (some 5) rfl #[.int .i64 0, .int .i64 1, fnv 42, fnv 43] (by kernel_rfl) ?_
  refine wpList_buildTo rfl 54 _ rfl (some 6) rfl #[.int .i64 200, .int .i64 460, fnv 44, fnv 45] (by kernel_rfl) ?_
  refine wpList_buildTo rfl 55 _ rfl (some 7) rfl tblC (by kernel_rfl) ?_
  refine wpList_store_rowTo rfl 55 _ _ rfl rfl w.heap.size tblC rfl rfl 55 _ (heap_alloc_new _ _) (by kernel_rfl) (by kernel_rfl) (by kernel_rfl) ?_
  apply wpList_nil
  refine hK _ _ ?_
  apply wp_ret
  exact bodyPost_ret (v := .agg tblC) (results_cell_row Try.results30 _ _ w.heap.size 55 tblC (0, 0) _ rfl (setRow_heap _ _ _ _ _ _ (heap_alloc_new _ _)) Try.underlying55 rfl (by kernel_rfl)) rfl ⟨rfl, below_row ((Below.refl _ _).alloc (Nat.le_refl _) _) (Nat.le_refl _) _⟩

theorem ix0 (w : World) : (Instr.index 55 (.agg tblC) (.int .i64 0)).run Try.prog w = .ok (.agg #[.int .i64 0, .int .i64 99, fnv 34, fnv 35]) w := by kernel_rfl
theorem ix1 (w : World) : (Instr.index 55 (.agg tblC) (.int .i64 1)).run Try.prog w = .ok (.agg #[.int .i64 0, .int .i64 100, fnv 36, fnv 37]) w := by kernel_rfl
theorem ix2 (w : World) : (Instr.index 55 (.agg tblC) (.int .i64 2)).run Try.prog w = .ok (.agg #[.int .i64 0, .int .i64 400, fnv 38, fnv 39]) w := by kernel_rfl
theorem ix3 (w : World) : (Instr.index 55 (.agg tblC) (.int .i64 3)).run Try.prog w = .ok (.agg #[.int .i64 0, .int .i64 400, fnv 40, fnv 41]) w := by kernel_rfl
theorem ix4 (w : World) : (Instr.index 55 (.agg tblC) (.int .i64 4)).run Try.prog w = .ok (.agg #[.int .i64 0, .int .i64 1, fnv 42, fnv 43]) w := by kernel_rfl
theorem ix5 (w : World) : (Instr.index 55 (.agg tblC) (.int .i64 5)).run Try.prog w = .ok (.agg #[.int .i64 200, .int .i64 460, fnv 44, fnv 45]) w := by kernel_rfl
end Go.Proofs.Ytmigcbbjejbcgai
