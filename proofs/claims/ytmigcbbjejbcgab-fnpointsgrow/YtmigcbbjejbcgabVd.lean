/-
  The program's table of vital signs, and its VitalOk.
-/
import Derived.Test.YtmigcbbjejbcgabVb
import Derived.Laws.Tables
import Derived.Laws.Rows
import Derived.Great.BuildSlice
import Derived.Deep.RegionWith
namespace Go.Proofs.Ytmigcbbjejbcgab
open Go.RowKit Va
set_option linter.unusedVariables false

theorem below_row {B : Nat} {a w : World} (h : Below B a w) {g : Nat} (hg : B ≤ g) (cs : Array Value) : Below B a (w.setRow g cs) :=
  h.trans ⟨rfl, rfl, rfl, by simp, fun k hk => setRow_other _ _ _ _ (by omega)⟩
abbrev fnv (k : Nat) : Value := .func (.func k) #[] #[]
def tblC : Array Value := #[.int .i64 0, .int .i64 99, fnv 84, fnv 85, .int .i64 0, .int .i64 100, fnv 86, fnv 87, .int .i64 0, .int .i64 400, fnv 88, fnv 89, .int .i64 0, .int .i64 400, fnv 90, fnv 91, .int .i64 0, .int .i64 1, fnv 92, fnv 93, .int .i64 200, .int .i64 460, fnv 94, fnv 95]

set_option maxRecDepth 20000 in
set_option maxHeartbeats 1000000 in
theorem tbl_any (w : World) : Calls Try.prog 56 #[] w fun e w' => e = .returned (.agg tblC) ∧ Below w.heap.size w w' := by
  go_enter Try.func56, Try.ntmps56
  go_upto_region 1 with fail
  rename_i K hK
  apply wp_region_lit
  refine wpList_buildTo rfl 81 _ rfl (some 1) rfl #[.int .i64 0, .int .i64 99, fnv 84, fnv 85] (by kernel_rfl) ?_
  refine wpList_buildTo rfl 81 _ rfl (some 2) rfl #[.int .i64 0, .int .i64 100, fnv 86, fnv 87] (by kernel_rfl) ?_
  refine wpList_buildTo rfl 81 _ rfl (some 3) rfl #[.int .i64 0, .int .i64 400, fnv 88, fnv 89] (by kernel_rfl) ?_
  refine wpList_buildTo rfl 81 _ rfl (some 4) rfl #[.int .i64 0, .int .i64 400, fnv 90, fnv 91] (by kernel_rfl) ?_
  refine wpList_buildTo rfl 81 _ rfl (some 5) rfl #[.int .i64 0, .int .i64 1, fnv 92, fnv 93] (by kernel_rfl) ?_
  refine wpList_buildTo rfl 81 _ rfl (some 6) rfl #[.int .i64 200, .int .i64 460, fnv 94, fnv 95] (by kernel_rfl) ?_
  refine wpList_buildTo rfl 82 _ rfl (some 7) rfl tblC (by kernel_rfl) ?_
  refine wpList_store_rowTo rfl 82 _ _ rfl rfl w.heap.size tblC rfl rfl 82 _ (heap_alloc_new _ _) (by kernel_rfl) (by kernel_rfl) (by kernel_rfl) ?_
  apply wpList_nil
  refine hK _ _ ?_
  apply wp_ret
  exact bodyPost_ret (v := .agg tblC) (results_cell_row Try.results56 _ _ w.heap.size 82 tblC (0, 0) _ rfl (setRow_heap _ _ _ _ _ _ (heap_alloc_new _ _)) Try.underlying82 rfl (by kernel_rfl)) rfl ⟨rfl, below_row ((Below.refl _ _).alloc (Nat.le_refl _) _) (Nat.le_refl _) _⟩

theorem ix0 (w : World) : (Instr.index 82 (.agg tblC) (.int .i64 0)).run Try.prog w = .ok (.agg #[.int .i64 0, .int .i64 99, fnv 84, fnv 85]) w := by kernel_rfl
theorem ix1 (w : World) : (Instr.index 82 (.agg tblC) (.int .i64 1)).run Try.prog w = .ok (.agg #[.int .i64 0, .int .i64 100, fnv 86, fnv 87]) w := by kernel_rfl
theorem ix2 (w : World) : (Instr.index 82 (.agg tblC) (.int .i64 2)).run Try.prog w = .ok (.agg #[.int .i64 0, .int .i64 400, fnv 88, fnv 89]) w := by kernel_rfl
theorem ix3 (w : World) : (Instr.index 82 (.agg tblC) (.int .i64 3)).run Try.prog w = .ok (.agg #[.int .i64 0, .int .i64 400, fnv 90, fnv 91]) w := by kernel_rfl
theorem ix4 (w : World) : (Instr.index 82 (.agg tblC) (.int .i64 4)).run Try.prog w = .ok (.agg #[.int .i64 0, .int .i64 1, fnv 92, fnv 93]) w := by kernel_rfl
theorem ix5 (w : World) : (Instr.index 82 (.agg tblC) (.int .i64 5)).run Try.prog w = .ok (.agg #[.int .i64 200, .int .i64 460, fnv 94, fnv 95]) w := by kernel_rfl
end Go.Proofs.Ytmigcbbjejbcgab
