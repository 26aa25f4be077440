/-
  BedsFree, the program's.
-/
import Derived.Test.YtpdlkkbnckjibamHj
import Derived.Test.YtpdlkkbnckjibamHk
namespace Go.Proofs.Ytpdlkkbnckjibam
open Go.RowKit Hm
set_option linter.unusedVariables false

def csI (x : Int) (k : Nat) : Int := x
theorem cells_int (l : List Int) (x : Int) : cellsL 1 csI (l ++ [x]) = cellsL 1 csI l ++ [.int .i64 x] := by rw [cellsL_app]; rfl
theorem infoInt : (Try.prog.info? 2).map (fun i => (i.zero, i.size, i.bytes)) = some (some (.int .i64 0), 1, 8) := by kernel_rfl
theorem ownsRow_empty1 (w : World) : (w.alloc (.cells #[] 2)).ownsRow w.heap.size 2 1 (.slice (some ⟨w.heap.size, 0, none⟩) 0 0) 0 [] :=
  ⟨rfl, Or.inr ⟨w.heap.size, 0, #[], rfl, Nat.le_refl _, heap_alloc_new _ _, Nat.le_refl _, Nat.zero_le _, rfl, rfl⟩⟩
theorem cell_one_new' (w : World) (a : Value) (t : TypeId) : ∀ (j : Nat) (u : Value), [a][j]? = some u → (w.alloc (.cells #[a] t)).cell? ((⟨w.heap.size, 0, none⟩ : Addr).add j) = some u := fun j u hu => by
  have e0 := heap_alloc_new w (Obj.cells #[a] t)
  have e1 : (w.alloc (.cells #[a] t)).cell? ((⟨w.heap.size, 0, none⟩ : Addr).add j) = [a][j]? := by
    rw [Addr.add_lit, Nat.zero_add]
    simp only [World.cell?, e0]
    simp
  rw [e1, hu]

end Go.Proofs.Ytpdlkkbnckjibam
