/-
  Walks over slices of floats: a copy, a comparison, marks.
-/
import Derived.Test.YtiopmlepdjiapaaRows
import Derived.Test.YtiopmlepdjiapaaFlo
import Derived.Test.YtiopmlepdjiapaaRowy
import Derived.BigQuiet
import Derived.Deep.QuietTactic
namespace Go.Proofs.Ytiopmlepdjiapaa
open Go.RowKit Fl

theorem run_fadd (w : World) (x y : Nat) : (binOp .add 37 (.float .f64 x) (.float .f64 y)).run Try.prog w = .ok (.float .f64 (fRes .add x y w)) (w.drewN (fN .add x y)) := run_float .add (by simp) 37 x y w
theorem run_fsub (w : World) (x y : Nat) : (binOp .sub 37 (.float .f64 x) (.float .f64 y)).run Try.prog w = .ok (.float .f64 (fRes .sub x y w)) (w.drewN (fN .sub x y)) := run_float .sub (by simp) 37 x y w
theorem run_fmul (w : World) (x y : Nat) : (binOp .mul 37 (.float .f64 x) (.float .f64 y)).run Try.prog w = .ok (.float .f64 (fRes .mul x y w)) (w.drewN (fN .mul x y)) := run_float .mul (by simp) 37 x y w
theorem run_fquo (w : World) (x y : Nat) : (binOp .quo 37 (.float .f64 x) (.float .f64 y)).run Try.prog w = .ok (.float .f64 (fRes .quo x y w)) (w.drewN (fN .quo x y)) := run_float .quo (by simp) 37 x y w

theorem ord_cls {x y : Nat} (z : Nat) (h : cls x = cls y) : FloatKind.f64.format.order x z = FloatKind.f64.format.order y z := by
  rcases cls_eq h with ⟨h1, h2⟩ | ⟨rfl, _⟩
  · rw [ord_nan (Or.inl h1), ord_nan (Or.inl h2)]
  · rfl
theorem ret_bool {a b : Bool} (h : a = b) : Ending.returned (.bool a) = .returned (.bool b) := by rw [h]
theorem ret_int {k : IntKind} {a b : Int} (h : a = b) : Ending.returned (.int k a) = .returned (.int k b) := by rw [h]

abbrev fl (x : Nat) : Value := .float .f64 x
theorem info37 : (Try.prog.info? 37).map (fun i => (i.zero, i.size, i.bytes)) = some (some (.float .f64 0), 1, 8) := by kernel_rfl

theorem run_store_fl {P : Program} {w : World} {a : Addr} {m : Mode} (x : Nat) : (store a (.float .f64 x) m).run P w = stored P w a (.float .f64 x) m := run_store P w a _ m rfl
attribute [local go_sem] run_store_fl