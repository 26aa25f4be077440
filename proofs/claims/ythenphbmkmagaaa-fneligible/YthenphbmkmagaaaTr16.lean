/-
  Rows of criteria: copies, sizes, sameness, as they came in.
-/
import Derived.Test.YthenphbmkmagaaaT2
import Derived.Test.YthenphbmkmagaaaTr2
import Derived.Test.YthenphbmkmagaaaGx
namespace Go.Proofs.Ythenphbmkmagaaa
open Go.RowKit Go.WideShapes Va Lb El
set_option linter.all false
def cvCr (x : Cr) (k : Nat) : Value := match k with | 0 => .int .i64 x.f | 1 => .int .i64 x.lo | 2 => .int .i64 x.hi | _ => .bool x.must
def aCr (x : Cr) : Value := .agg #[.int .i64 x.f, .int .i64 x.lo, .int .i64 x.hi, .bool x.must]

theorem infoCriterion : (Try.prog.info? 31).map (fun i => (i.zero, i.size, i.bytes)) = some (some (.agg #[.int .i64 0, .int .i64 0, .int .i64 0, .bool false]), 4, 32) := by kernel_rfl


def boolOfcr (v : Value) : Bool := match v with | .bool b => b | _ => false
def kdcr (k : Nat) : Kd := match k with | 0 => Kd.int | 1 => Kd.int | 2 => Kd.int | _ => Kd.bool
def mkCr (f : Nat → Value) : Cr := ⟨intOf (f 0), intOf (f 1), intOf (f 2), boolOfcr (f 3)⟩
theorem mkCr_at (f : Nat → Value) (h : ∀ k, k < 4 → KdOk (kdcr k) (f k)) (k : Nat) (hk : k < 4) : cvCr (mkCr f) k = f k := by
  have hh := h k hk
  match k, hk with
  | 0, _ => obtain ⟨z, hz⟩ := hh; show .int .i64 (mkCr f).f = f 0; simp only [mkCr]; rw [hz]; rfl
  | 1, _ => obtain ⟨z, hz⟩ := hh; show .int .i64 (mkCr f).lo = f 1; simp only [mkCr]; rw [hz]; rfl
  | 2, _ => obtain ⟨z, hz⟩ := hh; show .int .i64 (mkCr f).hi = f 2; simp only [mkCr]; rw [hz]; rfl
  | 3, _ => obtain ⟨z, hz⟩ := hh; show .bool (mkCr f).must = f 3; simp only [mkCr]; rw [hz]; rfl
end Go.Proofs.Ythenphbmkmagaaa
