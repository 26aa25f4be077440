/-
  Values of the three little structs; what a type's row says.
-/
import Derived.Test.YtcnhogghfedcdaaGp
import Derived.Test.YtcnhogghfedcdaaRw
import Derived.Deep.RegionWith
namespace Go.Proofs.Ytcnhogghfedcdaa
open Go.RowKit Va Ga
set_option linter.unusedVariables false

theorem info_parts {P : Program} {t : TypeId} {z : Value} {n b : Nat} (h : (P.info? t).map (fun i => (i.zero, i.size, i.bytes)) = some (some z, n, b)) : ∃ i, P.info? t = some i ∧ i.zero = some z ∧ i.size = n ∧ i.bytes = b := by
  obtain ⟨i, h1, h2⟩ := Option.map_eq_some_iff.1 h
  simp only [Prod.mk.injEq] at h2
  exact ⟨i, h1, h2.1, h2.2.1, h2.2.2⟩
def aGv (x : Gv) : Value := .agg #[.int .i64 x.d, .int .i64 x.t, .int .i64 x.n]
def aRu (x : Ru) : Value := .agg #[.int .i64 x.a, .int .i64 x.b, .int .i64 x.g]
def aWg (x : Wg) : Value := .agg #[.int .i64 x.a, .int .i64 x.b, .int .i64 x.r]
end Go.Proofs.Ytcnhogghfedcdaa
