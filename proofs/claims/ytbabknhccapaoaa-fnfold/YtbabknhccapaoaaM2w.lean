/-
  Letters whose numbers are in range.
-/
import Derived.Test.YtbabknhccapaoaaM2
namespace Go.Proofs.Ytbabknhccapaoaa
open Go.RowKit Va Mg
set_option linter.all false

/-- The numbers of a letter are numbers of 64 bits. -/
def WfL (x : Lt) : Prop := (Lit.int .i64 x.f).wf = true ∧ (Lit.int .i64 x.s).wf = true ∧ (Lit.int .i64 x.c).wf = true ∧ (Lit.int .i64 x.k).wf = true ∧ (Lit.int .i64 x.v).wf = true
end Go.Proofs.Ytbabknhccapaoaa
