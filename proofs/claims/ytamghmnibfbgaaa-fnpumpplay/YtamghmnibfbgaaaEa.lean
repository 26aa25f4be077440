/-
  The laws' own helpers on rows of acts: copies, sizes, sameness; acts that came in.
-/
import Derived.Test.YtamghmnibfbgaaaCr
import Derived.Test.YtamghmnibfbgaaaRw
import Derived.Deep.RegionWith
namespace Go.Proofs.Ytamghmnibfbgaaa
open Go.RowKit Va Ba
set_option linter.unusedVariables false

def csA (x : Ac) (k : Nat) : Int := match k with | 0 => x.kind | _ => x.n
theorem some_of {α : Type} (l : List α) (i : Nat) (h : i < l.length) : ∃ x, l[i]? = some x := ⟨_, List.getElem?_eq_getElem h⟩
theorem take_snocW {α : Type} {l : List α} {i : Nat} {x : α} (h : l[i]? = some x) : l.take (i + 1) = l.take i ++ [x] := by
  rw [List.take_add_one, h]; rfl

theorem infoAct : (Try.prog.info? 29).map (fun i => (i.zero, i.size, i.bytes)) = some (some (.agg #[.int .i64 0, .int .i64 0]), 2, 16) := by kernel_rfl

def mkA (f : Nat → Int) : Ac := ⟨f 0, f 1⟩
theorem mkA_at (f : Nat → Int) (k : Nat) (hk : k < 2) : csA (mkA f) k = f k := by
  match k, hk with
  | 0, _ => rfl
  | 1, _ => rfl

set_option maxRecDepth 100000 in
theorem fsAct : ∃ fs, Try.prog.underlying 53 = some (.struct fs) ∧ ∀ k, k < 2 → ∃ f, fs[k]? = some f ∧ f.offset = k ∧ Try.prog.cellsOf f.type = 1 ∧ Try.prog.underlying f.type = some (.int .i64) := by
  refine ⟨_, Try.underlying53, fun k hk => ?_⟩
  match k, hk with
  | 0, _ => exact ⟨_, rfl, rfl, by kernel_rfl, Try.underlying2⟩
  | 1, _ => exact ⟨_, rfl, rfl, by kernel_rfl, Try.underlying2⟩
end Go.Proofs.Ytamghmnibfbgaaa
