/-
  Trials as values, and as they came in.
-/
import Derived.Test.YthenphbmkmagaaaT2
import Derived.Test.YthenphbmkmagaaaGx
import Derived.Test.YthenphbmkmagaaaTr1
import Derived.BigQuiet
namespace Go.Proofs.Ythenphbmkmagaaa
open Go.RowKit Go.WideShapes Va Lb Tr
set_option linter.all false

/-- A trial as a value, its coins the slice tv. -/
def aT (x : Tl) (tv : Value) : Value := .agg #[.int .i64 x.arms, .int .i64 x.block, tv, .int .i64 x.told]

/-- The fields of a trial: three numbers and the coins. -/
def TrialFields (P : Program) (fs : Array Field) : Prop :=
  (∀ k, k < 4 → k ≠ 2 → ∃ f, fs[k]? = some f ∧ f.offset = k ∧ P.cellsOf f.type = 1 ∧ P.underlying f.type = some (.int .i64)) ∧
    ∃ f e, fs[2]? = some f ∧ f.offset = 2 ∧ P.cellsOf f.type = 1 ∧ P.underlying f.type = some (.slice e) ∧ P.underlying e = some (.int .i64) ∧ P.cellsOf e = 1

theorem trial_of_trod {H : Type} {enc : TypeId × Value → H} {P : Program} {W : World} {sp : Nat → Bool} {hd : Bool} {t : TypeId} {fs : Array Field} {fuel : Nat} {cs : List Value} {x : DataW H × List MemPlace}
    (ht : P.underlying t = some (.struct fs)) (hF : TrialFields P fs) (hl : cs.length = 4) (h : DataW.trod enc P W 0 sp hd fuel t cs = some x) :
    ∃ (o : Tl) (tv : Value), cs = [.int .i64 o.arms, .int .i64 o.block, tv, .int .i64 o.told] ∧ o.coins.length ≤ maxLen ∧ VRw 1 cvI W tv o.coins := by
  obtain ⟨xs, k, hk, hxy, _, hxl, hf⟩ := DataW.trod_struct ht h
  have hone : ∀ k, k < 4 → ∃ v, cs[k]? = some v ∧ (cs.drop k).take 1 = [v] := fun k hk => by
    have hk' : k < cs.length := by omega
    exact ⟨cs[k], List.getElem?_eq_getElem hk', by rw [List.drop_eq_getElem_cons hk', List.take_succ_cons, List.take_zero]⟩
  have hq : ∀ k, k < 4 → k ≠ 2 → ∃ z : Int, cs[k]? = some (.int .i64 z) := fun k hk hk1 => by
    obtain ⟨f, hf1, hf2, hf3, hf4⟩ := hF.1 k hk hk1
    have hg := hf k f hf1
    rw [hf2, hf3] at hg
    have hxk : k < xs.length := by rw [hxl]; exact (Array.getElem?_eq_some_iff.1 hf1).1
    rw [List.getElem?_eq_getElem hxk] at hg
    obtain ⟨z, hz, _⟩ := DataW.trod_int hf4 hg
    obtain ⟨v, hv1, hv2⟩ := hone k (by omega)
    rw [hv2] at hz
    refine ⟨z, ?_⟩
    rw [hv1]
    simpa using hz
  obtain ⟨f, e, hf1, hf2, hf3, hf4, hf5, hf6⟩ := hF.2
  have hg := hf 2 f hf1
  rw [hf2, hf3] at hg
  have hxk : 2 < xs.length := by rw [hxl]; exact (Array.getElem?_eq_some_iff.1 hf1).1
  rw [List.getElem?_eq_getElem hxk] at hg
  obtain ⟨tv, l, h1, h2, h3⟩ := rwI_of_trod hf4 hf5 hf6 hg
  obtain ⟨v, hv1, hv2⟩ := hone 2 (by omega)
  rw [hv2] at h1
  obtain rfl : v = tv := by simpa using h1
  obtain ⟨z0, e0⟩ := hq 0 (by omega) (by omega)
  obtain ⟨z1, e1⟩ := hq 1 (by omega) (by omega)
  obtain ⟨z3, e3⟩ := hq 3 (by omega) (by omega)
  refine ⟨⟨z0, z1, l, z3⟩, v, ?_, h2, h3⟩
  match cs, hl, e0, e1, e3, hv1 with
  | [c0, c1, c2, c3], _, e0, e1, e3, hv1 =>
    have g0 : c0 = .int .i64 z0 := Option.some.inj e0
    have g1 : c1 = .int .i64 z1 := Option.some.inj e1
    have g3 : c3 = .int .i64 z3 := Option.some.inj e3
    have g2 : c2 = v := Option.some.inj hv1
    rw [g0, g1, g2, g3]

theorem array4 {α : Type} {cs : Array α} (h : cs.size = 4) : ∃ c0 c1 c2 c3, cs = #[c0, c1, c2, c3] := by
  obtain ⟨l⟩ := cs
  match l, h with
  | [c0, c1, c2, c3], _ => exact ⟨c0, c1, c2, c3, rfl⟩
end Go.Proofs.Ythenphbmkmagaaa
