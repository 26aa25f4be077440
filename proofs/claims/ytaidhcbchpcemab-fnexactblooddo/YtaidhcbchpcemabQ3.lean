/-
  Units that came in, read.
-/
import Derived.Test.YtaidhcbchpcemabVb
import Derived.Test.YtaidhcbchpcemabQ2
import Derived.Deep.RegionWith
import Derived.BigQuiet
import Derived.WideShapes
import Derived.ProofKit
import Derived.OpenShut
import Derived.ShutString
import Derived.ChangeOld
import Derived.Below
namespace Go.Proofs.Ytaidhcbchpcemab
open Go.RowKit Go.WideShapes Va Bl
set_option linter.unusedVariables false

theorem irw_of_trod {H : Type} {enc : TypeId × Value → H} {P : Program} {W : World} {sp : Nat → Bool} {hd : Bool} {t e : TypeId} {fuel : Nat} {cs : List Value} {x : DataW H × List MemPlace}
    (ht : P.underlying t = some (.slice e)) (he : P.underlying e = some (.int .i64)) (hc : P.cellsOf e = 1) (h : DataW.trod enc P W 0 sp hd fuel t cs = some x) :
    ∃ (tv : Value) (l : List Int), cs = [tv] ∧ l.length ≤ maxLen ∧ IRw W tv l := by
  rcases Deep.open_slice1 ht hc h with ⟨h1, _⟩ | ⟨a, ln, c, m, n, V, D, Pl, h1, _, hl, hcm, hm, _, hx⟩
  · exact ⟨_, [], h1, by simp, none, 0, rfl, Nat.le_refl _, Or.inl rfl⟩
  · have hle : ln ≤ m := by rw [hm]; split <;> omega
    have hV : ∀ i, i < ln → ∃ z : Int, W.cell? (a.add i) = some (.int .i64 z) := fun i hi => by
      obtain ⟨k1, k2⟩ := hx i (by omega)
      obtain ⟨z, hz, _⟩ := DataW.trod_int he k2
      refine ⟨z, ?_⟩
      rw [k1]
      simpa using hz
    obtain ⟨q, hq⟩ := Deep.choose_lt hV
    refine ⟨_, (List.range ln).map q, h1, by simp; omega, some a, c, by simp, by simpa using hl, ?_⟩
    by_cases h0 : ln = 0
    · exact Or.inl (by simp [h0])
    · obtain ⟨b, off, spot⟩ := a
      have hs := hq 0 (by omega)
      have hspot : spot = none := by simpa [Addr.add] using World.cell?_spot hs
      subst hspot
      refine Or.inr ⟨b, off, rfl, World.block_lt_of_cell? W _ (by simpa [Addr.add_lit] using hs), fun i y hy => ?_⟩
      have hi' : i < ln := by simpa using get_lt' hy
      have hy2 : y = q i := by
        rw [List.getElem?_map, List.getElem?_range hi'] at hy
        simpa using hy.symm
      subst hy2
      have := hq i hi'
      rw [Addr.add_lit] at this
      exact this

/-- The fields of a unit: five numbers and the antigens. -/
def UnitFields (P : Program) (fs : Array Field) : Prop :=
  (∀ k, k < 6 → k ≠ 2 → ∃ f, fs[k]? = some f ∧ f.offset = k ∧ P.cellsOf f.type = 1 ∧ P.underlying f.type = some (.int .i64)) ∧
    ∃ f e, fs[2]? = some f ∧ f.offset = 2 ∧ P.cellsOf f.type = 1 ∧ P.underlying f.type = some (.slice e) ∧ P.underlying e = some (.int .i64) ∧ P.cellsOf e = 1

theorem unit_of_trod {H : Type} {enc : TypeId × Value → H} {P : Program} {W : World} {sp : Nat → Bool} {hd : Bool} {t : TypeId} {fs : Array Field} {fuel : Nat} {cs : List Value} {x : DataW H × List MemPlace}
    (ht : P.underlying t = some (.struct fs)) (hF : UnitFields P fs) (hl : cs.length = 6) (h : DataW.trod enc P W 0 sp hd fuel t cs = some x) :
    ∃ (o : Ut) (tv : Value), cs = [.int .i64 o.id, .int .i64 o.grp, tv, .int .i64 o.til, .int .i64 o.st, .int .i64 o.fr] ∧ o.ant.length ≤ maxLen ∧ IRw W tv o.ant := by
  obtain ⟨xs, k, hk, hxy, _, hxl, hf⟩ := DataW.trod_struct ht h
  have hone : ∀ k, k < 6 → ∃ v, cs[k]? = some v ∧ (cs.drop k).take 1 = [v] := fun k hk => by
    have hk' : k < cs.length := by omega
    exact ⟨cs[k], List.getElem?_eq_getElem hk', by rw [List.drop_eq_getElem_cons hk', List.take_succ_cons, List.take_zero]⟩
  have hq : ∀ k, k < 6 → k ≠ 2 → ∃ z : Int, cs[k]? = some (.int .i64 z) := fun k hk hk1 => by
    obtain ⟨f, hf1, hf2, hf3, hf4⟩ := hF.1 k hk hk1
    have hg := hf k f hf1
    rw [hf2, hf3] at hg
    have hxk : k < xs.length := by rw [hxl]; exact (Array.getElem?_eq_some_iff.1 hf1).1
    rw [List.getElem?_eq_getElem hxk] at hg
    obtain ⟨z, hz, _⟩ := DataW.trod_int hf4 hg
    obtain ⟨v, hv1, hv2⟩ := hone k (by omega)
    rw [hv2] at hz
    refine ⟨z, ?_⟩
    rw [hv1]
    simpa using hz
  obtain ⟨f, e, hf1, hf2, hf3, hf4, hf5, hf6⟩ := hF.2
  have hg := hf 2 f hf1
  rw [hf2, hf3] at hg
  have hxk : 2 < xs.length := by rw [hxl]; exact (Array.getElem?_eq_some_iff.1 hf1).1
  rw [List.getElem?_eq_getElem hxk] at hg
  obtain ⟨tv, l, h1, h2, h3⟩ := irw_of_trod hf4 hf5 hf6 hg
  obtain ⟨v, hv1, hv2⟩ := hone 2 (by omega)
  rw [hv2] at h1
  obtain rfl : v = tv := by simpa using h1
  obtain ⟨z0, e0⟩ := hq 0 (by omega) (by omega)
  obtain ⟨z1, e1⟩ := hq 1 (by omega) (by omega)
  obtain ⟨z3, e3⟩ := hq 3 (by omega) (by omega)
  obtain ⟨z4, e4⟩ := hq 4 (by omega) (by omega)
  obtain ⟨z5, e5⟩ := hq 5 (by omega) (by omega)
  refine ⟨⟨z0, z1, l, z3, z4, z5⟩, v, ?_, h2, h3⟩
  match cs, hl, e0, e1, e3, e4, e5, hv1 with
  | [c0, c1, c2, c3, c4, c5], _, e0, e1, e3, e4, e5, hv1 =>
    have g0 : c0 = .int .i64 z0 := Option.some.inj e0
    have g2 : c1 = .int .i64 z1 := Option.some.inj e1
    have g3 : c3 = .int .i64 z3 := Option.some.inj e3
    have g4 : c4 = .int .i64 z4 := Option.some.inj e4
    have g5 : c5 = .int .i64 z5 := Option.some.inj e5
    have g1 : c2 = v := Option.some.inj hv1
    rw [g0, g2, g1, g3, g4, g5]

theorem units_of_trod {H : Type} {enc : TypeId × Value → H} {P : Program} {W : World} {sp : Nat → Bool} {hd : Bool} {t e : TypeId} {fs : Array Field} {ao : Option Addr} {len cap : Nat} {d : DataW H} {p : List MemPlace}
    (ht : P.underlying t = some (.slice e)) (he : P.underlying e = some (.struct fs)) (ce : P.cellsOf e = 6) (hF : UnitFields P fs) (h : DataW.Trod enc P W 0 sp hd t (.slice ao len cap) d p) :
    ∃ l : List Ut, l.length = len ∧ len ≤ maxLen ∧ URw W (.slice ao len cap) l ∧ ∀ x ∈ l, x.ant.length ≤ maxLen := by
  obtain ⟨fuel, hf⟩ := h
  rcases Deep.open_slice ht hf with ⟨h1, _⟩ | ⟨a, ln, c, m, n, D, Pl, h1, hb, hl, hcm, hm, _, hx⟩
  · simp [Value.cells] at h1
    obtain ⟨rfl, rfl, rfl⟩ := h1
    exact ⟨[], rfl, Nat.zero_le _, ⟨none, 0, rfl, Nat.zero_le _, Or.inl rfl⟩, fun x hx => by cases hx⟩
  · simp [Value.cells] at h1
    obtain ⟨rfl, rfl, rfl⟩ := h1
    have hle : len ≤ m := by rw [hm]; split <;> omega
    have hV : ∀ i, i < len → ∃ o : Ut, ∃ tv, W.cell? ((a.add (i * 6)).add 0) = some (.int .i64 o.id) ∧ W.cell? ((a.add (i * 6)).add 1) = some (.int .i64 o.grp) ∧ W.cell? ((a.add (i * 6)).add 2) = some (tv) ∧ W.cell? ((a.add (i * 6)).add 3) = some (.int .i64 o.til) ∧ W.cell? ((a.add (i * 6)).add 4) = some (.int .i64 o.st) ∧ W.cell? ((a.add (i * 6)).add 5) = some (.int .i64 o.fr) ∧ o.ant.length ≤ maxLen ∧ IRw W tv o.ant := by
      intro i hi
      obtain ⟨cs', h2, h3⟩ := hx i (by omega)
      rw [ce] at h2
      obtain ⟨_, hlen, hcell⟩ := World.cells?_some h2
      obtain ⟨o, tv, hcs, k2, k3⟩ := unit_of_trod he hF hlen h3
      subst hcs
      exact ⟨o, tv, hcell 0 (by omega), hcell 1 (by omega), hcell 2 (by omega), hcell 3 (by omega), hcell 4 (by omega), hcell 5 (by omega), k2, k3⟩
    obtain ⟨q, hq⟩ := Deep.choose_lt hV
    refine ⟨(List.range len).map q, by simp, by omega, ⟨some a, cap, by simp, by simpa using hl, ?_⟩, fun x hx => ?_⟩
    · by_cases h0 : len = 0
      · exact Or.inl (by simp [h0])
      · obtain ⟨b, off, spot⟩ := a
        obtain ⟨tv0, hs, _⟩ := hq 0 (by omega)
        have hspot : spot = none := by simpa [Addr.add] using World.cell?_spot hs
        subst hspot
        refine Or.inr ⟨b, off, rfl, World.block_lt_of_cell? W _ (by simpa [Addr.add_lit] using hs), ?_⟩
        intro i x hix
        have hi' : i < len := by simpa using get_lt' hix
        have hx2 : x = q i := by
          rw [List.getElem?_map, List.getElem?_range hi'] at hix
          simpa using hix.symm
        subst hx2
        obtain ⟨tv, a0, a1, a2, a3, a4, a5, -, a6⟩ := hq i hi'
        rw [Addr.add_lit, Addr.add_lit] at a0 a1 a2 a3 a4 a5
        exact ⟨tv, ⟨a0, a1, a2, a3, a4, a5⟩, a6⟩
    · obtain ⟨i, hi, rfl⟩ := List.mem_map.1 hx
      obtain ⟨tv, -, -, -, -, -, -, a4, -⟩ := hq i (by simpa using hi)
      exact a4

set_option maxRecDepth 100000 in
theorem fsUnit : ∃ fs, Try.prog.underlying 24 = some (.struct fs) ∧ UnitFields Try.prog fs := by
  refine ⟨_, Try.underlying24, fun k hk hk1 => ?_, ⟨_, 2, rfl, rfl, by kernel_rfl, Try.underlying22, Try.underlying2, by kernel_rfl⟩⟩
  match k, hk, hk1 with
  | 0, _, _ => exact ⟨_, rfl, rfl, by kernel_rfl, Try.underlying2⟩
  | 1, _, _ => exact ⟨_, rfl, rfl, by kernel_rfl, Try.underlying2⟩
  | 2, _, h => exact absurd rfl h
  | 3, _, _ => exact ⟨_, rfl, rfl, by kernel_rfl, Try.underlying2⟩
  | 4, _, _ => exact ⟨_, rfl, rfl, by kernel_rfl, Try.underlying2⟩
  | 5, _, _ => exact ⟨_, rfl, rfl, by kernel_rfl, Try.underlying2⟩

set_option maxRecDepth 100000 in
theorem units_of_read {H : Type} {enc : TypeId × Value → H} {W : World} {sp : Nat → Bool} {hd : Bool} {ao : Option Addr} {n cap : Nat} {d : DataW H} {p : List MemPlace}
    (h : DataW.Trod enc Try.prog W 0 sp hd 37 (.slice ao n cap) d p) : ∃ l : List Ut, l.length = n ∧ n ≤ maxLen ∧ URw W (.slice ao n cap) l ∧ ∀ x ∈ l, x.ant.length ≤ maxLen := by
  obtain ⟨fs, h1, h2⟩ := fsUnit
  exact units_of_trod Try.underlying37 h1 (by kernel_rfl) h2 h

theorem array6 {α : Type} {cs : Array α} (h : cs.size = 6) : ∃ c0 c1 c2 c3 c4 c5, cs = #[c0, c1, c2, c3, c4, c5] := by
  obtain ⟨l⟩ := cs
  match l, h with
  | [c0, c1, c2, c3, c4, c5], _ => exact ⟨c0, c1, c2, c3, c4, c5, rfl⟩

set_option maxRecDepth 100000 in
theorem unit_of_read {H : Type} {enc : TypeId × Value → H} {W : World} {sp : Nat → Bool} {hd : Bool} {r : Reach} {b0 : Nat} {v : Value} {d : DataW H} {p : List MemPlace}
    (hv : Value.okWide Try.prog W r b0 24 v) (h : DataW.Trod enc Try.prog W 0 sp hd 24 v d p) : ∃ (x : Ut) (ta : Option Addr) (tc : Nat), v = aU x (.slice ta x.ant.length tc) ∧ x.ant.length ≤ maxLen ∧ IRw W (.slice ta x.ant.length tc) x.ant := by
  obtain ⟨fs, hu, hfs⟩ := fsUnit
  obtain ⟨cs, rfl, hsz⟩ := okWide_struct hu hv
  obtain ⟨c0, c1, c2, c3, c4, c5, rfl⟩ := array6 (hsz.trans (by kernel_rfl))
  obtain ⟨fuel, hf⟩ := h
  obtain ⟨o, tv, h1, h2, h3⟩ := unit_of_trod hu hfs (by simp [Value.cells]) hf
  obtain ⟨ta, tc, rfl⟩ := h3.form
  simp [Value.cells] at h1
  obtain ⟨rfl, rfl, rfl, rfl, rfl, rfl⟩ := h1
  exact ⟨o, ta, tc, rfl, h2, h3⟩
end Go.Proofs.Ytaidhcbchpcemab
