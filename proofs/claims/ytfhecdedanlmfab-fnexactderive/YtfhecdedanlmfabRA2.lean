/-
  Laws that came in, read.
-/
import Derived.Test.YtfhecdedanlmfabRA1
namespace Go.Proofs.Ytfhecdedanlmfab
open Go.RowKit Go.WideShapes Va Rc
set_option linter.all false

instance : Inhabited Lw := ⟨⟨[], [], 0⟩⟩
/-- The fields of a law: two lists of facts and a number. -/
def LawFields (P : Program) (fs : Array Field) : Prop :=
  (∀ k, k < 2 → ∃ f e, fs[k]? = some f ∧ f.offset = k ∧ P.cellsOf f.type = 1 ∧ P.underlying f.type = some (.slice e) ∧ P.underlying e = some (.int .i64) ∧ P.cellsOf e = 1) ∧
    ∃ f, fs[2]? = some f ∧ f.offset = 2 ∧ P.cellsOf f.type = 1 ∧ P.underlying f.type = some (.int .i64)

theorem law_of_trod {H : Type} {enc : TypeId × Value → H} {P : Program} {W : World} {sp : Nat → Bool} {hd : Bool} {t : TypeId} {fs : Array Field} {fuel : Nat} {cs : List Value} {x : DataW H × List MemPlace}
    (ht : P.underlying t = some (.struct fs)) (hF : LawFields P fs) (hl : cs.length = 3) (h : DataW.trod enc P W 0 sp hd fuel t cs = some x) :
    ∃ (o : Lw) (tv uv : Value), cs = [tv, uv, .int .i64 o.thn] ∧ (o.ifs.length ≤ maxLen ∧ o.nots.length ≤ maxLen) ∧ IRw W tv o.ifs ∧ IRw W uv o.nots := by
  obtain ⟨xs, k, hk, hxy, _, hxl, hf⟩ := DataW.trod_struct ht h
  have hone : ∀ k, k < 3 → ∃ v, cs[k]? = some v ∧ (cs.drop k).take 1 = [v] := fun k hk => by
    have hk' : k < cs.length := by omega
    exact ⟨cs[k], List.getElem?_eq_getElem hk', by rw [List.drop_eq_getElem_cons hk', List.take_succ_cons, List.take_zero]⟩
  have hq : ∃ z : Int, cs[2]? = some (.int .i64 z) := by
    obtain ⟨f, hf1, hf2, hf3, hf4⟩ := hF.2
    have hg := hf 2 f hf1
    rw [hf2, hf3] at hg
    have hxk : 2 < xs.length := by rw [hxl]; exact (Array.getElem?_eq_some_iff.1 hf1).1
    rw [List.getElem?_eq_getElem hxk] at hg
    obtain ⟨z, hz, _⟩ := DataW.trod_int hf4 hg
    obtain ⟨v, hv1, hv2⟩ := hone 2 (by omega)
    rw [hv2] at hz
    refine ⟨z, ?_⟩
    rw [hv1]
    simpa using hz
  have hs : ∀ k, k < 2 → ∃ tv l, cs[k]? = some tv ∧ l.length ≤ maxLen ∧ IRw W tv l := fun k hk => by
    obtain ⟨f, e, hf1, hf2, hf3, hf4, hf5, hf6⟩ := hF.1 k hk
    have hg := hf k f hf1
    rw [hf2, hf3] at hg
    have hxk : k < xs.length := by rw [hxl]; exact (Array.getElem?_eq_some_iff.1 hf1).1
    rw [List.getElem?_eq_getElem hxk] at hg
    obtain ⟨tv, l, h1, h2, h3⟩ := irw_of_trod hf4 hf5 hf6 hg
    obtain ⟨v, hv1, hv2⟩ := hone k (by omega)
    rw [hv2] at h1
    obtain rfl : v = tv := by simpa using h1
    exact ⟨v, l, hv1, h2, h3⟩
  obtain ⟨z, e2⟩ := hq
  obtain ⟨tv, l0, e0, m0, r0⟩ := hs 0 (by omega)
  obtain ⟨uv, l1, e1, m1, r1⟩ := hs 1 (by omega)
  refine ⟨⟨l0, l1, z⟩, tv, uv, ?_, ⟨m0, m1⟩, r0, r1⟩
  match cs, hl, e0, e1, e2 with
  | [c0, c1, c2], _, e0, e1, e2 =>
    have g0 : c0 = tv := Option.some.inj e0
    have g1 : c1 = uv := Option.some.inj e1
    have g2 : c2 = .int .i64 z := Option.some.inj e2
    rw [g0, g1, g2]

theorem laws_of_trod {H : Type} {enc : TypeId × Value → H} {P : Program} {W : World} {sp : Nat → Bool} {hd : Bool} {t e : TypeId} {fs : Array Field} {ao : Option Addr} {len cap : Nat} {d : DataW H} {p : List MemPlace}
    (ht : P.underlying t = some (.slice e)) (he : P.underlying e = some (.struct fs)) (ce : P.cellsOf e = 3) (hF : LawFields P fs) (h : DataW.Trod enc P W 0 sp hd t (.slice ao len cap) d p) :
    ∃ l : List Lw, l.length = len ∧ len ≤ maxLen ∧ LRw W (.slice ao len cap) l ∧ ∀ x ∈ l, x.ifs.length ≤ maxLen ∧ x.nots.length ≤ maxLen := by
  obtain ⟨fuel, hf⟩ := h
  rcases Deep.open_slice ht hf with ⟨h1, _⟩ | ⟨a, ln, c, m, n, D, Pl, h1, hb, hl, hcm, hm, _, hx⟩
  · simp [Value.cells] at h1
    obtain ⟨rfl, rfl, rfl⟩ := h1
    exact ⟨[], rfl, Nat.zero_le _, ⟨none, 0, rfl, Nat.zero_le _, Or.inl rfl⟩, fun x hx => by cases hx⟩
  · simp [Value.cells] at h1
    obtain ⟨rfl, rfl, rfl⟩ := h1
    have hle : len ≤ m := by rw [hm]; split <;> omega
    have hV : ∀ i, i < len → ∃ o : Lw, ∃ tv uv, W.cell? ((a.add (i * 3)).add 0) = some tv ∧ W.cell? ((a.add (i * 3)).add 1) = some uv ∧ W.cell? ((a.add (i * 3)).add 2) = some (.int .i64 o.thn) ∧ (o.ifs.length ≤ maxLen ∧ o.nots.length ≤ maxLen) ∧ IRw W tv o.ifs ∧ IRw W uv o.nots := by
      intro i hi
      obtain ⟨cs', h2, h3⟩ := hx i (by omega)
      rw [ce] at h2
      obtain ⟨_, hlen, hcell⟩ := World.cells?_some h2
      obtain ⟨o, tv, uv, hcs, k2, k3, k4⟩ := law_of_trod he hF hlen h3
      subst hcs
      exact ⟨o, tv, uv, hcell 0 (by omega), hcell 1 (by omega), hcell 2 (by omega), k2, k3, k4⟩
    obtain ⟨q, hq⟩ := Deep.choose_lt hV
    refine ⟨(List.range len).map q, by simp, by omega, ⟨some a, cap, by simp, by simpa using hl, ?_⟩, fun x hx => ?_⟩
    · by_cases h0 : len = 0
      · exact Or.inl (by simp [h0])
      · obtain ⟨b, off, spot⟩ := a
        obtain ⟨tv0, uv0, hs, _⟩ := hq 0 (by omega)
        have hspot : spot = none := by simpa [Addr.add] using World.cell?_spot hs
        subst hspot
        refine Or.inr ⟨b, off, rfl, World.block_lt_of_cell? W _ (by simpa [Addr.add_lit] using hs), ?_⟩
        intro i x hix
        have hi' : i < len := by simpa using get_lt' hix
        have hx2 : x = q i := by
          rw [List.getElem?_map, List.getElem?_range hi'] at hix
          simpa using hix.symm
        subst hx2
        obtain ⟨tv, uv, a0, a1, a2, -, a6, a7⟩ := hq i hi'
        rw [Addr.add_lit, Addr.add_lit] at a0 a1 a2
        exact ⟨tv, uv, ⟨a0, a1, a2⟩, a6, a7⟩
    · obtain ⟨i, hi, rfl⟩ := List.mem_map.1 hx
      obtain ⟨tv, uv, -, -, -, a4, -⟩ := hq i (by simpa using hi)
      exact a4

set_option maxRecDepth 100000 in
theorem fsLaw : ∃ fs, Try.prog.underlying 38 = some (.struct fs) ∧ LawFields Try.prog fs := by
  refine ⟨_, Try.underlying38, fun k hk => ?_, ⟨_, rfl, rfl, by kernel_rfl, Try.underlying2⟩⟩
  match k, hk with
  | 0, _ => exact ⟨_, 2, rfl, rfl, by kernel_rfl, Try.underlying22, Try.underlying2, by kernel_rfl⟩
  | 1, _ => exact ⟨_, 2, rfl, rfl, by kernel_rfl, Try.underlying22, Try.underlying2, by kernel_rfl⟩

set_option maxRecDepth 100000 in
theorem laws_of_read {H : Type} {enc : TypeId × Value → H} {W : World} {sp : Nat → Bool} {hd : Bool} {ao : Option Addr} {n cap : Nat} {d : DataW H} {p : List MemPlace}
    (h : DataW.Trod enc Try.prog W 0 sp hd 23 (.slice ao n cap) d p) : ∃ l : List Lw, l.length = n ∧ n ≤ maxLen ∧ LRw W (.slice ao n cap) l ∧ ∀ x ∈ l, x.ifs.length ≤ maxLen ∧ x.nots.length ≤ maxLen := by
  obtain ⟨fs, h1, h2⟩ := fsLaw
  exact laws_of_trod Try.underlying23 h1 (by kernel_rfl) h2 h
end Go.Proofs.Ytfhecdedanlmfab
