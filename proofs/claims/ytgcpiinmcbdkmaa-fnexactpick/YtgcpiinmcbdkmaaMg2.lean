/-
  Merged: Q1 Q2 Q3.
-/
import Derived.Test.YtgcpiinmcbdkmaaMg1
import Derived.Deep.RegionWith
import Derived.BigQuiet
import Derived.WideShapes
import Derived.ProofKit
import Derived.OpenShut
import Derived.ShutString
import Derived.ChangeOld
import Derived.Below
namespace Go.Proofs.Ytgcpiinmcbdkmaa.Bl
open Va
set_option linter.unusedVariables false
section
variable {α : Type} (ok : α → Bool) (key : α → Int)
def rAt (l : List α) (i : Nat) : Bool :=
  match l[i]? with
  | none => true
  | some x => ok x && (match (if i = 0 then none else l[i - 1]?) with
    | none => true
    | some z => decide (key z < key x))
def risB (l : List α) : Bool := (List.range l.length).all (rAt ok key l)
def RTo (l : List α) (i : Nat) : Prop := ∀ j, j < i → rAt ok key l j = true
end
section
variable {α : Type} {ok : α → Bool} {key : α → Int}
theorem risB_iff {l : List α} : risB ok key l = true ↔ ∀ i, i < l.length → rAt ok key l i = true := by simp [risB, List.all_eq_true]
theorem RTo.zero (l : List α) : RTo ok key l 0 := fun j hj => absurd hj (Nat.not_lt_zero _)
theorem rAt_iff {l : List α} {i : Nat} {x : α} (hx : l[i]? = some x) : rAt ok key l i = true ↔ ok x = true ∧ ∀ z, 0 < i → l[i - 1]? = some z → key z < key x := by
  unfold rAt
  rw [hx]
  by_cases h0 : i = 0
  · simp [h0]
  · rw [if_neg h0]
    cases hz : l[i - 1]? with
    | none => simp
    | some z => simp; intro _; omega
theorem RTo.succ {l : List α} {i : Nat} {x : α} (h : RTo ok key l i) (hx : l[i]? = some x) (hp : ok x = true) (hz : ∀ z, 0 < i → l[i - 1]? = some z → key z < key x) : RTo ok key l (i + 1) := fun j hj => by
  rcases Nat.lt_succ_iff_lt_or_eq.1 hj with q | rfl
  · exact h j q
  · exact (rAt_iff hx).2 ⟨hp, hz⟩
theorem ris_true {l : List α} (h : RTo ok key l l.length) : risB ok key l = true := risB_iff.2 h
theorem ris_no {l : List α} {i : Nat} {x : α} (hx : l[i]? = some x) (hp : ok x = false) : risB ok key l = false := by
  cases q : risB ok key l with
  | false => rfl
  | true =>
    have := ((rAt_iff hx).1 (risB_iff.1 q i (List.getElem?_eq_some_iff.1 hx).1)).1
    rw [hp] at this; cases this
theorem ris_no2 {l : List α} {i : Nat} {x z : α} (hx : l[i]? = some x) (h0 : 0 < i) (hz : l[i - 1]? = some z) (hxz : key x ≤ key z) : risB ok key l = false := by
  cases q : risB ok key l with
  | false => rfl
  | true =>
    have := ((rAt_iff hx).1 (risB_iff.1 q i (List.getElem?_eq_some_iff.1 hx).1)).2 z h0 hz
    omega
theorem ris_ok {l : List α} (h : risB ok key l = true) : ∀ x ∈ l, ok x = true := fun x hx => by
  obtain ⟨i, hi⟩ := List.getElem?_of_mem hx
  exact ((rAt_iff hi).1 (risB_iff.1 h i (List.getElem?_eq_some_iff.1 hi).1)).1
theorem ris_lt {l : List α} (h : risB ok key l = true) : ∀ (d i : Nat) (x y : α), l[i]? = some x → l[i + d + 1]? = some y → key x < key y := by
  intro d
  induction d with
  | zero =>
    intro i x y hx hy
    exact ((rAt_iff hy).1 (risB_iff.1 h _ (List.getElem?_eq_some_iff.1 hy).1)).2 x (by omega) hx
  | succ d ih =>
    intro i x y hx hy
    have hl := (List.getElem?_eq_some_iff.1 hy).1
    obtain ⟨z, hz⟩ : ∃ z, l[i + d + 1]? = some z := ⟨_, List.getElem?_eq_getElem (by omega)⟩
    have h1 := ih i x z hx hz
    have h2 := ((rAt_iff hy).1 (risB_iff.1 h _ hl)).2 z (by omega) hz
    omega
end
structure Ut where
  id : Int
  grp : Int
  ant : List Int
  til : Int
  st : Int
  fr : Int
structure Nd where
  p : Int
  g : Int
  ag : List Int
structure Da where
  k : Int
  id : Int
  t : Int
instance : Inhabited Ut := ⟨⟨0, 0, [], 0, 0, 0⟩⟩
def antB (l : List Int) : Bool := risB (fun x => rng x 0 19) (fun x => x) l
def redB (u p : Int) : Bool := rng u 0 7 && (rng p 0 7 && decide (u.toNat &&& (7 - p.toNat) = 0))
def perB (x : Int) : Bool := rng x 0 999
def forB (st fr : Int) : Bool := rng st 1 4 && (if st = 2 ∨ st = 3 then perB fr else decide (fr = -1))
def unitB (u : Ut) : Bool := rng u.id 1 1000000 && (rng u.grp 0 7 && (antB u.ant && (tmv u.til && forB u.st u.fr)))
def needB (n : Nd) : Bool := perB n.p && (rng n.g 0 7 && antB n.ag)
def bankB (l : List Ut) : Bool := decide (l.length ≤ 300) && risB unitB Ut.id l
def hasB (l : List Int) (n : Int) : Bool := l.any (· == n)
def freeOf (u : Ut) (n : Nd) : Bool := !(u.ant.any (hasB n.ag))
def fitsB (u : Ut) (n : Nd) : Bool := unitB u && (needB n && (redB u.grp n.g && freeOf u n))
def rank (u : Ut) (n : Nd) : Int := if u.grp = n.g then 0 else if u.grp < 4 ∧ 4 ≤ n.g then 2 else 1
def befB (n : Nd) (a b : Ut) : Bool := if rank a n = rank b n then (if a.til = b.til then decide (a.id < b.id) else decide (a.til < b.til)) else decide (rank a n < rank b n)
def mayB (n : Nd) (t : Int) (u : Ut) : Bool := decide (u.st = 1) && (decide (t ≤ u.til) && fitsB u n)
def insU (n : Nd) (u : Ut) : List Ut → List Ut
  | [] => [u]
  | x :: l => if befB n u x then u :: x :: l else x :: insU n u l
def pickB (l : List Ut) (n : Nd) (t c : Int) : Bool := bankB l && (needB n && (tmv t && rng c 0 100))
def refuse (u : Ut) (n : Nd) (t : Int) : Int := if u.til < t then 5 else if fitsB u n = true then 0 else 6
end Go.Proofs.Ytgcpiinmcbdkmaa.Bl

namespace Go.Proofs.Ytgcpiinmcbdkmaa
open Go.RowKit Va Bl
set_option linter.unusedVariables false
theorem some_of {α : Type} (l : List α) (i : Nat) (h : i < l.length) : ∃ x, l[i]? = some x := ⟨_, List.getElem?_eq_getElem h⟩
def IRw (w : World) (v : Value) (l : List Int) : Prop :=
  ∃ ao cap, v = .slice ao l.length cap ∧ l.length ≤ cap ∧ (l.length = 0 ∨ ∃ b off, ao = some ⟨b, off, none⟩ ∧ b < w.heap.size ∧ ∀ i x, l[i]? = some x → w.cell? ⟨b, off + i, none⟩ = some (.int .i64 x))
theorem IRw.below {w w' : World} {v : Value} {l : List Int} (h : IRw w v l) (hb : Below w.heap.size w w') : IRw w' v l := by
  obtain ⟨ao, cap, rfl, hlc, h2⟩ := h
  refine ⟨ao, cap, rfl, hlc, ?_⟩
  rcases h2 with h2 | ⟨b, off, h3, h4, h5⟩
  · exact Or.inl h2
  · exact Or.inr ⟨b, off, h3, Nat.lt_of_lt_of_le h4 hb.size, fun i x hx => (hb.cell (p := ⟨b, off + i, none⟩) h4).trans (h5 i x hx)⟩
theorem IRw.at {w : World} {ao : Option Addr} {cap : Nat} {n : Nat} {l : List Int} (h : IRw w (.slice ao n cap) l) {i : Nat} {x : Int} (hx : l[i]? = some x) :
    ∃ b off, ao = some ⟨b, off, none⟩ ∧ b < w.heap.size ∧ ∀ i x, l[i]? = some x → w.cell? ⟨b, off + i, none⟩ = some (.int .i64 x) := by
  obtain ⟨ao', cap', he, _, h2⟩ := h
  obtain ⟨rfl, rfl, rfl⟩ : ao = ao' ∧ n = l.length ∧ cap = cap' := by simpa using he
  have := get_lt' hx
  rcases h2 with h2 | ⟨b, off, h3, h4, h5⟩
  · omega
  · exact ⟨b, off, h3, h4, h5⟩
theorem IRw.form {w : World} {v : Value} {l : List Int} (h : IRw w v l) : ∃ ao cap, v = .slice ao l.length cap := by
  obtain ⟨ao, cap, rfl, _, _⟩ := h; exact ⟨ao, cap, rfl⟩
theorem IRw.len {w : World} {ao : Option Addr} {n cap : Nat} {l : List Int} (h : IRw w (.slice ao n cap) l) : n = l.length := by
  obtain ⟨ao', cap', he, _, _⟩ := h; simp at he; omega
theorem IRw.cap {w : World} {ao : Option Addr} {n cap : Nat} {l : List Int} (h : IRw w (.slice ao n cap) l) : l.length ≤ cap := by
  obtain ⟨ao', cap', he, hc, _⟩ := h; simp at he; omega
theorem IRw.nil (w : World) (ao : Option Addr) (cap : Nat) : IRw w (.slice ao 0 cap) [] := ⟨ao, cap, rfl, Nat.zero_le _, Or.inl rfl⟩
def UCell (w : World) (b o : Nat) (x : Ut) (tv : Value) : Prop :=
  w.cell? ⟨b, o, none⟩ = some (.int .i64 x.id) ∧ w.cell? ⟨b, o + 1, none⟩ = some (.int .i64 x.grp) ∧ w.cell? ⟨b, o + 2, none⟩ = some (tv) ∧ w.cell? ⟨b, o + 3, none⟩ = some (.int .i64 x.til) ∧ w.cell? ⟨b, o + 4, none⟩ = some (.int .i64 x.st) ∧ w.cell? ⟨b, o + 5, none⟩ = some (.int .i64 x.fr)
theorem UCell.below {w w' : World} {b o : Nat} {x : Ut} {tv : Value} (h : UCell w b o x tv) (hb : Below w.heap.size w w') (hl : b < w.heap.size) : UCell w' b o x tv :=
  ⟨(hb.cell (p := ⟨b, o, none⟩) hl).trans h.1, (hb.cell (p := ⟨b, o + 1, none⟩) hl).trans h.2.1, (hb.cell (p := ⟨b, o + 2, none⟩) hl).trans h.2.2.1, (hb.cell (p := ⟨b, o + 3, none⟩) hl).trans h.2.2.2.1, (hb.cell (p := ⟨b, o + 4, none⟩) hl).trans h.2.2.2.2.1, (hb.cell (p := ⟨b, o + 5, none⟩) hl).trans h.2.2.2.2.2⟩
def aU (x : Ut) (tv : Value) : Value := .agg #[.int .i64 x.id, .int .i64 x.grp, tv, .int .i64 x.til, .int .i64 x.st, .int .i64 x.fr]
def URw (w : World) (v : Value) (l : List Ut) : Prop :=
  ∃ ao cap, v = .slice ao l.length cap ∧ l.length ≤ cap ∧ (l.length = 0 ∨ ∃ b off, ao = some ⟨b, off, none⟩ ∧ b < w.heap.size ∧ ∀ i x, l[i]? = some x → ∃ tv, UCell w b (off + i * 6) x tv ∧ IRw w tv x.ant)
theorem URw.below {w w' : World} {v : Value} {l : List Ut} (h : URw w v l) (hb : Below w.heap.size w w') : URw w' v l := by
  obtain ⟨ao, cap, rfl, hlc, h2⟩ := h
  refine ⟨ao, cap, rfl, hlc, ?_⟩
  rcases h2 with h2 | ⟨b, off, h3, h4, h5⟩
  · exact Or.inl h2
  · refine Or.inr ⟨b, off, h3, Nat.lt_of_lt_of_le h4 hb.size, fun i x hx => ?_⟩
    obtain ⟨tv, h6, h7⟩ := h5 i x hx
    exact ⟨tv, h6.below hb h4, h7.below hb⟩
theorem URw.at {w : World} {ao : Option Addr} {cap : Nat} {n : Nat} {l : List Ut} (h : URw w (.slice ao n cap) l) {i : Nat} {x : Ut} (hx : l[i]? = some x) :
    ∃ b off ta tc, ao = some ⟨b, off, none⟩ ∧ b < w.heap.size ∧ IRw w (.slice ta x.ant.length tc) x.ant ∧ w.cell? ⟨b, off + i * 6, none⟩ = some (.int .i64 x.id) ∧ w.cell? ⟨b, off + i * 6 + 1, none⟩ = some (.int .i64 x.grp) ∧ w.cell? ⟨b, off + i * 6 + 2, none⟩ = some (.slice ta x.ant.length tc) ∧ w.cell? ⟨b, off + i * 6 + 3, none⟩ = some (.int .i64 x.til) ∧ w.cell? ⟨b, off + i * 6 + 4, none⟩ = some (.int .i64 x.st) ∧ w.cell? ⟨b, off + i * 6 + 5, none⟩ = some (.int .i64 x.fr) := by
  obtain ⟨ao', cap', he, _, h2⟩ := h
  obtain ⟨rfl, rfl, rfl⟩ : ao = ao' ∧ n = l.length ∧ cap = cap' := by simpa using he
  have := get_lt' hx
  rcases h2 with h2 | ⟨b, off, h3, h4, h5⟩
  · omega
  · obtain ⟨tv, ⟨c0, c1, c2, c3, c4, c5⟩, h7⟩ := h5 i x hx
    obtain ⟨ta, tc, rfl⟩ := h7.form
    exact ⟨b, off, ta, tc, h3, h4, h7, c0, c1, c2, c3, c4, c5⟩
theorem URw.len {w : World} {ao : Option Addr} {n cap : Nat} {l : List Ut} (h : URw w (.slice ao n cap) l) : n = l.length := by
  obtain ⟨ao', cap', he, _, _⟩ := h; simp at he; omega
theorem URw.cap {w : World} {ao : Option Addr} {n cap : Nat} {l : List Ut} (h : URw w (.slice ao n cap) l) : l.length ≤ cap := by
  obtain ⟨ao', cap', he, hc, _⟩ := h; simp at he; omega
theorem URw.nil (w : World) (ao : Option Addr) (cap : Nat) : URw w (.slice ao 0 cap) [] := ⟨ao, cap, rfl, Nat.zero_le _, Or.inl rfl⟩
end Go.Proofs.Ytgcpiinmcbdkmaa

namespace Go.Proofs.Ytgcpiinmcbdkmaa
open Go.RowKit Go.WideShapes Va Bl
set_option linter.unusedVariables false
theorem irw_of_trod {H : Type} {enc : TypeId × Value → H} {P : Program} {W : World} {sp : Nat → Bool} {hd : Bool} {t e : TypeId} {fuel : Nat} {cs : List Value} {x : DataW H × List MemPlace}
    (ht : P.underlying t = some (.slice e)) (he : P.underlying e = some (.int .i64)) (hc : P.cellsOf e = 1) (h : DataW.trod enc P W 0 sp hd fuel t cs = some x) :
    ∃ (tv : Value) (l : List Int), cs = [tv] ∧ l.length ≤ maxLen ∧ IRw W tv l := by
  rcases Deep.open_slice1 ht hc h with ⟨h1, _⟩ | ⟨a, ln, c, m, n, V, D, Pl, h1, _, hl, hcm, hm, _, hx⟩
  · exact ⟨_, [], h1, by simp, none, 0, rfl, Nat.le_refl _, Or.inl rfl⟩
  · have hle : ln ≤ m := by rw [hm]; split <;> omega
    have hV : ∀ i, i < ln → ∃ z : Int, W.cell? (a.add i) = some (.int .i64 z) := fun i hi => by
      obtain ⟨k1, k2⟩ := hx i (by omega)
      obtain ⟨z, hz, _⟩ := DataW.trod_int he k2
      refine ⟨z, ?_⟩
      rw [k1]
      simpa using hz
    obtain ⟨q, hq⟩ := Deep.choose_lt hV
    refine ⟨_, (List.range ln).map q, h1, by simp; omega, some a, c, by simp, by simpa using hl, ?_⟩
    by_cases h0 : ln = 0
    · exact Or.inl (by simp [h0])
    · obtain ⟨b, off, spot⟩ := a
      have hs := hq 0 (by omega)
      have hspot : spot = none := by simpa [Addr.add] using World.cell?_spot hs
      subst hspot
      refine Or.inr ⟨b, off, rfl, World.block_lt_of_cell? W _ (by simpa [Addr.add_lit] using hs), fun i y hy => ?_⟩
      have hi' : i < ln := by simpa using get_lt' hy
      have hy2 : y = q i := by
        rw [List.getElem?_map, List.getElem?_range hi'] at hy
        simpa using hy.symm
      subst hy2
      have := hq i hi'
      rw [Addr.add_lit] at this
      exact this
def UnitFields (P : Program) (fs : Array Field) : Prop :=
  (∀ k, k < 6 → k ≠ 2 → ∃ f, fs[k]? = some f ∧ f.offset = k ∧ P.cellsOf f.type = 1 ∧ P.underlying f.type = some (.int .i64)) ∧
    ∃ f e, fs[2]? = some f ∧ f.offset = 2 ∧ P.cellsOf f.type = 1 ∧ P.underlying f.type = some (.slice e) ∧ P.underlying e = some (.int .i64) ∧ P.cellsOf e = 1
theorem unit_of_trod {H : Type} {enc : TypeId × Value → H} {P : Program} {W : World} {sp : Nat → Bool} {hd : Bool} {t : TypeId} {fs : Array Field} {fuel : Nat} {cs : List Value} {x : DataW H × List MemPlace}
    (ht : P.underlying t = some (.struct fs)) (hF : UnitFields P fs) (hl : cs.length = 6) (h : DataW.trod enc P W 0 sp hd fuel t cs = some x) :
    ∃ (o : Ut) (tv : Value), cs = [.int .i64 o.id, .int .i64 o.grp, tv, .int .i64 o.til, .int .i64 o.st, .int .i64 o.fr] ∧ o.ant.length ≤ maxLen ∧ IRw W tv o.ant := by
  obtain ⟨xs, k, hk, hxy, _, hxl, hf⟩ := DataW.trod_struct ht h
  have hone : ∀ k, k < 6 → ∃ v, cs[k]? = some v ∧ (cs.drop k).take 1 = [v] := fun k hk => by
    have hk' : k < cs.length := by omega
    exact ⟨cs[k], List.getElem?_eq_getElem hk', by rw [List.drop_eq_getElem_cons hk', List.take_succ_cons, List.take_zero]⟩
  have hq : ∀ k, k < 6 → k ≠ 2 → ∃ z : Int, cs[k]? = some (.int .i64 z) := fun k hk hk1 => by
    obtain ⟨f, hf1, hf2, hf3, hf4⟩ := hF.1 k hk hk1
    have hg := hf k f hf1
    rw [hf2, hf3] at hg
    have hxk : k < xs.length := by rw [hxl]; exact (Array.getElem?_eq_some_iff.1 hf1).1
    rw [List.getElem?_eq_getElem hxk] at hg
    obtain ⟨z, hz, _⟩ := DataW.trod_int hf4 hg
    obtain ⟨v, hv1, hv2⟩ := hone k (by omega)
    rw [hv2] at hz
    refine ⟨z, ?_⟩
    rw [hv1]
    simpa using hz
  obtain ⟨f, e, hf1, hf2, hf3, hf4, hf5, hf6⟩ := hF.2
  have hg := hf 2 f hf1
  rw [hf2, hf3] at hg
  have hxk : 2 < xs.length := by rw [hxl]; exact (Array.getElem?_eq_some_iff.1 hf1).1
  rw [List.getElem?_eq_getElem hxk] at hg
  obtain ⟨tv, l, h1, h2, h3⟩ := irw_of_trod hf4 hf5 hf6 hg
  obtain ⟨v, hv1, hv2⟩ := hone 2 (by omega)
  rw [hv2] at h1
  obtain rfl : v = tv := by simpa using h1
  obtain ⟨z0, e0⟩ := hq 0 (by omega) (by omega)
  obtain ⟨z1, e1⟩ := hq 1 (by omega) (by omega)
  obtain ⟨z3, e3⟩ := hq 3 (by omega) (by omega)
  obtain ⟨z4, e4⟩ := hq 4 (by omega) (by omega)
  obtain ⟨z5, e5⟩ := hq 5 (by omega) (by omega)
  refine ⟨⟨z0, z1, l, z3, z4, z5⟩, v, ?_, h2, h3⟩
  match cs, hl, e0, e1, e3, e4, e5, hv1 with
  | [c0, c1, c2, c3, c4, c5], _, e0, e1, e3, e4, e5, hv1 =>
    have g0 : c0 = .int .i64 z0 := Option.some.inj e0
    have g2 : c1 = .int .i64 z1 := Option.some.inj e1
    have g3 : c3 = .int .i64 z3 := Option.some.inj e3
    have g4 : c4 = .int .i64 z4 := Option.some.inj e4
    have g5 : c5 = .int .i64 z5 := Option.some.inj e5
    have g1 : c2 = v := Option.some.inj hv1
    rw [g0, g2, g1, g3, g4, g5]
theorem units_of_trod {H : Type} {enc : TypeId × Value → H} {P : Program} {W : World} {sp : Nat → Bool} {hd : Bool} {t e : TypeId} {fs : Array Field} {ao : Option Addr} {len cap : Nat} {d : DataW H} {p : List MemPlace}
    (ht : P.underlying t = some (.slice e)) (he : P.underlying e = some (.struct fs)) (ce : P.cellsOf e = 6) (hF : UnitFields P fs) (h : DataW.Trod enc P W 0 sp hd t (.slice ao len cap) d p) :
    ∃ l : List Ut, l.length = len ∧ len ≤ maxLen ∧ URw W (.slice ao len cap) l ∧ ∀ x ∈ l, x.ant.length ≤ maxLen := by
  obtain ⟨fuel, hf⟩ := h
  rcases Deep.open_slice ht hf with ⟨h1, _⟩ | ⟨a, ln, c, m, n, D, Pl, h1, hb, hl, hcm, hm, _, hx⟩
  · simp [Value.cells] at h1
    obtain ⟨rfl, rfl, rfl⟩ := h1
    exact ⟨[], rfl, Nat.zero_le _, ⟨none, 0, rfl, Nat.zero_le _, Or.inl rfl⟩, fun x hx => by cases hx⟩
  · simp [Value.cells] at h1
    obtain ⟨rfl, rfl, rfl⟩ := h1
    have hle : len ≤ m := by rw [hm]; split <;> omega
    have hV : ∀ i, i < len → ∃ o : Ut, ∃ tv, W.cell? ((a.add (i * 6)).add 0) = some (.int .i64 o.id) ∧ W.cell? ((a.add (i * 6)).add 1) = some (.int .i64 o.grp) ∧ W.cell? ((a.add (i * 6)).add 2) = some (tv) ∧ W.cell? ((a.add (i * 6)).add 3) = some (.int .i64 o.til) ∧ W.cell? ((a.add (i * 6)).add 4) = some (.int .i64 o.st) ∧ W.cell? ((a.add (i * 6)).add 5) = some (.int .i64 o.fr) ∧ o.ant.length ≤ maxLen ∧ IRw W tv o.ant := by
      intro i hi
      obtain ⟨cs', h2, h3⟩ := hx i (by omega)
      rw [ce] at h2
      obtain ⟨_, hlen, hcell⟩ := World.cells?_some h2
      obtain ⟨o, tv, hcs, k2, k3⟩ := unit_of_trod he hF hlen h3
      subst hcs
      exact ⟨o, tv, hcell 0 (by omega), hcell 1 (by omega), hcell 2 (by omega), hcell 3 (by omega), hcell 4 (by omega), hcell 5 (by omega), k2, k3⟩
    obtain ⟨q, hq⟩ := Deep.choose_lt hV
    refine ⟨(List.range len).map q, by simp, by omega, ⟨some a, cap, by simp, by simpa using hl, ?_⟩, fun x hx => ?_⟩
    · by_cases h0 : len = 0
      · exact Or.inl (by simp [h0])
      · obtain ⟨b, off, spot⟩ := a
        obtain ⟨tv0, hs, _⟩ := hq 0 (by omega)
        have hspot : spot = none := by simpa [Addr.add] using World.cell?_spot hs
        subst hspot
        refine Or.inr ⟨b, off, rfl, World.block_lt_of_cell? W _ (by simpa [Addr.add_lit] using hs), ?_⟩
        intro i x hix
        have hi' : i < len := by simpa using get_lt' hix
        have hx2 : x = q i := by
          rw [List.getElem?_map, List.getElem?_range hi'] at hix
          simpa using hix.symm
        subst hx2
        obtain ⟨tv, a0, a1, a2, a3, a4, a5, -, a6⟩ := hq i hi'
        rw [Addr.add_lit, Addr.add_lit] at a0 a1 a2 a3 a4 a5
        exact ⟨tv, ⟨a0, a1, a2, a3, a4, a5⟩, a6⟩
    · obtain ⟨i, hi, rfl⟩ := List.mem_map.1 hx
      obtain ⟨tv, -, -, -, -, -, -, a4, -⟩ := hq i (by simpa using hi)
      exact a4
set_option maxRecDepth 100000 in
theorem fsUnit : ∃ fs, Try.prog.underlying 98 = some (.struct fs) ∧ UnitFields Try.prog fs := by
  refine ⟨_, Try.underlying98, fun k hk hk1 => ?_, ⟨_, 2, rfl, rfl, by kernel_rfl, Try.underlying25, Try.underlying2, by kernel_rfl⟩⟩
  match k, hk, hk1 with
  | 0, _, _ => exact ⟨_, rfl, rfl, by kernel_rfl, Try.underlying2⟩
  | 1, _, _ => exact ⟨_, rfl, rfl, by kernel_rfl, Try.underlying2⟩
  | 2, _, h => exact absurd rfl h
  | 3, _, _ => exact ⟨_, rfl, rfl, by kernel_rfl, Try.underlying2⟩
  | 4, _, _ => exact ⟨_, rfl, rfl, by kernel_rfl, Try.underlying2⟩
  | 5, _, _ => exact ⟨_, rfl, rfl, by kernel_rfl, Try.underlying2⟩
set_option maxRecDepth 100000 in
theorem units_of_read {H : Type} {enc : TypeId × Value → H} {W : World} {sp : Nat → Bool} {hd : Bool} {ao : Option Addr} {n cap : Nat} {d : DataW H} {p : List MemPlace}
    (h : DataW.Trod enc Try.prog W 0 sp hd 42 (.slice ao n cap) d p) : ∃ l : List Ut, l.length = n ∧ n ≤ maxLen ∧ URw W (.slice ao n cap) l ∧ ∀ x ∈ l, x.ant.length ≤ maxLen := by
  obtain ⟨fs, h1, h2⟩ := fsUnit
  exact units_of_trod Try.underlying42 h1 (by kernel_rfl) h2 h
end Go.Proofs.Ytgcpiinmcbdkmaa
