/-
  Rows of parts of messages: where they lie; the law's own helpers.
-/
import Derived.Test.YtbabknhccapaoaaM13
import Derived.Test.YtbabknhccapaoaaVb
namespace Go.Proofs.Ytbabknhccapaoaa
open Go.RowKit Va Ms
set_option linter.all false

/-- The part as a value. -/
def aP (x : Pt) (fv : Value) : Value := .agg #[.string x.n, fv]
/-- The two cells of a part whose fields are the slice fv. -/
def PCell (w : World) (b o : Nat) (x : Pt) (fv : Value) : Prop := w.cell? ⟨b, o, none⟩ = some (.string x.n) ∧ w.cell? ⟨b, o + 1, none⟩ = some fv
theorem PCell.below {w w' : World} {b o : Nat} {x : Pt} {fv : Value} (h : PCell w b o x fv) (hb : Below w.heap.size w w') (hl : b < w.heap.size) : PCell w' b o x fv :=
  ⟨(hb.cell (p := ⟨b, o, none⟩) hl).trans h.1, (hb.cell (p := ⟨b, o + 1, none⟩) hl).trans h.2⟩
/-- The parts l lie at the slice v, the fields of each somewhere. -/
def PRw (w : World) (v : Value) (l : List Pt) : Prop :=
  ∃ ao cap, v = .slice ao l.length cap ∧ l.length ≤ cap ∧ (l.length = 0 ∨ ∃ b off, ao = some ⟨b, off, none⟩ ∧ b < w.heap.size ∧ ∀ i x, l[i]? = some x → ∃ fv, PCell w b (off + i * 2) x fv ∧ VRw 1 cvS w fv x.fs)
theorem PRw.below {w w' : World} {v : Value} {l : List Pt} (h : PRw w v l) (hb : Below w.heap.size w w') : PRw w' v l := by
  obtain ⟨ao, cap, rfl, hlc, h2⟩ := h
  refine ⟨ao, cap, rfl, hlc, ?_⟩
  rcases h2 with h2 | ⟨b, off, h3, h4, h5⟩
  · exact Or.inl h2
  · refine Or.inr ⟨b, off, h3, Nat.lt_of_lt_of_le h4 hb.size, fun i x hx => ?_⟩
    obtain ⟨fv, h6, h7⟩ := h5 i x hx
    exact ⟨fv, h6.below hb h4, h7.below hb⟩
theorem PRw.at {w : World} {ao : Option Addr} {cap : Nat} {n : Nat} {l : List Pt} (h : PRw w (.slice ao n cap) l) {i : Nat} {x : Pt} (hx : l[i]? = some x) :
    ∃ b off fa fc, ao = some ⟨b, off, none⟩ ∧ b < w.heap.size ∧ VRw 1 cvS w (.slice fa x.fs.length fc) x.fs ∧ w.cell? ⟨b, off + i * 2, none⟩ = some (.string x.n) ∧ w.cell? ⟨b, off + i * 2 + 1, none⟩ = some (.slice fa x.fs.length fc) := by
  obtain ⟨ao', cap', he, _, h2⟩ := h
  obtain ⟨rfl, rfl, rfl⟩ : ao = ao' ∧ n = l.length ∧ cap = cap' := by simpa using he
  have := get_lt' hx
  rcases h2 with h2 | ⟨b, off, h3, h4, h5⟩
  · omega
  · obtain ⟨fv, ⟨c0, c1⟩, h7⟩ := h5 i x hx
    obtain ⟨fa, fc, rfl⟩ := h7.form
    exact ⟨b, off, fa, fc, h3, h4, h7, c0, c1⟩
theorem PRw.form {w : World} {v : Value} {l : List Pt} (h : PRw w v l) : ∃ ao cap, v = .slice ao l.length cap := by
  obtain ⟨ao, cap, rfl, _, _⟩ := h; exact ⟨ao, cap, rfl⟩
theorem PRw.len {w : World} {ao : Option Addr} {n cap : Nat} {l : List Pt} (h : PRw w (.slice ao n cap) l) : n = l.length := by
  obtain ⟨ao', cap', he, _, _⟩ := h; simp at he; omega

/- parts that came in -/
instance : Inhabited Pt := ⟨⟨.empty, []⟩⟩
/-- What a machine can hold. -/
def PBd (x : Pt) : Prop := x.n.size ≤ maxLen ∧ x.fs.length ≤ maxLen ∧ ∀ y ∈ x.fs, y.size ≤ maxLen
def PartFields (P : Program) (fs : Array Field) : Prop :=
  (∃ f, fs[0]? = some f ∧ f.offset = 0 ∧ P.cellsOf f.type = 1 ∧ P.underlying f.type = some .string) ∧
    ∃ f e, fs[1]? = some f ∧ f.offset = 1 ∧ P.cellsOf f.type = 1 ∧ P.underlying f.type = some (.slice e) ∧ P.underlying e = some .string ∧ P.cellsOf e = 1
theorem part_of_trod {H : Type} {enc : TypeId × Value → H} {P : Program} {W : World} {sp : Nat → Bool} {hd : Bool} {t : TypeId} {fs : Array Field} {fuel : Nat} {cs : List Value} {x : DataW H × List MemPlace}
    (ht : P.underlying t = some (.struct fs)) (hF : PartFields P fs) (hl : cs.length = 2) (h : DataW.trod enc P W 0 sp hd fuel t cs = some x) :
    ∃ (o : Pt) (fv : Value), cs = [.string o.n, fv] ∧ PBd o ∧ VRw 1 cvS W fv o.fs := by
  obtain ⟨xs, k, hk, hxy, _, hxl, hf⟩ := DataW.trod_struct ht h
  have hone : ∀ k, k < 2 → ∃ v, cs[k]? = some v ∧ (cs.drop k).take 1 = [v] := fun k hk => by
    have hk' : k < cs.length := by omega
    exact ⟨cs[k], List.getElem?_eq_getElem hk', by rw [List.drop_eq_getElem_cons hk', List.take_succ_cons, List.take_zero]⟩
  have hq : ∃ z : ByteArray, cs[0]? = some (.string z) ∧ z.size ≤ maxLen := by
    obtain ⟨f, hf1, hf2, hf3, hf4⟩ := hF.1
    have hg := hf 0 f hf1
    rw [hf2, hf3] at hg
    have hxk : 0 < xs.length := by rw [hxl]; exact (Array.getElem?_eq_some_iff.1 hf1).1
    rw [List.getElem?_eq_getElem hxk] at hg
    obtain ⟨z, hz, _, hs⟩ := DataW.trod_string hf4 hg
    obtain ⟨v, hv1, hv2⟩ := hone 0 (by omega)
    rw [hv2] at hz
    refine ⟨z, ?_, hs⟩
    rw [hv1]
    simpa using hz
  have hs : ∃ tv l, cs[1]? = some tv ∧ l.length ≤ maxLen ∧ (∀ y ∈ l, ByteArray.size y ≤ maxLen) ∧ VRw 1 cvS W tv l := by
    obtain ⟨f, e, hf1, hf2, hf3, hf4, hf5, hf6⟩ := hF.2
    have hg := hf 1 f hf1
    rw [hf2, hf3] at hg
    have hxk : 1 < xs.length := by rw [hxl]; exact (Array.getElem?_eq_some_iff.1 hf1).1
    rw [List.getElem?_eq_getElem hxk] at hg
    obtain ⟨tv, l, h1, h2, h3, h4⟩ := strs_of_trod hf4 hf5 hf6 hg
    obtain ⟨v, hv1, hv2⟩ := hone 1 (by omega)
    rw [hv2] at h1
    obtain rfl : v = tv := by simpa using h1
    exact ⟨v, l, hv1, h2, h3, h4⟩
  obtain ⟨z, e0, m0⟩ := hq
  obtain ⟨tv, l1, e1, m1, m2, r1⟩ := hs
  refine ⟨⟨z, l1⟩, tv, ?_, ⟨m0, m1, m2⟩, r1⟩
  match cs, hl, e0, e1 with
  | [c0, c1], _, e0, e1 =>
    have g0 : c0 = .string z := Option.some.inj e0
    have g1 : c1 = tv := Option.some.inj e1
    rw [g0, g1]
theorem parts_of_trod {H : Type} {enc : TypeId × Value → H} {P : Program} {W : World} {sp : Nat → Bool} {hd : Bool} {t e : TypeId} {fs : Array Field} {fuel : Nat} {cs : List Value} {d : DataW H × List MemPlace}
    (ht : P.underlying t = some (.slice e)) (he : P.underlying e = some (.struct fs)) (ce : P.cellsOf e = 2) (hF : PartFields P fs) (hf : DataW.trod enc P W 0 sp hd fuel t cs = some d) :
    ∃ (v : Value) (l : List Pt), cs = [v] ∧ l.length ≤ maxLen ∧ PRw W v l ∧ ∀ x ∈ l, PBd x := by
  rcases Deep.open_slice ht hf with ⟨h1, _⟩ | ⟨a, ln, c, m, n, D, Pl, h1, hb, hl, hcm, hm, _, hx⟩
  · exact ⟨_, [], h1, by simp, ⟨none, 0, rfl, Nat.zero_le _, Or.inl rfl⟩, fun x hx => by cases hx⟩
  · have hle : ln ≤ m := by rw [hm]; split <;> omega
    have hV : ∀ i, i < ln → ∃ o : Pt, ∃ fv, W.cell? ((a.add (i * 2)).add 0) = some (.string o.n) ∧ W.cell? ((a.add (i * 2)).add 1) = some fv ∧ PBd o ∧ VRw 1 cvS W fv o.fs := by
      intro i hi
      obtain ⟨cs', h2, h3⟩ := hx i (by omega)
      rw [ce] at h2
      obtain ⟨_, hlen, hcell⟩ := World.cells?_some h2
      obtain ⟨o, fv, hcs, k2, k3⟩ := part_of_trod he hF hlen h3
      subst hcs
      exact ⟨o, fv, hcell 0 (by omega), hcell 1 (by omega), k2, k3⟩
    obtain ⟨q, hq⟩ := Deep.choose_lt hV
    refine ⟨_, (List.range ln).map q, h1, by simp; omega, ⟨some a, c, by simp, by simpa using hl, ?_⟩, fun x hx => ?_⟩
    · by_cases h0 : ln = 0
      · exact Or.inl (by simp [h0])
      · obtain ⟨b, off, spot⟩ := a
        obtain ⟨fv0, hs, _⟩ := hq 0 (by omega)
        have hspot : spot = none := by simpa [Addr.add] using World.cell?_spot hs
        subst hspot
        refine Or.inr ⟨b, off, rfl, World.block_lt_of_cell? W _ (by simpa [Addr.add_lit] using hs), ?_⟩
        intro i x hix
        have hi' : i < ln := by simpa using get_lt' hix
        have hx2 : x = q i := by
          rw [List.getElem?_map, List.getElem?_range hi'] at hix
          simpa using hix.symm
        subst hx2
        obtain ⟨fv, a0, a1, -, a6⟩ := hq i hi'
        rw [Addr.add_lit, Addr.add_lit] at a0 a1
        exact ⟨fv, ⟨a0, a1⟩, a6⟩
    · obtain ⟨i, hi, rfl⟩ := List.mem_map.1 hx
      obtain ⟨fv, -, -, a4, -⟩ := hq i (by simpa using hi)
      exact a4
set_option maxRecDepth 100000 in
theorem fsPart : ∃ fs, Try.prog.underlying 86 = some (.struct fs) ∧ PartFields Try.prog fs := by
  refine ⟨_, Try.underlying86, ⟨_, rfl, rfl, by kernel_rfl, Try.underlying9⟩, ⟨_, 9, rfl, rfl, by kernel_rfl, Try.underlying65, Try.underlying9, by kernel_rfl⟩⟩

/-- The first i of l lie in block G, which takes n, their fields in blocks of their own from base on. -/
def WOut (w : World) (base G n : Nat) (l : List Pt) (i : Nat) : Prop :=
  base ≤ G ∧ G < w.heap.size ∧ (∀ j, j < n * 2 → (∃ u, w.cell? ⟨G, j, none⟩ = some u) ∧ w.frozen? ⟨G, j, none⟩ = false) ∧
    ∀ j x, j < i → l[j]? = some x → ∃ T, (base ≤ T ∧ T ≠ G) ∧ PCell w G (j * 2) x (.slice (some ⟨T, 0, none⟩) x.fs.length x.fs.length) ∧ VOut 1 cvS w T x.fs.length x.fs x.fs.length
theorem WOut.below {w w' : World} {base G n i : Nat} {l : List Pt} (h : WOut w base G n l i) (hb : Below w.heap.size w w') : WOut w' base G n l i := by
  obtain ⟨h0, h1, h2, h3⟩ := h
  refine ⟨h0, Nat.lt_of_lt_of_le h1 hb.size, fun j hj => ⟨?_, ((bcell hb).2 _ _ h1).trans (h2 j hj).2⟩, fun j x hj hx => ?_⟩
  · obtain ⟨u, hu⟩ := (h2 j hj).1
    exact ⟨u, ((bcell hb).1 _ _ h1).trans hu⟩
  · obtain ⟨T, k1, k3, k4⟩ := h3 j x hj hx
    exact ⟨T, k1, k3.below hb h1, k4.below hb⟩
theorem WOut.drw {w : World} {base G : Nat} {l : List Pt} (h : WOut w base G l.length l l.length) (c : Nat) (hc : l.length ≤ c) : PRw w (.slice (some ⟨G, 0, none⟩) l.length c) l :=
  ⟨_, c, rfl, hc, Or.inr ⟨G, 0, rfl, h.2.1, fun i x hx => by
    obtain ⟨T, -, k3, k4⟩ := h.2.2.2 i x (get_lt' hx) hx
    rw [Nat.zero_add]
    exact ⟨_, k3, k4.row _ (Nat.le_refl _)⟩⟩⟩
theorem WOut.set {w : World} {base G n i : Nat} {l : List Pt} {x : Pt} (h : WOut w base G n l i) (hi : i < n) (hx : l[i]? = some x) {T : Nat} (hT : base ≤ T) (hTG : T ≠ G) (ho : VOut 1 cvS w T x.fs.length x.fs x.fs.length) :
    WOut (put w G (i * 2) [.string x.n, .slice (some ⟨T, 0, none⟩) x.fs.length x.fs.length]) base G n l (i + 1) := by
  obtain ⟨h0, h1, h2, h3⟩ := h
  generalize hvs : [Value.string x.n, .slice (some ⟨T, 0, none⟩) x.fs.length x.fs.length] = vs
  have hlen : vs.length = 2 := by rw [← hvs]; rfl
  have hnew : ∀ k v, vs[k]? = some v → (put w G (i * 2) vs).cell? ⟨G, i * 2 + k, none⟩ = some v := put_same vs w G (i * 2) (fun k hk => (h2 (i * 2 + k) (by omega)).1)
  have hoth : ∀ T', T' ≠ G → ∀ j, (put w G (i * 2) vs).cell? ⟨T', j, none⟩ = w.cell? ⟨T', j, none⟩ := fun T' hT' j => by
    rw [← hvs]
    show (World.setCell (World.setCell w _ _) _ _).cell? _ = _
    rw [World.cell?_setCell_far _ _ _ _ (fun e => hT' e.symm), World.cell?_setCell_far _ _ _ _ (fun e => hT' e.symm)]
  have hout : ∀ (T' : Nat) (t : List ByteArray), T' ≠ G → VOut 1 cvS w T' t.length t t.length → VOut 1 cvS (put w G (i * 2) vs) T' t.length t t.length := fun T' t hT' ho' => by
    obtain ⟨k1, k2, k3⟩ := ho'
    refine ⟨by rw [put_size]; exact k1, fun j hj => ⟨?_, ?_⟩, fun j y hj hy k hk => by rw [hoth T' hT']; exact k3 j y hj hy k hk⟩
    · rw [hoth T' hT']; exact (k2 j hj).1
    · rw [← hvs]
      show (World.setCell (World.setCell w _ _) _ _).frozen? _ = _
      simp only [World.frozen?_setCell]
      exact (k2 j hj).2
  refine ⟨h0, by rw [put_size]; exact h1, fun j hj => ⟨?_, by rw [put_frozen]; exact (h2 j hj).2⟩, fun j y hj hy => ?_⟩
  · by_cases a : i * 2 ≤ j ∧ j < i * 2 + 2
    · obtain ⟨v, hv⟩ : ∃ v, vs[j - i * 2]? = some v := ⟨_, List.getElem?_eq_getElem (by omega)⟩
      have := hnew (j - i * 2) v hv
      rw [show i * 2 + (j - i * 2) = j by omega] at this
      exact ⟨_, this⟩
    · rw [put_other _ _ _ _ _ (by omega)]; exact (h2 j hj).1
  · by_cases a : j = i
    · subst a
      rw [hx] at hy
      cases hy
      refine ⟨T, ⟨hT, hTG⟩, ⟨hnew 0 _ (by rw [← hvs]; rfl), hnew 1 _ (by rw [← hvs]; rfl)⟩, hout T _ hTG ho⟩
    · obtain ⟨T1, k1, ⟨e0, e1⟩, k4⟩ := h3 j y (by omega) hy
      refine ⟨T1, k1, ⟨?_, ?_⟩, hout T1 _ k1.2 k4⟩
      · rw [put_other _ _ _ _ _ (by omega)]; exact e0
      · rw [put_other _ _ _ _ _ (by omega)]; exact e1
theorem infoPart : (Try.prog.info? 67).map (fun i => (i.zero, i.size, i.bytes)) = some (some (.agg #[.string .empty, .slice none 0 0]), 2, 40) := by kernel_rfl
end Go.Proofs.Ytbabknhccapaoaa
