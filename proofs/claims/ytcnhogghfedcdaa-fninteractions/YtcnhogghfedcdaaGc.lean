/-
  Rows of numbers and rows of drugs: where they lie.
-/
import Derived.Test.YtcnhogghfedcdaaRw
import Derived.Test.YtcnhogghfedcdaaGa
namespace Go.Proofs.Ytcnhogghfedcdaa
open Go.RowKit Va Ga
set_option linter.unusedVariables false

theorem some_of {α : Type} (l : List α) (i : Nat) (h : i < l.length) : ∃ x, l[i]? = some x := ⟨_, List.getElem?_eq_getElem h⟩
/-- The numbers l lie at the slice v. -/
def IRw (w : World) (v : Value) (l : List Int) : Prop :=
  ∃ ao cap, v = .slice ao l.length cap ∧ l.length ≤ cap ∧ (l.length = 0 ∨ ∃ b off, ao = some ⟨b, off, none⟩ ∧ b < w.heap.size ∧ ∀ i x, l[i]? = some x → w.cell? ⟨b, off + i, none⟩ = some (.int .i64 x))
theorem IRw.below {w w' : World} {v : Value} {l : List Int} (h : IRw w v l) (hb : Below w.heap.size w w') : IRw w' v l := by
  obtain ⟨ao, cap, rfl, hlc, h2⟩ := h
  refine ⟨ao, cap, rfl, hlc, ?_⟩
  rcases h2 with h2 | ⟨b, off, h3, h4, h5⟩
  · exact Or.inl h2
  · exact Or.inr ⟨b, off, h3, Nat.lt_of_lt_of_le h4 hb.size, fun i x hx => (hb.cell (p := ⟨b, off + i, none⟩) h4).trans (h5 i x hx)⟩
theorem IRw.at {w : World} {ao : Option Addr} {cap : Nat} {n : Nat} {l : List Int} (h : IRw w (.slice ao n cap) l) {i : Nat} {x : Int} (hx : l[i]? = some x) :
    ∃ b off, ao = some ⟨b, off, none⟩ ∧ b < w.heap.size ∧ ∀ i x, l[i]? = some x → w.cell? ⟨b, off + i, none⟩ = some (.int .i64 x) := by
  obtain ⟨ao', cap', he, _, h2⟩ := h
  obtain ⟨rfl, rfl, rfl⟩ : ao = ao' ∧ n = l.length ∧ cap = cap' := by simpa using he
  have := get_lt' hx
  rcases h2 with h2 | ⟨b, off, h3, h4, h5⟩
  · omega
  · exact ⟨b, off, h3, h4, h5⟩
theorem IRw.form {w : World} {v : Value} {l : List Int} (h : IRw w v l) : ∃ ao cap, v = .slice ao l.length cap := by
  obtain ⟨ao, cap, rfl, _, _⟩ := h; exact ⟨ao, cap, rfl⟩
theorem IRw.len {w : World} {ao : Option Addr} {n cap : Nat} {l : List Int} (h : IRw w (.slice ao n cap) l) : n = l.length := by
  obtain ⟨ao', cap', he, _, _⟩ := h; simp at he; omega
theorem IRw.cap {w : World} {ao : Option Addr} {n cap : Nat} {l : List Int} (h : IRw w (.slice ao n cap) l) : l.length ≤ cap := by
  obtain ⟨ao', cap', he, hc, _⟩ := h; simp at he; omega
theorem IRw.nil (w : World) (ao : Option Addr) (cap : Nat) : IRw w (.slice ao 0 cap) [] := ⟨ao, cap, rfl, Nat.zero_le _, Or.inl rfl⟩

/-- The six cells of a drug whose classes are the slice tv. -/
def DCell (w : World) (b o : Nat) (x : Dg) (tv : Value) : Prop :=
  w.cell? ⟨b, o, none⟩ = some (.int .i64 x.id) ∧ w.cell? ⟨b, o + 1, none⟩ = some (tv) ∧ w.cell? ⟨b, o + 2, none⟩ = some (.int .i64 x.pk) ∧ w.cell? ⟨b, o + 3, none⟩ = some (.int .i64 x.most) ∧ w.cell? ⟨b, o + 4, none⟩ = some (.int .i64 x.day) ∧ w.cell? ⟨b, o + 5, none⟩ = some (.int .i64 x.kid)
theorem DCell.below {w w' : World} {b o : Nat} {x : Dg} {tv : Value} (h : DCell w b o x tv) (hb : Below w.heap.size w w') (hl : b < w.heap.size) : DCell w' b o x tv :=
  ⟨(hb.cell (p := ⟨b, o, none⟩) hl).trans h.1, (hb.cell (p := ⟨b, o + 1, none⟩) hl).trans h.2.1, (hb.cell (p := ⟨b, o + 2, none⟩) hl).trans h.2.2.1, (hb.cell (p := ⟨b, o + 3, none⟩) hl).trans h.2.2.2.1, (hb.cell (p := ⟨b, o + 4, none⟩) hl).trans h.2.2.2.2.1, (hb.cell (p := ⟨b, o + 5, none⟩) hl).trans h.2.2.2.2.2⟩
/-- The drug as a value. -/
def aD (x : Dg) (tv : Value) : Value := .agg #[.int .i64 x.id, tv, .int .i64 x.pk, .int .i64 x.most, .int .i64 x.day, .int .i64 x.kid]
/-- The drugs l lie at the slice v, the classes of each somewhere. -/
def DRw (w : World) (v : Value) (l : List Dg) : Prop :=
  ∃ ao cap, v = .slice ao l.length cap ∧ l.length ≤ cap ∧ (l.length = 0 ∨ ∃ b off, ao = some ⟨b, off, none⟩ ∧ b < w.heap.size ∧ ∀ i x, l[i]? = some x → ∃ tv, DCell w b (off + i * 6) x tv ∧ IRw w tv x.cls)
theorem DRw.below {w w' : World} {v : Value} {l : List Dg} (h : DRw w v l) (hb : Below w.heap.size w w') : DRw w' v l := by
  obtain ⟨ao, cap, rfl, hlc, h2⟩ := h
  refine ⟨ao, cap, rfl, hlc, ?_⟩
  rcases h2 with h2 | ⟨b, off, h3, h4, h5⟩
  · exact Or.inl h2
  · refine Or.inr ⟨b, off, h3, Nat.lt_of_lt_of_le h4 hb.size, fun i x hx => ?_⟩
    obtain ⟨tv, h6, h7⟩ := h5 i x hx
    exact ⟨tv, h6.below hb h4, h7.below hb⟩
theorem DRw.at {w : World} {ao : Option Addr} {cap : Nat} {n : Nat} {l : List Dg} (h : DRw w (.slice ao n cap) l) {i : Nat} {x : Dg} (hx : l[i]? = some x) :
    ∃ b off ta tc, ao = some ⟨b, off, none⟩ ∧ b < w.heap.size ∧ IRw w (.slice ta x.cls.length tc) x.cls ∧ w.cell? ⟨b, off + i * 6, none⟩ = some (.int .i64 x.id) ∧ w.cell? ⟨b, off + i * 6 + 1, none⟩ = some (.slice ta x.cls.length tc) ∧ w.cell? ⟨b, off + i * 6 + 2, none⟩ = some (.int .i64 x.pk) ∧ w.cell? ⟨b, off + i * 6 + 3, none⟩ = some (.int .i64 x.most) ∧ w.cell? ⟨b, off + i * 6 + 4, none⟩ = some (.int .i64 x.day) ∧ w.cell? ⟨b, off + i * 6 + 5, none⟩ = some (.int .i64 x.kid) := by
  obtain ⟨ao', cap', he, _, h2⟩ := h
  obtain ⟨rfl, rfl, rfl⟩ : ao = ao' ∧ n = l.length ∧ cap = cap' := by simpa using he
  have := get_lt' hx
  rcases h2 with h2 | ⟨b, off, h3, h4, h5⟩
  · omega
  · obtain ⟨tv, ⟨c0, c1, c2, c3, c4, c5⟩, h7⟩ := h5 i x hx
    obtain ⟨ta, tc, rfl⟩ := h7.form
    exact ⟨b, off, ta, tc, h3, h4, h7, c0, c1, c2, c3, c4, c5⟩
theorem DRw.form {w : World} {v : Value} {l : List Dg} (h : DRw w v l) : ∃ ao cap, v = .slice ao l.length cap := by
  obtain ⟨ao, cap, rfl, _, _⟩ := h; exact ⟨ao, cap, rfl⟩
theorem DRw.len {w : World} {ao : Option Addr} {n cap : Nat} {l : List Dg} (h : DRw w (.slice ao n cap) l) : n = l.length := by
  obtain ⟨ao', cap', he, _, _⟩ := h; simp at he; omega
theorem DRw.cap {w : World} {ao : Option Addr} {n cap : Nat} {l : List Dg} (h : DRw w (.slice ao n cap) l) : l.length ≤ cap := by
  obtain ⟨ao', cap', he, hc, _⟩ := h; simp at he; omega
theorem DRw.nil (w : World) (ao : Option Addr) (cap : Nat) : DRw w (.slice ao 0 cap) [] := ⟨ao, cap, rfl, Nat.zero_le _, Or.inl rfl⟩
end Go.Proofs.Ytcnhogghfedcdaa
