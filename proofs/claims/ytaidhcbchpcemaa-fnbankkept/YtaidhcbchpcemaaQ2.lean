/-
  Rows of numbers and rows of units: where they lie.
-/
import Derived.Test.YtaidhcbchpcemaaRw
import Derived.Test.YtaidhcbchpcemaaQ1
namespace Go.Proofs.Ytaidhcbchpcemaa
open Go.RowKit Va Bl
set_option linter.unusedVariables false

theorem some_of {α : Type} (l : List α) (i : Nat) (h : i < l.length) : ∃ x, l[i]? = some x := ⟨_, List.getElem?_eq_getElem h⟩
/-- The numbers l lie at the slice v. -/
def IRw (w : World) (v : Value) (l : List Int) : Prop :=
  ∃ ao cap, v = .slice ao l.length cap ∧ l.length ≤ cap ∧ (l.length = 0 ∨ ∃ b off, ao = some ⟨b, off, none⟩ ∧ b < w.heap.size ∧ ∀ i x, l[i]? = some x → w.cell? ⟨b, off + i, none⟩ = some (.int .i64 x))
theorem IRw.below {w w' : World} {v : Value} {l : List Int} (h : IRw w v l) (hb : Below w.heap.size w w') : IRw w' v l := by
  obtain ⟨ao, cap, rfl, hlc, h2⟩ := h
  refine ⟨ao, cap, rfl, hlc, ?_⟩
  rcases h2 with h2 | ⟨b, off, h3, h4, h5⟩
  · exact Or.inl h2
  · exact Or.inr ⟨b, off, h3, Nat.lt_of_lt_of_le h4 hb.size, fun i x hx => (hb.cell (p := ⟨b, off + i, none⟩) h4).trans (h5 i x hx)⟩
theorem IRw.at {w : World} {ao : Option Addr} {cap : Nat} {n : Nat} {l : List Int} (h : IRw w (.slice ao n cap) l) {i : Nat} {x : Int} (hx : l[i]? = some x) :
    ∃ b off, ao = some ⟨b, off, none⟩ ∧ b < w.heap.size ∧ ∀ i x, l[i]? = some x → w.cell? ⟨b, off + i, none⟩ = some (.int .i64 x) := by
  obtain ⟨ao', cap', he, _, h2⟩ := h
  obtain ⟨rfl, rfl, rfl⟩ : ao = ao' ∧ n = l.length ∧ cap = cap' := by simpa using he
  have := get_lt' hx
  rcases h2 with h2 | ⟨b, off, h3, h4, h5⟩
  · omega
  · exact ⟨b, off, h3, h4, h5⟩
theorem IRw.form {w : World} {v : Value} {l : List Int} (h : IRw w v l) : ∃ ao cap, v = .slice ao l.length cap := by
  obtain ⟨ao, cap, rfl, _, _⟩ := h; exact ⟨ao, cap, rfl⟩
theorem IRw.len {w : World} {ao : Option Addr} {n cap : Nat} {l : List Int} (h : IRw w (.slice ao n cap) l) : n = l.length := by
  obtain ⟨ao', cap', he, _, _⟩ := h; simp at he; omega
theorem IRw.cap {w : World} {ao : Option Addr} {n cap : Nat} {l : List Int} (h : IRw w (.slice ao n cap) l) : l.length ≤ cap := by
  obtain ⟨ao', cap', he, hc, _⟩ := h; simp at he; omega
theorem IRw.nil (w : World) (ao : Option Addr) (cap : Nat) : IRw w (.slice ao 0 cap) [] := ⟨ao, cap, rfl, Nat.zero_le _, Or.inl rfl⟩

/-- The six cells of a unit whose antigens are the slice tv. -/
def UCell (w : World) (b o : Nat) (x : Ut) (tv : Value) : Prop :=
  w.cell? ⟨b, o, none⟩ = some (.int .i64 x.id) ∧ w.cell? ⟨b, o + 1, none⟩ = some (.int .i64 x.grp) ∧ w.cell? ⟨b, o + 2, none⟩ = some (tv) ∧ w.cell? ⟨b, o + 3, none⟩ = some (.int .i64 x.til) ∧ w.cell? ⟨b, o + 4, none⟩ = some (.int .i64 x.st) ∧ w.cell? ⟨b, o + 5, none⟩ = some (.int .i64 x.fr)
theorem UCell.below {w w' : World} {b o : Nat} {x : Ut} {tv : Value} (h : UCell w b o x tv) (hb : Below w.heap.size w w') (hl : b < w.heap.size) : UCell w' b o x tv :=
  ⟨(hb.cell (p := ⟨b, o, none⟩) hl).trans h.1, (hb.cell (p := ⟨b, o + 1, none⟩) hl).trans h.2.1, (hb.cell (p := ⟨b, o + 2, none⟩) hl).trans h.2.2.1, (hb.cell (p := ⟨b, o + 3, none⟩) hl).trans h.2.2.2.1, (hb.cell (p := ⟨b, o + 4, none⟩) hl).trans h.2.2.2.2.1, (hb.cell (p := ⟨b, o + 5, none⟩) hl).trans h.2.2.2.2.2⟩
/-- The unit as a value. -/
def aU (x : Ut) (tv : Value) : Value := .agg #[.int .i64 x.id, .int .i64 x.grp, tv, .int .i64 x.til, .int .i64 x.st, .int .i64 x.fr]
/-- The units l lie at the slice v, the antigens of each somewhere. -/
def URw (w : World) (v : Value) (l : List Ut) : Prop :=
  ∃ ao cap, v = .slice ao l.length cap ∧ l.length ≤ cap ∧ (l.length = 0 ∨ ∃ b off, ao = some ⟨b, off, none⟩ ∧ b < w.heap.size ∧ ∀ i x, l[i]? = some x → ∃ tv, UCell w b (off + i * 6) x tv ∧ IRw w tv x.ant)
theorem URw.below {w w' : World} {v : Value} {l : List Ut} (h : URw w v l) (hb : Below w.heap.size w w') : URw w' v l := by
  obtain ⟨ao, cap, rfl, hlc, h2⟩ := h
  refine ⟨ao, cap, rfl, hlc, ?_⟩
  rcases h2 with h2 | ⟨b, off, h3, h4, h5⟩
  · exact Or.inl h2
  · refine Or.inr ⟨b, off, h3, Nat.lt_of_lt_of_le h4 hb.size, fun i x hx => ?_⟩
    obtain ⟨tv, h6, h7⟩ := h5 i x hx
    exact ⟨tv, h6.below hb h4, h7.below hb⟩
theorem URw.at {w : World} {ao : Option Addr} {cap : Nat} {n : Nat} {l : List Ut} (h : URw w (.slice ao n cap) l) {i : Nat} {x : Ut} (hx : l[i]? = some x) :
    ∃ b off ta tc, ao = some ⟨b, off, none⟩ ∧ b < w.heap.size ∧ IRw w (.slice ta x.ant.length tc) x.ant ∧ w.cell? ⟨b, off + i * 6, none⟩ = some (.int .i64 x.id) ∧ w.cell? ⟨b, off + i * 6 + 1, none⟩ = some (.int .i64 x.grp) ∧ w.cell? ⟨b, off + i * 6 + 2, none⟩ = some (.slice ta x.ant.length tc) ∧ w.cell? ⟨b, off + i * 6 + 3, none⟩ = some (.int .i64 x.til) ∧ w.cell? ⟨b, off + i * 6 + 4, none⟩ = some (.int .i64 x.st) ∧ w.cell? ⟨b, off + i * 6 + 5, none⟩ = some (.int .i64 x.fr) := by
  obtain ⟨ao', cap', he, _, h2⟩ := h
  obtain ⟨rfl, rfl, rfl⟩ : ao = ao' ∧ n = l.length ∧ cap = cap' := by simpa using he
  have := get_lt' hx
  rcases h2 with h2 | ⟨b, off, h3, h4, h5⟩
  · omega
  · obtain ⟨tv, ⟨c0, c1, c2, c3, c4, c5⟩, h7⟩ := h5 i x hx
    obtain ⟨ta, tc, rfl⟩ := h7.form
    exact ⟨b, off, ta, tc, h3, h4, h7, c0, c1, c2, c3, c4, c5⟩
theorem URw.form {w : World} {v : Value} {l : List Ut} (h : URw w v l) : ∃ ao cap, v = .slice ao l.length cap := by
  obtain ⟨ao, cap, rfl, _, _⟩ := h; exact ⟨ao, cap, rfl⟩
theorem URw.len {w : World} {ao : Option Addr} {n cap : Nat} {l : List Ut} (h : URw w (.slice ao n cap) l) : n = l.length := by
  obtain ⟨ao', cap', he, _, _⟩ := h; simp at he; omega
theorem URw.cap {w : World} {ao : Option Addr} {n cap : Nat} {l : List Ut} (h : URw w (.slice ao n cap) l) : l.length ≤ cap := by
  obtain ⟨ao', cap', he, hc, _⟩ := h; simp at he; omega
theorem URw.nil (w : World) (ao : Option Addr) (cap : Nat) : URw w (.slice ao 0 cap) [] := ⟨ao, cap, rfl, Nat.zero_le _, Or.inl rfl⟩
end Go.Proofs.Ytaidhcbchpcemaa
