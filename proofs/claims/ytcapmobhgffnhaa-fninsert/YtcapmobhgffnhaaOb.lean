/-
  Rows of numbers and rows of operations: where they lie.
-/
import Derived.Test.YtcapmobhgffnhaaRw
import Derived.Test.YtcapmobhgffnhaaOa
namespace Go.Proofs.Ytcapmobhgffnhaa
open Go.RowKit Oa

/-- The numbers l lie at the slice v. -/
def IRw (w : World) (v : Value) (l : List Int) : Prop :=
  ∃ ao cap, v = .slice ao l.length cap ∧ l.length ≤ cap ∧ (l.length = 0 ∨ ∃ b off, ao = some ⟨b, off, none⟩ ∧ b < w.heap.size ∧ ∀ i x, l[i]? = some x → w.cell? ⟨b, off + i, none⟩ = some (.int .i64 x))
theorem IRw.below {w w' : World} {v : Value} {l : List Int} (h : IRw w v l) (hb : Below w.heap.size w w') : IRw w' v l := by
  obtain ⟨ao, cap, rfl, hlc, h2⟩ := h
  refine ⟨ao, cap, rfl, hlc, ?_⟩
  rcases h2 with h2 | ⟨b, off, h3, h4, h5⟩
  · exact Or.inl h2
  · exact Or.inr ⟨b, off, h3, Nat.lt_of_lt_of_le h4 hb.size, fun i x hx => (hb.cell (p := ⟨b, off + i, none⟩) h4).trans (h5 i x hx)⟩
theorem IRw.at {w : World} {ao : Option Addr} {cap : Nat} {n : Nat} {l : List Int} (h : IRw w (.slice ao n cap) l) {i : Nat} {x : Int} (hx : l[i]? = some x) :
    ∃ b off, ao = some ⟨b, off, none⟩ ∧ b < w.heap.size ∧ ∀ i x, l[i]? = some x → w.cell? ⟨b, off + i, none⟩ = some (.int .i64 x) := by
  obtain ⟨ao', cap', he, _, h2⟩ := h
  obtain ⟨rfl, rfl, rfl⟩ : ao = ao' ∧ n = l.length ∧ cap = cap' := by simpa using he
  have := get_lt' hx
  rcases h2 with h2 | ⟨b, off, h3, h4, h5⟩
  · omega
  · exact ⟨b, off, h3, h4, h5⟩
theorem IRw.form {w : World} {v : Value} {l : List Int} (h : IRw w v l) : ∃ ao cap, v = .slice ao l.length cap := by
  obtain ⟨ao, cap, rfl, _, _⟩ := h; exact ⟨ao, cap, rfl⟩
theorem IRw.len {w : World} {ao : Option Addr} {n cap : Nat} {l : List Int} (h : IRw w (.slice ao n cap) l) : n = l.length := by
  obtain ⟨ao', cap', he, _, _⟩ := h; simp at he; omega
theorem IRw.cap {w : World} {ao : Option Addr} {n cap : Nat} {l : List Int} (h : IRw w (.slice ao n cap) l) : l.length ≤ cap := by
  obtain ⟨ao', cap', he, hc, _⟩ := h; simp at he; omega
theorem IRw.nil (w : World) (ao : Option Addr) (cap : Nat) : IRw w (.slice ao 0 cap) [] := ⟨ao, cap, rfl, Nat.zero_le _, Or.inl rfl⟩

/-- The four cells of an operation whose team is the slice tv. -/
def OCell (w : World) (b o : Nat) (x : Opn) (tv : Value) : Prop :=
  w.cell? ⟨b, o, none⟩ = some (.int .i64 x.room) ∧ w.cell? ⟨b, o + 1, none⟩ = some (.int .i64 x.fr) ∧ w.cell? ⟨b, o + 2, none⟩ = some (.int .i64 x.to) ∧ w.cell? ⟨b, o + 3, none⟩ = some tv
theorem OCell.below {w w' : World} {b o : Nat} {x : Opn} {tv : Value} (h : OCell w b o x tv) (hb : Below w.heap.size w w') (hl : b < w.heap.size) : OCell w' b o x tv :=
  ⟨(hb.cell (p := ⟨b, o, none⟩) hl).trans h.1, (hb.cell (p := ⟨b, o + 1, none⟩) hl).trans h.2.1, (hb.cell (p := ⟨b, o + 2, none⟩) hl).trans h.2.2.1, (hb.cell (p := ⟨b, o + 3, none⟩) hl).trans h.2.2.2⟩
/-- The operation as a value. -/
def aO (x : Opn) (tv : Value) : Value := .agg #[.int .i64 x.room, .int .i64 x.fr, .int .i64 x.to, tv]
/-- The operations l lie at the slice v, each team somewhere. -/
def ORw (w : World) (v : Value) (l : List Opn) : Prop :=
  ∃ ao cap, v = .slice ao l.length cap ∧ l.length ≤ cap ∧ (l.length = 0 ∨ ∃ b off, ao = some ⟨b, off, none⟩ ∧ b < w.heap.size ∧ ∀ i x, l[i]? = some x → ∃ tv, OCell w b (off + i * 4) x tv ∧ IRw w tv x.team)
theorem ORw.below {w w' : World} {v : Value} {l : List Opn} (h : ORw w v l) (hb : Below w.heap.size w w') : ORw w' v l := by
  obtain ⟨ao, cap, rfl, hlc, h2⟩ := h
  refine ⟨ao, cap, rfl, hlc, ?_⟩
  rcases h2 with h2 | ⟨b, off, h3, h4, h5⟩
  · exact Or.inl h2
  · refine Or.inr ⟨b, off, h3, Nat.lt_of_lt_of_le h4 hb.size, fun i x hx => ?_⟩
    obtain ⟨tv, h6, h7⟩ := h5 i x hx
    exact ⟨tv, h6.below hb h4, h7.below hb⟩
theorem ORw.at {w : World} {ao : Option Addr} {cap : Nat} {n : Nat} {l : List Opn} (h : ORw w (.slice ao n cap) l) {i : Nat} {x : Opn} (hx : l[i]? = some x) :
    ∃ b off ta tc, ao = some ⟨b, off, none⟩ ∧ b < w.heap.size ∧ IRw w (.slice ta x.team.length tc) x.team ∧ w.cell? ⟨b, off + i * 4, none⟩ = some (.int .i64 x.room) ∧ w.cell? ⟨b, off + i * 4 + 1, none⟩ = some (.int .i64 x.fr) ∧ w.cell? ⟨b, off + i * 4 + 2, none⟩ = some (.int .i64 x.to) ∧ w.cell? ⟨b, off + i * 4 + 3, none⟩ = some (.slice ta x.team.length tc) := by
  obtain ⟨ao', cap', he, _, h2⟩ := h
  obtain ⟨rfl, rfl, rfl⟩ : ao = ao' ∧ n = l.length ∧ cap = cap' := by simpa using he
  have := get_lt' hx
  rcases h2 with h2 | ⟨b, off, h3, h4, h5⟩
  · omega
  · obtain ⟨tv, ⟨c0, c1, c2, c3⟩, h7⟩ := h5 i x hx
    obtain ⟨ta, tc, rfl⟩ := h7.form
    exact ⟨b, off, ta, tc, h3, h4, h7, c0, c1, c2, c3⟩
theorem ORw.form {w : World} {v : Value} {l : List Opn} (h : ORw w v l) : ∃ ao cap, v = .slice ao l.length cap := by
  obtain ⟨ao, cap, rfl, _, _⟩ := h; exact ⟨ao, cap, rfl⟩
theorem ORw.len {w : World} {ao : Option Addr} {n cap : Nat} {l : List Opn} (h : ORw w (.slice ao n cap) l) : n = l.length := by
  obtain ⟨ao', cap', he, _, _⟩ := h; simp at he; omega
theorem ORw.cap {w : World} {ao : Option Addr} {n cap : Nat} {l : List Opn} (h : ORw w (.slice ao n cap) l) : l.length ≤ cap := by
  obtain ⟨ao', cap', he, hc, _⟩ := h; simp at he; omega
theorem ORw.nil (w : World) (ao : Option Addr) (cap : Nat) : ORw w (.slice ao 0 cap) [] := ⟨ao, cap, rfl, Nat.zero_le _, Or.inl rfl⟩
end Go.Proofs.Ytcapmobhgffnhaa
