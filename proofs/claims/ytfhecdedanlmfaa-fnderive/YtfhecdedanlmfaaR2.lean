/-
  Rows of numbers and rows of laws: where they lie.
-/
import Derived.Test.YtfhecdedanlmfaaRw
import Derived.Test.YtfhecdedanlmfaaR1
namespace Go.Proofs.Ytfhecdedanlmfaa
open Go.RowKit Va Rc
set_option linter.unusedVariables false

theorem some_of {α : Type} (l : List α) (i : Nat) (h : i < l.length) : ∃ x, l[i]? = some x := ⟨_, List.getElem?_eq_getElem h⟩
/-- The numbers l lie at the slice v. -/
def IRw (w : World) (v : Value) (l : List Int) : Prop :=
  ∃ ao cap, v = .slice ao l.length cap ∧ l.length ≤ cap ∧ (l.length = 0 ∨ ∃ b off, ao = some ⟨b, off, none⟩ ∧ b < w.heap.size ∧ ∀ i x, l[i]? = some x → w.cell? ⟨b, off + i, none⟩ = some (.int .i64 x))
theorem IRw.below {w w' : World} {v : Value} {l : List Int} (h : IRw w v l) (hb : Below w.heap.size w w') : IRw w' v l := by
  obtain ⟨ao, cap, rfl, hlc, h2⟩ := h
  refine ⟨ao, cap, rfl, hlc, ?_⟩
  rcases h2 with h2 | ⟨b, off, h3, h4, h5⟩
  · exact Or.inl h2
  · exact Or.inr ⟨b, off, h3, Nat.lt_of_lt_of_le h4 hb.size, fun i x hx => (hb.cell (p := ⟨b, off + i, none⟩) h4).trans (h5 i x hx)⟩
theorem IRw.at {w : World} {ao : Option Addr} {cap : Nat} {n : Nat} {l : List Int} (h : IRw w (.slice ao n cap) l) {i : Nat} {x : Int} (hx : l[i]? = some x) :
    ∃ b off, ao = some ⟨b, off, none⟩ ∧ b < w.heap.size ∧ ∀ i x, l[i]? = some x → w.cell? ⟨b, off + i, none⟩ = some (.int .i64 x) := by
  obtain ⟨ao', cap', he, _, h2⟩ := h
  obtain ⟨rfl, rfl, rfl⟩ : ao = ao' ∧ n = l.length ∧ cap = cap' := by simpa using he
  have := get_lt' hx
  rcases h2 with h2 | ⟨b, off, h3, h4, h5⟩
  · omega
  · exact ⟨b, off, h3, h4, h5⟩
theorem IRw.form {w : World} {v : Value} {l : List Int} (h : IRw w v l) : ∃ ao cap, v = .slice ao l.length cap := by
  obtain ⟨ao, cap, rfl, _, _⟩ := h; exact ⟨ao, cap, rfl⟩
theorem IRw.len {w : World} {ao : Option Addr} {n cap : Nat} {l : List Int} (h : IRw w (.slice ao n cap) l) : n = l.length := by
  obtain ⟨ao', cap', he, _, _⟩ := h; simp at he; omega
theorem IRw.cap {w : World} {ao : Option Addr} {n cap : Nat} {l : List Int} (h : IRw w (.slice ao n cap) l) : l.length ≤ cap := by
  obtain ⟨ao', cap', he, hc, _⟩ := h; simp at he; omega
theorem IRw.nil (w : World) (ao : Option Addr) (cap : Nat) : IRw w (.slice ao 0 cap) [] := ⟨ao, cap, rfl, Nat.zero_le _, Or.inl rfl⟩

/-- The three cells of a law whose facts are the slices tv and uv. -/
def LCell (w : World) (b o : Nat) (x : Lw) (tv uv : Value) : Prop :=
  w.cell? ⟨b, o, none⟩ = some tv ∧ w.cell? ⟨b, o + 1, none⟩ = some uv ∧ w.cell? ⟨b, o + 2, none⟩ = some (.int .i64 x.thn)
theorem LCell.below {w w' : World} {b o : Nat} {x : Lw} {tv uv : Value} (h : LCell w b o x tv uv) (hb : Below w.heap.size w w') (hl : b < w.heap.size) : LCell w' b o x tv uv :=
  ⟨(hb.cell (p := ⟨b, o, none⟩) hl).trans h.1, (hb.cell (p := ⟨b, o + 1, none⟩) hl).trans h.2.1, (hb.cell (p := ⟨b, o + 2, none⟩) hl).trans h.2.2⟩
/-- The law as a value. -/
def aL (x : Lw) (tv uv : Value) : Value := .agg #[tv, uv, .int .i64 x.thn]
/-- The laws l lie at the slice v, the facts of each somewhere. -/
def LRw (w : World) (v : Value) (l : List Lw) : Prop :=
  ∃ ao cap, v = .slice ao l.length cap ∧ l.length ≤ cap ∧ (l.length = 0 ∨ ∃ b off, ao = some ⟨b, off, none⟩ ∧ b < w.heap.size ∧ ∀ i x, l[i]? = some x → ∃ tv uv, LCell w b (off + i * 3) x tv uv ∧ IRw w tv x.ifs ∧ IRw w uv x.nots)
theorem LRw.below {w w' : World} {v : Value} {l : List Lw} (h : LRw w v l) (hb : Below w.heap.size w w') : LRw w' v l := by
  obtain ⟨ao, cap, rfl, hlc, h2⟩ := h
  refine ⟨ao, cap, rfl, hlc, ?_⟩
  rcases h2 with h2 | ⟨b, off, h3, h4, h5⟩
  · exact Or.inl h2
  · refine Or.inr ⟨b, off, h3, Nat.lt_of_lt_of_le h4 hb.size, fun i x hx => ?_⟩
    obtain ⟨tv, uv, h6, h7, h8⟩ := h5 i x hx
    exact ⟨tv, uv, h6.below hb h4, h7.below hb, h8.below hb⟩
theorem LRw.at {w : World} {ao : Option Addr} {cap : Nat} {n : Nat} {l : List Lw} (h : LRw w (.slice ao n cap) l) {i : Nat} {x : Lw} (hx : l[i]? = some x) :
    ∃ b off ta tc ua uc, ao = some ⟨b, off, none⟩ ∧ b < w.heap.size ∧ IRw w (.slice ta x.ifs.length tc) x.ifs ∧ IRw w (.slice ua x.nots.length uc) x.nots ∧ w.cell? ⟨b, off + i * 3, none⟩ = some (.slice ta x.ifs.length tc) ∧ w.cell? ⟨b, off + i * 3 + 1, none⟩ = some (.slice ua x.nots.length uc) ∧ w.cell? ⟨b, off + i * 3 + 2, none⟩ = some (.int .i64 x.thn) := by
  obtain ⟨ao', cap', he, _, h2⟩ := h
  obtain ⟨rfl, rfl, rfl⟩ : ao = ao' ∧ n = l.length ∧ cap = cap' := by simpa using he
  have := get_lt' hx
  rcases h2 with h2 | ⟨b, off, h3, h4, h5⟩
  · omega
  · obtain ⟨tv, uv, ⟨c0, c1, c2⟩, h7, h8⟩ := h5 i x hx
    obtain ⟨ta, tc, rfl⟩ := h7.form
    obtain ⟨ua, uc, rfl⟩ := h8.form
    exact ⟨b, off, ta, tc, ua, uc, h3, h4, h7, h8, c0, c1, c2⟩
theorem LRw.form {w : World} {v : Value} {l : List Lw} (h : LRw w v l) : ∃ ao cap, v = .slice ao l.length cap := by
  obtain ⟨ao, cap, rfl, _, _⟩ := h; exact ⟨ao, cap, rfl⟩
theorem LRw.len {w : World} {ao : Option Addr} {n cap : Nat} {l : List Lw} (h : LRw w (.slice ao n cap) l) : n = l.length := by
  obtain ⟨ao', cap', he, _, _⟩ := h; simp at he; omega
theorem LRw.cap {w : World} {ao : Option Addr} {n cap : Nat} {l : List Lw} (h : LRw w (.slice ao n cap) l) : l.length ≤ cap := by
  obtain ⟨ao', cap', he, hc, _⟩ := h; simp at he; omega
theorem LRw.nil (w : World) (ao : Option Addr) (cap : Nat) : LRw w (.slice ao 0 cap) [] := ⟨ao, cap, rfl, Nat.zero_le _, Or.inl rfl⟩
end Go.Proofs.Ytfhecdedanlmfaa
