/-
  Turns as keys of a map; how often each was given.
-/
import Derived.Test.YtkejjlgeiaeicaaUp
import Derived.Test.YtkejjlgeiaeicaaU2
import Derived.Test.YtkejjlgeiaeicaaRt
import Derived.Test.YtkejjlgeiaeicaaGx
import Derived.DeepKeys4
import Derived.Maps.Views
namespace Go.Proofs.Ytkejjlgeiaeicaa
open Go.RowKit Va Uo Go.Maps
set_option linter.all false

theorem laidT : laidOutB Try.prog = true := by kernel_rfl
theorem lawT : WideMaps.KeyLaw Try.prog 101 := deep_law_laid laidT (m := 2) (by omega) (of_decide_eq_true (by kernel_rfl)) (by kernel_rfl) (by kernel_rfl)
theorem keyedT : Keyed Try.prog 101 := Keyed.of_law lawT
def kT (o t : Int) : Lit := .string (keyBytes [.int .i64 o, .int .i64 t])
/-- Numbers that a turn may bear. -/
def Bd (x : Int) : Prop := 0 ≤ x ∧ x ≤ 1000000
theorem wfT {x : Int} (h : Bd x) : (Lit.int .i64 x).wf = true := by
  obtain ⟨h0, h1⟩ := h
  exact WalkArith.wf_i64 (by omega)
theorem ktyT : Try.prog.keyType 101 = true := by kernel_rfl
theorem undT : ∃ fs, Try.prog.underlying 101 = some (.struct fs) ∧ fs.size = 2 := by
  refine ⟨_, Try.underlying101, by kernel_rfl⟩

theorem litsT {o t : Int} (ho : (Lit.int .i64 o).wf = true) (ht : (Lit.int .i64 t).wf = true) : ∀ n, Try.prog.keyLits (n + 2) 101 [.int .i64 o, .int .i64 t] = some [.int .i64 o, .int .i64 t] := by
  intro n
  have c1 : Try.prog.cellsOf 101 = 2 := by kernel_rfl
  have c2 : Try.prog.cellsOf 2 = 1 := by kernel_rfl
  unfold Program.keyLits
  rw [Try.underlying101]
  simp [c1, c2, Program.keyLits, Try.underlying2, ho, ht]

theorem key_turn {o t : Int} (ho : Bd o) (ht : Bd t) : keyOf Try.prog 101 (.agg #[.int .i64 o, .int .i64 t]) = some (kT o t) := by
  have c1 : Try.prog.cellsOf 101 = 2 := by kernel_rfl
  have hf : (Value.agg #[.int .i64 o, .int .i64 t]).formed Try.prog 101 = true := by
    simp [Value.formed, Try.underlying101, c1]
  have hs : ∃ n, Try.prog.types.size + 1 = n + 2 := ⟨Try.prog.types.size - 1, by
    have : 101 < Try.prog.types.size := of_decide_eq_true (by kernel_rfl)
    omega⟩
  obtain ⟨n, hn⟩ := hs
  unfold keyOf
  rw [Try.underlying101]
  simp only [ktyT, hf, Bool.and_self, if_true, hn]
  have := litsT (wfT ho) (wfT ht) n
  simp [Value.cells, this, kT]

theorem kT_inj {o t o' t' : Int} (ho : Bd o) (ht : Bd t) (ho' : Bd o') (ht' : Bd t') (h : kT o t = kT o' t') : o = o' ∧ t = t' := by
  have := keyedT.inj (key_turn ho ht) (h ▸ key_turn ho' ht')
  simpa using this
theorem kT_key (o t : Int) : WideAt.IsKeyLit (kT o t) := trivial

theorem apart_snoc (l : List Ds) (d : Ds) : apartB (l ++ [d]) = (apartB l && !givB l d.o d.t) := by
  have g1 : ∀ j, j < l.length → (l ++ [d]).getD j default = l.getD j default := fun j hj => by
    rw [List.getD_eq_getElem?_getD, List.getD_eq_getElem?_getD, List.getElem?_append_left hj]
  have g2 : (l ++ [d]).getD l.length default = d := by simp
  rw [Bool.eq_iff_iff]
  simp only [apartB, Bool.and_eq_true, List.all_eq_true, List.mem_range, List.length_append, List.length_singleton, Bool.not_eq_true', givB, List.any_eq_false]
  constructor
  · intro h
    refine ⟨fun i hi j hj => ?_, fun x hx => ?_⟩
    · have := h i (by omega) j hj
      unfold sameT at *
      rw [g1 i hi, g1 j (by omega)] at this
      exact this
    · obtain ⟨j, hj, rfl⟩ := List.getElem_of_mem hx
      have := h l.length (by omega) j hj
      unfold sameT at this
      rw [g2, g1 j hj, List.getD_eq_getElem?_getD, List.getElem?_eq_getElem hj] at this
      simpa using this
  · rintro ⟨h1, h2⟩ i hi j hj
    by_cases q : i = l.length
    · subst q
      unfold sameT
      rw [g2, g1 j hj, List.getD_eq_getElem?_getD, List.getElem?_eq_getElem hj]
      have := h2 (l[j]) (List.getElem_mem _)
      simpa using this
    · have := h1 i (by omega) j hj
      unfold sameT at *
      rw [g1 i (by omega), g1 j (by omega)]
      exact this
theorem giv_snoc (l : List Ds) (d : Ds) (o t : Int) : givB (l ++ [d]) o t = (givB l o t || (decide (d.o = o) && decide (d.t = t))) := by simp [givB]

/-- The map counts the turns of l. -/
structure Cnt (D : DataW Unit) (l : List Ds) : Prop where
  at' : ∀ o t, Bd o → Bd t → ∃ n : Int, D.atKey (kT o t) (.lit (.int .i64 0)) = .lit (.int .i64 n) ∧ 0 ≤ n ∧ n ≤ l.length ∧ (n = 0 ↔ givB l o t = false)
  has' : ∀ o t, Bd o → Bd t → Maps.has D (kT o t) = givB l o t
  size' : Maps.size D ≤ l.length ∧ (Maps.size D = l.length ↔ apartB l = true)
  tidy' : Tidy D
theorem Cnt.nil : Cnt (.map []) [] :=
  ⟨fun o t _ _ => ⟨0, rfl, Int.le_refl _, Int.le_refl _, by simp [givB]⟩, fun o t _ _ => rfl, ⟨Nat.le_refl _, by simp [Maps.size, apartB]⟩, tidy_empty⟩
theorem Cnt.snoc {D : DataW Unit} {l : List Ds} {d : Ds} {n : Int} (h : Cnt D l) (ho : Bd d.o) (ht : Bd d.t) (hn : D.atKey (kT d.o d.t) (.lit (.int .i64 0)) = .lit (.int .i64 n)) : Cnt (D.put (kT d.o d.t) (.lit (.int .i64 (n + 1)))) (l ++ [d]) := by
  obtain ⟨n', hn', p0, p1, p2⟩ := h.at' d.o d.t ho ht
  have hnn : n' = n := by rw [hn] at hn'; simpa using hn'.symm
  subst hnn
  have hm := h.tidy'.isMap
  refine ⟨fun o t bo bt => ?_, fun o t bo bt => ?_, ?_, h.tidy'.put (kT_key _ _) _⟩
  · rw [giv_snoc]
    by_cases q : d.o = o ∧ d.t = t
    · obtain ⟨rfl, rfl⟩ := q
      rw [atKey_put_same hm (kT_key _ _)]
      refine ⟨n' + 1, rfl, by omega, by simp; omega, ?_⟩
      simp
      omega
    · have hne : kT o t ≠ kT d.o d.t := fun e => by
        obtain ⟨e1, e2⟩ := kT_inj bo bt ho ht e
        exact q ⟨e1.symm, e2.symm⟩
      rw [atKey_put_other hne]
      obtain ⟨m, m0, m1, m2, m3⟩ := h.at' o t bo bt
      have : (decide (d.o = o) && decide (d.t = t)) = false := by
        by_cases a : d.o = o <;> by_cases b : d.t = t <;> simp [a, b]
        exact q ⟨a, b⟩
      rw [this, Bool.or_false]
      exact ⟨m, m0, m1, by simp; omega, m3⟩
  · rw [giv_snoc]
    by_cases q : d.o = o ∧ d.t = t
    · obtain ⟨rfl, rfl⟩ := q
      rw [has_put_same hm (kT_key _ _)]
      simp
    · have hne : kT o t ≠ kT d.o d.t := fun e => by
        obtain ⟨e1, e2⟩ := kT_inj bo bt ho ht e
        exact q ⟨e1.symm, e2.symm⟩
      rw [has_put_other hne, h.has' o t bo bt]
      have : (decide (d.o = o) && decide (d.t = t)) = false := by
        by_cases a : d.o = o <;> by_cases b : d.t = t <;> simp [a, b]
        exact q ⟨a, b⟩
      rw [this, Bool.or_false]
  · rw [size_put h.tidy', h.has' _ _ ho ht, apart_snoc]
    have hs := h.size'
    cases hg : givB l d.o d.t with
    | false =>
      simp only [List.length_append, List.length_singleton, Bool.not_false, Bool.and_true, Bool.false_eq_true, if_false]
      refine ⟨by omega, ?_⟩
      rw [← hs.2]
      omega
    | true =>
      simp only [List.length_append, List.length_singleton, Bool.not_true, Bool.and_false, if_true]
      refine ⟨by omega, ?_⟩
      constructor
      · intro e; omega
      · intro e; cases e
end Go.Proofs.Ytkejjlgeiaeicaa
