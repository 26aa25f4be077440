/-
  What slices.DeleteFunc leaves of a row of doses.
-/
import Derived.Test.YtcnhogghfedcdaaMh
namespace Go.Proofs.Ytcnhogghfedcdaa
open Go.RowKit Va Ga
set_option linter.unusedVariables false

def CI (cur : Array Value) (K : List Gv) (i : Nat) : Prop := ∀ k x, k < i → K[k]? = some x → ∀ q, q < 3 → cur[k * 3 + q]? = some (.int .i64 (csGv x q))
def CJ (cur : Array Value) (D : List Gv) (j : Nat) : Prop := ∀ k x, j ≤ k → D[k]? = some x → ∀ q, q < 3 → cur[k * 3 + q]? = some (.int .i64 (csGv x q))
def set3 (cur : Array Value) (i : Nat) (x : Gv) : Array Value := ((cur.setIfInBounds (i * 3) (.int .i64 x.d)).setIfInBounds (i * 3 + 1) (.int .i64 x.t)).setIfInBounds (i * 3 + 2) (.int .i64 x.n)
theorem set3_size (cur : Array Value) (i : Nat) (x : Gv) : (set3 cur i x).size = cur.size := by simp [set3]
theorem set3_at {cur : Array Value} {i : Nat} {x : Gv} (h : i * 3 + 2 < cur.size) : ∀ q, q < 3 → (set3 cur i x)[i * 3 + q]? = some (.int .i64 (csGv x q)) := fun q hq => by
  unfold set3
  match q, hq with
  | 0, _ => simp [Array.getElem?_setIfInBounds, csGv]; omega
  | 1, _ => simp [Array.getElem?_setIfInBounds, csGv]; omega
  | 2, _ => simp [Array.getElem?_setIfInBounds, csGv]; omega
theorem set3_ne {cur : Array Value} {i p : Nat} {x : Gv} (h : p < i * 3 ∨ i * 3 + 2 < p) : (set3 cur i x)[p]? = cur[p]? := by
  unfold set3
  rw [Array.getElem?_setIfInBounds_ne (by omega), Array.getElem?_setIfInBounds_ne (by omega), Array.getElem?_setIfInBounds_ne (by omega)]
theorem CI.put {cur : Array Value} {K : List Gv} {i : Nat} {x : Gv} (h : CI cur K i) (hx : K[i]? = some x) (hs : i * 3 + 2 < cur.size) : CI (set3 cur i x) K (i + 1) := fun k y hk hy q hq => by
  rcases Nat.lt_succ_iff_lt_or_eq.1 hk with p | rfl
  · rw [set3_ne (by omega)]; exact h k y p hy q hq
  · rw [hx] at hy; cases hy; exact set3_at hs q hq
theorem CJ.put {cur : Array Value} {D : List Gv} {i j : Nat} {x : Gv} (h : CJ cur D j) (hij : i < j) : CJ (set3 cur i x) D (j + 1) := fun k y hk hy q hq => by
  rw [set3_ne (by omega)]; exact h k y (by omega) hy q hq
theorem CJ.next {cur : Array Value} {D : List Gv} {j : Nat} (h : CJ cur D j) : CJ cur D (j + 1) := fun k y hk hy q hq => h k y (by omega) hy q hq

theorem split_at {D : List Gv} {j : Nat} {x : Gv} (h : D[j]? = some x) : D = D.take j ++ x :: D.drop (j + 1) := by
  have hlt := (List.getElem?_eq_some_iff.1 h).1
  have e : D[j] = x := (List.getElem?_eq_some_iff.1 h).2
  rw [← e, ← List.drop_eq_getElem_cons hlt, List.take_append_drop]
theorem take_one {D : List Gv} {j : Nat} {x : Gv} (h : D[j]? = some x) : D.take (j + 1) = D.take j ++ [x] := by rw [List.take_add_one, h]; rfl
theorem filt_yes {D : List Gv} {j : Nat} {x : Gv} {p : Gv → Bool} (h : D[j]? = some x) (hp : p x = true) : (D.filter p)[((D.take j).filter p).length]? = some x ∧ ((D.take (j + 1)).filter p).length = ((D.take j).filter p).length + 1 := by
  refine ⟨?_, by rw [take_one h, List.filter_append]; simp [hp]⟩
  have e := congrArg (List.filter p) (split_at h)
  rw [List.filter_append, List.filter_cons_of_pos hp] at e
  rw [e, List.getElem?_append_right (Nat.le_refl _)]
  simp
theorem filt_no {D : List Gv} {j : Nat} {x : Gv} {p : Gv → Bool} (h : D[j]? = some x) (hp : p x = false) : ((D.take (j + 1)).filter p).length = ((D.take j).filter p).length := by
  rw [take_one h, List.filter_append]; simp [hp]
theorem filt_first {D : List Gv} {k : Nat} {p : Gv → Bool} (h : ∀ y ∈ D.take k, p y = true) (hk : k ≤ D.length) : ((D.take k).filter p).length = k ∧ ∀ q x, q < k → (D.filter p)[q]? = some x → D[q]? = some x := by
  have e : (D.take k).filter p = D.take k := List.filter_eq_self.2 h
  refine ⟨by rw [e, List.length_take]; omega, fun q x hq hx => ?_⟩
  have e2 : D.filter p = D.take k ++ (D.drop k).filter p := by
    conv => lhs; rw [← List.take_append_drop k D]
    rw [List.filter_append, e]
  rw [e2, List.getElem?_append_left (by rw [List.length_take]; omega), List.getElem?_take, if_pos hq] at hx
  exact hx

/-- The row as the program sees it. -/
theorem pb_row {w : World} {G n cap : Nat} {cur : Array Value} {t : TypeId} {D : List Gv} (h : PB w G cur t) (hn : n = D.length) (hc : n ≤ cap) (hj : CJ cur D 0) : Rw 3 csGv w (.slice (some ⟨G, 0, none⟩) n cap) D := by
  subst hn
  exact ⟨_, cap, rfl, hc, Or.inr ⟨G, 0, rfl, h.lt, fun i x hx k hk => by rw [Nat.zero_add, h.cell]; exact hj i x (Nat.zero_le _) hx k hk⟩⟩

theorem run_clear_wide {P : Program} (w : World) (t e ty : TypeId) (z : Value) (size g o m c : Nat) (cur : Array Value) (tt : TypeId) (ht : P.underlying t = some (.slice e)) (hv : ∀ w, (zeroValue e).run P w = .ok z w) (hz : z.cells.size = size) (h1 : ∀ v ∈ z.cells, v.oneCell' = true) (hs0 : 0 < size) (hm : 0 < m)
    (hg : w.heap[g]? = some (.cells cur tt (0, 0))) (hfit : o + m * size ≤ cur.size) :
    ∃ cur', (Builtin.clear_ #[t] ty #[.slice (some ⟨g, o, none⟩) m c]).run P w = .ok (.tuple #[]) (w.setRow g cur') ∧ cur'.size = cur.size ∧ ∀ p, p < o → cur'[p]? = cur[p]? := by
  have hl : (Builtin.zeroCells z.cells m).toList.length = m * size := by rw [Array.length_toList, size_zeroCells, hz]
  have hone : ∀ v ∈ (Builtin.zeroCells z.cells m).toList, v.oneCell' = true := by
    intro v hv'
    simp only [Builtin.zeroCells, Array.toList_map, List.mem_map] at hv'
    obtain ⟨i, _, rfl⟩ := hv'
    have hlt : i % z.cells.size < z.cells.size := Nat.mod_lt _ (by omega)
    rw [getElem!_pos z.cells _ hlt]
    exact h1 _ (Array.getElem_mem hlt)
  have hst := run_storeCells_at P g o tt (Builtin.zeroCells z.cells m).toList 0 cur w hg (by omega) hone
  simp only [Nat.add_zero] at hst
  obtain ⟨m', rfl⟩ : ∃ m', m = m' + 1 := ⟨m - 1, by omega⟩
  refine ⟨_, by simp [Builtin.clear_, run_underlying ht, hv, hst]; rfl, ?_, fun p hp => ?_⟩
  · simp only [List.size_toArray, List.length_append, List.length_take, List.length_drop, Array.length_toList]
    rw [Array.length_toList] at hl
    omega
  · try rw [List.getElem?_toArray]
    try rw [List.append_assoc]
    rw [List.getElem?_append_left (by simp; omega), List.getElem?_take, if_pos hp, Array.getElem?_toList]

theorem wpList_clear_wide {P : Program} {w : World} {ops : Array Oper} {rest : List Oper} {o : Oper} {a : Act} {Q : Exit → Act → World → Prop} (hgd : o.guard = none) (s : Operand) (t : TypeId)
    (ho : o.op = .call { callee := .builtin .clear, args := #[s], argTypes := #[t] }) (e : TypeId) (z : Value) (size g off m c : Nat) (cur : Array Value) (tt : TypeId) (hs : a.eval s = .slice (some ⟨g, off, none⟩) m c) (ht : P.underlying t = some (.slice e)) (hv : ∀ w, (zeroValue e).run P w = .ok z w) (hz : z.cells.size = size) (h1 : ∀ v ∈ z.cells, v.oneCell' = true) (hs0 : 0 < size) (hm : 0 < m)
    (hg : w.heap[g]? = some (.cells cur tt (0, 0))) (hfit : off + m * size ≤ cur.size)
    (h : ∀ cur', cur'.size = cur.size → (∀ p, p < off → cur'[p]? = cur[p]?) → wpList P ops Q rest (a.put o.dst (.tuple #[])) (w.setRow g cur')) : wpList P ops Q (o :: rest) a w := by
  refine wpList_plain hgd fun K hK => ?_
  obtain ⟨cur', hrun, h2, h3⟩ := run_clear_wide (P := P) w t e o.type z size g off m c cur tt ht hv hz h1 hs0 hm hg hfit
  unfold Oper.wp
  simp [execOp, ho, resolve, invoke, builtin, hs, hrun, Result.andThen]
  exact hK _ _ (h cur' h2 h3)
theorem PB.row {w : World} {G : Nat} {cur cur' : Array Value} {t : TypeId} (h : PB w G cur t) : PB (w.setRow G cur') G cur' t := setRow_heap w G cur cur' t _ h

end Go.Proofs.Ytcnhogghfedcdaa
