/-
  Merged: Rv Gx.
-/
import Derived.Test.YtgcpiinmcbdkmaaMw4
import Derived.Deep.RegionWith
namespace Go.Proofs.Ytgcpiinmcbdkmaa
open Go.RowKit
set_option linter.all false
section
variable {α : Type} (s : Nat) (cs : α → Nat → Value)
def VRw (w : World) (v : Value) (l : List α) : Prop :=
  ∃ ao cap, v = .slice ao l.length cap ∧ l.length ≤ cap ∧ (l.length = 0 ∨ ∃ b off, ao = some ⟨b, off, none⟩ ∧ b < w.heap.size ∧ ∀ i x, l[i]? = some x → ∀ k, k < s → w.cell? ⟨b, off + i * s + k, none⟩ = some (cs x k))
def VOut (w : World) (G n : Nat) (l : List α) (i : Nat) : Prop :=
  G < w.heap.size ∧ (∀ j, j < n * s → (∃ u, w.cell? ⟨G, j, none⟩ = some u) ∧ w.frozen? ⟨G, j, none⟩ = false) ∧
    ∀ j x, j < i → l[j]? = some x → ∀ k, k < s → w.cell? ⟨G, j * s + k, none⟩ = some (cs x k)
def VOwn (w : World) (base : Nat) (v : Value) (l : List α) : Prop :=
  ∃ ao cap, v = .slice ao l.length cap ∧ l.length ≤ cap ∧ (l.length = 0 ∨ ∃ G, ao = some ⟨G, 0, none⟩ ∧ base ≤ G ∧ VOut s cs w G l.length l l.length)
end
section
variable {α : Type} {s : Nat} {cs : α → Nat → Value}
theorem VRw.below {w w' : World} {v : Value} {l : List α} (h : VRw s cs w v l) (hb : Below w.heap.size w w') : VRw s cs w' v l := by
  obtain ⟨ao, cap, rfl, hlc, h2⟩ := h
  refine ⟨ao, cap, rfl, hlc, ?_⟩
  rcases h2 with h2 | ⟨b, off, h3, h4, h5⟩
  · exact Or.inl h2
  · exact Or.inr ⟨b, off, h3, Nat.lt_of_lt_of_le h4 hb.size, fun i x hx k hk => (hb.cell (p := ⟨b, off + i * s + k, none⟩) h4).trans (h5 i x hx k hk)⟩
theorem VRw.at {w : World} {ao : Option Addr} {cap : Nat} {n : Nat} {l : List α} (h : VRw s cs w (.slice ao n cap) l) {i : Nat} {x : α} (hx : l[i]? = some x) :
    ∃ b off, ao = some ⟨b, off, none⟩ ∧ b < w.heap.size ∧ ∀ k, k < s → w.cell? ⟨b, off + i * s + k, none⟩ = some (cs x k) := by
  obtain ⟨ao', cap', he, _, h2⟩ := h
  obtain ⟨rfl, rfl, rfl⟩ : ao = ao' ∧ n = l.length ∧ cap = cap' := by simpa using he
  have := get_lt' hx
  rcases h2 with h2 | ⟨b, off, h3, h4, h5⟩
  · omega
  · exact ⟨b, off, h3, h4, fun k hk => h5 i x hx k hk⟩
theorem VRw.form {w : World} {v : Value} {l : List α} (h : VRw s cs w v l) : ∃ ao cap, v = .slice ao l.length cap := by
  obtain ⟨ao, cap, rfl, _, _⟩ := h; exact ⟨ao, cap, rfl⟩
theorem VRw.len {w : World} {ao : Option Addr} {n cap : Nat} {l : List α} (h : VRw s cs w (.slice ao n cap) l) : n = l.length := by
  obtain ⟨ao', cap', he, _, _⟩ := h; simp at he; omega
theorem VRw.cap {w : World} {ao : Option Addr} {n cap : Nat} {l : List α} (h : VRw s cs w (.slice ao n cap) l) : l.length ≤ cap := by
  obtain ⟨ao', cap', he, hc, _⟩ := h; simp at he; omega
theorem VRw.nil (w : World) (ao : Option Addr) (cap : Nat) : VRw s cs w (.slice ao 0 cap) [] := ⟨ao, cap, rfl, Nat.zero_le _, Or.inl rfl⟩
theorem VOut.below {w w' : World} {G n i : Nat} {l : List α} (h : VOut s cs w G n l i) (hb : Below w.heap.size w w') : VOut s cs w' G n l i :=
  ⟨Nat.lt_of_lt_of_le h.1 hb.size, fun j hj => ⟨by
      obtain ⟨u, hu⟩ := (h.2.1 j hj).1
      exact ⟨u, (hb.cell (p := ⟨G, j, none⟩) h.1).trans hu⟩, (hb.frozen (p := ⟨G, j, none⟩) h.1).trans (h.2.1 j hj).2⟩,
    fun j x hj hx k hk => (hb.cell (p := ⟨G, j * s + k, none⟩) h.1).trans (h.2.2 j x hj hx k hk)⟩
theorem VOut.set {w : World} {G n i : Nat} {l : List α} {x : α} (h : VOut s cs w G n l i) (hi : i < n) (hx : l[i]? = some x) (vs : List Value) (hv : vs.length = s) (hvs : ∀ k, k < s → vs[k]? = some (cs x k)) :
    VOut s cs (put w G (i * s) vs) G n l (i + 1) := by
  obtain ⟨h1, h2, h3⟩ := h
  have hle : i * s + s ≤ n * s := by rw [← Nat.succ_mul]; exact Nat.mul_le_mul_right s hi
  have hnew : ∀ k, k < s → (put w G (i * s) vs).cell? ⟨G, i * s + k, none⟩ = some (cs x k) := fun k hk =>
    put_same vs w G (i * s) (fun j hj => (h2 (i * s + j) (by omega)).1) k _ (hvs k hk)
  refine ⟨by rw [put_size]; exact h1, fun j hj => ⟨?_, by rw [put_frozen]; exact (h2 j hj).2⟩, fun j y hj hy k hk => ?_⟩
  · by_cases a : i * s ≤ j ∧ j < i * s + s
    · have := hnew (j - i * s) (by omega)
      rw [show i * s + (j - i * s) = j by omega] at this
      exact ⟨_, this⟩
    · rw [put_other _ _ _ _ _ (by omega)]; exact (h2 j hj).1
  · by_cases a : j = i
    · subst a; rw [hx] at hy; cases hy; exact hnew k hk
    · have hlt : j * s + s ≤ i * s := by rw [← Nat.succ_mul]; exact Nat.mul_le_mul_right s (by omega)
      rw [put_other _ _ _ _ _ (by omega)]
      exact h3 j y (by omega) hy k hk
theorem VOut.old {w : World} {G n i : Nat} {l : List α} (h : VOut s cs w G n l i) {j : Nat} (hj : j < n) {k : Nat} (hk : k < s) : (∃ u, w.cell? ⟨G, j * s + k, none⟩ = some u) ∧ w.frozen? ⟨G, j * s + k, none⟩ = false := by
  have hle : j * s + s ≤ n * s := by rw [← Nat.succ_mul]; exact Nat.mul_le_mul_right s hj
  exact h.2.1 (j * s + k) (by omega)
theorem VOut.own {w : World} {G base : Nat} {l : List α} (h : VOut s cs w G l.length l l.length) (hG : base ≤ G) (c : Nat) (hc : l.length ≤ c) : VOwn s cs w base (.slice (some ⟨G, 0, none⟩) l.length c) l :=
  ⟨_, c, rfl, hc, Or.inr ⟨G, rfl, hG, h⟩⟩
theorem VOwn.below {w w' : World} {base : Nat} {v : Value} {l : List α} (h : VOwn s cs w base v l) (hb : Below w.heap.size w w') : VOwn s cs w' base v l := by
  obtain ⟨ao, cap, rfl, hc, h0 | ⟨G, rfl, hG, ho⟩⟩ := h
  · exact ⟨ao, cap, rfl, hc, Or.inl h0⟩
  · exact ⟨_, cap, rfl, hc, Or.inr ⟨G, rfl, hG, ho.below hb⟩⟩
theorem VOwn.nil (w : World) (b : Nat) (ao : Option Addr) (cap : Nat) : VOwn s cs w b (.slice ao 0 cap) [] := ⟨ao, cap, rfl, Nat.zero_le _, Or.inl rfl⟩
inductive Kd where
  | int
  | bool
  | str
end
end Go.Proofs.Ytgcpiinmcbdkmaa

namespace Go.Proofs.Ytgcpiinmcbdkmaa
open Go.RowKit Va
set_option linter.unusedVariables false
def PB (W : World) (B : Nat) (vs : Array Value) (t : TypeId) : Prop := W.heap[B]? = some (.cells vs t)
section
variable {W W' : World} {B b : Nat} {vs : Array Value} {t : TypeId}
theorem PB.below (h : PB W B vs t) (hb : Below W.heap.size W W') : PB W' B vs t := (hb.block B (Array.getElem?_eq_some_iff.1 h).1).trans h
theorem PB.lt (h : PB W B vs t) : B < W.heap.size := (Array.getElem?_eq_some_iff.1 h).1
theorem PB.cell (h : PB W B vs t) (j : Nat) : W.cell? ⟨B, j, none⟩ = vs[j]? := by
  unfold PB at h
  simp only [World.cell?, h]
  rfl
theorem PB.frozen (h : PB W B vs t) (j : Nat) : W.frozen? ⟨B, j, none⟩ = false := by
  unfold PB at h
  simp only [World.frozen?, h]
  simp
theorem PB.new (W : World) (vs : Array Value) (t : TypeId) : PB (W.alloc (.cells vs t)) W.heap.size vs t := heap_alloc_new _ _
theorem PB.alloc (h : PB W B vs t) (o : Obj) : PB (W.alloc o) B vs t := h.below ((Below.refl _ _).alloc (Nat.le_refl _) o)
theorem PB.set (h : PB W B vs t) (j : Nat) (v : Value) : PB (W.setCell ⟨B, j, none⟩ v) B (vs.setIfInBounds j v) t := by
  unfold PB at *
  simp only [World.setCell, Array.getElem?_modify]
  rw [if_pos trivial, h]
  rfl
theorem PB.far (h : PB W B vs t) (hb : b ≠ B) (j : Nat) (v : Value) : PB (W.setCell ⟨b, j, none⟩ v) B vs t := by
  unfold PB at *
  rw [Below.heap_setCell _ _ _ _ (by show B ≠ b; omega)]
  exact h
theorem PB.drewN (h : PB W B vs t) (n : Nat) : PB (W.drewN n) B vs t := h
end
theorem PB.two {W : World} {B : Nat} {t : TypeId} {v0 v1 : Value} (h : PB W B #[v0, v1] t) : W.cell? ⟨B, 0, none⟩ = some v0 ∧ W.cell? ⟨B, 1, none⟩ = some v1 := ⟨h.cell 0, h.cell 1⟩
theorem PB.cold {W : World} {B : Nat} {t : TypeId} {vs : Array Value} (h : PB W B vs t) : W.frozen? ⟨B, 0, none⟩ = false ∧ W.frozen? ⟨B, 1, none⟩ = false ∧ W.frozen? ⟨B, 2, none⟩ = false ∧ W.frozen? ⟨B, 3, none⟩ = false ∧ W.frozen? ⟨B, 4, none⟩ = false ∧ W.frozen? ⟨B, 5, none⟩ = false ∧ W.frozen? ⟨B, 6, none⟩ = false ∧ W.frozen? ⟨B, 7, none⟩ = false ∧ W.frozen? ⟨B, 8, none⟩ = false ∧ W.frozen? ⟨B, 9, none⟩ = false :=
  ⟨h.frozen 0, h.frozen 1, h.frozen 2, h.frozen 3, h.frozen 4, h.frozen 5, h.frozen 6, h.frozen 7, h.frozen 8, h.frozen 9⟩
theorem PB.put {W : World} {B : Nat} {vs : Array Value} {t : TypeId} (h : PB W B vs t) (j : Nat) (v : Value) {vs' : Array Value} (e : vs.setIfInBounds j v = vs') : PB (W.setCell ⟨B, j, none⟩ v) B vs' t := e ▸ h.set j v
end Go.Proofs.Ytgcpiinmcbdkmaa
