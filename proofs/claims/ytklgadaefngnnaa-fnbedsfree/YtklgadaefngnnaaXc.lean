/-
  The law's own helpers on houses: sizes, copies, sameness.
-/
import Derived.Test.YtklgadaefngnnaaXa
namespace Go.Proofs.Ytklgadaefngnnaa
open Go.RowKit Hm
set_option linter.unusedVariables false

theorem Out.keep {α : Type} {s : Nat} {cs : α → Nat → Int} {w w' : World} {G n i : Nat} {l : List α} (h : Out s cs w G n l i) (hs : w.heap.size ≤ w'.heap.size) (hb : w'.heap[G]? = w.heap[G]?) : Out s cs w' G n l i := by
  have hc : ∀ j, w'.cell? ⟨G, j, none⟩ = w.cell? ⟨G, j, none⟩ := fun j => by simp only [World.cell?, hb]
  have hf : ∀ j, w'.frozen? ⟨G, j, none⟩ = w.frozen? ⟨G, j, none⟩ := fun j => by simp only [World.frozen?, hb]
  refine ⟨Nat.lt_of_lt_of_le h.1 hs, fun j hj => ?_, fun j x hj hx k hk => ?_⟩
  · rw [hc, hf]; exact h.2.1 j hj
  · rw [hc]; exact h.2.2 j x hj hx k hk
theorem Own.keep {α : Type} {s : Nat} {cs : α → Nat → Int} {w w' : World} {base : Nat} {v : Value} {l : List α} (h : Own s cs w base v l) (hs : w.heap.size ≤ w'.heap.size) (hb : ∀ j, base ≤ j → j < w.heap.size → w'.heap[j]? = w.heap[j]?) : Own s cs w' base v l := by
  obtain ⟨ao, cap, rfl, hc, h0 | ⟨G, rfl, hG, ho⟩⟩ := h
  · exact ⟨ao, cap, rfl, hc, Or.inl h0⟩
  · exact ⟨_, cap, rfl, hc, Or.inr ⟨G, rfl, hG, ho.keep hs (hb G hG ho.1)⟩⟩
theorem Own.setCell {α : Type} {s : Nat} {cs : α → Nat → Int} {w : World} {base : Nat} {v : Value} {l : List α} (h : Own s cs w base v l) {p : Addr} (hp : p.block < base) (u : Value) : Own s cs (w.setCell p u) base v l :=
  h.keep (by simp) (fun j hj _ => Below.heap_setCell _ _ _ _ (by omega))
/-- A house of the call's own: beds and stays in two blocks. -/
def HOwn (w : World) (base : Nat) (vb vs : Value) (B : List Bd) (S : List St) : Prop := Own 2 csB w base vb B ∧ Own 6 csS w base vs S ∧ (B.length = 0 ∨ S.length = 0 ∨ Apart vb vs)
theorem HOwn.row {w : World} {base : Nat} {vb vs : Value} {B : List Bd} {S : List St} (h : HOwn w base vb vs B S) : HRw w vb vs B S := ⟨h.1.row, h.2.1.row⟩
theorem HOwn.below {w w' : World} {base : Nat} {vb vs : Value} {B : List Bd} {S : List St} (h : HOwn w base vb vs B S) (hb : Below w.heap.size w w') : HOwn w' base vb vs B S := ⟨h.1.below hb, h.2.1.below hb, h.2.2⟩
theorem HOwn.base_le {w : World} {base b2 : Nat} {vb vs : Value} {B : List Bd} {S : List St} (h : HOwn w base vb vs B S) (hb : b2 ≤ base) : HOwn w b2 vb vs B S := ⟨h.1.base_le hb, h.2.1.base_le hb, h.2.2⟩
theorem apart_of {α β : Type} {s s2 : Nat} {cs : α → Nat → Int} {cs2 : β → Nat → Int} {w1 w2 : World} {b1 : Nat} {v v2 : Value} {l : List α} {l2 : List β} (h : Own s cs w1 b1 v l) (h2 : Own s2 cs2 w2 w1.heap.size v2 l2) : l.length = 0 ∨ l2.length = 0 ∨ Apart v v2 := by
  obtain ⟨ao, cap, rfl, _, h0 | ⟨G, rfl, hG, ho⟩⟩ := h
  · exact Or.inl h0
  obtain ⟨ao2, cap2, rfl, _, h0 | ⟨G2, rfl, hG2, ho2⟩⟩ := h2
  · exact Or.inr (Or.inl h0)
  refine Or.inr (Or.inr fun j hj hj2 => ?_)
  have e1 : G = j := Option.some.inj hj
  have e2 : G2 = j := Option.some.inj hj2
  have := ho.1
  omega

end Go.Proofs.Ytklgadaefngnnaa
