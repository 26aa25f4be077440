/-
  Merged: Ro Gw.
-/
import Derived.Test.YtgcpiinmcbdkmaaMw14
import Derived.Test.YtgcpiinmcbdkmaaMw4
import Derived.Laws.AppendOwn
import Derived.Laws.OwnMore
namespace Go.Proofs.Ytgcpiinmcbdkmaa.Rg
open Go
set_option linter.all false
section
variable {P : Program} {ops : Array Oper} {Q : Exit → Act → World → Prop}
theorem region_set4 {id : Nat} {a : Act} {w : World} (hm : P.follows .mixedOrders = true) (I : Array Bool → World → Prop) (F : Nat → Value → World → Prop) (hfit : fit .any ops a.tmps.size ops.size = true)
    (h0 : I (Array.replicate ops.size false) { w with drawn := w.drawn + 1 })
    (hop : ∀ i, i < ops.size → ∀ l b w, l.size = ops.size → l.getD i false = false → (∀ j, aftOf .any ops j i = true → l.getD j false = false) → (∀ j, l.getD j false = false → out ops b j = out ops a j) → Fr ops a b → I l w → (∀ k, aftOf .any ops i k = true → l.getD k false = true) → (∀ k, aftOf .any ops i k = true → F k (out ops b k) w) →
      wpOp P ops Q i (fun b' w' => ∃ x, b' = b.put (dstAt ops i) x ∧ (dstAt ops i = none → F i undef w') ∧ F i x w' ∧ I (l.setIfInBounds i true) w' ∧ ∀ k y, k ≠ i → aftOf .any ops k i = false → F k y w → F k y w') b w)
    (hend : ∀ l b w', Fr ops a b → (∀ k, k < ops.size → l.getD k false = true) → I l w' → (∀ k, k < ops.size → F k (out ops b k) w') → Q .normal b w') : (Code.region id ops true).wp P Q a w := by
  refine wp_region_any hm ?_
  refine wpAny_inv (fun l b w' => l.size = ops.size ∧ Shut .any ops l ∧ Fr ops a b ∧ (∀ j, l.getD j false = false → out ops b j = out ops a j) ∧ I l w' ∧ ∀ k, k < ops.size → l.getD k false = true → F k (out ops b k) w') ?_ ?_ _ _ _ _ ?_ ?_
  · rintro l b w' i ⟨hs, hsh, hf, hO, hI, hF⟩ hi
    obtain ⟨hi0, o, hio, haft⟩ := mem_ready.1 hi
    have hlt : i < ops.size := (Array.getElem?_eq_some_iff.1 hio).1
    have hli := getD_of (b := false) hi0
    have hlf : l.getD i false = false := by rw [Array.getD_eq_getD_getElem?, hli]; rfl
    have hl2 : (l.setIfInBounds i true).size = ops.size := by rw [Array.size_setIfInBounds]; exact hs
    have hA : ∀ k, aftOf .any ops i k = true → F k (out ops b k) w' := by
      intro k hk
      have hlk := aft_done hio haft hk
      have hkl : k < ops.size := by
        have : k < l.size := by
          rcases Nat.lt_or_ge k l.size with q | q
          · exact q
          · rw [Array.getD_eq_getD_getElem?, Array.getElem?_eq_none q] at hlk; cases hlk
        omega
      exact hF k hkl hlk
    have hN : ∀ j, aftOf .any ops j i = true → l.getD j false = false := by
      intro j hj
      cases q : l.getD j false with
      | false => rfl
      | true => rw [hsh j i q hj] at hlf; cases hlf
    refine wpOp_mono ?_ (hop i hlt l b w' hs hlf hN hO hf hI (fun k hk => aft_done hio haft hk) hA)
    rintro b' w'' ⟨x, rfl, hx0, hx, hI2, hst⟩
    refine ⟨hl2, ?_, hf.put i x, fun j hj => ?_, hI2, fun k hk hlk => ?_⟩
    · intro k j hk hkj
      by_cases hki : k = i
      · subst hki
        exact getD_set_true (aft_done hio haft hkj)
      · rw [getD_set_ne false (Ne.symm hki)] at hk
        exact getD_set_true (hsh k j hk hkj)
    · by_cases hji : j = i
      · subst hji
        rw [Array.getD_eq_getD_getElem?, Array.getElem?_setIfInBounds_self_of_lt (by omega)] at hj; cases hj
      · rw [out_put hfit hf rfl x (fun _ => .inr trivial), if_neg (fun q => hji q.1)]
        exact hO j (by rwa [getD_set_ne false (Ne.symm hji)] at hj)
    · rw [out_put hfit hf rfl x (fun _ => .inr trivial)]
      by_cases hki : k = i
      · subst hki
        cases hd : dstAt ops k with
        | none =>
          rw [if_neg (by simp)]
          have : out ops b k = undef := by unfold out; rw [hd]
          rw [this]; exact hx0 hd
        | some d => rw [if_pos ⟨rfl, rfl⟩]; exact hx
      · rw [if_neg (fun q => hki q.1)]
        rw [getD_set_ne false (Ne.symm hki)] at hlk
        refine hst k _ hki ?_ (hF k hk hlk)
        cases q : aftOf .any ops k i with
        | false => rfl
        | true => rw [hsh k i hlk q] at hlf; cases hlf
  · rintro l b w' ⟨hs, hsh, hf, hO, hI, hF⟩ hr
    have hall := all_listed hfit hs hr
    exact hend l b w' hf hall hI (fun k hk => hF k hk (hall k hk))
  · refine ⟨by simp, fun k j hk _ => ?_, ⟨rfl, rfl, fun s _ => rfl⟩, fun _ _ => rfl, h0, fun k hk hlk => ?_⟩
    · simp only [Array.getD_eq_getD_getElem?, Array.getElem?_replicate] at hk
      split at hk <;> cases hk
    · simp only [Array.getD_eq_getD_getElem?, Array.getElem?_replicate, if_pos hk] at hlk
      cases hlk
  · simp
end
end Go.Proofs.Ytgcpiinmcbdkmaa.Rg

namespace Go.Proofs.Ytgcpiinmcbdkmaa
open Go.RowKit Va Go.Maps
set_option linter.unusedVariables false
theorem ownW_lt {w : World} {b e s n : Nat} {v : Value} {xs : List Value} (h : w.ownsRow b e s v n xs) : ∀ k, v.ownBlock = some k → b ≤ k ∧ k < w.heap.size := by
  obtain ⟨_, ⟨rfl, _⟩ | ⟨g, cap, cur, rfl, hb, hh, _⟩⟩ := h
  · intro k hk; cases hk
  · intro k hk
    obtain rfl : g = k := by simpa [Value.ownBlock] using hk
    exact ⟨hb, (Array.getElem?_eq_some_iff.1 hh).1⟩
theorem ownW_slice {w : World} {b e s n : Nat} {v : Value} {xs : List Value} (h : w.ownsRow b e s v n xs) : ∃ ad c, v = .slice ad n c := by
  obtain ⟨_, ⟨rfl, rfl⟩ | ⟨g, cap, cur, rfl, _⟩⟩ := h
  · exact ⟨_, _, rfl⟩
  · exact ⟨_, _, rfl⟩
theorem ownW_below {w w' : World} {b e s n : Nat} {v : Value} {xs : List Value} (h : w.ownsRow b e s v n xs) (hb : Below w.heap.size w w') : w'.ownsRow b e s v n xs := by
  obtain ⟨q, ⟨q1, q2⟩ | ⟨g, c, cur, rfl, hg, hh, r⟩⟩ := h
  · exact ⟨q, Or.inl ⟨q1, q2⟩⟩
  · exact ⟨q, Or.inr ⟨g, c, cur, rfl, hg, (hb.block g (Array.getElem?_eq_some_iff.1 hh).1).trans hh, r⟩⟩
theorem ownW_base {w : World} {b b' e s n : Nat} {v : Value} {xs : List Value} (h : w.ownsRow b e s v n xs) (hb : b' ≤ b) : w.ownsRow b' e s v n xs := by
  obtain ⟨q, ⟨q1, q2⟩ | ⟨g, c, cur, rfl, hg, r⟩⟩ := h
  · exact ⟨q, Or.inl ⟨q1, q2⟩⟩
  · exact ⟨q, Or.inr ⟨g, c, cur, rfl, Nat.le_trans hb hg, r⟩⟩
end Go.Proofs.Ytgcpiinmcbdkmaa
