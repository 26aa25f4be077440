/-
  Merged: Ri.
-/
import Derived.Test.YtmcekefoedgboaaDoorMg5
namespace Go.Proofs.YtmcekefoedgboaaDoor.Rg
open Go
set_option linter.all false
section
variable {P : Program} {ops : Array Oper} {Q : Exit → Act → World → Prop} {md : Region.Mode}
def Hop3 (P : Program) (md : Region.Mode) (ops : Array Oper) (Q : Exit → Act → World → Prop) (a : Act) (I : World → Prop) (F : Nat → (Nat → Value) → World → Prop) (dead : Nat → Option Nat) (i : Nat) : Prop :=
  ∀ b w, Fr ops a b → I w → (∀ k, kz md ops i k = true → (dead k = none ∨ dead k = some i) → F k (out ops b) w) →
    wpOp P ops Q i (fun b' w' => ∃ x, b' = b.put (zf ops i) x ∧ I w' ∧ ∀ o' : Nat → Value, (∀ k, k ≠ i → o' k = out ops b k) → (zf ops i ≠ none → o' i = x) → F i o' w' ∧ ∀ k, due md ops dead i k = true → F k (out ops b) w → F k o' w') b w
theorem zfl {id : Nat} {a : Act} {w : World} (hm : P.follows .mixedOrders = true) (I : World → Prop) (F : Nat → (Nat → Value) → World → Prop) (dead : Nat → Option Nat) (hfit : fit .any ops a.tmps.size ops.size = true)
    (h0 : I { w with drawn := w.drawn + 1 }) (hop : ∀ i, i < ops.size → Hop3 P .any ops Q a I F dead i)
    (hend : ∀ b w', Fr ops a b → I w' → (∀ k, k < ops.size → dead k = none → F k (out ops b) w') → Q .normal b w') : (Code.region id ops true).wp P Q a w := by
  refine wp_region_any hm ?_
  refine zc9 (fun l b w' => l.size = ops.size ∧ Shut .any ops l ∧ Fr ops a b ∧ I w' ∧ ∀ k, k < ops.size → l.getD k false = true → (∃ j, dead k = some j ∧ l.getD j false = true) ∨ F k (out ops b) w') ?_ ?_ _ _ _ _ ?_ ?_
  · rintro l b w' i ⟨hs, hsh, hf, hI, hF⟩ hi
    obtain ⟨hi0, o, hio, haft⟩ := mem_ready.1 hi
    have hlt : i < ops.size := (Array.getElem?_eq_some_iff.1 hio).1
    have hli := zca (b := false) hi0
    have hnot : ∀ {d : Bool}, l.getD i d = true → False := fun {d} h => by
      simp only [Array.getD_eq_getD_getElem?] at h
      rw [hli] at h; cases h
    have hl2 : (l.setIfInBounds i true).size = ops.size := by rw [Array.size_setIfInBounds]; exact hs
    have hii : (l.setIfInBounds i true).getD i false = true := by
      rw [Array.getD_eq_getD_getElem?, Array.getElem?_setIfInBounds_self_of_lt (by omega)]; rfl
    have hA : ∀ k, kz .any ops i k = true → (dead k = none ∨ dead k = some i) → F k (out ops b) w' := by
      intro k hk hd
      have hlk := za6 hio haft hk
      have hkl : k < ops.size := by
        have : k < l.size := by
          rcases Nat.lt_or_ge k l.size with q | q
          · exact q
          · rw [Array.getD_eq_getD_getElem?, Array.getElem?_eq_none q] at hlk; cases hlk
        omega
      rcases hF k hkl hlk with ⟨j, hj, hjl⟩ | h
      · rcases hd with hd | hd
        · rw [hd] at hj; cases hj
        · rw [hd] at hj; cases hj; exact (hnot hjl).elim
      · exact h
    refine wpOp_mono ?_ (hop i hlt b w' hf hI hA)
    rintro b' w'' ⟨x, rfl, hI2, hst⟩
    obtain ⟨hx, hst⟩ := hst (out ops (b.put (zf ops i) x)) (fun k hk => by rw [zb4 hfit hf rfl x (fun _ => .inr trivial), if_neg (fun q => hk q.1)]) (fun hd => by
      rw [zb4 hfit hf rfl x (fun _ => .inr trivial), if_pos ⟨rfl, by cases q : zf ops i with | none => exact (hd q).elim | some d => rfl⟩])
    refine ⟨hl2, ?_, hf.put i x, hI2, fun k hk hlk => ?_⟩
    · intro k j hk hkj
      by_cases hki : k = i
      · subst hki
        exact getD_set_true (za6 hio haft hkj)
      · rw [getD_set_ne false (Ne.symm hki)] at hk
        exact getD_set_true (hsh k j hk hkj)
    · by_cases hki : k = i
      · subst hki
        exact .inr hx
      · rw [getD_set_ne false (Ne.symm hki)] at hlk
        rcases hF k hk hlk with ⟨j, hj, hjl⟩ | h
        · exact .inl ⟨j, hj, getD_set_true hjl⟩
        · cases hdk : dead k with
          | none =>
            refine .inr (hst k ?_ h)
            simp only [due, hdk, Bool.and_true, Bool.and_eq_true, decide_eq_true_eq, Bool.not_eq_true']
            refine ⟨hki, ?_⟩
            cases q : kz .any ops k i with
            | false => rfl
            | true => exact (hnot (hsh k i hlk q)).elim
          | some j =>
            by_cases hji : j = i
            · subst hji; exact .inl ⟨j, rfl, hii⟩
            · by_cases hjd : kz .any ops i j = true
              · exact .inl ⟨j, rfl, getD_set_true (za6 hio haft hjd)⟩
              · refine .inr (hst k ?_ h)
                simp only [due, hdk, Bool.and_eq_true, decide_eq_true_eq, Bool.not_eq_true']
                refine ⟨⟨hki, ?_⟩, hji, by simpa using hjd⟩
                cases q : kz .any ops k i with
                | false => rfl
                | true => exact (hnot (hsh k i hlk q)).elim
  · rintro l b w' ⟨hs, hsh, hf, hI, hF⟩ hr
    have hall := zdh hfit hs hr
    exact hend b w' hf hI (fun k hk hd => by
      rcases hF k hk (hall k hk) with ⟨j, hj, _⟩ | h
      · rw [hd] at hj; cases hj
      · exact h)
  · refine ⟨by simp, fun k j hk _ => ?_, ⟨rfl, rfl, fun s _ => rfl⟩, h0, fun k hk hlk => ?_⟩
    · simp only [Array.getD_eq_getD_getElem?, Array.getElem?_replicate] at hk
      split at hk <;> cases hk
    · simp only [Array.getD_eq_getD_getElem?, Array.getElem?_replicate, if_pos hk] at hlk
      cases hlk
  · simp
theorem zdl {dead : Nat → Option Nat} {i k : Nat} (h : due md ops dead i k = true) : k ≠ i := by
  simp only [due, Bool.and_eq_true, decide_eq_true_eq] at h
  exact h.1.1
theorem zfu {dead : Nat → Option Nat} {i k : Nat} (h : due md ops dead i k = true) (ha : kz md ops k i = true) : False := by
  simp [due, ha] at h
theorem zft {dead : Nat → Option Nat} {i k : Nat} (h : due md ops dead i k = true) (hd : dead k = some i) : False := by
  simp [due, hd] at h
end
end Go.Proofs.YtmcekefoedgboaaDoor.Rg
