/-
  Merged: Rk Rn Rs.
-/
import Derived.Test.YtgcpiinmcbdkmaaMh3
namespace Go.Proofs.Ytgcpiinmcbdkmaa.Rg
open Go
set_option linter.all false
section
variable {P : Program} {ops : Array Oper} {Q : Exit → Act → World → Prop}
theorem region_set2 {id : Nat} {a : Act} {w : World} (hm : P.follows .mixedOrders = true) (I : Array Bool → World → Prop) (F : Nat → Value → World → Prop) (hfit : fit .any ops a.tmps.size ops.size = true)
    (h0 : I (Array.replicate ops.size false) { w with drawn := w.drawn + 1 })
    (hop : ∀ i, i < ops.size → ∀ l b w, l.size = ops.size → l.getD i false = false → (∀ j, aftOf .any ops j i = true → l.getD j false = false) → Fr ops a b → I l w → (∀ k, aftOf .any ops i k = true → F k (out ops b k) w) →
      wpOp P ops Q i (fun b' w' => ∃ x, b' = b.put (dstAt ops i) x ∧ (dstAt ops i = none → F i undef w') ∧ F i x w' ∧ I (l.setIfInBounds i true) w' ∧ ∀ k y, k ≠ i → F k y w → F k y w') b w)
    (hend : ∀ l b w', Fr ops a b → (∀ k, k < ops.size → l.getD k false = true) → I l w' → (∀ k, k < ops.size → F k (out ops b k) w') → Q .normal b w') : (Code.region id ops true).wp P Q a w := by
  refine wp_region_any hm ?_
  refine wpAny_inv (fun l b w' => l.size = ops.size ∧ Shut .any ops l ∧ Fr ops a b ∧ I l w' ∧ ∀ k, k < ops.size → l.getD k false = true → F k (out ops b k) w') ?_ ?_ _ _ _ _ ?_ ?_
  · rintro l b w' i ⟨hs, hsh, hf, hI, hF⟩ hi
    obtain ⟨hi0, o, hio, haft⟩ := mem_ready.1 hi
    have hlt : i < ops.size := (Array.getElem?_eq_some_iff.1 hio).1
    have hli := getD_of (b := false) hi0
    have hlf : l.getD i false = false := by rw [Array.getD_eq_getD_getElem?, hli]; rfl
    have hl2 : (l.setIfInBounds i true).size = ops.size := by rw [Array.size_setIfInBounds]; exact hs
    have hA : ∀ k, aftOf .any ops i k = true → F k (out ops b k) w' := by
      intro k hk
      have hlk := aft_done hio haft hk
      have hkl : k < ops.size := by
        have : k < l.size := by
          rcases Nat.lt_or_ge k l.size with q | q
          · exact q
          · rw [Array.getD_eq_getD_getElem?, Array.getElem?_eq_none q] at hlk; cases hlk
        omega
      exact hF k hkl hlk
    have hN : ∀ j, aftOf .any ops j i = true → l.getD j false = false := by
      intro j hj
      cases q : l.getD j false with
      | false => rfl
      | true => rw [hsh j i q hj] at hlf; cases hlf
    refine wpOp_mono ?_ (hop i hlt l b w' hs hlf hN hf hI hA)
    rintro b' w'' ⟨x, rfl, hx0, hx, hI2, hst⟩
    refine ⟨hl2, ?_, hf.put i x, hI2, fun k hk hlk => ?_⟩
    · intro k j hk hkj
      by_cases hki : k = i
      · subst hki
        exact getD_set_true (aft_done hio haft hkj)
      · rw [getD_set_ne false (Ne.symm hki)] at hk
        exact getD_set_true (hsh k j hk hkj)
    · rw [out_put hfit hf rfl x (fun _ => .inr trivial)]
      by_cases hki : k = i
      · subst hki
        cases hd : dstAt ops k with
        | none =>
          rw [if_neg (by simp)]
          have : out ops b k = undef := by unfold out; rw [hd]
          rw [this]; exact hx0 hd
        | some d => rw [if_pos ⟨rfl, rfl⟩]; exact hx
      · rw [if_neg (fun q => hki q.1)]
        rw [getD_set_ne false (Ne.symm hki)] at hlk
        exact hst k _ hki (hF k hk hlk)
  · rintro l b w' ⟨hs, hsh, hf, hI, hF⟩ hr
    have hall := all_listed hfit hs hr
    exact hend l b w' hf hall hI (fun k hk => hF k hk (hall k hk))
  · refine ⟨by simp, fun k j hk _ => ?_, ⟨rfl, rfl, fun s _ => rfl⟩, h0, fun k hk hlk => ?_⟩
    · simp only [Array.getD_eq_getD_getElem?, Array.getElem?_replicate] at hk
      split at hk <;> cases hk
    · simp only [Array.getD_eq_getD_getElem?, Array.getElem?_replicate, if_pos hk] at hlk
      cases hlk
  · simp
end
end Go.Proofs.Ytgcpiinmcbdkmaa.Rg

namespace Go.Proofs.Ytgcpiinmcbdkmaa.Rg
open Go
set_option linter.all false
section
variable {P : Program} {ops : Array Oper} {Q : Exit → Act → World → Prop}
theorem region_set3 {id : Nat} {a : Act} {w : World} (hm : P.follows .mixedOrders = true) (I : Array Bool → World → Prop) (F : Nat → Value → World → Prop) (hfit : fit .any ops a.tmps.size ops.size = true)
    (h0 : I (Array.replicate ops.size false) { w with drawn := w.drawn + 1 })
    (hop : ∀ i, i < ops.size → ∀ l b w, l.size = ops.size → l.getD i false = false → (∀ j, aftOf .any ops j i = true → l.getD j false = false) → (∀ j, l.getD j false = false → out ops b j = out ops a j) → Fr ops a b → I l w → (∀ k, aftOf .any ops i k = true → F k (out ops b k) w) →
      wpOp P ops Q i (fun b' w' => ∃ x, b' = b.put (dstAt ops i) x ∧ (dstAt ops i = none → F i undef w') ∧ F i x w' ∧ I (l.setIfInBounds i true) w' ∧ ∀ k y, k ≠ i → aftOf .any ops k i = false → F k y w → F k y w') b w)
    (hend : ∀ l b w', Fr ops a b → (∀ k, k < ops.size → l.getD k false = true) → I l w' → (∀ k, k < ops.size → F k (out ops b k) w') → Q .normal b w') : (Code.region id ops true).wp P Q a w := by
  refine wp_region_any hm ?_
  refine wpAny_inv (fun l b w' => l.size = ops.size ∧ Shut .any ops l ∧ Fr ops a b ∧ (∀ j, l.getD j false = false → out ops b j = out ops a j) ∧ I l w' ∧ ∀ k, k < ops.size → l.getD k false = true → F k (out ops b k) w') ?_ ?_ _ _ _ _ ?_ ?_
  · rintro l b w' i ⟨hs, hsh, hf, hO, hI, hF⟩ hi
    obtain ⟨hi0, o, hio, haft⟩ := mem_ready.1 hi
    have hlt : i < ops.size := (Array.getElem?_eq_some_iff.1 hio).1
    have hli := getD_of (b := false) hi0
    have hlf : l.getD i false = false := by rw [Array.getD_eq_getD_getElem?, hli]; rfl
    have hl2 : (l.setIfInBounds i true).size = ops.size := by rw [Array.size_setIfInBounds]; exact hs
    have hA : ∀ k, aftOf .any ops i k = true → F k (out ops b k) w' := by
      intro k hk
      have hlk := aft_done hio haft hk
      have hkl : k < ops.size := by
        have : k < l.size := by
          rcases Nat.lt_or_ge k l.size with q | q
          · exact q
          · rw [Array.getD_eq_getD_getElem?, Array.getElem?_eq_none q] at hlk; cases hlk
        omega
      exact hF k hkl hlk
    have hN : ∀ j, aftOf .any ops j i = true → l.getD j false = false := by
      intro j hj
      cases q : l.getD j false with
      | false => rfl
      | true => rw [hsh j i q hj] at hlf; cases hlf
    refine wpOp_mono ?_ (hop i hlt l b w' hs hlf hN hO hf hI hA)
    rintro b' w'' ⟨x, rfl, hx0, hx, hI2, hst⟩
    refine ⟨hl2, ?_, hf.put i x, fun j hj => ?_, hI2, fun k hk hlk => ?_⟩
    · intro k j hk hkj
      by_cases hki : k = i
      · subst hki
        exact getD_set_true (aft_done hio haft hkj)
      · rw [getD_set_ne false (Ne.symm hki)] at hk
        exact getD_set_true (hsh k j hk hkj)
    · by_cases hji : j = i
      · subst hji
        rw [Array.getD_eq_getD_getElem?, Array.getElem?_setIfInBounds_self_of_lt (by omega)] at hj; cases hj
      · rw [out_put hfit hf rfl x (fun _ => .inr trivial), if_neg (fun q => hji q.1)]
        exact hO j (by rwa [getD_set_ne false (Ne.symm hji)] at hj)
    · rw [out_put hfit hf rfl x (fun _ => .inr trivial)]
      by_cases hki : k = i
      · subst hki
        cases hd : dstAt ops k with
        | none =>
          rw [if_neg (by simp)]
          have : out ops b k = undef := by unfold out; rw [hd]
          rw [this]; exact hx0 hd
        | some d => rw [if_pos ⟨rfl, rfl⟩]; exact hx
      · rw [if_neg (fun q => hki q.1)]
        rw [getD_set_ne false (Ne.symm hki)] at hlk
        refine hst k _ hki ?_ (hF k hk hlk)
        cases q : aftOf .any ops k i with
        | false => rfl
        | true => rw [hsh k i hlk q] at hlf; cases hlf
  · rintro l b w' ⟨hs, hsh, hf, hO, hI, hF⟩ hr
    have hall := all_listed hfit hs hr
    exact hend l b w' hf hall hI (fun k hk => hF k hk (hall k hk))
  · refine ⟨by simp, fun k j hk _ => ?_, ⟨rfl, rfl, fun s _ => rfl⟩, fun _ _ => rfl, h0, fun k hk hlk => ?_⟩
    · simp only [Array.getD_eq_getD_getElem?, Array.getElem?_replicate] at hk
      split at hk <;> cases hk
    · simp only [Array.getD_eq_getD_getElem?, Array.getElem?_replicate, if_pos hk] at hlk
      cases hlk
  · simp
end
end Go.Proofs.Ytgcpiinmcbdkmaa.Rg

namespace Go.Proofs.Ytgcpiinmcbdkmaa.Rg
open Go
set_option linter.all false
theorem wanted_c {ops : Array Oper} {o : Oper} {g d : Nat} {want p e : Bool} {b : Act} (hg : o.guard = some (g, want)) (hd : dstAt ops g = some d) (hq : b.tmps[d]? = some (cond p (.bool e) undef)) (h : (p && (e == want)) = true) : Region.wanted o (yielded ops b.tmps) = true := by
  simp only [Bool.and_eq_true, beq_iff_eq] at h
  obtain ⟨rfl, rfl⟩ := h
  exact wanted_of hg hd hq
theorem unwanted_c {ops : Array Oper} {o : Oper} {g d : Nat} {want p e : Bool} {b : Act} (hg : o.guard = some (g, want)) (hd : dstAt ops g = some d) (hq : b.tmps[d]? = some (cond p (.bool e) undef)) (h : (p && (e == want)) = false) : Region.wanted o (yielded ops b.tmps) = false := by
  unfold Region.wanted yielded
  unfold dstAt at hd
  rw [hg]
  simp only [hd, Option.bind_some, hq]
  cases p <;> cases e <;> cases want <;> first | rfl | cases h
theorem pc_l {p q : Bool} (h : (p && q) = true) : p = true := (Bool.and_eq_true _ _ ▸ h).1
theorem pc_r {e want : Bool} {p : Bool} (h : (p && (e == want)) = true) : e = want := by
  simp only [Bool.and_eq_true, beq_iff_eq] at h
  exact h.2
theorem cond_t {v : Value} {p : Bool} (h : p = true) : cond p v undef = v := by rw [h]; rfl
theorem cond_f {v : Value} {p : Bool} (h : p = false) : undef = cond p v undef := by rw [h]; rfl
end Go.Proofs.Ytgcpiinmcbdkmaa.Rg
