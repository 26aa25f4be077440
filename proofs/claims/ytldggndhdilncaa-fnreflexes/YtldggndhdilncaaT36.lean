/-
  Values turned over at the target: no Go in sight.
-/
import Derived.Test.YtldggndhdilncaaT30
import Derived.RowKit
namespace Go.Proofs.Ytldggndhdilncaa.Lb
open Va Go.RowKit
set_option linter.all false

def InR (x : Int) : Prop := -9223372036854775808 ≤ x ∧ x ≤ 9223372036854775807
def tn (x : Int) : Int := wrap64 (-x)
theorem tn_small {x : Int} (h : -200000 ≤ x ∧ x ≤ 200000) : tn x = -x := by unfold tn wrap64; omega
theorem tn_back {x : Int} (hx : InR x) (h : -100000 ≤ tn x ∧ tn x ≤ 100000) : -100000 ≤ x ∧ x ≤ 100000 := by
  unfold InR at hx
  unfold tn wrap64 at h
  omega
theorem last_neg (c : Nat) (L : List Int) : lastC' c (L.map (fun x => -x)) = (lastC' c L).map (fun x => -x) := by
  unfold lastC'
  rw [List.length_map, List.map_drop]
theorem rl_neg (r : Rl) (L : List Int) : rlB r (L.map (fun x => -x)) = rlB r L := by
  unfold rlB
  rw [last_neg, List.length_map]
  generalize lastC' r.c L = M
  congr 1
  split
  · rw [Bool.eq_iff_iff]
    simp only [Bool.and_eq_true, List.any_eq_true, List.mem_map, decide_eq_true_eq]
    constructor
    · rintro ⟨⟨x, ⟨a, ha, rfl⟩, h1⟩, ⟨y, ⟨b, hb, rfl⟩, h2⟩⟩
      exact ⟨⟨b, hb, by omega⟩, ⟨a, ha, by omega⟩⟩
    · rintro ⟨⟨x, hx, h1⟩, ⟨y, hy, h2⟩⟩
      exact ⟨⟨_, ⟨y, hy, rfl⟩, by omega⟩, ⟨_, ⟨x, hx, rfl⟩, by omega⟩⟩
  · rw [Bool.eq_iff_iff]
    simp only [Bool.or_eq_true, List.all_eq_true, List.mem_map, decide_eq_true_eq]
    constructor
    · rintro (h | h)
      · exact .inr fun x hx => by have := h (-x) ⟨x, hx, rfl⟩; omega
      · exact .inl fun x hx => by have := h (-x) ⟨x, hx, rfl⟩; omega
    · rintro (h | h)
      · refine .inr ?_
        rintro x ⟨a, ha, rfl⟩
        have := h a ha
        omega
      · refine .inl ?_
        rintro x ⟨a, ha, rfl⟩
        have := h a ha
        omega
theorem code_neg (s : Int) (L : List Int) : codeR s (L.map (fun x => -x)) = codeR s L := by
  rw [codeR_eq, codeR_eq]
  simp only [rl_neg]
theorem offs_neg {t : Int} {L : List Int} (ht : -100000 ≤ t ∧ t ≤ 100000) (hL : ∀ x ∈ L, -100000 ≤ x ∧ x ≤ 100000) : offs (tn t) (L.map tn) = (offs t L).map (fun x => -x) := by
  unfold offs
  rw [List.map_map, List.map_map]
  apply List.map_congr_left
  intro x hx
  have := hL x hx
  simp only [Function.comp]
  rw [tn_small (x := x) (by omega), tn_small (x := t) (by omega)]
  omega
theorem ctl_neg {t s : Int} {l : List Int} (ht : -100000 ≤ t ∧ t ≤ 100000) (hL : ∀ x ∈ l, -100000 ≤ x ∧ x ≤ 100000) : ∀ i, ctlTo (tn t) s (l.map tn) i = ctlTo t s l i
  | 0 => rfl
  | i + 1 => by
    rw [ctlTo, ctlTo, ctl_neg ht hL i, ← List.map_take, offs_neg ht (fun x hx => hL x (List.mem_of_mem_take hx)), code_neg]
theorem control_turn {t s : Int} {l : List Int} (ht : InR t) (hl : ∀ x ∈ l, InR x) : control (tn t) s (l.map tn) = control t s l := by
  unfold control
  by_cases h : CtlOk t s l
  · rw [if_pos h, if_pos]
    · rw [List.length_map, ctl_neg h.1 h.2.2.2]
    · obtain ⟨h1, h2, h3, h4⟩ := h
      refine ⟨by rw [tn_small (by omega)]; omega, h2, by rw [List.length_map]; exact h3, fun x hx => ?_⟩
      obtain ⟨y, hy, rfl⟩ := List.mem_map.1 hx
      have := h4 y hy
      rw [tn_small (by omega)]
      omega
  · rw [if_neg h, if_neg]
    rintro ⟨h1, h2, h3, h4⟩
    refine h ⟨tn_back ht h1, h2, by rw [List.length_map] at h3; exact h3, fun x hx => tn_back (hl x hx) (h4 _ (List.mem_map.2 ⟨x, hx, rfl⟩))⟩
theorem code_said {s : Int} {l : List Int} {i : Nat} {d : Int} (hl : l.length = i + 1) (hd : l[i]? = some d) : (codeR s l = 0 → ¬ (2 * s < d ∨ d < -2 * s)) ∧ (codeR s l = 1 ↔ (3 * s < d ∨ d < -3 * s)) := by
  have e1 : ∀ f, rlB ⟨false, 1, f⟩ l = decide (f < d ∨ d < -f) := fun f => by
    unfold rlB
    dsimp only
    rw [last1 hl hd, hl]
    simp [Bool.decide_or]
  rw [codeR_eq, e1, e1]
  simp only [decide_eq_true_eq]
  rw [show -(3 * s) = -3 * s by omega, show -(2 * s) = -2 * s by omega]
  by_cases h1 : 3 * s < d ∨ d < -3 * s
  · rw [if_pos h1]
    exact ⟨fun h => by omega, ⟨fun _ => h1, fun _ => rfl⟩⟩
  · rw [if_neg h1]
    refine ⟨?_, ⟨fun h => ?_, fun h => absurd h h1⟩⟩
    · intro h
      split at h
      · omega
      · split at h
        · omega
        · split at h
          · omega
          · split at h
            · omega
            · split at h
              · omega
              · rename_i h9; exact h9
    · split at h
      · omega
      · split at h
        · omega
        · split at h
          · omega
          · split at h
            · omega
            · split at h <;> omega
theorem ctlTo_get {t s : Int} {l : List Int} : ∀ {n i : Nat}, i < n → (ctlTo t s l n)[i]? = some (codeR s (offs t (l.take (i + 1))))
  | 0, i, h => by omega
  | n + 1, i, h => by
    rw [ctlTo]
    by_cases e : i < n
    · rw [List.getElem?_append_left (by rw [ctlTo_len]; exact e)]
      exact ctlTo_get e
    · obtain rfl : i = n := by omega
      rw [List.getElem?_append_right (by rw [ctlTo_len]; omega), ctlTo_len, Nat.sub_self]
      rfl
end Go.Proofs.Ytldggndhdilncaa.Lb
