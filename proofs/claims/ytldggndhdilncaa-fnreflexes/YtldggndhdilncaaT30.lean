/-
  Charts of controls: no Go in sight.
-/
import Derived.Test.YtldggndhdilncaaT1
namespace Go.Proofs.Ytldggndhdilncaa.Lb
open Va
set_option linter.all false

/-- What lies from the place of the last c on. -/
def lastC' (c : Nat) (l : List Int) : List Int := l.drop (l.length - c)
/-- A rule: on one side, or on both; of so many; so far. -/
structure Rl where
  both : Bool
  c : Nat
  f : Int
def rlB (r : Rl) (l : List Int) : Bool :=
  decide (r.c ≤ l.length) && (if r.both then (lastC' r.c l).any (fun x => decide (x < -r.f)) && (lastC' r.c l).any (fun x => decide (r.f < x)) else (lastC' r.c l).all (fun x => decide (r.f < x)) || (lastC' r.c l).all (fun x => decide (x < -r.f)))
def rules (s : Int) : List Rl := [⟨false, 1, 3 * s⟩, ⟨false, 2, 2 * s⟩, ⟨true, 2, 2 * s⟩, ⟨false, 4, s⟩, ⟨false, 10, 0⟩, ⟨false, 1, 2 * s⟩]
/-- The place of the first rule that applies, or -1. -/
def firstR (l : List Int) : List Rl → Int → Int
  | [], _ => -1
  | r :: rs, k => if rlB r l then k else firstR l rs (k + 1)
def codeR (s : Int) (l : List Int) : Int := firstR l (rules s) 0 + 1
theorem codeR_eq (s : Int) (l : List Int) : codeR s l = if rlB ⟨false, 1, 3 * s⟩ l then 1 else if rlB ⟨false, 2, 2 * s⟩ l then 2 else if rlB ⟨true, 2, 2 * s⟩ l then 3 else if rlB ⟨false, 4, s⟩ l then 4 else if rlB ⟨false, 10, 0⟩ l then 5 else if rlB ⟨false, 1, 2 * s⟩ l then 6 else 0 := by
  unfold codeR rules
  simp only [firstR]
  split
  · rfl
  · split
    · rfl
    · split
      · rfl
      · split
        · rfl
        · split
          · rfl
          · split <;> rfl
def offs (t : Int) (l : List Int) : List Int := l.map (fun x => x - t)
def ctlTo (t s : Int) (l : List Int) : Nat → List Int
  | 0 => []
  | i + 1 => ctlTo t s l i ++ [codeR s (offs t (l.take (i + 1)))]
theorem ctlTo_len (t s : Int) (l : List Int) : ∀ i, (ctlTo t s l i).length = i
  | 0 => rfl
  | i + 1 => by rw [ctlTo, List.length_append, ctlTo_len t s l i]; rfl
def CtlOk (t s : Int) (l : List Int) : Prop := (-100000 ≤ t ∧ t ≤ 100000) ∧ (1 ≤ s ∧ s ≤ 100000) ∧ l.length ≤ 2000 ∧ ∀ x ∈ l, -100000 ≤ x ∧ x ≤ 100000
noncomputable instance (t s : Int) (l : List Int) : Decidable (CtlOk t s l) := Classical.propDecidable _
noncomputable def control (t s : Int) (l : List Int) : List Int := if CtlOk t s l then ctlTo t s l l.length else []
theorem control_len (t s : Int) (l : List Int) : (control t s l).length ≤ 2000 := by
  unfold control
  split
  · rename_i h; rw [ctlTo_len]; exact h.2.2.1
  · simp

/- runs at the end -/
/-- The last n of l fit p, and the one ahead of them (if there is one) does not. -/
def Run (p : Int → Bool) (l : List Int) (n : Nat) : Prop := n ≤ l.length ∧ (∀ j x, l.length - n ≤ j → l[j]? = some x → p x = true) ∧ (∀ x, n < l.length → l[l.length - 1 - n]? = some x → p x = false)
theorem run_iff {p : Int → Bool} {l : List Int} {n c : Nat} (h : Run p l n) (hc : 1 ≤ c) : c ≤ n ↔ c ≤ l.length ∧ (lastC' c l).all p = true := by
  obtain ⟨h1, h2, h3⟩ := h
  constructor
  · intro q
    refine ⟨by omega, List.all_eq_true.2 fun x hx => ?_⟩
    obtain ⟨j, hj⟩ := List.getElem?_of_mem hx
    unfold lastC' at hj
    rw [List.getElem?_drop] at hj
    exact h2 _ x (by omega) hj
  · rintro ⟨q1, q2⟩
    by_cases hq : c ≤ n
    · exact hq
    · obtain ⟨x, hx⟩ : ∃ x, l[l.length - 1 - n]? = some x := ⟨_, List.getElem?_eq_getElem (show l.length - 1 - n < l.length by omega)⟩
      have h4 := h3 x (by omega) hx
      have : x ∈ lastC' c l := by
        unfold lastC'
        refine List.mem_of_getElem? (i := n.succ.pred + (l.length - 1 - n) - (l.length - c) - n) ?_
        rw [List.getElem?_drop]
        rw [show l.length - c + (n.succ.pred + (l.length - 1 - n) - (l.length - c) - n) = l.length - 1 - n by simp only [Nat.pred_succ]; omega]
        exact hx
      rw [List.all_eq_true.1 q2 x this] at h4
      cases h4
theorem run_one {f : Int} {l : List Int} {c n m : Nat} (hc : 1 ≤ c) (h : Run (fun x => decide (f < x)) l n) (h' : Run (fun x => decide (x < -f)) l m) : rlB ⟨false, c, f⟩ l = (decide (c ≤ n) || decide (c ≤ m)) := by
  have a := run_iff h hc
  have b := run_iff h' hc
  unfold rlB
  by_cases q : c ≤ l.length
  · have a' : decide (c ≤ n) = (lastC' c l).all (fun x => decide (f < x)) := by rw [Bool.eq_iff_iff, decide_eq_true_eq]; exact ⟨fun z => (a.1 z).2, fun z => a.2 ⟨q, z⟩⟩
    have b' : decide (c ≤ m) = (lastC' c l).all (fun x => decide (x < -f)) := by rw [Bool.eq_iff_iff, decide_eq_true_eq]; exact ⟨fun z => (b.1 z).2, fun z => b.2 ⟨q, z⟩⟩
    rw [a', b']
    simp [q]
  · have a' : ¬ c ≤ n := fun z => q (a.1 z).1
    have b' : ¬ c ≤ m := fun z => q (b.1 z).1
    simp [q, a', b']
/-- The last one, and the last two. -/
theorem last1 {l : List Int} {i : Nat} {d : Int} (hl : l.length = i + 1) (hd : l[i]? = some d) : lastC' 1 l = [d] := by
  unfold lastC'
  rw [hl, Nat.add_sub_cancel]
  apply List.ext_getElem?
  intro j
  rw [List.getElem?_drop]
  cases j with
  | zero => rw [Nat.add_zero, hd]; rfl
  | succ j => rw [List.getElem?_eq_none (by omega)]; rfl
theorem last2 {l : List Int} {i : Nat} {d b : Int} (hl : l.length = i + 1) (hi : 0 < i) (hd : l[i]? = some d) (hb : l[i - 1]? = some b) : lastC' 2 l = [b, d] := by
  unfold lastC'
  rw [hl]
  apply List.ext_getElem?
  intro j
  rw [List.getElem?_drop]
  rcases j with _ | _ | j
  · rw [show i + 1 - 2 + 0 = i - 1 by omega, hb]; rfl
  · rw [show i + 1 - 2 + (0 + 1) = i by omega, hd]; rfl
  · rw [List.getElem?_eq_none (by omega)]; rfl
/-- What the specification's switch tells. -/
def codeS (s d b : Int) (fa ne ab be : Nat) : Int :=
  if 3 * s < d ∨ d < -3 * s then 1
  else if (2 * s < d ∧ 2 * s < b) ∨ (d < -2 * s ∧ b < -2 * s) then 2
  else if (2 * s < d ∧ b < -2 * s) ∨ (d < -2 * s ∧ 2 * s < b) then 3
  else if 4 ≤ fa ∨ 4 ≤ ne then 4
  else if 10 ≤ ab ∨ 10 ≤ be then 5
  else if 2 * s < d ∨ d < -2 * s then 6 else 0
theorem codeS_eq {l : List Int} {s : Int} {i : Nat} {d b : Int} {fa ne ab be : Nat} (hs : 1 ≤ s) (hl : l.length = i + 1) (hd : l[i]? = some d) (hb : (0 < i → l[i - 1]? = some b) ∧ (i = 0 → b = 0))
    (h1 : Run (fun x => decide (s < x)) l fa) (h2 : Run (fun x => decide (x < -s)) l ne) (h3 : Run (fun x => decide ((0 : Int) < x)) l ab) (h4 : Run (fun x => decide (x < -(0 : Int))) l be) : codeR s l = codeS s d b fa ne ab be := by
  rw [codeR_eq]
  have e1 : ∀ f, rlB ⟨false, 1, f⟩ l = decide (f < d ∨ d < -f) := fun f => by
    unfold rlB
    dsimp only
    rw [last1 hl hd, hl]
    simp [Bool.decide_or]
  have e4 := run_one (c := 4) (by omega) h1 h2
  have e5 := run_one (c := 10) (by omega) h3 h4
  have e2 : rlB ⟨false, 2, 2 * s⟩ l = decide ((2 * s < d ∧ 2 * s < b) ∨ (d < -2 * s ∧ b < -2 * s)) := by
    unfold rlB
    dsimp only
    by_cases hi : 0 < i
    · rw [last2 hl hi hd (hb.1 hi), hl, Bool.eq_iff_iff]
      simp
      omega
    · have hi0 : i = 0 := by omega
      have hb0 := hb.2 hi0
      rw [hl, Bool.eq_iff_iff]
      simp
      omega
  have e3 : rlB ⟨true, 2, 2 * s⟩ l = decide ((2 * s < d ∧ b < -2 * s) ∨ (d < -2 * s ∧ 2 * s < b)) := by
    unfold rlB
    dsimp only
    by_cases hi : 0 < i
    · rw [last2 hl hi hd (hb.1 hi), hl, Bool.eq_iff_iff]
      simp
      omega
    · have hi0 : i = 0 := by omega
      have hb0 := hb.2 hi0
      rw [hl, Bool.eq_iff_iff]
      simp
      omega
  rw [e1, e1, e2, e3, e4, e5]
  unfold codeS
  simp only [Bool.or_eq_true, decide_eq_true_eq]
  rw [show -(3 * s) = -3 * s by omega, show -(2 * s) = -2 * s by omega]
end Go.Proofs.Ytldggndhdilncaa.Lb
