/-
  Plain facts on trays and the steps that they go through; no Go in sight.
-/
import Derived.Test.YtklgadaefngnnaaQa
namespace Go.Proofs.Ytklgadaefngnnaa.Wa
open Va

structure Stp where
  kind : Int
  tray : Int
  cyc : Int
  per : Int
deriving Inhabited

def n3 (x : Int) : Prop := 0 ≤ x ∧ x ≤ 999
/-- A right step. -/
def StOk (s : Stp) : Prop := n3 s.tray ∧ n3 s.cyc ∧ n3 s.per ∧ (((s.kind = 1 ∨ s.kind = 6) ∧ s.cyc = 0 ∧ s.per = 0) ∨ (s.kind = 2 ∧ s.per = 0) ∨ ((s.kind = 3 ∨ s.kind = 4) ∧ s.tray = 0 ∧ s.per = 0) ∨ (s.kind = 5 ∧ s.cyc = 0))
noncomputable def stB (s : Stp) : Bool := by classical exact decide (StOk s)
theorem stB_true {s : Stp} (h : StOk s) : stB s = true := by simp [stB, h]
theorem stB_false {s : Stp} (h : ¬ StOk s) : stB s = false := by simp [stB, h]
theorem of_stB {s : Stp} (h : stB s = true) : StOk s := by
  rcases Classical.em (StOk s) with k | k
  · exact k
  · rw [stB_false k] at h; cases h
theorem of_stBf {s : Stp} (h : stB s = false) : ¬ StOk s := fun k => by rw [stB_true k] at h; cases h
/-- A right history. -/
def StepsOk (l : List Stp) : Prop := l.length ≤ 1000 ∧ ∀ x ∈ l, StOk x
noncomputable def ssB (l : List Stp) : Bool := by classical exact decide (StepsOk l)
theorem ssB_true {l : List Stp} (h : StepsOk l) : ssB l = true := by simp [ssB, h]
theorem ssB_false {l : List Stp} (h : ¬ StepsOk l) : ssB l = false := by simp [ssB, h]
theorem of_ssB {l : List Stp} (h : ssB l = true) : StepsOk l := by
  rcases Classical.em (StepsOk l) with k | k
  · exact k
  · rw [ssB_false k] at h; cases h
theorem of_ssBf {l : List Stp} (h : ssB l = false) : ¬ StepsOk l := fun k => by rw [ssB_true k] at h; cases h
theorem ss_not {l : List Stp} {i : Nat} {x : Stp} (hx : l[i]? = some x) (h : stB x = false) : ssB l = false := ssB_false fun q => of_stBf h (q.2 x (List.mem_of_getElem? hx))
def okTo (l : List Stp) (i : Nat) : Prop := ∀ k x, k < i → l[k]? = some x → stB x = true
theorem okTo_zero (l : List Stp) : okTo l 0 := fun _ _ h => absurd h (Nat.not_lt_zero _)
theorem okTo_succ {l : List Stp} {i : Nat} {x : Stp} (h : okTo l i) (hx : l[i]? = some x) (h1 : stB x = true) : okTo l (i + 1) := by
  intro j z hj hz
  rcases Nat.lt_succ_iff_lt_or_eq.1 hj with q | rfl
  · exact h j z q hz
  · rw [hx] at hz; cases hz; exact h1
theorem ss_of {l : List Stp} (hl : l.length ≤ 1000) (h : okTo l l.length) : ssB l = true := ssB_true ⟨hl, fun x hx => by
  obtain ⟨k, hk⟩ := List.getElem?_of_mem hx
  exact of_stB (h k x (lt_of_get hk) hk)⟩

/-- The room: the trays' states and cycles, and which cycles are over. -/
structure Rm where
  st : Nat → Int
  cy : Nat → Int
  ov : Nat → Bool
def upd {α : Type} (f : Nat → α) (k : Nat) (v : α) : Nat → α := fun j => if j = k then v else f j
theorem upd_same {α : Type} (f : Nat → α) (k : Nat) (v : α) : upd f k v k = v := by simp [upd]
theorem upd_other {α : Type} (f : Nat → α) {k j : Nat} (h : j ≠ k) (v : α) : upd f k v j = f j := by simp [upd, h]
def rm0 : Rm := ⟨fun _ => 0, fun _ => 0, fun _ => false⟩
def inC (R : Rm) (c : Int) (t : Nat) : Bool := decide (R.st t = 2 ∧ R.cy t = c)
/-- The trays from 0 to n that are in the cycle have the state v. -/
def ends (R : Rm) (c v : Int) (n : Nat) : Nat → Int := fun t => if t < n ∧ inC R c t = true then v else R.st t
def anyC (R : Rm) (c : Int) (n : Nat) : Bool := (List.range n).any (inC R c)
theorem anyC_iff {R : Rm} {c : Int} {n : Nat} : anyC R c n = true ↔ ∃ t, t < n ∧ inC R c t = true := by simp [anyC]
theorem anyC_succ (R : Rm) (c : Int) (n : Nat) : anyC R c (n + 1) = (anyC R c n || inC R c n) := by simp [anyC, List.range_succ]
def codeS (R : Rm) (s : Stp) : Int :=
  if s.kind = 1 then (if R.st s.tray.toNat = 2 then 1 else 0)
  else if s.kind = 2 then (if R.st s.tray.toNat ≠ 1 then 2 else if R.ov s.cyc.toNat = true then 3 else 0)
  else if s.kind = 3 ∨ s.kind = 4 then (if anyC R s.cyc 1000 = true then 0 else 3)
  else if R.st s.tray.toNat = 3 then 0 else if s.kind = 5 then 4 else 5
def byS (R : Rm) (s : Stp) : Int := if s.kind = 5 ∧ R.st s.tray.toNat = 3 then R.cy s.tray.toNat else -1
def nxt (R : Rm) (s : Stp) : Rm :=
  if s.kind = 1 then (if R.st s.tray.toNat = 2 then R else ⟨upd R.st s.tray.toNat 1, R.cy, R.ov⟩)
  else if s.kind = 2 then (if R.st s.tray.toNat ≠ 1 then R else if R.ov s.cyc.toNat = true then R else ⟨upd R.st s.tray.toNat 2, upd R.cy s.tray.toNat s.cyc, R.ov⟩)
  else if s.kind = 3 ∨ s.kind = 4 then (if anyC R s.cyc 1000 = true then ⟨ends R s.cyc (if s.kind = 3 then 3 else 0) 1000, R.cy, upd R.ov s.cyc.toNat true⟩ else R)
  else if R.st s.tray.toNat = 3 then ⟨upd R.st s.tray.toNat 0, R.cy, R.ov⟩ else R
def rmF (R : Rm) (l : List Stp) : Rm := l.foldl nxt R
def codesF : Rm → List Stp → List Int
  | _, [] => []
  | R, s :: l => codeS R s :: codesF (nxt R s) l
def bysF : Rm → List Stp → List Int
  | _, [] => []
  | R, s :: l => byS R s :: bysF (nxt R s) l
theorem rmF_snoc (R : Rm) (l : List Stp) (x : Stp) : rmF R (l ++ [x]) = nxt (rmF R l) x := by simp [rmF]
theorem codesF_snoc : ∀ (l : List Stp) (R : Rm) (x : Stp), codesF R (l ++ [x]) = codesF R l ++ [codeS (rmF R l) x]
  | [], _, _ => rfl
  | s :: l, R, x => by show codeS R s :: codesF (nxt R s) (l ++ [x]) = _; rw [codesF_snoc l]; rfl
theorem bysF_snoc : ∀ (l : List Stp) (R : Rm) (x : Stp), bysF R (l ++ [x]) = bysF R l ++ [byS (rmF R l) x]
  | [], _, _ => rfl
  | s :: l, R, x => by show byS R s :: bysF (nxt R s) (l ++ [x]) = _; rw [bysF_snoc l]; rfl
theorem codesF_len : ∀ (l : List Stp) (R : Rm), (codesF R l).length = l.length
  | [], _ => rfl
  | s :: l, R => by show (codesF (nxt R s) l).length + 1 = _; rw [codesF_len l]; rfl
theorem bysF_len : ∀ (l : List Stp) (R : Rm), (bysF R l).length = l.length
  | [], _ => rfl
  | s :: l, R => by show (bysF (nxt R s) l).length + 1 = _; rw [bysF_len l]; rfl
noncomputable def trayDo (l : List Stp) : List Int := if ssB l = true then codesF rm0 l else []
noncomputable def trayState (l : List Stp) (t : Int) : Int := if ssB l = true ∧ 0 ≤ t ∧ t ≤ 999 then (rmF rm0 l).st t.toNat else -1
noncomputable def cycleOf (l : List Stp) (a : Int) : Int := if ssB l = true ∧ 0 ≤ a ∧ a < l.length then (bysF rm0 l).getD a.toNat (-1) else -1
end Go.Proofs.Ytklgadaefngnnaa.Wa
