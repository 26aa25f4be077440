/-
  Merged: Rm1.
-/
import Derived.Test.YtgcpiinmcbdkmaaMw1
namespace Go.Proofs.Ytgcpiinmcbdkmaa.Ms
open Va
set_option linter.all false
def hexN (d : Nat) : Nat := if d < 10 then 48 + d else 55 + d
def plainN (x : Nat) : Bool := decide (32 ≤ x) && decide (x ≤ 126)
def escL (x : Nat) : List Nat :=
  if x = 124 then [92, 70, 92] else if x = 92 then [92, 69, 92] else if x = 13 then [92, 82, 92] else if x = 10 then [92, 78, 92]
  else if plainN x = true then [x] else [92, 88, hexN (x / 16), hexN (x % 16), 92]
def bsOf (l : List Nat) : ByteArray := ⟨(l.map Nat.toUInt8).toArray⟩
def Stands (s : ByteArray) (p : Nat) (l : List Nat) : Prop := p + l.length ≤ s.size ∧ ∀ i b, l[i]? = some b → nb s (p + i) = b
def EscAt (s : ByteArray) (p x : Nat) : Prop := x < 256 ∧ 1 < (escL x).length ∧ Stands s p (escL x)
def unhex (b : Nat) : Nat := if b < 65 then b - 48 else b - 55
def deL (l : List Nat) : Nat :=
  if l.getD 1 0 = 70 then 124 else if l.getD 1 0 = 69 then 92 else if l.getD 1 0 = 82 then 13 else if l.getD 1 0 = 78 then 10 else 16 * unhex (l.getD 2 0) + unhex (l.getD 3 0)
theorem de_esc : ∀ x, x < 256 → 1 < (escL x).length → deL (escL x) = x := by decide +kernel
theorem esc_len : ∀ x, x < 256 → 1 < (escL x).length → (escL x).length = 3 ∨ (escL x).length = 5 ∧ (escL x).getD 1 0 = 88 := by decide +kernel
theorem esc_letter : ∀ x, x < 256 → (escL x).length = 3 → (escL x).getD 1 0 ≠ 88 := by decide +kernel
theorem esc_first : ∀ x, x < 256 → 1 < (escL x).length → (escL x)[0]? = some 92 := by decide +kernel
theorem esc_not13 : ∀ x, x < 256 → 1 < (escL x).length → ∀ b ∈ escL x, b ≠ 13 := by decide +kernel
theorem stands_get {s : ByteArray} {p : Nat} {l : List Nat} (h : Stands s p l) {i : Nat} (hi : i < l.length) : l.getD i 0 = nb s (p + i) := by
  rw [h.2 i l[i] (List.getElem?_eq_getElem hi), List.getD_eq_getElem?_getD, List.getElem?_eq_getElem hi]; rfl
def deAt (s : ByteArray) (p : Nat) : Nat :=
  if nb s (p + 1) = 70 then 124 else if nb s (p + 1) = 69 then 92 else if nb s (p + 1) = 82 then 13 else if nb s (p + 1) = 78 then 10 else 16 * unhex (nb s (p + 2)) + unhex (nb s (p + 3))
theorem esc_de {s : ByteArray} {p x : Nat} (h : EscAt s p x) : deAt s p = x := by
  obtain ⟨h1, h2, h3⟩ := h
  have e := de_esc x h1 h2
  have g1 := stands_get h3 (i := 1) (by omega)
  unfold deL at e
  unfold deAt
  rw [← g1]
  rcases esc_len x h1 h2 with q | ⟨q, q1⟩
  · have q2 := esc_letter x h1 q
    have q3 : (escL x).getD 1 0 = 70 ∨ (escL x).getD 1 0 = 69 ∨ (escL x).getD 1 0 = 82 ∨ (escL x).getD 1 0 = 78 := by
      have : ∀ x, x < 256 → (escL x).length = 3 → (escL x).getD 1 0 = 70 ∨ (escL x).getD 1 0 = 69 ∨ (escL x).getD 1 0 = 82 ∨ (escL x).getD 1 0 = 78 := by decide +kernel
      exact this x h1 q
    rcases q3 with q3 | q3 | q3 | q3 <;> · rw [q3] at e ⊢; simpa using e
  · have g2 := stands_get h3 (i := 2) (by omega)
    have g3 := stands_get h3 (i := 3) (by omega)
    rw [← g2, ← g3]; exact e
open Classical in
noncomputable def rdE (s : ByteArray) (p : Nat) : Option (Nat × Nat) := if EscAt s p (deAt s p) then some (deAt s p, (escL (deAt s p)).length) else none
theorem rd_some {s : ByteArray} {p x : Nat} (h : EscAt s p x) : rdE s p = some (x, (escL x).length) := by
  have e := esc_de h
  unfold rdE
  rw [e, if_pos h]
theorem rd_none {s : ByteArray} {p : Nat} (h : ∀ x, ¬ EscAt s p x) : rdE s p = none := by
  unfold rdE; rw [if_neg (h _)]
theorem rd_of {s : ByteArray} {p x k : Nat} (h : rdE s p = some (x, k)) : EscAt s p x ∧ k = (escL x).length := by
  unfold rdE at h
  split at h
  · rename_i q
    simp only [Option.some.injEq, Prod.mk.injEq] at h
    obtain ⟨h1, h2⟩ := h
    rw [h1] at q h2
    exact ⟨q, h2.symm⟩
  · cases h
def nx (s : ByteArray) (i : Nat) : Nat := if i < s.size ∧ nb s i ≠ 13 then nx s (i + 1) else i
termination_by s.size - i
theorem nx_ge (s : ByteArray) (i : Nat) : i ≤ nx s i := by
  rw [nx]
  split
  · have := nx_ge s (i + 1); omega
  · exact Nat.le_refl _
termination_by s.size - i
theorem nx_hit {s : ByteArray} {i : Nat} (h : nb s i = 13) : nx s i = i := by rw [nx, if_neg (fun q => q.2 h)]
theorem nx_step {s : ByteArray} {i : Nat} (hi : i < s.size) (h : nb s i ≠ 13) : nx s i = nx s (i + 1) := by rw [nx, if_pos ⟨hi, h⟩]
theorem nx_far {s : ByteArray} {i : Nat} : ∀ k, (∀ j, j < k → i + j < s.size ∧ nb s (i + j) ≠ 13) → nx s i = nx s (i + k) := by
  intro k
  induction k with
  | zero => intro _; rfl
  | succ k ih =>
    intro h
    rw [ih (fun j hj => h j (by omega)), nx_step (h k (by omega)).1 (h k (by omega)).2]
    rfl
def badByte (s : ByteArray) (i : Nat) : Option Nat := if i < s.size then (if nb s i ≠ 13 ∧ plainN (nb s i) = false then some i else badByte s (i + 1)) else none
termination_by s.size - i
def goodName (s : ByteArray) (p : Nat) : Prop := p + 3 < s.size ∧ nameB (s.extract p (p + 3)) = true ∧ (nb s (p + 3) = 124 ∨ nb s (p + 3) = 13)
instance (s : ByteArray) (p : Nat) : Decidable (goodName s p) := by unfold goodName; exact inferInstance
def badName (s : ByteArray) (p : Nat) : Option Nat := if p < s.size then (if goodName s p then badName s (nx s p + 1) else some p) else none
termination_by s.size - p
decreasing_by have := nx_ge s p; omega
noncomputable def badEsc (s : ByteArray) (i : Nat) : Option Nat :=
  if i < s.size then (if nb s i = 92 then (match rdE s i with | none => some i | some (_, k) => badEsc s (i + (k - 1) + 1)) else badEsc s (i + 1)) else none
termination_by s.size - i
noncomputable def fin (s : ByteArray) (i : Nat) (fs : List ByteArray) (fd : List Nat) : List ByteArray :=
  if i < s.size then
    (if nb s i = 13 then fs ++ [bsOf fd] else if nb s i = 124 then fin s (i + 1) (fs ++ [bsOf fd]) []
      else if nb s i = 92 then (match rdE s i with | none => fs | some (x, k) => fin s (i + (k - 1) + 1) fs (fd ++ [x])) else fin s (i + 1) fs (fd ++ [nb s i]))
  else fs
termination_by s.size - i
inductive Out where
  | bad (c a : Nat)
  | ok (l : List Pt)
noncomputable def fieldsOf (s : ByteArray) (p : Nat) : List ByteArray := if nb s (p + 3) = 13 then [] else fin s (p + 4) [] []
noncomputable def build (s : ByteArray) (p : Nat) (acc : List Pt) : Out :=
  if p < s.size then (if fieldsB (fieldsOf s p) = true then build s (nx s p + 1) (acc ++ [⟨s.extract p (p + 3), fieldsOf s p⟩]) else .bad 6 p) else .ok acc
termination_by s.size - p
decreasing_by have := nx_ge s p; omega
noncomputable def readO (s : ByteArray) : Out :=
  if 20000 < s.size then .bad 1 0 else if s.size = 0 ∨ nb s (s.size - 1) ≠ 13 then .bad 2 s.size else
    match badByte s 0 with
    | some i => .bad 3 i
    | none => match badName s 0 with
      | some p => .bad 4 p
      | none => match badEsc s 0 with
        | some p => .bad 5 p
        | none => match build s 0 [] with
          | .bad c a => .bad c a
          | .ok l => if 20 < l.length then .bad 7 s.size else .ok l
def Ended (s : ByteArray) : Prop := 0 < s.size ∧ nb s (s.size - 1) = 13
theorem Ended.next {s : ByteArray} (h : Ended s) {i : Nat} (hi : i < s.size) (hb : nb s i ≠ 13) : i + 1 < s.size := by
  rcases Nat.lt_or_ge (i + 1) s.size with q | q
  · exact q
  · exact absurd (by rw [show i = s.size - 1 by omega]; exact h.2) hb
theorem Ended.far {s : ByteArray} (h : Ended s) {i : Nat} : ∀ k, i < s.size → (∀ j, j < k → nb s (i + j) ≠ 13) → i + k < s.size := by
  intro k
  induction k with
  | zero => intro hi _; exact hi
  | succ k ih => intro hi hj; exact h.next (ih hi (fun j q => hj j (by omega))) (hj k (by omega))
theorem esc_far {s : ByteArray} {p x : Nat} (h : EscAt s p x) : ∀ j, j < (escL x).length → p + j < s.size ∧ nb s (p + j) ≠ 13 := fun j hj => by
  obtain ⟨h1, h2, h3⟩ := h
  refine ⟨by have := h3.1; omega, ?_⟩
  rw [h3.2 j _ (List.getElem?_eq_getElem hj)]
  exact esc_not13 x h1 h2 _ (List.getElem_mem hj)
theorem esc_at {s : ByteArray} {p x : Nat} (h : EscAt s p x) : nb s p = 92 := by have := h.2.2.2 0 92 (esc_first x h.1 h.2.1); simpa using this
theorem name_bytes {s : ByteArray} {p : Nat} (h : goodName s p) : ∀ j, j < 3 → gdB (nb s (p + j)) = true := by
  obtain ⟨h1, h2, -⟩ := h
  unfold nameB at h2
  simp only [Bool.and_eq_true, decide_eq_true_eq] at h2
  obtain ⟨-, g0, g1, g2⟩ := h2
  have e : ∀ j, j < 3 → nb (s.extract p (p + 3)) j = nb s (p + j) := fun j hj => by
    unfold nb
    show ((s.extract p (p + 3)).data[j]!).toNat = (s.data[p + j]!).toNat
    have hl : s.data.size = s.size := rfl
    rw [ByteArray.data_extract, getElem!_pos _ _ (by rw [Array.size_extract]; omega), getElem!_pos _ _ (by omega), Array.getElem_extract]
  intro j hj
  rw [← e j hj]
  rcases (show j = 0 ∨ j = 1 ∨ j = 2 by omega) with rfl | rfl | rfl
  · unfold gdB; rw [g0]; rfl
  · exact g1
  · exact g2
theorem gd_plain {b : Nat} (h : gdB b = true) : b ≠ 13 ∧ b ≠ 92 := by
  unfold gdB grB dgB at h
  simp only [Bool.or_eq_true, Bool.and_eq_true, decide_eq_true_eq] at h
  omega
theorem nx_name {s : ByteArray} {p : Nat} (h : goodName s p) : nx s p = nx s (p + 3) :=
  nx_far 3 (fun j hj => ⟨by have := h.1; omega, (gd_plain (name_bytes h j hj)).1⟩)
theorem be_plain {s : ByteArray} {i : Nat} (hi : i < s.size) (h : nb s i ≠ 92) : badEsc s i = badEsc s (i + 1) := by rw [badEsc, if_pos hi, if_neg h]
theorem be_end {s : ByteArray} {i : Nat} (hi : ¬ i < s.size) : badEsc s i = none := by rw [badEsc, if_neg hi]
theorem be_some {s : ByteArray} {i x : Nat} (h : EscAt s i x) : badEsc s i = badEsc s (i + (escL x).length) := by
  have h2 := h.2.1
  have hi := (esc_far h 0 (by omega)).1
  rw [badEsc, if_pos (by simpa using hi), if_pos (esc_at h), rd_some h]
  show badEsc s (i + ((escL x).length - 1) + 1) = _
  congr 1; omega
theorem be_none {s : ByteArray} {i : Nat} (hi : i < s.size) (h : nb s i = 92) (hn : rdE s i = none) : badEsc s i = some i := by rw [badEsc, if_pos hi, if_pos h, hn]
theorem be_name {s : ByteArray} {p : Nat} (h : goodName s p) : badEsc s p = badEsc s (p + 3) := by
  have hz := h.1
  have hb := fun j hj => (gd_plain (name_bytes h j hj)).2
  rw [be_plain (by omega) (by simpa using hb 0 (by omega)), be_plain (by omega) (hb 1 (by omega)), be_plain (by omega) (hb 2 (by omega))]
theorem bn_good {s : ByteArray} {p : Nat} (h : goodName s p) : badName s p = badName s (nx s p + 1) := by
  rw [badName, if_pos (by have := h.1; omega), if_pos h]
theorem bn_bad {s : ByteArray} {p : Nat} (hp : p < s.size) (h : ¬ goodName s p) : badName s p = some p := by rw [badName, if_pos hp, if_neg h]
theorem bn_end {s : ByteArray} {p : Nat} (hp : ¬ p < s.size) : badName s p = none := by rw [badName, if_neg hp]
end Go.Proofs.Ytgcpiinmcbdkmaa.Ms
