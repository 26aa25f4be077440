/-
  Merged: Rm2.
-/
import Derived.Test.YtgcpiinmcbdkmaaMw2
namespace Go.Proofs.Ytgcpiinmcbdkmaa.Ms
open Va
set_option linter.all false
noncomputable def after (s : ByteArray) (b : Nat) (nm : ByteArray) (ps : List Pt) (f : List ByteArray) (nxt : Nat) : Out :=
  if fieldsB f = true then build s nxt (ps ++ [⟨nm, f⟩]) else .bad 6 b
def Inv (s : ByteArray) (N : Option Nat) (i : Nat) (X : Out) (c a : Nat) : Prop :=
  (c = 4 ∧ badName s 0 = some a) ∨ (c = 5 ∧ badName s 0 = N ∧ badEsc s 0 = some a) ∨
  (c = 6 ∧ badName s 0 = N ∧ badEsc s 0 = badEsc s i ∧ (badEsc s i = none → N = none → build s 0 [] = .bad 6 a)) ∨
  (c = 0 ∧ badName s 0 = N ∧ badEsc s 0 = badEsc s i ∧ (badEsc s i = none → N = none → build s 0 [] = X))
def InvN (s : ByteArray) (i : Nat) (ps : List Pt) (c a : Nat) : Prop := Inv s (badName s i) i (build s i ps) c a
noncomputable def XM (s : ByteArray) (i b : Nat) (nm : ByteArray) (ps : List Pt) (fs : List ByteArray) : Out :=
  after s b nm ps (if nb s i = 13 then fs else fin s (i + 1) fs []) (nx s i + 1)
def InvM (s : ByteArray) (i b : Nat) (nm : ByteArray) (ps : List Pt) (fs : List ByteArray) (c a : Nat) : Prop := Inv s (badName s (nx s i + 1)) i (XM s i b nm ps fs) c a
def InvF (s : ByteArray) (i b : Nat) (nm : ByteArray) (ps : List Pt) (fs : List ByteArray) (fd : List Nat) (c a : Nat) : Prop :=
  Inv s (badName s (nx s i + 1)) i (after s b nm ps (fin s i fs fd) (nx s i + 1)) c a
def noteC (c c' : Nat) : Nat := if c = 0 ∨ c' < c then c' else c
def noteA (c a c' a' : Nat) : Nat := if c = 0 ∨ c' < c then a' else a
theorem inv_start (s : ByteArray) : InvN s 0 [] 0 0 := Or.inr (Or.inr (Or.inr ⟨rfl, rfl, rfl, fun _ _ => rfl⟩))
theorem Inv.codes {s : ByteArray} {N : Option Nat} {i : Nat} {X : Out} {c a : Nat} (h : Inv s N i X c a) : c = 4 ∨ c = 5 ∨ c = 6 ∨ c = 0 := by
  rcases h with h | h | h | h
  · exact Or.inl h.1
  · exact Or.inr (Or.inl h.1)
  · exact Or.inr (Or.inr (Or.inl h.1))
  · exact Or.inr (Or.inr (Or.inr h.1))
theorem Inv.move {s : ByteArray} {N N' : Option Nat} {i i' : Nat} {X X' : Out} {c a : Nat} (h : Inv s N i X c a) (hN : N = N') (hE : badEsc s i = badEsc s i') (hX : X = X') : Inv s N' i' X' c a := by
  subst hN hX
  unfold Inv at *
  rw [← hE]
  exact h
theorem inv_good {s : ByteArray} {i : Nat} {ps : List Pt} {c a : Nat} (h : InvN s i ps c a) (hg : goodName s i) : InvM s (i + 3) i (s.extract i (i + 3)) ps [] c a := by
  have hi := hg.1
  refine h.move (by rw [bn_good hg, nx_name hg]) (be_name hg) ?_
  unfold XM after
  rw [build, if_pos (by omega), ← nx_name hg]
  rfl
theorem inv_bad {s : ByteArray} {i : Nat} {ps : List Pt} {c a : Nat} (h : InvN s i ps c a) (hi : i < s.size) (hg : ¬ goodName s i) : noteC c 4 = 4 ∧ badName s 0 = some (noteA c a 4 i) := by
  have hb := bn_bad hi hg
  unfold noteC noteA
  rcases h with ⟨rfl, h⟩ | ⟨rfl, h, -⟩ | ⟨rfl, h, -, -⟩ | ⟨rfl, h, -, -⟩
  · exact ⟨by simp, by simpa using h⟩
  · exact ⟨by simp, by simpa [hb] using h⟩
  · exact ⟨by simp, by simpa [hb] using h⟩
  · exact ⟨by simp, by simpa [hb] using h⟩
theorem inv_skip {s : ByteArray} {N : Option Nat} {i a : Nat} {X : Out} (h : badName s 0 = some a) : Inv s N i X 4 a := Or.inl ⟨rfl, h⟩
theorem inv_endok {s : ByteArray} {i b : Nat} {nm : ByteArray} {ps : List Pt} {fs : List ByteArray} {c a : Nat} (h : InvM s i b nm ps fs c a) (hi : i < s.size) (hb : nb s i = 13) (hf : fieldsB fs = true) : InvN s (i + 1) (ps ++ [⟨nm, fs⟩]) c a := by
  refine h.move (by rw [nx_hit hb]) (be_plain hi (by omega)) ?_
  unfold XM after
  rw [if_pos hb, if_pos hf, nx_hit hb]
theorem inv_endno {s : ByteArray} {i b : Nat} {nm : ByteArray} {ps ps' : List Pt} {fs : List ByteArray} {c a : Nat} (h : InvM s i b nm ps fs c a) (hi : i < s.size) (hb : nb s i = 13) (hf : fieldsB fs = false) : InvN s (i + 1) ps' (noteC c 6) (noteA c a 6 b) := by
  have e1 : nx s i + 1 = i + 1 := by rw [nx_hit hb]
  have e2 := be_plain hi (show nb s i ≠ 92 by omega)
  unfold InvM at h
  rw [e1] at h
  unfold InvN noteC noteA
  rcases h with ⟨rfl, h⟩ | ⟨rfl, h, h2⟩ | ⟨rfl, h, h2, h3⟩ | ⟨rfl, h, h2, h3⟩
  · exact Or.inl ⟨by simp, by simpa using h⟩
  · exact Or.inr (Or.inl ⟨by simp, h, by simpa using h2⟩)
  · exact Or.inr (Or.inr (Or.inl ⟨by simp, h, by rw [← e2]; exact h2, by rw [← e2]; simpa using h3⟩))
  · refine Or.inr (Or.inr (Or.inl ⟨by simp, h, by rw [← e2]; exact h2, ?_⟩))
    rw [← e2]
    intro q1 q2
    rw [h3 q1 q2]
    unfold XM after
    rw [if_pos hb, hf]
    simp
theorem inv_bar {s : ByteArray} {i b : Nat} {nm : ByteArray} {ps : List Pt} {fs : List ByteArray} {c a : Nat} (h : InvM s i b nm ps fs c a) (hi : i < s.size) (hb : nb s i = 124) : InvF s (i + 1) b nm ps fs [] c a := by
  have e := nx_step hi (show nb s i ≠ 13 by omega)
  refine h.move (by rw [e]) (be_plain hi (by omega)) ?_
  unfold XM
  rw [if_neg (by omega), e]
theorem inv_field {s : ByteArray} {i b : Nat} {nm : ByteArray} {ps : List Pt} {fs : List ByteArray} {fd : List Nat} {c a : Nat} (h : InvF s i b nm ps fs fd c a) (hi : i < s.size) (hb : nb s i = 124 ∨ nb s i = 13) : InvM s i b nm ps (fs ++ [bsOf fd]) c a := by
  refine h.move rfl rfl ?_
  unfold XM
  congr 1
  rw [fin, if_pos hi]
  rcases hb with hb | hb
  · rw [if_neg (by omega), if_pos hb, if_neg (by omega)]
  · rw [if_pos hb, if_pos hb]
theorem inv_byte {s : ByteArray} {i b : Nat} {nm : ByteArray} {ps : List Pt} {fs : List ByteArray} {fd : List Nat} {c a : Nat} (h : InvF s i b nm ps fs fd c a) (hi : i < s.size) (h1 : nb s i ≠ 124) (h2 : nb s i ≠ 13) (h3 : nb s i ≠ 92) : InvF s (i + 1) b nm ps fs (fd ++ [nb s i]) c a := by
  have e := nx_step hi h2
  refine h.move (by rw [e]) (be_plain hi h3) ?_
  rw [e, fin, if_pos hi, if_neg h2, if_neg h1, if_neg h3]
theorem inv_esc {s : ByteArray} {i b x : Nat} {nm : ByteArray} {ps : List Pt} {fs : List ByteArray} {fd : List Nat} {c a : Nat} (h : InvF s i b nm ps fs fd c a) (hx : EscAt s i x) : InvF s (i + (escL x).length) b nm ps fs (fd ++ [x]) c a := by
  have e := nx_far (s := s) (i := i) (escL x).length (esc_far hx)
  have h2 := hx.2.1
  have hi : i < s.size := by have := (esc_far hx 0 (by omega)).1; simpa using this
  have hb := esc_at hx
  refine h.move (by rw [e]) (be_some hx) ?_
  rw [e]
  congr 1
  rw [fin, if_pos hi, if_neg (by omega), if_neg (by omega), if_pos hb, rd_some hx]
  show fin s (i + ((escL x).length - 1) + 1) fs (fd ++ [x]) = _
  congr 1; omega
theorem inv_none {s : ByteArray} {i b : Nat} {nm : ByteArray} {ps : List Pt} {fs : List ByteArray} {fd fd' : List Nat} {c a : Nat} (h : InvF s i b nm ps fs fd c a) (hi : i < s.size) (hb : nb s i = 92) (hn : ∀ x, ¬ EscAt s i x) : InvF s (i + 1) b nm ps fs fd' (noteC c 5) (noteA c a 5 i) := by
  have e := nx_step hi (show nb s i ≠ 13 by omega)
  have e2 := be_none hi hb (rd_none hn)
  unfold InvF at h ⊢
  rw [e] at h
  unfold noteC noteA
  rcases h with ⟨rfl, h⟩ | ⟨rfl, h, h2⟩ | ⟨rfl, h, h2, h3⟩ | ⟨rfl, h, h2, h3⟩
  · exact Or.inl ⟨by simp, by simpa using h⟩
  · exact Or.inr (Or.inl ⟨by simp, h, by simpa using h2⟩)
  · exact Or.inr (Or.inl ⟨by simp, h, by rw [h2, e2]; simp⟩)
  · exact Or.inr (Or.inl ⟨by simp, h, by rw [h2, e2]; simp⟩)
def endO (s : ByteArray) (ps : List Pt) (c a : Nat) : Out := if c = 0 then (if 20 < ps.length then .bad 7 s.size else .ok ps) else .bad c a
theorem inv_end {s : ByteArray} {ps : List Pt} {c a : Nat} (h : InvN s s.size ps c a) (hz : s.size ≤ 20000) (hE : Ended s) (hB : badByte s 0 = none) : endO s ps c a = readO s := by
  have e1 : badName s s.size = none := bn_end (by omega)
  have e2 : badEsc s s.size = none := be_end (by omega)
  unfold InvN at h
  rw [e1] at h
  have hr : readO s = (match badName s 0 with
      | some p => .bad 4 p
      | none => match badEsc s 0 with
        | some p => .bad 5 p
        | none => match build s 0 [] with
          | .bad c a => .bad c a
          | .ok l => if 20 < l.length then .bad 7 s.size else .ok l) := by
    unfold readO
    rw [if_neg (by omega), if_neg (by have := hE.1; have := hE.2; omega), hB]
    rfl
  rw [hr]
  unfold endO
  rcases h with ⟨rfl, h⟩ | ⟨rfl, h, h2⟩ | ⟨rfl, h, h2, h3⟩ | ⟨rfl, h, h2, h3⟩
  · rw [h]; rfl
  · rw [h, h2]; rfl
  · rw [h, h2, e2, h3 e2 rfl]; rfl
  · have hbl : build s s.size ps = .ok ps := by rw [build, if_neg (by omega)]
    rw [h, h2, e2, h3 e2 rfl, hbl, if_pos rfl]
end Go.Proofs.Ytgcpiinmcbdkmaa.Ms
