/-
  Merged: Rm21 Rm23.
-/
import Derived.Test.YtgcpiinmcbdkmaaMw30
namespace Go.Proofs.Ytgcpiinmcbdkmaa
open Go.RowKit Va Ms
set_option linter.all false
theorem ro_match {s : ByteArray} (hz : s.size ≤ 20000) (hE : Ended s) : readO s = (match badByte s 0 with
    | some i => .bad 3 i
    | none => match badName s 0 with
      | some p => .bad 4 p
      | none => match badEsc s 0 with
        | some p => .bad 5 p
        | none => match build s 0 [] with
          | .bad c a => .bad c a
          | .ok l => if 20 < l.length then .bad 7 s.size else .ok l) := by
  unfold readO
  rw [if_neg (by omega), if_neg (by have := hE.1; have := hE.2; omega)]
  rfl
theorem ro3 {s : ByteArray} (hz : s.size ≤ 20000) (hE : Ended s) {i : Nat} (h : badByte s 0 = some i) : readO s = .bad 3 i := by rw [ro_match hz hE, h]
theorem ro4 {s : ByteArray} (hz : s.size ≤ 20000) (hE : Ended s) {p : Nat} (h : badByte s 0 = none) (k : badName s 0 = some p) : readO s = .bad 4 p := by rw [ro_match hz hE, h, k]
theorem ro5 {s : ByteArray} (hz : s.size ≤ 20000) (hE : Ended s) {p : Nat} (h : badByte s 0 = none) (k : badName s 0 = none) (j : badEsc s 0 = some p) : readO s = .bad 5 p := by rw [ro_match hz hE, h, k, j]
theorem ro6 {s : ByteArray} (hz : s.size ≤ 20000) (hE : Ended s) {c a : Nat} (h : badByte s 0 = none) (k : badName s 0 = none) (j : badEsc s 0 = none) (b : build s 0 [] = .bad c a) : readO s = .bad c a := by rw [ro_match hz hE, h, k, j, b]
theorem ro7 {s : ByteArray} (hz : s.size ≤ 20000) (hE : Ended s) {l : List Pt} (h : badByte s 0 = none) (k : badName s 0 = none) (j : badEsc s 0 = none) (b : build s 0 [] = .ok l) : readO s = if 20 < l.length then .bad 7 s.size else .ok l := by rw [ro_match hz hE, h, k, j, b]
def No13 (s : ByteArray) (p i : Nat) : Prop := ∀ j, p ≤ j → j < i → nb s j ≠ 13
theorem No13.nx {s : ByteArray} {p i : Nat} (h : No13 s p i) (hp : p ≤ i) (hi : i < s.size) (hb : nb s i = 13) : nx s p = i := by
  have := nx_far (s := s) (i := p) (i - p) (fun j hj => ⟨by omega, h (p + j) (by omega) (by omega)⟩)
  rw [this, show p + (i - p) = i by omega, nx_hit hb]
theorem No13.step {s : ByteArray} {p i : Nat} (h : No13 s p i) (hb : nb s i ≠ 13) : No13 s p (i + 1) := fun j h1 h2 => by
  rcases Nat.lt_or_ge j i with q | q
  · exact h j h1 q
  · obtain rfl : j = i := by omega
    exact hb
theorem No13.nil (s : ByteArray) (p : Nat) : No13 s p p := fun j h1 h2 => by omega
theorem good_short {s : ByteArray} {p i : Nat} (hp : p ≤ i) (hb : nb s i = 13) (h : i - p < 3) : ¬ goodName s p := fun g => by
  have := (gd_plain (name_bytes g (i - p) h)).1
  rw [show p + (i - p) = i by omega] at this
  exact this hb
theorem good_name {s : ByteArray} {p : Nat} (h : nameB (s.extract p (p + 3)) = false) : ¬ goodName s p := fun g => by rw [g.2.1] at h; cases h
theorem good_bar {s : ByteArray} {p i : Nat} (hn : No13 s p i) (h : 3 < i - p) (hb : nb s (p + 3) ≠ 124) : ¬ goodName s p := fun g => by
  rcases g.2.2 with q | q
  · exact hb q
  · exact hn (p + 3) (by omega) (by omega) q
theorem good_at {s : ByteArray} {p i : Nat} (hi : i < s.size) (hb : nb s i = 13) (h : i - p = 3) (hp : p ≤ i) (hn : nameB (s.extract p (p + 3)) = true) : goodName s p := ⟨by omega, hn, Or.inr (by rw [show p + 3 = i by omega]; exact hb)⟩
theorem good_far {s : ByteArray} {p i : Nat} (hi : i < s.size) (h : 3 < i - p) (hb : nb s (p + 3) = 124) (hn : nameB (s.extract p (p + 3)) = true) : goodName s p := ⟨by omega, hn, Or.inl hb⟩
end Go.Proofs.Ytgcpiinmcbdkmaa

namespace Go.Proofs.Ytgcpiinmcbdkmaa
open Go.RowKit Va Ms
set_option linter.all false
theorem bn_none {s : ByteArray} {p : Nat} (h : badName s p = none) (hp : p < s.size) : goodName s p ∧ badName s (nx s p + 1) = none := by
  by_cases g : goodName s p
  · exact ⟨g, (bn_good g).symm.trans h⟩
  · rw [bn_bad hp g] at h; cases h
theorem be_plainN {s : ByteArray} {k : Nat} (h : badEsc s k = none) (hk : k < s.size) (hb : nb s k ≠ 92) : badEsc s (k + 1) = none := (be_plain hk hb).symm.trans h
theorem be_escN {s : ByteArray} {k : Nat} (h : badEsc s k = none) (hk : k < s.size) (hb : nb s k = 92) : ∃ x, EscAt s k x ∧ rdE s k = some (x, (escL x).length) ∧ badEsc s (k + (escL x).length) = none := by
  cases hr : rdE s k with
  | none => rw [be_none hk hb hr] at h; cases h
  | some q =>
    obtain ⟨x, z⟩ := q
    obtain ⟨h1, h2⟩ := rd_of hr
    exact ⟨x, h1, by rw [h2], (be_some h1).symm.trans h⟩
theorem fin_end {s : ByteArray} {k : Nat} {fs : List ByteArray} {fd : List Nat} (hk : k < s.size) (hb : nb s k = 13) : fin s k fs fd = fs ++ [bsOf fd] := by rw [fin, if_pos hk, if_pos hb]
theorem fin_bar {s : ByteArray} {k : Nat} {fs : List ByteArray} {fd : List Nat} (hk : k < s.size) (hb : nb s k = 124) : fin s k fs fd = fin s (k + 1) (fs ++ [bsOf fd]) [] := by rw [fin, if_pos hk, if_neg (by omega), if_pos hb]
theorem fin_byte {s : ByteArray} {k : Nat} {fs : List ByteArray} {fd : List Nat} (hk : k < s.size) (h1 : nb s k ≠ 13) (h2 : nb s k ≠ 124) (h3 : nb s k ≠ 92) : fin s k fs fd = fin s (k + 1) fs (fd ++ [nb s k]) := by
  rw [fin, if_pos hk, if_neg h1, if_neg h2, if_neg h3]
theorem fin_esc {s : ByteArray} {k x : Nat} {fs : List ByteArray} {fd : List Nat} (hx : EscAt s k x) : fin s k fs fd = fin s (k + (escL x).length) fs (fd ++ [x]) := by
  have hk : k < s.size := by have := (esc_far hx 0 (by have := hx.2.1; omega)).1; simpa using this
  have hb := esc_at hx
  have h2 := hx.2.1
  rw [fin, if_pos hk, if_neg (by omega), if_neg (by omega), if_pos hb, rd_some hx]
  show fin s (k + ((escL x).length - 1) + 1) fs (fd ++ [x]) = _
  congr 1; omega
theorem fieldsOf_none {s : ByteArray} {p : Nat} (h : nb s (p + 3) = 13) : fieldsOf s p = [] := by rw [fieldsOf, if_pos h]
theorem fieldsOf_some {s : ByteArray} {p : Nat} (h : nb s (p + 3) ≠ 13) : fieldsOf s p = fin s (p + 4) [] [] := by rw [fieldsOf, if_neg h]
theorem build_good {s : ByteArray} {p i : Nat} {acc : List Pt} (hp : p < s.size) (hi : nx s p = i) (h : fieldsB (fieldsOf s p) = true) : build s p acc = build s (i + 1) (acc ++ [⟨s.extract p (p + 3), fieldsOf s p⟩]) := by
  rw [build, if_pos hp, if_pos h, hi]
theorem build_bad {s : ByteArray} {p : Nat} {acc : List Pt} (hp : p < s.size) (h : fieldsB (fieldsOf s p) = false) : build s p acc = .bad 6 p := by
  rw [build, if_pos hp, if_neg (by rw [h]; decide)]
theorem build_end {s : ByteArray} {p : Nat} {acc : List Pt} (hp : ¬ p < s.size) : build s p acc = .ok acc := by rw [build, if_neg hp]
end Go.Proofs.Ytgcpiinmcbdkmaa
