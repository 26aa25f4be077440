/-
  Two ranges exchanged, rotating, and merging in place: lists, no Go in sight.
-/
import Derived.Test.YtgcpiinmcbdkmaaSy1
namespace Go.Proofs.Ytgcpiinmcbdkmaa
set_option linter.all false
namespace Sy
/-- Two places exchanged. -/
def sw (d : List Int) (i j : Nat) : List Int := (d.set i (d.getD j 0)).set j (d.getD i 0)
theorem sw_len (d : List Int) (i j : Nat) : (sw d i j).length = d.length := by simp [sw]
/-- Ranges of length n at a and at b exchanged, from the front. -/
def swR (d : List Int) (a b : Nat) : Nat → List Int
  | 0 => d
  | n + 1 => sw (swR d a b n) (a + n) (b + n)
theorem swR_len (d : List Int) (a b : Nat) : ∀ n, (swR d a b n).length = d.length
  | 0 => rfl
  | n + 1 => by rw [swR, sw_len, swR_len d a b n]
theorem getD_mid (U V : List Int) (x : Int) : (U ++ x :: V).getD U.length 0 = x := by
  rw [List.getD_eq_getElem?_getD, List.getElem?_append_right (Nat.le_refl _)]; simp
theorem set_mid (U V : List Int) (x y : Int) : (U ++ x :: V).set U.length y = U ++ y :: V := by
  rw [List.set_append_right _ _ (Nat.le_refl _)]; simp
theorem sw_app (U V W : List Int) (x y : Int) : sw (U ++ x :: (V ++ y :: W)) U.length (U.length + 1 + V.length) = U ++ y :: (V ++ x :: W) := by
  have e : U ++ x :: (V ++ y :: W) = (U ++ x :: V) ++ y :: W := by simp
  have l : (U ++ x :: V).length = U.length + 1 + V.length := by simp; omega
  have e2 : U ++ y :: (V ++ y :: W) = (U ++ y :: V) ++ y :: W := by simp
  have l2 : (U ++ y :: V).length = U.length + 1 + V.length := by simp; omega
  unfold sw
  rw [getD_mid, show (U ++ x :: (V ++ y :: W)).getD (U.length + 1 + V.length) 0 = y from by rw [e, ← l, getD_mid], set_mid, e2, ← l2, set_mid]
  simp
theorem sw_next (U W : List Int) (x y : Int) : sw (U ++ x :: y :: W) U.length (U.length + 1) = U ++ y :: x :: W := sw_app U [] W x y
theorem sw_comm (d : List Int) (i j : Nat) (hi : i < d.length) (hj : j < d.length) : sw d i j = sw d j i := by
  unfold sw
  by_cases h : i = j
  · subst h; rfl
  · exact List.set_comm _ _ h
theorem snoc_of {X : List Int} {n : Nat} (h : X.length = n + 1) : ∃ X' x, X = X' ++ [x] ∧ X'.length = n := by
  have hne : X ≠ [] := by intro e; rw [e] at h; simp at h
  exact ⟨X.dropLast, X.getLast hne, (List.dropLast_concat_getLast hne).symm, by simp [h]⟩
theorem swR_app (n : Nat) : ∀ (P X Q Y S : List Int), X.length = n → Y.length = n →
    swR (P ++ X ++ Q ++ Y ++ S) P.length (P.length + n + Q.length) n = P ++ Y ++ Q ++ X ++ S := by
  induction n with
  | zero => intro P X Q Y S hX hY; rw [List.length_eq_zero_iff.1 hX, List.length_eq_zero_iff.1 hY]; rfl
  | succ n ih =>
    intro P X Q Y S hX hY
    obtain ⟨X', x, rfl, hX'⟩ := snoc_of hX
    obtain ⟨Y', y, rfl, hY'⟩ := snoc_of hY
    have h1 := ih P X' (x :: Q) Y' (y :: S) hX' hY'
    have e1 : P ++ (X' ++ [x]) ++ Q ++ (Y' ++ [y]) ++ S = P ++ X' ++ (x :: Q) ++ Y' ++ (y :: S) := by simp
    have e2 : P.length + (n + 1) + Q.length = P.length + n + (x :: Q).length := by simp; omega
    rw [swR, e1, e2, h1]
    have h2 := sw_app (P ++ Y') (Q ++ X') S x y
    have e3 : P ++ Y' ++ x :: Q ++ X' ++ y :: S = P ++ Y' ++ x :: ((Q ++ X') ++ y :: S) := by simp
    have e4 : P.length + n = (P ++ Y').length := by simp [hY']
    have e5 : P.length + n + (x :: Q).length + n = (P ++ Y').length + 1 + (Q ++ X').length := by simp [hY', hX']; omega
    rw [e3, e5, e4, h2]
    simp
/-- Cut a list at a length. -/
theorem cut_at (X : List Int) (n : Nat) (h : n ≤ X.length) : ∃ X1 X2, X = X1 ++ X2 ∧ X1.length = n := ⟨X.take n, X.drop n, (List.take_append_drop n X).symm, by simp; omega⟩

/-- Rotating: what is left of it. A is done in front; X and Y are still to change places. -/
def Rot (d T : List Int) (m i j : Nat) : Prop := ∃ A X Y B, d = A ++ X ++ Y ++ B ∧ A.length + i = m ∧ X.length = i ∧ Y.length = j ∧ T = A ++ Y ++ X ++ B
theorem rot_start (P X Y S : List Int) : Rot (P ++ X ++ Y ++ S) (P ++ Y ++ X ++ S) (P.length + X.length) X.length Y.length := ⟨P, X, Y, S, rfl, rfl, rfl, rfl, rfl⟩
theorem rot_len {d T : List Int} {m i j : Nat} (h : Rot d T m i j) : i ≤ m ∧ m + j ≤ d.length := by
  obtain ⟨A, X, Y, B, rfl, h1, h2, h3, _⟩ := h
  simp; omega
theorem rot_gt {d T : List Int} {m i j : Nat} (h : Rot d T m i j) (hij : j < i) : Rot (swR d (m - i) m j) T m (i - j) j := by
  obtain ⟨A, X, Y, B, rfl, h1, h2, h3, rfl⟩ := h
  obtain ⟨X1, X2, rfl, hx⟩ := cut_at X j (by omega)
  have h := swR_app j A X1 X2 Y B hx h3
  have e : m - i = A.length := by omega
  have e2 : m = A.length + j + X2.length := by simp at h2; omega
  rw [e, e2, show A ++ (X1 ++ X2) ++ Y ++ B = A ++ X1 ++ X2 ++ Y ++ B from by simp, h]
  refine ⟨A ++ Y, X2, X1, B, by simp, ?_, ?_, hx, by simp⟩
  · simp [h3]; simp at h2; omega
  · simp at h2; omega
theorem rot_lt {d T : List Int} {m i j : Nat} (h : Rot d T m i j) (hij : i < j) : Rot (swR d (m - i) (m + j - i) i) T m i (j - i) := by
  obtain ⟨A, X, Y, B, rfl, h1, h2, h3, rfl⟩ := h
  obtain ⟨Y1, Y2, rfl, hy⟩ := cut_at Y (j - i) (by omega)
  have hy2 : Y2.length = i := by simp at h3; omega
  have h := swR_app i A X Y1 Y2 B h2 hy2
  have e : m - i = A.length := by omega
  have e2 : m + j - i = A.length + i + Y1.length := by omega
  rw [e, e2, show A ++ X ++ (Y1 ++ Y2) ++ B = A ++ X ++ Y1 ++ Y2 ++ B from by simp, h]
  refine ⟨A, Y2, Y1, X ++ B, by simp, by omega, hy2, hy, by simp⟩
theorem rot_end {d T : List Int} {m i : Nat} (h : Rot d T m i i) : swR d (m - i) m i = T := by
  obtain ⟨A, X, Y, B, rfl, h1, h2, h3, rfl⟩ := h
  have h := swR_app i A X [] Y B h2 h3
  have e : m - i = A.length := by omega
  have e2 : m = A.length + i + ([] : List Int).length := by simp; omega
  rw [e, e2, show A ++ X ++ Y ++ B = A ++ X ++ [] ++ Y ++ B from by simp, h]
  simp

/-- The binary search for the place at which two runs are cut. -/
def Cuts (k : Int → Int) (d : List Int) (lo hi p s r : Nat) : Prop :=
  lo ≤ s ∧ s ≤ r ∧ r ≤ hi ∧ (s = lo ∨ ¬ k (d.getD (p - (s - 1)) 0) < k (d.getD (s - 1) 0)) ∧ (r = hi ∨ k (d.getD (p - r) 0) < k (d.getD r 0))
theorem cuts_up {k : Int → Int} {d : List Int} {lo hi p s r c : Nat} (h : Cuts k d lo hi p s r) (hc : s ≤ c) (hr : c < r) (hn : ¬ k (d.getD (p - c) 0) < k (d.getD c 0)) : Cuts k d lo hi p (c + 1) r :=
  ⟨by have := h.1; omega, by omega, h.2.2.1, Or.inr (by simpa using hn), h.2.2.2.2⟩
theorem cuts_down {k : Int → Int} {d : List Int} {lo hi p s r c : Nat} (h : Cuts k d lo hi p s r) (hc : s ≤ c) (hr : c < r) (hn : k (d.getD (p - c) 0) < k (d.getD c 0)) : Cuts k d lo hi p s c :=
  ⟨h.1, hc, by have := h.2.2.1; omega, h.2.2.2.1, Or.inr hn⟩
theorem getD_app {U V : List Int} {i : Nat} (h : i < U.length) : (U ++ V).getD i 0 = U.getD i 0 := by
  rw [List.getD_eq_getElem?_getD, List.getD_eq_getElem?_getD, List.getElem?_append_left h]
theorem getD_app2 {U V : List Int} {i : Nat} (h : U.length ≤ i) : (U ++ V).getD i 0 = V.getD (i - U.length) 0 := by
  rw [List.getD_eq_getElem?_getD, List.getD_eq_getElem?_getD, List.getElem?_append_right h]
end Sy
end Go.Proofs.Ytgcpiinmcbdkmaa
