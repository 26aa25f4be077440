/-
  Searching in a run, moving one into its place, cutting two runs: lists, no Go in sight.
-/
import Derived.Test.YtgcpiinmcbdkmaaSy3
namespace Go.Proofs.Ytgcpiinmcbdkmaa.Sy
set_option linter.all false

/-- x stands ahead of the t-th of B. -/
def mv (B : List Int) (x : Int) (t : Nat) : List Int := B.take t ++ x :: B.drop t
theorem mv_len (B : List Int) (x : Int) (t : Nat) : (mv B x t).length = B.length + 1 := by simp [mv]; omega
theorem mv_zero (B : List Int) (x : Int) : mv B x 0 = x :: B := rfl
theorem mv_all (B : List Int) (x : Int) : mv B x B.length = B ++ [x] := by simp [mv]
theorem mv_perm (B : List Int) (x : Int) (t : Nat) : (mv B x t).Perm (x :: B) := by
  unfold mv
  refine List.perm_middle.trans ?_
  rw [List.take_append_drop]
theorem mv_here (P S B : List Int) (x : Int) (t : Nat) (h : t ≤ B.length) : (P ++ mv B x t ++ S).getD (P.length + t) 0 = x := by
  have e : P ++ mv B x t ++ S = (P ++ B.take t) ++ x :: (B.drop t ++ S) := by simp [mv]
  have l : P.length + t = (P ++ B.take t).length := by simp; omega
  rw [e, l, getD_mid]
theorem at_cut (B : List Int) (t : Nat) (h : t < B.length) : ∃ b, B.getD t 0 = b ∧ B.drop t = b :: B.drop (t + 1) ∧ B.take (t + 1) = B.take t ++ [b] :=
  ⟨B[t], by rw [List.getD_eq_getElem?_getD, List.getElem?_eq_getElem h]; rfl, List.drop_eq_getElem_cons h, List.take_succ_eq_append_getElem h⟩
theorem mv_next (P S B : List Int) (x : Int) (t : Nat) (h : t < B.length) : (P ++ mv B x t ++ S).getD (P.length + t + 1) 0 = B.getD t 0 := by
  obtain ⟨b, h1, h2, h3⟩ := at_cut B t h
  have e : P ++ mv B x t ++ S = (P ++ B.take t ++ [x]) ++ b :: (B.drop (t + 1) ++ S) := by
    rw [mv, h2]; simp
  have l : P.length + t + 1 = (P ++ B.take t ++ [x]).length := by simp; omega
  rw [e, l, getD_mid, h1]
theorem mv_back (P S B : List Int) (x : Int) (t : Nat) (h : t < B.length) : (P ++ mv B x (t + 1) ++ S).getD (P.length + t) 0 = B.getD t 0 := by
  obtain ⟨b, h1, h2, h3⟩ := at_cut B t h
  have e : P ++ mv B x (t + 1) ++ S = (P ++ B.take t) ++ b :: (x :: (B.drop (t + 1) ++ S)) := by
    rw [mv, h3]; simp
  have l : P.length + t = (P ++ B.take t).length := by simp; omega
  rw [e, l, getD_mid, h1]
theorem mv_up (P S B : List Int) (x : Int) (t : Nat) (h : t < B.length) : sw (P ++ mv B x t ++ S) (P.length + t) (P.length + t + 1) = P ++ mv B x (t + 1) ++ S := by
  obtain ⟨b, h1, h2, h3⟩ := at_cut B t h
  have e : P ++ mv B x t ++ S = (P ++ B.take t) ++ x :: b :: (B.drop (t + 1) ++ S) := by
    rw [mv, h2]; simp
  have l : P.length + t = (P ++ B.take t).length := by simp; omega
  rw [e, l, sw_next, mv, h3]
  simp
theorem mv_down (P S B : List Int) (x : Int) (t : Nat) (h : t < B.length) : sw (P ++ mv B x (t + 1) ++ S) (P.length + t + 1) (P.length + t) = P ++ mv B x t ++ S := by
  obtain ⟨b, h1, h2, h3⟩ := at_cut B t h
  have e : P ++ mv B x (t + 1) ++ S = (P ++ B.take t) ++ b :: x :: (B.drop (t + 1) ++ S) := by
    rw [mv, h3]; simp
  have l : P.length + t = (P ++ B.take t).length := by simp; omega
  have n : (P ++ mv B x (t + 1) ++ S).length = P.length + (B.length + 1) + S.length := by rw [List.length_append, List.length_append, mv_len]
  rw [sw_comm _ _ _ (by rw [n]; omega) (by rw [n]; omega), e, l, sw_next, mv, h2]
  simp

/-- Searching the place of x in a run: what is ahead of i is below x, what is from j on is above. -/
def Srch (k : Int → Int) (B : List Int) (x : Int) (i j : Nat) : Prop := i ≤ j ∧ j ≤ B.length ∧ (∀ u ∈ B.take i, lt k u x) ∧ (∀ v ∈ B.drop j, lt k x v)
theorem srch_start (k : Int → Int) (B : List Int) (x : Int) : Srch k B x 0 B.length := ⟨Nat.zero_le _, Nat.le_refl _, by simp, by simp⟩
theorem getD_some {B : List Int} {h : Nat} (hh : h < B.length) : B[h]? = some (B.getD h 0) := by rw [List.getD_eq_getElem?_getD, List.getElem?_eq_getElem hh]; rfl
theorem take_lt {k : Int → Int} {B : List Int} {x : Int} {h : Nat} (hs : Srt k B) (hh : h < B.length) (hl : lt k (B.getD h 0) x) : ∀ u ∈ B.take (h + 1), lt k u x := by
  intro u hu
  obtain ⟨i, hi, rfl⟩ := List.mem_take_iff_getElem.1 hu
  exact run_low hs (List.getElem?_eq_getElem (by omega)) (getD_some hh) (by omega) hl
theorem drop_lt {k : Int → Int} {B : List Int} {x : Int} {h : Nat} (hs : Srt k B) (hh : h < B.length) (hl : lt k x (B.getD h 0)) : ∀ v ∈ B.drop h, lt k x v := by
  intro v hv
  obtain ⟨i, hi, rfl⟩ := List.mem_drop_iff_getElem.1 hv
  exact run_high hs (getD_some hh) (List.getElem?_eq_getElem (by omega)) (by omega) hl
theorem srch_up {k : Int → Int} {B : List Int} {x : Int} {i j h : Nat} (hs : Srt k B) (hr : Srch k B x i j) (h1 : i ≤ h) (h2 : h < j) (hl : lt k (B.getD h 0) x) : Srch k B x (h + 1) j :=
  ⟨by omega, hr.2.1, take_lt hs (by have := hr.2.1; omega) hl, hr.2.2.2⟩
theorem srch_down {k : Int → Int} {B : List Int} {x : Int} {i j h : Nat} (hs : Srt k B) (hr : Srch k B x i j) (h1 : i ≤ h) (h2 : h < j) (hl : lt k x (B.getD h 0)) : Srch k B x i h :=
  ⟨h1, by have := hr.2.1; omega, hr.2.2.1, drop_lt hs (by have := hr.2.1; omega) hl⟩
theorem srch_end {k : Int → Int} {B : List Int} {x : Int} {i : Nat} (hs : Srt k B) (hr : Srch k B x i i) : Srt k (mv B x i) := by
  unfold mv
  exact put_srt (by rw [List.take_append_drop]; exact hs) hr.2.2.1 hr.2.2.2
/-- Going down from the end of a run. -/
theorem ins_stop {k : Int → Int} {M : List Int} {x : Int} {t : Nat} (hs : Srt k M) (ht : t ≤ M.length) (h : ∀ v ∈ M.drop t, lt k x v) (he : t = 0 ∨ lt k (M.getD (t - 1) 0) x) : Srt k (mv M x t) := by
  refine srch_end hs ⟨Nat.le_refl _, ht, ?_, h⟩
  rcases he with rfl | he
  · simp
  · rcases Nat.eq_zero_or_pos t with rfl | q
    · simp
    · have e : t = t - 1 + 1 := by omega
      rw [e]; exact take_lt hs (by omega) he
/-- Two runs, cut where the search ends. -/
theorem sym_cut {k : Int → Int} {P A B S : List Int} {lo hi s mid : Nat} (hA : Srt k A) (hB : Srt k B) (hx : Cross A B) (h1 : 1 ≤ A.length) (h2 : 1 ≤ B.length)
    (hm : mid = (P.length + (P.length + A.length + B.length)) / 2)
    (hl : lo = if P.length + A.length > mid then mid + (P.length + A.length) - (P.length + A.length + B.length) else P.length)
    (hh : hi = if P.length + A.length > mid then mid else P.length + A.length)
    (hc : Cuts k (P ++ A ++ B ++ S) lo hi (mid + (P.length + A.length) - 1) s s) :
    ∃ A1 A2 B1 B2, A = A1 ++ A2 ∧ B = B1 ++ B2 ∧ P.length + A1.length = s ∧ s + B1.length = mid ∧ (∀ x ∈ A1, ∀ y ∈ B2, lt k x y) ∧ (∀ x ∈ B1, ∀ y ∈ A2, lt k x y) := by
  obtain ⟨c1, _, c3, c4, c5⟩ := hc
  have hs1 : P.length ≤ s := by split at hl <;> omega
  have hs2 : s ≤ P.length + A.length := by split at hh <;> omega
  have hs3 : s ≤ mid := by split at hh <;> omega
  have hs4 : mid - s ≤ B.length := by split at hl <;> omega
  obtain ⟨A1, A2, rfl, ha⟩ := cut_at A (s - P.length) (by omega)
  obtain ⟨B1, B2, rfl, hb⟩ := cut_at B (mid - s) (by omega)
  simp only [List.length_append] at *
  refine ⟨A1, A2, B1, B2, rfl, rfl, by omega, by omega, ?_, ?_⟩
  · rcases Nat.eq_zero_or_pos A1.length with q | q
    · rw [List.length_eq_zero_iff.1 q]; intro x hx; cases hx
    rcases Nat.eq_zero_or_pos B2.length with r | r
    · rw [List.length_eq_zero_iff.1 r]; intro x _ y hy; cases hy
    obtain ⟨A1, x, rfl, ha'⟩ := snoc_of (n := A1.length - 1) (X := A1) (by omega)
    obtain ⟨y, B2, rfl⟩ : ∃ y B, B2 = y :: B := by cases B2 with | nil => simp at r | cons y B => exact ⟨y, B, rfl⟩
    simp at ha ha' q r h1 h2 hs2 hs4
    have hne : s ≠ lo := by
      intro e
      split at hl <;> simp at * <;> omega
    rcases c4 with c4 | c4
    · exact absurd c4 hne
    have e1 : s - 1 = (P ++ A1).length := by simp; omega
    have e2 : mid + (P.length + ((A1 ++ [x]).length + A2.length)) - 1 - (s - 1) = (P ++ (A1 ++ [x] ++ A2) ++ B1).length := by simp; omega
    rw [e2, e1, show P ++ (A1 ++ [x] ++ A2) ++ (B1 ++ y :: B2) ++ S = (P ++ (A1 ++ [x] ++ A2) ++ B1) ++ y :: (B2 ++ S) from by simp, getD_mid,
      show (P ++ (A1 ++ [x] ++ A2) ++ B1) ++ y :: (B2 ++ S) = (P ++ A1) ++ x :: (A2 ++ (B1 ++ y :: (B2 ++ S))) from by simp, getD_mid] at c4
    have hxy : lt k x y := lt_of_not (hx x (by simp) y (by simp)) c4
    exact all_lt (srt_app.1 hA).1 (srt_app.1 hB).2.1 hxy
  · rcases Nat.eq_zero_or_pos B1.length with q | q
    · rw [List.length_eq_zero_iff.1 q]; intro x hx; cases hx
    rcases Nat.eq_zero_or_pos A2.length with r | r
    · rw [List.length_eq_zero_iff.1 r]; intro x _ y hy; cases hy
    obtain ⟨B1, x, rfl, ha'⟩ := snoc_of (n := B1.length - 1) (X := B1) (by omega)
    obtain ⟨y, A2, rfl⟩ : ∃ y B, A2 = y :: B := by cases A2 with | nil => simp at r | cons y B => exact ⟨y, B, rfl⟩
    simp at ha hb ha' q r h1 h2 hs2 hs4
    have hne : s ≠ hi := by
      intro e
      split at hh <;> simp at * <;> omega
    rcases c5 with c5 | c5
    · exact absurd c5 hne
    have e1 : s = (P ++ A1).length := by simp; omega
    have e2 : mid + (P.length + (A1.length + (y :: A2).length)) - 1 - s = (P ++ (A1 ++ y :: A2) ++ B1).length := by simp; omega
    rw [e2, e1, show P ++ (A1 ++ y :: A2) ++ (B1 ++ [x] ++ B2) ++ S = (P ++ (A1 ++ y :: A2) ++ B1) ++ x :: (B2 ++ S) from by simp, getD_mid,
      show (P ++ (A1 ++ y :: A2) ++ B1) ++ x :: (B2 ++ S) = (P ++ A1) ++ y :: (A2 ++ (B1 ++ x :: (B2 ++ S))) from by simp, getD_mid] at c5
    have hxy : lt k x y := Or.inl c5
    exact all_lt (srt_app.1 hB).1 (srt_app.1 hA).2.1 hxy
end Go.Proofs.Ytgcpiinmcbdkmaa.Sy
