/-
  Plain facts: a move keeps a right house right.
-/
import Derived.Test.YtklgadaefngnnaaHv
namespace Go.Proofs.Ytklgadaefngnnaa.Hm

theorem mono_frm {nb : Nat} {S : List St} (h : staysTo nb S S.length) (i : Nat) (x : St) (hx : S[i]? = some x) : ∀ (d : Nat) (y : St), S[i + d]? = some y → x.frm ≤ y.frm
  | 0, y, hy => by
    rw [Nat.add_zero, hx] at hy
    cases hy
    exact Int.le_refl _
  | d + 1, y, hy => by
    have hl := get_lt hy
    obtain ⟨z, hz⟩ := some_at S (i + d) (by omega)
    have a := mono_frm h i x hx d z hz
    have b := (h (i + (d + 1)) y hl hy).2 (i + d) z (by omega) hz
    omega
theorem not_late {nb : Nat} {S : List St} (h : staysTo nb S S.length) {t : Int} (hl : late t S = false) {i : Nat} {x : St} (hx : S[i]? = some x) : x.frm ≤ t := by
  have hi := get_lt hx
  obtain ⟨y, hy⟩ := some_at S (S.length - 1) (by omega)
  have a := mono_frm h i x hx (S.length - 1 - i) y (by rw [show i + (S.length - 1 - i) = S.length - 1 from by omega]; exact hy)
  unfold late at hl
  have e : S.getD (S.length - 1) default = y := by rw [List.getD_eq_getElem?_getD, hy]; rfl
  rw [e] at hl
  have h0 : decide (0 < S.length) = true := by simp; omega
  rw [h0, Bool.true_and, decide_eq_false_iff_not] at hl
  omega
theorem ended_ok {B : List Bd} {S : List St} (h : Ok B S) {k : Nat} {x : St} (hx : S[k]? = some x) {t : Int} (ht : tm t = true) (hf : x.frm ≤ t) : Ok B (ended S k t) := by
  obtain ⟨h1, h2, h3, h4, h5⟩ := h
  have t0 := (tm_iff.1 ht).1
  refine ⟨h1, by rw [ended_len]; exact h2, h3, ?_, ?_⟩
  · intro i y hi hy
    rw [ended_len] at hi
    rw [ended_get hx] at hy
    refine ⟨?_, fun k' z hk hz => ?_⟩
    · split at hy
      · rename_i hik
        cases hy
        have := (h4 k x (get_lt hx) hx).1
        simp only [stOk, toOk, Bool.and_eq_true] at this ⊢
        refine ⟨this.1, ?_⟩
        simp [ht, hf]
      · exact (h4 i y hi hy).1
    · rw [ended_get hx] at hz
      obtain ⟨y', hy'⟩ := some_at S i hi
      obtain ⟨z', hz'⟩ := some_at S k' (by omega)
      have q := (h4 i y' hi hy').2 k' z' hk hz'
      have e1 : y.frm = y'.frm := by
        split at hy
        · rename_i hik
          subst hik
          rw [hx] at hy'
          cases hy; cases hy'
          rfl
        · rw [hy'] at hy; cases hy; rfl
      have e2 : z.frm = z'.frm := by
        split at hz
        · rename_i hik
          subst hik
          rw [hx] at hz'
          cases hz; cases hz'
          rfl
        · rw [hz'] at hz; cases hz; rfl
      omega
  · intro i y hi hy hh
    rw [ended_len] at hi
    rw [ended_get hx] at hy
    split at hy
    · cases hy
      simp [here] at hh
      omega
    · refine ⟨(h5 i y hi hy hh).1, fun k' z hk hz hz2 => ?_⟩
      rw [ended_get hx] at hz
      split at hz
      · cases hz
        simp [here] at hz2
        omega
      · exact (h5 i y hi hy hh).2 k' z hk hz hz2
theorem snoc_get {α : Type} {l : List α} {x y : α} {i : Nat} (h : (l ++ [x])[i]? = some y) : (i < l.length ∧ l[i]? = some y) ∨ (i = l.length ∧ x = y) := by
  have hl := get_lt h
  simp at hl
  rcases Nat.lt_or_ge i l.length with q | q
  · rw [List.getElem?_append_left q] at h
    exact Or.inl ⟨q, h⟩
  · have : i = l.length := by omega
    subst this
    simp at h
    exact Or.inr ⟨rfl, h⟩
theorem push_ok {B : List Bd} {S : List St} (h : Ok B S) (hl : S.length ≠ 1000) {x : St} (hx : stOk B.length x = true) (ho : ∀ (i : Nat) (y : St), S[i]? = some y → y.frm ≤ x.frm) (hd : does (kindAt B x.bed) x.need = true) (hc : ∀ (i : Nat) (y : St), S[i]? = some y → here y = true → clash B y x = false) : Ok B (S ++ [x]) := by
  obtain ⟨h1, h2, h3, h4, h5⟩ := h
  refine ⟨h1, by simp; omega, h3, ?_, ?_⟩
  · intro i y hi hy
    rcases snoc_get hy with ⟨q, hy'⟩ | ⟨q, rfl⟩
    · refine ⟨(h4 i y q hy').1, fun k z hk hz => ?_⟩
      rcases snoc_get hz with ⟨q', hz'⟩ | ⟨q', rfl⟩
      · exact (h4 i y q hy').2 k z hk hz'
      · omega
    · refine ⟨hx, fun k z hk hz => ?_⟩
      rcases snoc_get hz with ⟨q', hz'⟩ | ⟨q', rfl⟩
      · exact ho k z hz'
      · omega
  · intro i y hi hy hh
    rcases snoc_get hy with ⟨q, hy'⟩ | ⟨q, rfl⟩
    · refine ⟨(h5 i y q hy' hh).1, fun k z hk hz hz2 => ?_⟩
      rcases snoc_get hz with ⟨q', hz'⟩ | ⟨q', rfl⟩
      · exact (h5 i y q hy' hh).2 k z hk hz' hz2
      · omega
    · refine ⟨hd, fun k z hk hz hz2 => ?_⟩
      rcases snoc_get hz with ⟨q', hz'⟩ | ⟨q', rfl⟩
      · exact hc k z hz' hz2
      · omega
theorem free_clash {B : List Bd} {S : List St} {sex need b : Int} (h : isFr B S sex need b = true) {i : Nat} {y x : St} (hy : S[i]? = some y) (hh : here y = true) (hb : x.bed = b) (hs : x.sex = sex) (hp : y.person ≠ x.person) : clash B y x = false := by
  unfold isFr at h
  rw [Bool.and_eq_true, Bool.not_eq_true', List.any_eq_false] at h
  have := h.2 y (List.mem_of_getElem? hy)
  simp only [taken, hh, Bool.true_and, Bool.not_eq_true] at this
  subst hb; subst hs
  simp only [clash, Bool.or_eq_false_iff, decide_eq_false_iff_not] at this ⊢
  exact ⟨this.1, hp, this.2⟩
theorem placed_ok {B : List Bd} {S0 S : List St} (h0 : Ok B S0) (h : Ok B S) {x : St} (hx : stOk B.length x = true) (ho : ∀ (i : Nat) (y : St), S[i]? = some y → y.frm ≤ x.frm) (hp : ∀ (i : Nat) (y : St), S[i]? = some y → here y = true → y.person ≠ x.person) : Ok B (placed B S0 S x).1 := by
  unfold placed
  split
  · rename_i hf
    split
    · exact h0
    · rename_i hl
      refine push_ok h hl hx ho ?_ (fun i y hy hh => free_clash hf hy hh rfl rfl (hp i y hy hh))
      unfold isFr at hf
      rw [Bool.and_eq_true] at hf
      exact hf.1
  · exact h0
/-- A move keeps a right house right. -/
theorem move_ok {B : List Bd} {S : List St} (h : Ok B S) (m : Mv) : Ok B (moveR B S m).1 := by
  unfold moveR
  split
  · exact h
  rename_i hm
  have hm' : mvOk B.length m = true := by simpa using hm
  simp only [mvOk, Bool.and_eq_true, Bool.or_eq_true, Bool.not_eq_true', decide_eq_true_eq, decide_eq_false_iff_not] at hm'
  obtain ⟨m1, m2, m3, m4, m5, m6⟩ := hm'
  split
  · exact h
  rename_i hl
  have hl' : late m.time S = false := by simpa using hl
  have hord := fun (i : Nat) (y : St) (hy : S[i]? = some y) => not_late h.2.2.2.1 hl' hy
  split
  · rename_i ha
    split
    · rename_i hk
      rcases thereAt_cases m.person S with ⟨_, hn⟩ | ⟨k, _, e, _⟩
      · rcases m5 with q | q
        · exact absurd hk q
        rcases m6 with q' | q'
        · omega
        refine placed_ok h h ?_ hord ?_
        · simp [stOk, newStay, toOk, m3, m4, q.1, q.2, q']
        · intro i y hy hh hp
          have := hn i y hy
          simp [thereB, hh] at this
          exact this hp
      · omega
    · exact h
  · rename_i ha
    split
    · exact h
    rename_i hk
    rcases thereAt_cases m.person S with ⟨e, _⟩ | ⟨k, x, e, hx, hb, hn⟩
    · omega
    have e' : (thereAt m.person S).toNat = k := by rw [e]; rfl
    rw [e']
    have hE := ended_ok h hx m4 (hord k x hx)
    split
    · exact hE
    · rename_i hk3
      rcases m6 with q' | q'
      · exact absurd q' hk3
      have ex : S.getD k default = x := by rw [List.getD_eq_getElem?_getD, hx]; rfl
      rw [ex]
      have hxs := (h.2.2.2.1 k x (get_lt hx) hx).1
      simp only [stOk, Bool.and_eq_true] at hxs
      simp only [thereB, Bool.and_eq_true, decide_eq_true_eq] at hb
      have t0 := (tm_iff.1 m4).1
      refine placed_ok h hE ?_ ?_ ?_
      · simp [stOk, nextStay, toOk, m3, m4, hxs.1.1.1.1.2, hxs.1.1.1.2, q']
      · intro i y hy
        rw [ended_get hx] at hy
        split at hy
        · cases hy; exact hord k x hx
        · exact hord i y hy
      · intro i y hy hh hp
        rw [ended_get hx] at hy
        split at hy
        · cases hy
          simp [here] at hh
          omega
        · rename_i hik
          have hp' : y.person = x.person := by rw [hp, hb.1]; rfl
          rcases Nat.lt_or_gt_of_ne hik with q | q
          · have := (h.2.2.2.2 k x (get_lt hx) hx hb.2).2 i y q hy hh
            simp [clash, hp'] at this
          · have := (h.2.2.2.2 i y (get_lt hy) hy hh).2 k x q hx hb.2
            simp [clash, hp'] at this
/-- Nobody is in two beds, and no bed is twice. -/
theorem ok_apart {B : List Bd} {S : List St} (h : Ok B S) {i k : Nat} {x y : St} (hk : k < i) (hx : S[i]? = some x) (hy : S[k]? = some y) (h1 : here x = true) (h2 : here y = true) : x.bed ≠ y.bed ∧ x.person ≠ y.person := by
  have := (h.2.2.2.2 i x (get_lt hx) hx h1).2 k y hk hy h2
  simp only [clash, Bool.or_eq_false_iff, decide_eq_false_iff_not] at this
  exact ⟨fun q => this.1 q.symm, fun q => this.2.1 q.symm⟩
end Go.Proofs.Ytklgadaefngnnaa.Hm
