/-
  What holds and why, in plain words: a reason holds; fewer facts give no more.
-/
import Derived.Test.YtfhecdedanlmfaaR1
namespace Go.Proofs.Ytfhecdedanlmfaa
namespace Rc
set_option linter.all false

theorem mem_derive {fs : List Int} {ls : List Lw} {z : Int} : z ∈ derive fs ls ↔ okB fs ls = true ∧ (0 ≤ z ∧ z < 64) ∧ wy (whyTo fs ls 64) z ≠ -2 := by
  unfold derive
  cases okB fs ls with
  | false => simp
  | true =>
    simp only [if_true, true_and]
    unfold told holdsB
    simp only [List.mem_map, List.mem_filter, List.mem_range, decide_eq_true_eq]
    constructor
    · rintro ⟨k, ⟨h1, h2⟩, rfl⟩
      exact ⟨⟨by omega, by omega⟩, h2⟩
    · rintro ⟨⟨h0, h1⟩, h2⟩
      obtain ⟨k, rfl⟩ := Int.eq_ofNat_of_zero_le h0
      exact ⟨k, ⟨by omega, h2⟩, rfl⟩
theorem hasB_mem {l : List Int} {x : Int} : hasB l x = true ↔ x ∈ l := by
  unfold hasB
  simp
theorem ok_laws {fs : List Int} {ls : List Lw} (h : okB fs ls = true) : ls.all lawB = true := by
  unfold okB lawsB at h
  simp only [Bool.and_eq_true] at h
  exact h.2.2
/-- The reason that is told holds. -/
theorem why_holds {fs : List Int} {ls : List Lw} {x : Int} (hx : x ∈ derive fs ls) :
    -1 ≤ why fs ls x ∧ why fs ls x < ls.length ∧ (why fs ls x = -1 → hasB fs x = true) ∧
    ∀ i : Nat, why fs ls x = (i : Int) → ∃ w, ls[i]? = some w ∧ w.thn = x ∧ (∀ z ∈ w.ifs, hasB (derive fs ls) z = true) ∧ (∀ z ∈ w.nots, hasB (derive fs ls) z = false) := by
  obtain ⟨hok, ⟨h0, h1⟩, hw⟩ := mem_derive.1 hx
  obtain ⟨k, rfl⟩ := Int.eq_ofNat_of_zero_le h0
  have hk : k < 64 := by omega
  have hf : factB (k : Int) = true := by unfold factB; simp; omega
  have e : why fs ls (k : Int) = byF fs ls (whyTo fs ls k) k := by
    unfold why
    rw [hok, hf, Bool.and_self, if_pos rfl, wy_nat fs ls hk]
  rw [wy_nat fs ls hk] at hw
  rw [e]
  unfold byF at hw ⊢
  cases hb : hasB fs (k : Int) with
  | true =>
    simp only [if_true]
    exact ⟨by omega, by omega, fun _ => trivial, fun i hi => by omega⟩
  | false =>
    rw [hb] at hw
    by_cases hq : 0 ≤ firstB (fineB (whyTo fs ls k) k) ls
    · rw [if_neg (by simp), if_pos hq]
      have hlow := firstB_low (fineB (whyTo fs ls k) k) ls
      have hhigh := firstB_high (fineB (whyTo fs ls k) k) ls
      refine ⟨hlow, hhigh, fun q => by omega, fun i hi => ?_⟩
      have hil : i < ls.length := by omega
      refine ⟨ls[i], List.getElem?_eq_getElem hil, ?_⟩
      have hp := firstB_at hi (List.getElem?_eq_getElem hil)
      have hl := law_parts (List.all_eq_true.1 (ok_laws hok) _ (List.getElem_mem hil))
      generalize ls[i] = w at hp hl
      unfold fineB at hp
      simp only [Bool.and_eq_true, List.all_eq_true, decide_eq_true_eq] at hp
      obtain ⟨ht, hi2, hn2⟩ := hp
      refine ⟨ht, fun z hz => ?_, fun z hz => ?_⟩
      · have hz2 := hl.2.2.1 z hz
        rw [hasB_mem, mem_derive]
        refine ⟨hok, ⟨hz2.1, by omega⟩, ?_⟩
        rw [wy_stay fs ls (n := k) hz2.1 (by omega) (by omega)]
        exact hi2 z hz
      · have hz2 := hl.2.2.2 z hz
        cases hh : hasB (derive fs ls) z with
        | false => rfl
        | true =>
          rw [hasB_mem, mem_derive] at hh
          exact absurd (by rw [wy_stay fs ls (n := k) hz2.1 (by omega) (by omega)]; exact hn2 z hz) hh.2.2
    · rw [if_neg (by simp), if_neg hq] at hw
      exact absurd rfl hw
/-- Fewer facts give no more, where no law has a Not. -/
theorem wy_mono {fs gs : List Int} {ls : List Lw} (hl : ls.all lawB = true) (hn : ∀ w ∈ ls, w.nots = []) (hs : ∀ x, hasB fs x = true → hasB gs x = true) :
    ∀ k : Nat, byF fs ls (whyTo fs ls k) k ≠ -2 → byF gs ls (whyTo gs ls k) k ≠ -2 := by
  intro k
  induction k using Nat.strongRecOn with
  | ind k ih =>
    intro h
    unfold byF at h ⊢
    cases hb : hasB gs (k : Int) with
    | true => simp
    | false =>
      have hb2 : hasB fs (k : Int) = false := by
        cases q : hasB fs (k : Int) with
        | false => rfl
        | true => rw [hs _ q] at hb; cases hb
      rw [hb2] at h
      rw [if_neg (by simp)] at h ⊢
      by_cases hq : 0 ≤ firstB (fineB (whyTo fs ls k) k) ls
      · obtain ⟨i, hi⟩ := Int.eq_ofNat_of_zero_le hq
        have hil : i < ls.length := by have := firstB_high (fineB (whyTo fs ls k) k) ls; omega
        have hp := firstB_at hi (List.getElem?_eq_getElem hil)
        have hm := List.getElem_mem hil
        have hlp := law_parts (List.all_eq_true.1 hl _ hm)
        have hnn := hn _ hm
        have hfine : fineB (whyTo gs ls k) k (ls[i]) = true := by
          unfold fineB at hp ⊢
          simp only [Bool.and_eq_true, List.all_eq_true, decide_eq_true_eq] at hp ⊢
          refine ⟨hp.1, fun z hz => ?_, fun z hz => ?_⟩
          · have hz2 := hlp.2.2.1 z hz
            obtain ⟨j, rfl⟩ := Int.eq_ofNat_of_zero_le hz2.1
            have hjk : j < k := by have := hz2.2; have := hp.1; omega
            have := hp.2.1 _ hz
            rw [wy_nat fs ls hjk] at this
            rw [wy_nat gs ls hjk]
            exact ih j hjk this
          · rw [hnn] at hz; cases hz
        have hge : 0 ≤ firstB (fineB (whyTo gs ls k) k) ls := by
          by_cases hg : ls.any (fineB (whyTo gs ls k) k) = true
          · by_cases hc : 0 ≤ firstB (fineB (whyTo gs ls k) k) ls
            · exact hc
            · exfalso
              unfold firstB at hc
              split at hc
              · omega
              · rename_i hnone
                rw [List.findIdx?_eq_none_iff] at hnone
                have := hnone _ hm
                rw [hfine] at this
                cases this
          · exfalso
            apply hg
            rw [List.any_eq_true]
            exact ⟨_, hm, hfine⟩
        rw [if_pos hge]
        omega
      · rw [if_neg hq] at h
        exact absurd rfl h
theorem derive_fewer {a : Int} {fs : List Int} {ls : List Lw} {x : Int} (hok : okB (a :: fs) ls = true) (hn : ∀ w ∈ ls, w.nots = []) (hx : x ∈ derive fs ls) : hasB (derive (a :: fs) ls) x = true := by
  obtain ⟨h1, ⟨h2, h3⟩, h4⟩ := mem_derive.1 hx
  obtain ⟨k, rfl⟩ := Int.eq_ofNat_of_zero_le h2
  have hk : k < 64 := by omega
  rw [hasB_mem, mem_derive]
  refine ⟨hok, ⟨h2, h3⟩, ?_⟩
  rw [wy_nat _ _ hk] at h4 ⊢
  exact wy_mono (ok_laws hok) hn (fun x q => by rw [hasB_mem] at q ⊢; exact List.mem_cons_of_mem _ q) k h4
theorem derive_ok {fs : List Int} {ls : List Lw} (h : 0 < (derive fs ls).length) : okB fs ls = true := by
  unfold derive at h
  cases hq : okB fs ls with
  | false => rw [hq] at h; simp at h
  | true => rfl
end Rc
end Go.Proofs.Ytfhecdedanlmfaa
