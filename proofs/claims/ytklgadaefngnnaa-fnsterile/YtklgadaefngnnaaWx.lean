/-
  Plain facts: the persons that a cycle touched, each once and rising, are the marked ones; no Go in sight.
-/
import Derived.Test.YtklgadaefngnnaaWv
import Derived.Lib.SlicesCompact
namespace Go.Proofs.Ytklgadaefngnnaa.Wa
open Va
set_option linter.unusedVariables false

theorem incr_ext : ∀ (a b : List Int), a.Pairwise (· < ·) → b.Pairwise (· < ·) → (∀ x, x ∈ a ↔ x ∈ b) → a = b
  | [], [], _, _, _ => rfl
  | [], y :: b, _, _, h => absurd ((h y).2 (by simp)) (by simp)
  | x :: a, [], _, _, h => absurd ((h x).1 (by simp)) (by simp)
  | x :: a, y :: b, ha, hb, h => by
    have ha1 := (List.pairwise_cons.1 ha).1
    have hb1 := (List.pairwise_cons.1 hb).1
    have e1 := List.mem_cons.1 ((h x).1 (by simp))
    have e2 := List.mem_cons.1 ((h y).2 (by simp))
    have e : x = y := by
      rcases e1 with e1 | e1
      · exact e1
      · rcases e2 with e2 | e2
        · exact e2.symm
        · have := ha1 y e2
          have := hb1 x e1
          omega
    subst e
    congr 1
    refine incr_ext a b (List.pairwise_cons.1 ha).2 (List.pairwise_cons.1 hb).2 fun z => ⟨fun hz => ?_, fun hz => ?_⟩
    · rcases List.mem_cons.1 ((h z).1 (List.mem_cons_of_mem _ hz)) with q | q
      · have := ha1 z hz; omega
      · exact q
    · rcases List.mem_cons.1 ((h z).2 (List.mem_cons_of_mem _ hz)) with q | q
      · have := hb1 z hz; omega
      · exact q
theorem comp_inv (d : Array Int) (hs : ∀ i j, i < j → j < d.size → d[i]! ≤ d[j]!) : ∀ m, m ≤ d.size → (Go.Lib.compactUpTo d m).Pairwise (· < ·) ∧ (∀ x, x ∈ Go.Lib.compactUpTo d m ↔ ∃ j, j < m ∧ d[j]! = x) := by
  intro m
  induction m with
  | zero => intro _; simp [Go.Lib.compactUpTo]
  | succ m ih =>
    intro hm
    obtain ⟨h1, h2⟩ := ih (by omega)
    rw [Go.Lib.compactUpTo_succ]
    by_cases hk : Go.Lib.keeps d m = true
    · rw [if_pos hk]
      refine ⟨List.pairwise_append.2 ⟨h1, by simp, fun a ha b hb => ?_⟩, fun x => ?_⟩
      · obtain rfl := List.mem_singleton.1 hb
        obtain ⟨j, hj, rfl⟩ := (h2 a).1 ha
        have hk2 : m = 0 ∨ d[m]! ≠ d[m - 1]! := by simpa [Go.Lib.keeps] using hk
        rcases hk2 with q | q
        · omega
        · have q1 := hs (m - 1) m (by omega) (by omega)
          have q2 : d[j]! ≤ d[m - 1]! := by
            rcases Nat.lt_or_ge j (m - 1) with z | z
            · exact hs j (m - 1) z (by omega)
            · rw [show j = m - 1 from by omega]; exact Int.le_refl _
          omega
      · rw [List.mem_append, h2, List.mem_singleton]
        constructor
        · rintro (⟨j, hj, e⟩ | e)
          · exact ⟨j, by omega, e⟩
          · exact ⟨m, by omega, e.symm⟩
        · rintro ⟨j, hj, e⟩
          rcases Nat.lt_succ_iff_lt_or_eq.1 hj with q | q
          · exact Or.inl ⟨j, q, e⟩
          · subst q; exact Or.inr e.symm
    · rw [if_neg hk, List.append_nil]
      have hk2 : ¬ (m = 0 ∨ d[m]! ≠ d[m - 1]!) := by simpa [Go.Lib.keeps] using hk
      refine ⟨h1, fun x => (h2 x).trans ⟨?_, ?_⟩⟩
      · rintro ⟨j, hj, e⟩; exact ⟨j, by omega, e⟩
      · rintro ⟨j, hj, e⟩
        rcases Nat.lt_succ_iff_lt_or_eq.1 hj with q | q
        · exact ⟨j, q, e⟩
        · subst q
          have hz : ¬ j = 0 := fun q => hk2 (Or.inl q)
          have he : d[j]! = d[j - 1]! := Decidable.byContradiction fun q => hk2 (Or.inr q)
          exact ⟨j - 1, by omega, by rw [← he]; exact e⟩
/-- The numbers of a list, each once, rising. -/
def rise (zs : List Int) : List Int := Go.Lib.compact (zs.mergeSort fun x y => decide (x ≤ y))
theorem rise_inv (zs : List Int) : (rise zs).Pairwise (· < ·) ∧ ∀ x, x ∈ rise zs ↔ x ∈ zs := by
  have hp : (zs.mergeSort fun x y => decide (x ≤ y)).Pairwise fun x y => decide (x ≤ y) = true := List.pairwise_mergeSort (by intro a b c; simp; omega) (by intro a b; simp; omega) zs
  have hm := fun x => (List.mergeSort_perm zs fun x y => decide (x ≤ y)).mem_iff (a := x)
  unfold rise Go.Lib.compact
  generalize (zs.mergeSort fun x y => decide (x ≤ y)) = ys at *
  have hs : ∀ i j, i < j → j < ys.toArray.size → ys.toArray[i]! ≤ ys.toArray[j]! := by
    intro i j hij hj
    have hj2 : j < ys.length := by simpa using hj
    have := List.pairwise_iff_getElem.1 hp i j (by omega) hj2 hij
    simpa [getElem!_pos, hj2, show i < ys.length from by omega] using this
  obtain ⟨h1, h2⟩ := comp_inv ys.toArray hs ys.length (by simp)
  refine ⟨h1, fun x => ((h2 x).trans ?_).trans (hm x)⟩
  constructor
  · rintro ⟨j, hj, e⟩
    rw [← e]
    simp [getElem!_pos, hj]
  · intro hx
    obtain ⟨j, hj, e⟩ := List.getElem_of_mem hx
    exact ⟨j, hj, by simpa [getElem!_pos, hj] using e⟩
theorem rise_len (zs : List Int) : (rise zs).length ≤ zs.length := by
  unfold rise Go.Lib.compact Go.Lib.compactUpTo
  rw [List.length_map]
  have := List.length_filter_le (Go.Lib.keeps (zs.mergeSort fun x y => decide (x ≤ y)).toArray) (List.range (zs.mergeSort fun x y => decide (x ≤ y)).length)
  simpa using this
theorem rise_nil : rise [] = [] := List.eq_nil_of_length_eq_zero (by have := rise_len []; simpa using this)
theorem mkd_incr (f : Nat → Bool) (n : Nat) : (mkd f n).Pairwise (· < ·) := by
  unfold mkd
  rw [List.pairwise_map]
  exact (List.Pairwise.filter f List.pairwise_lt_range).imp fun h => by omega
theorem mkd_mem (f : Nat → Bool) (n : Nat) (x : Int) : x ∈ mkd f n ↔ ∃ k : Nat, k < n ∧ f k = true ∧ x = (k : Int) := by
  unfold mkd
  simp only [List.mem_map, List.mem_filter, List.mem_range]
  constructor
  · rintro ⟨k, ⟨h1, h2⟩, rfl⟩; exact ⟨k, h1, h2, rfl⟩
  · rintro ⟨k, h1, h2, rfl⟩; exact ⟨k, ⟨h1, h2⟩, rfl⟩
/-- The persons of those uses that the cycle c served. -/
def persL (us : List Us) (c : Int) : List Int := (us.filter fun u => decide (u.cyc = c)).map Us.per
/-- The cycles of those uses that were on the person q. -/
def cycsL (us : List Us) (q : Int) : List Int := (us.filter fun u => decide (u.per = q)).map Us.cyc
theorem pers_yes {us : List Us} {i : Nat} {u : Us} {c : Int} (hu : us[i]? = some u) (h : u.cyc = c) : persL (us.take (i + 1)) c = persL (us.take i) c ++ [u.per] := by
  rw [List.take_add_one, hu]; simp [persL, h]
theorem pers_no {us : List Us} {i : Nat} {u : Us} {c : Int} (hu : us[i]? = some u) (h : u.cyc ≠ c) : persL (us.take (i + 1)) c = persL (us.take i) c := by
  rw [List.take_add_one, hu]; simp [persL, h]
theorem cycs_yes {us : List Us} {i : Nat} {u : Us} {c : Int} (hu : us[i]? = some u) (h : u.per = c) : cycsL (us.take (i + 1)) c = cycsL (us.take i) c ++ [u.cyc] := by
  rw [List.take_add_one, hu]; simp [cycsL, h]
theorem cycs_no {us : List Us} {i : Nat} {u : Us} {c : Int} (hu : us[i]? = some u) (h : u.per ≠ c) : cycsL (us.take (i + 1)) c = cycsL (us.take i) c := by
  rw [List.take_add_one, hu]; simp [cycsL, h]
theorem pers_len (us : List Us) (c : Int) (i : Nat) : (persL (us.take i) c).length ≤ i := by
  unfold persL
  rw [List.length_map]
  exact Nat.le_trans (List.length_filter_le _ _) (by rw [List.length_take]; omega)
theorem cycs_len (us : List Us) (c : Int) (i : Nat) : (cycsL (us.take i) c).length ≤ i := by
  unfold cycsL
  rw [List.length_map]
  exact Nat.le_trans (List.length_filter_le _ _) (by rw [List.length_take]; omega)
theorem uses_fact {l : List Stp} {u : Us} (h : u ∈ uses l) : ∃ (j : Nat) (x : Stp), StepsOk l ∧ l[j]? = some x ∧ (bysF rm0 l)[j]? = some u.cyc ∧ x.per = u.per ∧ 0 ≤ u.cyc ∧ u.cyc ≤ 999 ∧ 0 ≤ u.per ∧ u.per ≤ 999 := by
  unfold uses at h
  split at h
  · rename_i hs
    have hok := of_ssB hs
    obtain ⟨j, x, h1, h2, h3, h4⟩ := usesTo_mem h
    have hb := bys_get (l := l) l rm0 j x h2
    have e : byS (rmF rm0 (l.take j)) x = (rAt l j).cy x.tray.toNat := if_pos h3
    have hc := cyOk_run (l.take j) rm0 (fun t => by simp [rm0]) (fun y hy => hok.2 y (List.mem_of_mem_take hy)) x.tray.toNat
    have hp := (hok.2 x (List.mem_of_getElem? h2)).2.2.1
    unfold n3 at hp
    subst h4
    exact ⟨j, x, hok, h2, by rw [hb, e], rfl, hc.1, hc.2, hp.1, hp.2⟩
  · cases h
theorem fact_uses {l : List Stp} {j : Nat} {c : Int} {p : Int} (hok : ssB l = true) (hc : 0 ≤ c) (hb : (bysF rm0 l)[j]? = some c) (hp : (l[j]?).map Stp.per = some p) : ∃ u ∈ uses l, u.cyc = c ∧ u.per = p := by
  rcases hx : l[j]? with _ | x
  · rw [hx] at hp; cases hp
  · rw [hx] at hp
    have hb2 := bys_get (l := l) l rm0 j x hx
    rw [hb] at hb2
    have e2 : c = byS (rAt l j) x := by simpa [rAt] using hb2
    have hu : isUse (rAt l j) x := by
      rcases Classical.em (isUse (rAt l j) x) with q | q
      · exact q
      · rw [show byS (rAt l j) x = -1 from if_neg q] at e2
        omega
    refine ⟨⟨j, (rAt l j).cy x.tray.toNat, x.per⟩, ?_, ?_, by simpa using hp⟩
    · unfold uses
      rw [if_pos hok]
      exact usesTo_of hx hu l.length (lt_of_get hx)
    · rw [e2]; exact (if_pos hu).symm
theorem touched_rise (l : List Stp) (c : Int) : touched l c = rise (persL (uses l) c) := by
  refine incr_ext _ _ ?_ (rise_inv _).1 fun p => ?_
  · unfold touched; split
    · exact mkd_incr _ _
    · exact List.Pairwise.nil
  · rw [(rise_inv _).2]
    unfold persL
    simp only [List.mem_map, List.mem_filter, decide_eq_true_eq]
    constructor
    · intro h
      unfold touched at h
      split at h
      · rename_i hc
        obtain ⟨k, hk, ht, rfl⟩ := (mkd_mem _ _ _).1 h
        unfold tch atB at ht
        simp only [List.any_eq_true, List.mem_range, Bool.and_eq_true, decide_eq_true_eq] at ht
        obtain ⟨j, hj, h1, h2⟩ := ht
        obtain ⟨u, hu, e1, e2⟩ := fact_uses hc.1 hc.2.1 h1 h2
        exact ⟨u, ⟨hu, e1⟩, e2⟩
      · cases h
    · rintro ⟨u, ⟨hu, e1⟩, e2⟩
      obtain ⟨j, x, hok, h1, h2, h3, h4, h5, h6, h7⟩ := uses_fact hu
      unfold touched
      rw [if_pos ⟨ssB_true hok, by omega, by omega⟩, mkd_mem]
      refine ⟨p.toNat, by omega, ?_, by omega⟩
      unfold tch atB
      simp only [List.any_eq_true, List.mem_range, Bool.and_eq_true, decide_eq_true_eq]
      exact ⟨j, lt_of_get h1, by rw [h2, e1], by rw [h1, Option.map_some, h3, e2]; congr 1; omega⟩
theorem cyclesOn_rise (l : List Stp) (q : Int) : cyclesOn l q = rise (cycsL (uses l) q) := by
  refine incr_ext _ _ ?_ (rise_inv _).1 fun p => ?_
  · unfold cyclesOn; split
    · exact mkd_incr _ _
    · exact List.Pairwise.nil
  · rw [(rise_inv _).2]
    unfold cycsL
    simp only [List.mem_map, List.mem_filter, decide_eq_true_eq]
    constructor
    · intro h
      unfold cyclesOn at h
      split at h
      · rename_i hc
        obtain ⟨k, hk, ht, rfl⟩ := (mkd_mem _ _ _).1 h
        unfold cyo atB at ht
        simp only [List.any_eq_true, List.mem_range, Bool.and_eq_true, decide_eq_true_eq] at ht
        obtain ⟨j, hj, h1, h2⟩ := ht
        obtain ⟨u, hu, e1, e2⟩ := fact_uses hc.1 (by omega) h1 h2
        exact ⟨u, ⟨hu, e2⟩, e1⟩
      · cases h
    · rintro ⟨u, ⟨hu, e1⟩, e2⟩
      obtain ⟨j, x, hok, h1, h2, h3, h4, h5, h6, h7⟩ := uses_fact hu
      unfold cyclesOn
      rw [if_pos ⟨ssB_true hok, by omega, by omega⟩, mkd_mem]
      refine ⟨p.toNat, by omega, ?_, by omega⟩
      unfold cyo atB
      simp only [List.any_eq_true, List.mem_range, Bool.and_eq_true, decide_eq_true_eq]
      exact ⟨j, lt_of_get h1, by rw [h2, e2]; congr 1; omega, by rw [h1, Option.map_some, h3, e1]⟩
end Go.Proofs.Ytklgadaefngnnaa.Wa
