/-
  Plain facts: what was used had passed; a tray that is washed, loaded and passed is sterile. No Go in sight.
-/
import Derived.Test.YtklgadaefngnnaaWx
namespace Go.Proofs.Ytklgadaefngnnaa.Wa
open Va
set_option linter.unusedVariables false

theorem rAt_nxt {l : List Stp} {i : Nat} {x : Stp} (hx : l[i]? = some x) : rAt l (i + 1) = nxt (rAt l i) x := by
  unfold rAt
  rw [List.take_add_one, hx]
  exact rmF_snoc _ _ _
theorem codes_get : ∀ (l' : List Stp) (R : Rm) (j : Nat) (x : Stp), l'[j]? = some x → (codesF R l')[j]? = some (codeS (rmF R (l'.take j)) x)
  | [], _, _, _, h => by cases h
  | s :: l', R, 0, x, h => by
    obtain rfl : s = x := by simpa using h
    rfl
  | s :: l', R, j + 1, x, h => by
    have := codes_get l' (nxt R s) j x (by simpa using h)
    simpa [codesF, rmF] using this
theorem code_at {l : List Stp} {j : Nat} {x : Stp} (h : l[j]? = some x) : (codesF rm0 l)[j]? = some (codeS (rAt l j) x) := codes_get l rm0 j x h
theorem by_at {l : List Stp} {j : Nat} {x : Stp} (h : l[j]? = some x) : (bysF rm0 l)[j]? = some (byS (rAt l j) x) := bys_get (l := l) l rm0 j x h
theorem passed_inv {l : List Stp} : ∀ n, n ≤ l.length → ∀ t, (rAt l n).st t = 3 → ∃ k x, k < n ∧ l[k]? = some x ∧ x.kind = 3 ∧ x.cyc = (rAt l n).cy t ∧ codeS (rAt l k) x = 0 := by
  intro n
  induction n with
  | zero => intro _ t h; simp [rAt, rmF, rm0] at h
  | succ n ih =>
    intro hn t h
    obtain ⟨x, hx⟩ : ∃ x, l[n]? = some x := ⟨_, List.getElem?_eq_getElem (by omega)⟩
    have IH := ih (by omega) t
    have e := rAt_nxt hx
    rw [e] at h ⊢
    generalize hR : rAt l n = R at *
    have old : R.st t = 3 → R.cy t = (nxt R x).cy t → ∃ k y, k < n + 1 ∧ l[k]? = some y ∧ y.kind = 3 ∧ y.cyc = (nxt R x).cy t ∧ codeS (rAt l k) y = 0 := by
      intro h1 h2
      obtain ⟨k, y, q1, q2, q3, q4, q5⟩ := IH h1
      exact ⟨k, y, by omega, q2, q3, q4.trans h2, q5⟩
    unfold nxt at h old ⊢
    by_cases k1 : x.kind = 1
    · simp only [if_pos k1] at h old ⊢
      split at h
      · rename_i q; simp only [if_pos q] at old ⊢; exact old h trivial
      · rename_i q; simp only [if_neg q] at old ⊢
        simp only [upd] at h
        split at h
        · omega
        · exact old h trivial
    · simp only [if_neg k1] at h old ⊢
      by_cases k2 : x.kind = 2
      · simp only [if_pos k2] at h old ⊢
        split at h
        · rename_i q; simp only [if_pos q] at old ⊢; exact old h trivial
        · rename_i q; simp only [if_neg q] at old ⊢
          split at h
          · rename_i q2; simp only [if_pos q2] at old ⊢; exact old h trivial
          · rename_i q2; simp only [if_neg q2] at old ⊢
            simp only [upd] at h old ⊢
            split at h
            · omega
            · rename_i q3
              simp only [if_neg q3] at old ⊢
              exact old h trivial
      · simp only [if_neg k2] at h old ⊢
        by_cases k3 : x.kind = 3 ∨ x.kind = 4
        · simp only [if_pos k3] at h old ⊢
          split at h
          · rename_i q; simp only [if_pos q] at old ⊢
            simp only [ends] at h
            split at h
            · rename_i q2
              obtain ⟨q3, q4⟩ := q2
              unfold inC at q4
              simp only [decide_eq_true_eq] at q4
              have k33 : x.kind = 3 := by
                rcases k3 with z | z
                · exact z
                · rw [if_neg (by omega)] at h; omega
              refine ⟨n, x, by omega, hx, k33, q4.2.symm, ?_⟩
              rw [hR]
              unfold codeS
              rw [if_neg k1, if_neg k2, if_pos k3, if_pos q]
            · exact old h trivial
          · rename_i q; simp only [if_neg q] at old ⊢; exact old h trivial
        · simp only [if_neg k3] at h old ⊢
          split at h
          · rename_i q; simp only [if_pos q] at old ⊢
            simp only [upd] at h
            split at h
            · omega
            · exact old h trivial
          · rename_i q; simp only [if_neg q] at old ⊢; exact old h trivial
/-- A use that was done: what the cycle says. -/
theorem use_done {l : List Stp} {i : Nat} {x : Stp} (hx : l[i]? = some x) (hk : x.kind = 5) (hc : (codesF rm0 l)[i]? = some 0) : isUse (rAt l i) x := by
  rw [code_at hx] at hc
  have hc2 := Option.some.inj hc
  refine ⟨hk, ?_⟩
  unfold codeS at hc2
  rw [if_neg (by omega), if_neg (by omega), if_neg (by omega)] at hc2
  by_cases q : (rAt l i).st x.tray.toNat = 3
  · exact q
  · rw [if_neg q, if_pos hk] at hc2; omega
theorem use_code {l : List Stp} {i : Nat} {x : Stp} (hx : l[i]? = some x) (hu : isUse (rAt l i) x) : x.kind = 5 ∧ (codesF rm0 l)[i]? = some 0 := by
  refine ⟨hu.1, ?_⟩
  rw [code_at hx]
  have h1 := hu.1
  unfold codeS
  rw [if_neg (by omega), if_neg (by omega), if_neg (by omega), if_pos hu.2]
theorem cycle_at {l : List Stp} {i : Nat} {x : Stp} (hs : ssB l = true) (hx : l[i]? = some x) : cycleOf l i = byS (rAt l i) x := by
  unfold cycleOf
  rw [if_pos ⟨hs, by omega, by have := lt_of_get hx; omega⟩, List.getD_eq_getElem?_getD, show (i : Int).toNat = i from by omega, by_at hx]
  rfl
/-- The law's own words, at a step that is no use that was done. -/
theorem sterile_no {l : List Stp} {i : Nat} {x : Stp} (hs : ssB l = true) (hx : l[i]? = some x) (h : ¬ (x.kind = 5 ∧ (codesF rm0 l)[i]? = some 0)) : cycleOf l i = -1 := by
  rw [cycle_at hs hx]
  exact if_neg fun q => h (use_code hx q)
theorem sterile_yes {l : List Stp} {i : Nat} {x : Stp} (hs : ssB l = true) (hx : l[i]? = some x) (hk : x.kind = 5) (hc : (codesF rm0 l)[i]? = some 0) :
    (∃ k y, k < i ∧ l[k]? = some y ∧ y.kind = 3 ∧ y.cyc = cycleOf l i ∧ (codesF rm0 l)[k]? = some 0) ∧ x.per ∈ touched l (cycleOf l i) ∧ cycleOf l i ∈ cyclesOn l x.per := by
  have hu := use_done hx hk hc
  have e : byS (rAt l i) x = (rAt l i).cy x.tray.toNat := if_pos hu
  have hlt := lt_of_get hx
  have hm := usesTo_of hx hu l.length hlt
  have hm2 : (⟨i, (rAt l i).cy x.tray.toNat, x.per⟩ : Us) ∈ uses l := by unfold uses; rw [if_pos hs]; exact hm
  rw [cycle_at hs hx, e]
  refine ⟨?_, ?_, ?_⟩
  · obtain ⟨k, y, q1, q2, q3, q4, q5⟩ := passed_inv i (by omega) _ hu.2
    exact ⟨k, y, q1, q2, q3, q4, by rw [code_at q2, q5]⟩
  · rw [touched_rise, (rise_inv _).2]
    unfold persL
    simp only [List.mem_map, List.mem_filter, decide_eq_true_eq]
    exact ⟨_, ⟨hm2, rfl⟩, rfl⟩
  · rw [cyclesOn_rise, (rise_inv _).2]
    unfold cycsL
    simp only [List.mem_map, List.mem_filter, decide_eq_true_eq]
    exact ⟨_, ⟨hm2, rfl⟩, rfl⟩
/-- Nothing of the cycle 900 and of the person 77 has been drawn. -/
def Fresh (l : List Stp) : Prop := ∀ x ∈ l, x.cyc ≠ 900 ∧ x.per ≠ 77
theorem fresh_room : ∀ (l : List Stp) (R : Rm), Fresh l → (∀ x ∈ l, StOk x) → (R.ov 900 = false ∧ ∀ t, R.cy t ≠ 900) → ((rmF R l).ov 900 = false ∧ ∀ t, (rmF R l).cy t ≠ 900)
  | [], _, _, _, h => h
  | s :: l, R, hf, ho, h => by
    show (rmF (nxt R s) l).ov 900 = false ∧ _
    refine fresh_room l (nxt R s) (fun x hx => hf x (by simp [hx])) (fun x hx => ho x (by simp [hx])) ?_
    have h9 := (hf s (by simp)).1
    have hc := (ho s (by simp)).2.1
    unfold n3 at hc
    have hov : ∀ b, upd R.ov s.cyc.toNat b 900 = false := fun b => by rw [upd_other _ (by omega)]; exact h.1
    have hcy : ∀ t, upd R.cy s.tray.toNat s.cyc t ≠ 900 := fun t => by
      unfold upd; split
      · exact h9
      · exact h.2 t
    unfold nxt
    repeat' split
    all_goals first | exact h | exact ⟨h.1, hcy⟩ | exact ⟨hov _, h.2⟩
def wash1 : Stp := ⟨1, 1, 0, 0⟩
def load1 : Stp := ⟨2, 1, 900, 0⟩
def pass1 : Stp := ⟨3, 0, 900, 0⟩
def use1 : Stp := ⟨5, 1, 0, 77⟩
theorem ok1 : StOk wash1 ∧ StOk load1 ∧ StOk pass1 ∧ StOk use1 := by
  refine ⟨?_, ?_, ?_, ?_⟩ <;> simp [StOk, n3, wash1, load1, pass1, use1]
theorem again_ok {l m : List Stp} (h : ssB l = true) (hl : l.length ≤ 900) (hm : m.length ≤ 4) (hmo : ∀ x ∈ m, StOk x) : ssB (l ++ m) = true := by
  have hok := of_ssB h
  refine ssB_true ⟨by rw [List.length_append]; omega, fun x hx => ?_⟩
  rcases List.mem_append.1 hx with q | q
  · exact hok.2 x q
  · exact hmo x q
theorem state_at {l : List Stp} (h : ssB l = true) : trayState l 1 = (rmF rm0 l).st 1 := by
  unfold trayState
  rw [if_pos ⟨h, by omega, by omega⟩]
  rfl
theorem again_room {l : List Stp} (h : ssB l = true) (hf : Fresh l) (hs : trayState l 1 ≠ 2) :
    (rmF rm0 (l ++ [wash1])).st 1 = 1 ∧ (rmF rm0 (l ++ [wash1, load1, pass1])).st 1 = 3 ∧ (rmF rm0 (l ++ [wash1, load1, pass1])).cy 1 = 900 ∧ (rmF rm0 (l ++ [wash1, load1, pass1, use1])).st 1 = 0 := by
  rw [state_at h] at hs
  have hr := fresh_room l rm0 hf (of_ssB h).2 ⟨rfl, fun t => by simp [rm0]⟩
  have e1 : rmF rm0 (l ++ [wash1]) = nxt (rmF rm0 l) wash1 := by simp [rmF]
  have e2 : rmF rm0 (l ++ [wash1, load1, pass1]) = nxt (nxt (nxt (rmF rm0 l) wash1) load1) pass1 := by simp [rmF]
  have e3 : rmF rm0 (l ++ [wash1, load1, pass1, use1]) = nxt (nxt (nxt (nxt (rmF rm0 l) wash1) load1) pass1) use1 := by simp [rmF]
  rw [e1, e2, e3]
  generalize rmF rm0 l = R at *
  have n1 : nxt R wash1 = ⟨upd R.st 1 1, R.cy, R.ov⟩ := by simp [nxt, wash1, hs]
  have n2 : nxt ⟨upd R.st 1 1, R.cy, R.ov⟩ load1 = ⟨upd (upd R.st 1 1) 1 2, upd R.cy 1 900, R.ov⟩ := by simp [nxt, load1, upd, hr.1]
  have hany : anyC ⟨upd (upd R.st 1 1) 1 2, upd R.cy 1 900, R.ov⟩ 900 1000 = true := anyC_iff.2 ⟨1, by omega, by simp [inC, upd]⟩
  have n3 : nxt ⟨upd (upd R.st 1 1) 1 2, upd R.cy 1 900, R.ov⟩ pass1 = ⟨ends ⟨upd (upd R.st 1 1) 1 2, upd R.cy 1 900, R.ov⟩ 900 3 1000, upd R.cy 1 900, upd R.ov 900 true⟩ := by
    simp [nxt, pass1, hany]
  have s3 : ends ⟨upd (upd R.st 1 1) 1 2, upd R.cy 1 900, R.ov⟩ 900 3 1000 1 = 3 := by simp [ends, inC, upd]
  rw [n1, n2, n3]
  refine ⟨upd_same R.st 1 1, s3, upd_same R.cy 1 900, ?_⟩
  simp [nxt, use1, s3, upd]
theorem again_state1 {l : List Stp} (h : ssB l = true) (hl : l.length ≤ 900) (hf : Fresh l) (hs : trayState l 1 ≠ 2) : trayState (l ++ [wash1]) 1 = 1 := by
  rw [state_at (again_ok h hl (by simp) (by simp [ok1]))]
  exact (again_room h hf hs).1
theorem again_state3 {l : List Stp} (h : ssB l = true) (hl : l.length ≤ 900) (hf : Fresh l) (hs : trayState l 1 ≠ 2) : trayState (l ++ [wash1, load1, pass1]) 1 = 3 := by
  rw [state_at (again_ok h hl (by simp) (by simp [ok1]))]
  exact (again_room h hf hs).2.1
theorem again_ok4 {l : List Stp} (h : ssB l = true) (hl : l.length ≤ 900) : ssB (l ++ [wash1, load1, pass1, use1]) = true := again_ok h hl (by simp) (by simp [ok1])
theorem again_state4 {l : List Stp} (h : ssB l = true) (hl : l.length ≤ 900) (hf : Fresh l) (hs : trayState l 1 ≠ 2) : trayState (l ++ [wash1, load1, pass1, use1]) 1 = 0 := by
  rw [state_at (again_ok4 h hl)]
  exact (again_room h hf hs).2.2.2
/-- Of the uses in what was made of l none but the last is of the cycle 900, none but the last on the person 77. -/
theorem again_uses {l : List Stp} (h : ssB l = true) (hl : l.length ≤ 900) (hf : Fresh l) (hs : trayState l 1 ≠ 2) (u : Us) : (u ∈ uses (l ++ [wash1, load1, pass1, use1]) ∧ (u.cyc = 900 ∨ u.per = 77)) ↔ u = ⟨l.length + 3, 900, 77⟩ := by
  have hok := again_ok4 h hl
  have hr := again_room h hf hs
  have e3 : (l ++ [wash1, load1, pass1, use1])[l.length + 3]? = some use1 := by simp
  have t3 : rAt (l ++ [wash1, load1, pass1, use1]) (l.length + 3) = rmF rm0 (l ++ [wash1, load1, pass1]) := by
    unfold rAt
    rw [List.take_append, List.take_of_length_le (show l.length ≤ l.length + 3 from by omega)]
    simp
  have hu3 : isUse (rAt (l ++ [wash1, load1, pass1, use1]) (l.length + 3)) use1 := by
    rw [t3]; exact ⟨rfl, hr.2.1⟩
  have c3 : (rAt (l ++ [wash1, load1, pass1, use1]) (l.length + 3)).cy use1.tray.toNat = 900 := by rw [t3]; exact hr.2.2.1
  unfold uses
  rw [if_pos hok]
  constructor
  · rintro ⟨hu, hc⟩
    obtain ⟨j, x, h1, h2, h3, h4⟩ := usesTo_mem hu
    by_cases hj : j < l.length
    · exfalso
      rw [List.getElem?_append_left hj] at h2
      have hxl := List.mem_of_getElem? h2
      have hfx := hf x hxl
      have ht : rAt (l ++ [wash1, load1, pass1, use1]) j = rAt l j := by
        unfold rAt
        rw [List.take_append_of_le_length (by omega)]
      rw [ht] at h4
      have hcy := (fresh_room (l.take j) rm0 (fun y hy => hf y (List.mem_of_mem_take hy)) (fun y hy => (of_ssB h).2 y (List.mem_of_mem_take hy)) ⟨rfl, fun t => by simp [rm0]⟩).2 x.tray.toNat
      subst h4
      rcases hc with hc | hc
      · exact hcy hc
      · exact hfx.2 hc
    · rw [List.getElem?_append_right (by omega)] at h2
      have h1' : j - l.length < 4 := by simp at h1; omega
      obtain ⟨d, hd⟩ : ∃ d, j = l.length + d := ⟨j - l.length, by omega⟩
      subst hd
      rw [show l.length + d - l.length = d from by omega] at h2 h1'
      have hd : d = 0 ∨ d = 1 ∨ d = 2 ∨ d = 3 := by omega
      rcases hd with rfl | rfl | rfl | rfl
      · obtain rfl : wash1 = x := by simpa using h2
        exact absurd h3.1 (by decide)
      · obtain rfl : load1 = x := by simpa using h2
        exact absurd h3.1 (by decide)
      · obtain rfl : pass1 = x := by simpa using h2
        exact absurd h3.1 (by decide)
      · obtain rfl : use1 = x := by simpa using h2
        rw [c3] at h4
        rw [h4]; simp [use1]
  · rintro rfl
    have := usesTo_of e3 hu3 (l ++ [wash1, load1, pass1, use1]).length (by simp)
    rw [c3] at this
    exact ⟨by simpa [use1] using this, Or.inl rfl⟩
theorem again_touched {l : List Stp} (h : ssB l = true) (hl : l.length ≤ 900) (hf : Fresh l) (hs : trayState l 1 ≠ 2) : touched (l ++ [wash1, load1, pass1, use1]) 900 = [77] := by
  rw [touched_rise]
  refine incr_ext _ _ (rise_inv _).1 (by simp) fun p => ?_
  rw [(rise_inv _).2]
  unfold persL
  simp only [List.mem_map, List.mem_filter, decide_eq_true_eq, List.mem_singleton]
  constructor
  · rintro ⟨u, ⟨hu, e1⟩, e2⟩
    have := (again_uses h hl hf hs u).1 ⟨hu, Or.inl e1⟩
    rw [← e2, this]
  · rintro rfl
    have := (again_uses h hl hf hs ⟨l.length + 3, 900, 77⟩).2 rfl
    exact ⟨_, ⟨this.1, rfl⟩, rfl⟩
theorem again_cycles {l : List Stp} (h : ssB l = true) (hl : l.length ≤ 900) (hf : Fresh l) (hs : trayState l 1 ≠ 2) : cyclesOn (l ++ [wash1, load1, pass1, use1]) 77 = [900] := by
  rw [cyclesOn_rise]
  refine incr_ext _ _ (rise_inv _).1 (by simp) fun p => ?_
  rw [(rise_inv _).2]
  unfold cycsL
  simp only [List.mem_map, List.mem_filter, decide_eq_true_eq, List.mem_singleton]
  constructor
  · rintro ⟨u, ⟨hu, e1⟩, e2⟩
    have := (again_uses h hl hf hs u).1 ⟨hu, Or.inr e1⟩
    rw [← e2, this]
  · rintro rfl
    have := (again_uses h hl hf hs ⟨l.length + 3, 900, 77⟩).2 rfl
    exact ⟨_, ⟨this.1, rfl⟩, rfl⟩
end Go.Proofs.Ytklgadaefngnnaa.Wa
