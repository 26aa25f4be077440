/-
  Blocks renamed: a goroutine's own step beside its renamed one: the moves of control.
-/
import Derived.Test.YtdjnnhdeijnhgabMw8
namespace Go.Proofs.Ytdjnnhdeijnhgab.Rn
open Go Go.Conc
set_option linter.all false

section
variable {P : Program} {Dd : Nat → Prop} {f : Nat → Nat} {A : Nat → Prop} {k : List Item} {cc : List Frame} {cs cs2 lb : List Frame} {wl wl2 wc : World} {fr fr2 : Frame} {es : Array Event}
/-- A move of control: both take it, whatever the world. -/
theorem sim_move {fr' : Frame} (hW : WR Dd f wl wc) (hl : ∀ w, stepG P true (G fr (cs ++ lb)) w = .go (G fr' (cs ++ lb)) w #[]) (hc : ∀ w, stepG P true (renG f k cc fr cs) w = .go (renG f k cc fr' cs) w #[]) (ho : ∀ w, ownW P (top f (kk k cs) fr) w = w)
    (hok : FrOk P A fr') (hcs : ∀ x ∈ cs, FrOk P A x ∧ x.mode = .run ∧ x.todo ≠ []) (hm : fr'.mode = .run ∨ fr'.mode = .returning)
    (h : stepG P true (G fr (cs ++ lb)) wl = .go (G fr2 cs2) wl2 es) : ∃ cs3, cs2 = cs3 ++ lb ∧ Out P A Dd f k cc fr cs wl wc fr2 cs3 wl2 := by
  rw [hl] at h
  simp only [G, GStep.go.injEq, Goroutine.mk.injEq] at h
  obtain ⟨⟨rfl, rfl, -⟩, rfl, rfl⟩ := h
  exact ⟨cs, rfl, out_move hW (hc wc) (ho wc) hok hcs hm⟩
theorem sim_run (hC : Closed P f) (hX : Fix P Dd f) (hP : Prg P A) (hm : fr.mode = .run) (hfr : FrOk P A fr) (hcs : ∀ x ∈ cs, FrOk P A x ∧ x.mode = .run ∧ x.todo ≠ []) (hnf : fr.todo = [] → cs = [] → k = [])
    (h : stepG P true (G fr (cs ++ lb)) wl = .go (G fr2 cs2) wl2 es) (hg : ∀ ch, fr2.mode ≠ .panicking ch) (hW : WR Dd f wl wc)
    (hF : Fits f wl wc (ownW P (top f (kk k cs) fr) wc).drawn (ownW P (top f (kk k cs) fr) wc).heap.size) : ∃ cs3, cs2 = cs3 ++ lb ∧ Out P A Dd f k cc fr cs wl wc fr2 cs3 wl2 := by
  have hfr0 := hfr
  obtain ⟨fn, tmps, todo, defers, mode, kind, ro⟩ := fr
  obtain ⟨h1, h2, h3, h4⟩ := hfr
  simp only at hm h1 h2 h3 h4 hnf
  subst hm h2 h3 h4
  have put : ∀ t' : List Item, (∀ it ∈ t', ItP P A it) → FrOk P A { fn := fn, tmps := tmps, todo := t', defers := [], mode := .run, kind := .normal } := fun t' ht => ⟨ht, rfl, rfl, rfl⟩
  cases todo with
  | nil =>
    have hk0 : kk k cs = [] := by
      cases cs with
      | nil => exact hnf rfl rfl
      | cons x xs => rfl
    refine sim_move (fr' := { fn := fn, tmps := tmps, todo := [], defers := [], mode := .returning, kind := .normal }) hW (fun w => by simp [G, stepG, stepG.exec]) (fun w => ?_) (fun w => ?_) ⟨h1, rfl, rfl, rfl⟩ hcs (Or.inr rfl) h
    · unfold renG top
      rw [hk0]
      simp [G, stepG, stepG.exec]
    · unfold ownW top
      rw [hk0]
      rfl
  | cons it tl =>
    have htl : ∀ x ∈ tl, ItP P A x := fun x hx => h1 x (by simp [hx])
    have hit := h1 it (by simp)
    cases it with
    | inBlock id =>
      exact sim_move (fr' := { fn := fn, tmps := tmps, todo := tl, defers := [], mode := .run, kind := .normal }) hW (fun w => by simp [G, stepG, stepG.exec]) (fun w => by simp [renG, top, G, stepG, stepG.exec]) (fun w => by simp [ownW, top]) (put _ htl) hcs (Or.inl rfl) h
    | inLoop c =>
      exact sim_move (fr' := { fn := fn, tmps := tmps, todo := .code c :: .inLoop c :: tl, defers := [], mode := .run, kind := .normal }) hW (fun w => by simp [G, stepG, stepG.exec]) (fun w => by simp [renG, top, G, stepG, stepG.exec]) (fun w => by simp [ownW, top]) (put _ (by
        intro x hx
        simp only [List.mem_cons] at hx
        rcases hx with rfl | rfl | hx
        · exact hit
        · exact hit
        · exact htl x hx)) hcs (Or.inl rfl) h
    | inRegion ops l =>
      cases l with
      | nil => exact sim_move (fr' := { fn := fn, tmps := tmps, todo := tl, defers := [], mode := .run, kind := .normal }) hW (fun w => by simp [G, stepG, stepG.exec]) (fun w => by simp [renG, top, G, stepG, stepG.exec]) (fun w => by simp [ownW, top]) (put _ htl) hcs (Or.inl rfl) h
      | cons i l =>
        cases hw : ((ops[i]?).map (Region.wanted · (yielded ops tmps))).getD false with
        | false =>
          have hw' : ((ops[i]?).map (Region.wanted · (yielded ops (tmps.map (rV f))))).getD false = false := by rw [yielded_ren]; exact hw
          refine sim_move (fr' := ({ fn := fn, tmps := tmps, todo := .inRegion ops (i :: l) :: tl, defers := [], mode := .run, kind := .normal } : Frame).finish undef) hW (fun w => by simp [G, stepG, stepG.exec, hw]) (fun w => ?_) (fun w => by simp [ownW, top, hw']) (finish_ok _ hfr0) hcs (Or.inl (finish_mode _ _).1) h
          have e := finish_ren (f := f) ({ fn := fn, tmps := tmps, todo := .inRegion ops (i :: l) :: tl, defers := [], mode := .run, kind := .normal } : Frame) (kk k cs) undef h1 (Or.inl (by simp))
          rw [rV_undef] at e
          unfold renG
          rw [← e]
          simp [top, G, stepG, stepG.exec, hw']
        | true =>
          cases ho : ops[i]? with
          | none => rw [ho] at hw; simp at hw
          | some o =>
            rw [ho] at hw
            exact sim_op hC hX hP (o := o) ⟨rfl, rfl, rfl, ops, i, l, tl, rfl, ho, by simpa using hw⟩ hfr0 hcs h hg hW hF
    | code c =>
      cases c with
      | skip => exact sim_move (fr' := { fn := fn, tmps := tmps, todo := tl, defers := [], mode := .run, kind := .normal }) hW (fun w => by simp [G, stepG, stepG.exec]) (fun w => by simp [renG, top, G, stepG, stepG.exec]) (fun w => by simp [ownW, top]) (put _ htl) hcs (Or.inl rfl) h
      | ret => exact sim_move (fr' := { fn := fn, tmps := tmps, todo := .code .ret :: tl, defers := [], mode := .returning, kind := .normal }) hW (fun w => by simp [G, stepG, stepG.exec]) (fun w => by simp [renG, top, G, stepG, stepG.exec]) (fun w => by simp [ownW, top]) ⟨h1, rfl, rfl, rfl⟩ hcs (Or.inr rfl) h
      | seq a b =>
        refine sim_move (fr' := { fn := fn, tmps := tmps, todo := .code a :: .code b :: tl, defers := [], mode := .run, kind := .normal }) hW (fun w => by simp [G, stepG, stepG.exec]) (fun w => by simp [renG, top, G, stepG, stepG.exec]) (fun w => by simp [ownW, top]) (put _ ?_) hcs (Or.inl rfl) h
        intro x hx
        simp only [List.mem_cons] at hx
        rcases hx with rfl | rfl | hx
        · exact hit.1
        · exact hit.2
        · exact htl x hx
      | block id a =>
        refine sim_move (fr' := { fn := fn, tmps := tmps, todo := .code a :: .inBlock id :: tl, defers := [], mode := .run, kind := .normal }) hW (fun w => by simp [G, stepG, stepG.exec]) (fun w => by simp [renG, top, G, stepG, stepG.exec]) (fun w => by simp [ownW, top]) (put _ ?_) hcs (Or.inl rfl) h
        intro x hx
        simp only [List.mem_cons] at hx
        rcases hx with rfl | rfl | hx
        · exact hit
        · exact trivial
        · exact htl x hx
      | loop a =>
        refine sim_move (fr' := { fn := fn, tmps := tmps, todo := .code a :: .inLoop a :: tl, defers := [], mode := .run, kind := .normal }) hW (fun w => by simp [G, stepG, stepG.exec]) (fun w => by simp [renG, top, G, stepG, stepG.exec]) (fun w => by simp [ownW, top]) (put _ ?_) hcs (Or.inl rfl) h
        intro x hx
        simp only [List.mem_cons] at hx
        rcases hx with rfl | rfl | hx
        · exact hit
        · exact hit
        · exact htl x hx
      | cond c a b =>
        have he := eval_ren (f := f) ({ fn := fn, tmps := tmps, todo := .code (.cond c a b) :: tl, defers := [], mode := .run, kind := .normal } : Frame) (kk k cs) c hit.1
        cases hv : ({ fn := fn, tmps := tmps, todo := .code (.cond c a b) :: tl, defers := [], mode := .run, kind := .normal } : Frame).eval c with
        | bool t =>
          rw [hv, rV_bool] at he
          refine sim_move (fr' := { fn := fn, tmps := tmps, todo := .code (if t then a else b) :: tl, defers := [], mode := .run, kind := .normal }) hW (fun w => by simp [G, stepG, stepG.exec, hv]) (fun w => ?_) (fun w => by simp [ownW, top]) (put _ ?_) hcs (Or.inl rfl) h
          · have he2 : ({ fn := fn, tmps := tmps.map (rV f), todo := .code (.cond c a b) :: (tl ++ kk k cs), defers := [], mode := .run, kind := .normal } : Frame).eval c = .bool t := he
            simp [renG, top, G, stepG, stepG.exec, he2]
          · intro x hx
            simp only [List.mem_cons] at hx
            rcases hx with rfl | hx
            · cases t
              · exact hit.2.2
              · exact hit.2.1
            · exact htl x hx
        | _ => simp [G, stepG, stepG.exec, hv] at h
      | exit id =>
        cases hx : exitTo id tl with
        | none => simp [G, stepG, stepG.exec, hx] at h
        | some t' =>
          have hx2 := exitTo_app id tl (kk k cs) t' hx
          exact sim_move (fr' := { fn := fn, tmps := tmps, todo := t', defers := [], mode := .run, kind := .normal }) hW (fun w => by simp [G, stepG, stepG.exec, hx]) (fun w => by simp [renG, top, G, stepG, stepG.exec, hx2]) (fun w => by simp [ownW, top]) (put _ fun x hx' => htl x (exitTo_mem hx x hx')) hcs (Or.inl rfl) h
      | refuse why => simp [G, stepG, stepG.exec] at h
      | region id ops d =>
        cases d with
        | false =>
          refine sim_move (fr' := { fn := fn, tmps := tmps, todo := .inRegion ops (List.range ops.size) :: tl, defers := [], mode := .run, kind := .normal }) hW (fun w => by simp [G, stepG, stepG.exec]) (fun w => by simp [renG, top, G, stepG, stepG.exec]) (fun w => by simp [ownW, top]) (put _ ?_) hcs (Or.inl rfl) h
          intro x hx
          simp only [List.mem_cons] at hx
          rcases hx with rfl | hx
          · exact hit
          · exact htl x hx
        | true =>
          have hs := Sm.choose (P := P) (Dd := Dd) (f := f) (q := .order fn id)
          have how : ∀ w, ownW P (top f (kk k cs) { fn := fn, tmps := tmps, todo := .code (.region id ops true) :: tl, defers := [], mode := .run, kind := .normal }) w = resW ((choose (.order fn id)).runT P w #[]).1 := fun w => by simp [ownW, top]
          rw [how] at hF
          cases hr : (choose (.order fn id)).runT P wl #[] with
          | mk r es0 =>
            have hr1 : (choose (.order fn id)).run P wl = r := by rw [← Sem.runT_fst P _ wl #[], hr]
            cases r with
            | halt x w => simp [G, stepG, stepG.exec, hr1] at h
            | ok t w1 =>
              obtain ⟨t', wc', es', q1, q2, q3, q4⟩ := hs wl wc _ _ #[] #[] hW hF (Nat.le_refl _) (Nat.le_refl _) t w1 es0 hr
              subst q2
              have q11 : (choose (.order fn id)).run P wc = .ok t wc' := by rw [← Sem.runT_fst P _ wc #[], q1]
              have e : stepG P true (G { fn := fn, tmps := tmps, todo := .code (.region id ops true) :: tl, defers := [], mode := .run, kind := .normal } (cs ++ lb)) wl = .go (G { fn := fn, tmps := tmps, todo := .inRegion ops (Region.schedule (P.follows .mixedOrders) ops t) :: tl, defers := [], mode := .run, kind := .normal } (cs ++ lb)) w1 #[] := by
                simp [G, stepG, stepG.exec, hr1]
              rw [e] at h
              simp only [G, GStep.go.injEq, Goroutine.mk.injEq] at h
              obtain ⟨⟨rfl, rfl, -⟩, rfl, rfl⟩ := h
              refine ⟨cs, rfl, wc', #[], ?_, ?_, q3, q4.sub (fun e he => by simp at he), put _ ?_, hcs, Or.inl rfl⟩
              · simp [renG, top, G, stepG, stepG.exec, q11]
              · rw [how, q1]; rfl
              · intro x hx
                simp only [List.mem_cons] at hx
                rcases hx with rfl | hx
                · exact hit
                · exact htl x hx
      | _ => exact hit.elim
    | _ => exact hit.elim
/-- ONE STEP. -/
theorem sim_step (hC : Closed P f) (hX : Fix P Dd f) (hP : Prg P A) (hm : fr.mode = .run ∨ fr.mode = .returning) (hfr : FrOk P A fr) (hcs : ∀ x ∈ cs, FrOk P A x ∧ x.mode = .run ∧ x.todo ≠ []) (hnf : fr.mode = .run → fr.todo = [] → cs = [] → k = []) (hne : fr.mode = .returning → cs ≠ [])
    (h : stepG P true (G fr (cs ++ lb)) wl = .go (G fr2 cs2) wl2 es) (hg : ∀ ch, fr2.mode ≠ .panicking ch) (hW : WR Dd f wl wc)
    (hF : Fits f wl wc (ownW P (top f (kk k cs) fr) wc).drawn (ownW P (top f (kk k cs) fr) wc).heap.size) : ∃ cs3, cs2 = cs3 ++ lb ∧ Out P A Dd f k cc fr cs wl wc fr2 cs3 wl2 := by
  rcases hm with hm | hm
  · exact sim_run hC hX hP hm hfr hcs (hnf hm) h hg hW hF
  · exact sim_ret hP hm hfr hcs (hne hm) h hW hF
end
end Go.Proofs.Ytdjnnhdeijnhgab.Rn
