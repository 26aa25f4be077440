/-
  Blocks renamed: a goroutine's own step beside its renamed one.
-/
import Derived.Test.YtdjnnhdeijnhgabMq10
import Derived.DyingOn
namespace Go.Proofs.Ytdjnnhdeijnhgab.Rn
open Go Go.Conc
set_option linter.all false

section
variable {P : Program} {Dd : Nat → Prop} {f : Nat → Nat} {A : Nat → Prop} {k : List Item} {cc : List Frame} {cs cs2 lb : List Frame} {wl wl2 wc : World} {fr fr2 : Frame} {es : Array Event}
theorem top_at {k : List Item} {o : Oper} (h : AtOp fr o) : AtOp (top f k fr) o := by
  obtain ⟨h1, h2, h3, ops, i, rest, tl, h4, h5, h6⟩ := h
  refine ⟨h1, h2, h3, ops, i, rest, tl ++ k, ?_, h5, ?_⟩
  · show fr.todo ++ k = _
    rw [h4]; rfl
  · show Region.wanted o (yielded ops (fr.tmps.map (rV f))) = true
    rw [yielded_ren]; exact h6
theorem ownW_at {o : Oper} (h : AtOp fr o) (w : World) : ownW P fr w = resW ((execOp fr.eval o).runT P w #[]).1 := by
  obtain ⟨h1, h2, h3, ops, i, rest, tl, h4, h5, h6⟩ := h
  unfold ownW
  simp [h1, h4, h5, h6]
theorem finish_at {k : List Item} {o : Oper} (h : AtOp fr o) (hok : FrOk P A fr) (v : Value) : (top f k fr).finish (rV f v) = top f k (fr.finish v) := by
  obtain ⟨h1, h2, h3, ops, i, rest, tl, h4, h5, h6⟩ := h
  exact finish_ren fr k v hok.todo (Or.inl (by rw [h4]; simp))
/-- The frame's operation is one that is served. -/
theorem op_of {o : Oper} (h : AtOp fr o) (hok : FrOk P A fr) : OpP P A o.op := by
  obtain ⟨h1, h2, h3, ops, i, rest, tl, h4, h5, h6⟩ := h
  have := hok.todo (.inRegion ops (i :: rest)) (by rw [h4]; simp)
  exact this o (Array.mem_of_getElem? h5)
theorem sim_op (hC : Closed P f) (hX : Fix P Dd f) (hP : Prg P A) {o : Oper} (ho : AtOp fr o) (hfr : FrOk P A fr) (hcs : ∀ x ∈ cs, FrOk P A x ∧ x.mode = .run ∧ x.todo ≠ [])
    (h : stepG P true (G fr (cs ++ lb)) wl = .go (G fr2 cs2) wl2 es) (hg : ∀ ch, fr2.mode ≠ .panicking ch) (hW : WR Dd f wl wc)
    (hF : Fits f wl wc (ownW P (top f (kk k cs) fr) wc).drawn (ownW P (top f (kk k cs) fr) wc).heap.size) : ∃ cs3, cs2 = cs3 ++ lb ∧ Out P A Dd f k cc fr cs wl wc fr2 cs3 wl2 := by
  have ho' := top_at (f := f) (k := kk k cs) ho
  have hs := sm_exec (P := P) (Dd := Dd) (f := f) (A := A) hC hX (eval_ren fr (kk k cs)) (fun g => rfl) o (op_of ho hfr)
  cases hr : (execOp fr.eval o).runT P wl #[] with
  | mk r es0 =>
    cases r with
    | halt x w => exact absurd h (step_halt ho hP.ahead hP.steps hr hg)
    | ok n w1 =>
      rw [ownW_at ho'] at hF
      obtain ⟨n', wc', es', h1, h2, h3, h4⟩ := hs wl wc _ _ #[] #[] hW hF (Nat.le_refl _) (Nat.le_refl _) n w1 es0 hr
      rw [Array.empty_append] at h1
      have how : ownW P (top f (kk k cs) fr) wc = wc' := by rw [ownW_at ho', h1]; rfl
      have hlat : Later f wl wc w1 wc' (seen P fr.fn es') := h4.sub fun e he => seen_mem he
      cases n with
      | value v =>
        cases n' with
        | value v' =>
          have h2 : v' = rV f v := h2
          subst h2
          rw [step_value ho hr] at h
          simp only [G, GStep.go.injEq, Goroutine.mk.injEq] at h
          obtain ⟨⟨rfl, rfl, -⟩, rfl, rfl⟩ := h
          refine ⟨cs, rfl, wc', seen P fr.fn es', ?_, how.symm, h3, hlat, finish_ok v hfr, hcs, ?_⟩
          · have := step_value (cs := renS f k cc cs) ho' h1
            rw [finish_at ho hfr] at this
            exact this
          · rw [(finish_mode fr v).1]; exact Or.inl ho.mode
        | _ => exact h2.elim
      | skip =>
        cases n' with
        | skip =>
          rw [step_skip2 ho hr] at h
          simp only [G, GStep.go.injEq, Goroutine.mk.injEq] at h
          obtain ⟨⟨rfl, rfl, -⟩, rfl, rfl⟩ := h
          refine ⟨cs, rfl, wc', seen P fr.fn es', ?_, how.symm, h3, hlat, finish_ok _ hfr, hcs, ?_⟩
          · have := step_skip2 (cs := renS f k cc cs) ho' h1
            rw [← rV_undef f, finish_at ho hfr] at this
            exact this
          · rw [(finish_mode fr _).1]; exact Or.inl ho.mode
        | _ => exact h2.elim
      | enter g args =>
        cases n' with
        | enter g' args' =>
          obtain ⟨rfl, rfl, hA⟩ : g' = g ∧ args' = args.map (rV f) ∧ A g := h2
          rw [step_enter ho hr] at h
          simp only [G, GStep.go.injEq, Goroutine.mk.injEq] at h
          obtain ⟨⟨rfl, rfl, -⟩, rfl, rfl⟩ := h
          refine ⟨fr :: cs, rfl, wc', seen P fr.fn es', ?_, how.symm, h3, hlat, ⟨?_, rfl, rfl, rfl⟩, ?_, Or.inl rfl⟩
          · have := step_enter (cs := renS f k cc cs) ho' h1
            rw [enter_ren] at this
            exact this
          · intro it hit
            simp only [Frame.enter, List.mem_singleton] at hit
            subst hit
            cases hf : P.funcs[g']? with
            | none => exact trivial
            | some fn =>
              cases hb : fn.body with
              | none => simp [hb]; exact trivial
              | some c =>
                have hcc := hP.body g' hA fn hf c hb
                show CodeP P A _
                simpa [hb] using hcc
          · intro x hx
            rcases List.mem_cons.1 hx with rfl | hx
            · obtain ⟨ops, i, rest, tl, q4, q5, q6⟩ := ho.todo
              exact ⟨hfr, ho.mode, by rw [q4]; simp⟩
            · exact hcs x hx
        | _ => exact h2.elim
      | _ => cases n' <;> exact h2.elim
theorem sim_ret (hP : Prg P A) (hm : fr.mode = .returning) (hfr : FrOk P A fr) (hcs : ∀ x ∈ cs, FrOk P A x ∧ x.mode = .run ∧ x.todo ≠ []) (hne : cs ≠ [])
    (h : stepG P true (G fr (cs ++ lb)) wl = .go (G fr2 cs2) wl2 es) (hW : WR Dd f wl wc)
    (hF : Fits f wl wc (ownW P (top f (kk k cs) fr) wc).drawn (ownW P (top f (kk k cs) fr) wc).heap.size) : ∃ cs3, cs2 = cs3 ++ lb ∧ Out P A Dd f k cc fr cs wl wc fr2 cs3 wl2 := by
  cases cs with
  | nil => exact absurd rfl hne
  | cons c cs =>
    have hc := hcs c (by simp)
    have hcn := hc.2.2
    have fin : ∀ v, (top f (kk k cs) c).finish (rV f v) = top f (kk k cs) (c.finish v) := fun v => finish_ren c _ v hc.1.todo (Or.inl hcn)
    have hm' : (top f (kk k (c :: cs)) fr).mode = .returning := hm
    cases hf : P.funcs[fr.fn]? with
    | none =>
      rw [List.cons_append, step_ret_none hm hfr.defers hfr.kind hf] at h
      simp only [G, GStep.go.injEq, Goroutine.mk.injEq] at h
      obtain ⟨⟨rfl, rfl, -⟩, rfl, rfl⟩ := h
      refine ⟨cs, rfl, wc, #[], ?_, ?_, hW, Later.refl _ _ _, finish_ok _ hc.1, fun x hx => hcs x (by simp [hx]), ?_⟩
      · have := step_ret_none (P := P) (fr := top f (kk k (c :: cs)) fr) (c := top f (kk k cs) c) (cs := renS f k cc cs) (w := wc) hm hfr.defers hfr.kind hf
        have e : (top f (kk k (c :: cs)) fr).tmps.getD 0 undef = rV f (fr.tmps.getD 0 undef) := getD_ren _ _
        rw [e, fin] at this
        exact this
      · unfold ownW
        rw [hm']
        show wc = (match P.funcs[fr.fn]? with | some fn => _ | none => wc)
        rw [hf]
      · rw [(finish_mode c _).1]; exact Or.inl hc.2.1
    | some fn =>
      cases hr : (results fn fr.tmps).runT P wl #[] with
      | mk r es0 =>
        cases r with
        | halt x w => exact absurd h (step_ret_halt hm hfr.defers hf hr)
        | ok v w1 =>
          have how0 : ownW P (top f (kk k (c :: cs)) fr) wc = resW ((results fn (fr.tmps.map (rV f))).runT P wc #[]).1 := by
            unfold ownW
            rw [hm']
            show (match P.funcs[fr.fn]? with | some fn => resW ((results fn (fr.tmps.map (rV f))).runT P wc #[]).1 | none => wc) = _
            rw [hf]
          rw [how0] at hF
          obtain ⟨v', wc', es', h1, h2, h3, h4⟩ := sm_results (P := P) (Dd := Dd) (f := f) fn fr.tmps wl wc _ _ #[] #[] hW hF (Nat.le_refl _) (Nat.le_refl _) v w1 es0 hr
          have h2 : v' = rV f v := h2
          subst h2
          rw [Array.empty_append] at h1
          rw [List.cons_append, step_ret hm hfr.defers hfr.kind hf hr] at h
          simp only [G, GStep.go.injEq, Goroutine.mk.injEq] at h
          obtain ⟨⟨rfl, rfl, -⟩, rfl, rfl⟩ := h
          refine ⟨cs, rfl, wc', seen P fr.fn es', ?_, ?_, h3, h4.sub fun e he => seen_mem he, finish_ok _ hc.1, fun x hx => hcs x (by simp [hx]), ?_⟩
          · have := step_ret (P := P) (fr := top f (kk k (c :: cs)) fr) (c := top f (kk k cs) c) (cs := renS f k cc cs) (w := wc) hm hfr.defers hfr.kind hf h1
            rw [fin] at this
            exact this
          · rw [how0, h1]; rfl
          · rw [(finish_mode c _).1]; exact Or.inl hc.2.1
end
end Go.Proofs.Ytdjnnhdeijnhgab.Rn

/-
  Blocks renamed: a goroutine's own step beside its renamed one: the moves of control.
-/
namespace Go.Proofs.Ytdjnnhdeijnhgab.Rn
open Go Go.Conc
set_option linter.all false

section
variable {P : Program} {Dd : Nat → Prop} {f : Nat → Nat} {A : Nat → Prop} {k : List Item} {cc : List Frame} {cs cs2 lb : List Frame} {wl wl2 wc : World} {fr fr2 : Frame} {es : Array Event}
/-- A move of control: both take it, whatever the world. -/
theorem sim_move {fr' : Frame} (hW : WR Dd f wl wc) (hl : ∀ w, stepG P true (G fr (cs ++ lb)) w = .go (G fr' (cs ++ lb)) w #[]) (hc : ∀ w, stepG P true (renG f k cc fr cs) w = .go (renG f k cc fr' cs) w #[]) (ho : ∀ w, ownW P (top f (kk k cs) fr) w = w)
    (hok : FrOk P A fr') (hcs : ∀ x ∈ cs, FrOk P A x ∧ x.mode = .run ∧ x.todo ≠ []) (hm : fr'.mode = .run ∨ fr'.mode = .returning)
    (h : stepG P true (G fr (cs ++ lb)) wl = .go (G fr2 cs2) wl2 es) : ∃ cs3, cs2 = cs3 ++ lb ∧ Out P A Dd f k cc fr cs wl wc fr2 cs3 wl2 := by
  rw [hl] at h
  simp only [G, GStep.go.injEq, Goroutine.mk.injEq] at h
  obtain ⟨⟨rfl, rfl, -⟩, rfl, rfl⟩ := h
  exact ⟨cs, rfl, out_move hW (hc wc) (ho wc) hok hcs hm⟩
theorem sim_run (hC : Closed P f) (hX : Fix P Dd f) (hP : Prg P A) (hm : fr.mode = .run) (hfr : FrOk P A fr) (hcs : ∀ x ∈ cs, FrOk P A x ∧ x.mode = .run ∧ x.todo ≠ []) (hnf : fr.todo = [] → cs = [] → k = [])
    (h : stepG P true (G fr (cs ++ lb)) wl = .go (G fr2 cs2) wl2 es) (hg : ∀ ch, fr2.mode ≠ .panicking ch) (hW : WR Dd f wl wc)
    (hF : Fits f wl wc (ownW P (top f (kk k cs) fr) wc).drawn (ownW P (top f (kk k cs) fr) wc).heap.size) : ∃ cs3, cs2 = cs3 ++ lb ∧ Out P A Dd f k cc fr cs wl wc fr2 cs3 wl2 := by
  have hfr0 := hfr
  obtain ⟨fn, tmps, todo, defers, mode, kind, ro⟩ := fr
  obtain ⟨h1, h2, h3, h4⟩ := hfr
  simp only at hm h1 h2 h3 h4 hnf
  subst hm h2 h3 h4
  have put : ∀ t' : List Item, (∀ it ∈ t', ItP P A it) → FrOk P A { fn := fn, tmps := tmps, todo := t', defers := [], mode := .run, kind := .normal } := fun t' ht => ⟨ht, rfl, rfl, rfl⟩
  cases todo with
  | nil =>
    have hk0 : kk k cs = [] := by
      cases cs with
      | nil => exact hnf rfl rfl
      | cons x xs => rfl
    refine sim_move (fr' := { fn := fn, tmps := tmps, todo := [], defers := [], mode := .returning, kind := .normal }) hW (fun w => by simp [G, stepG, stepG.exec]) (fun w => ?_) (fun w => ?_) ⟨h1, rfl, rfl, rfl⟩ hcs (Or.inr rfl) h
    · unfold renG top
      rw [hk0]
      simp [G, stepG, stepG.exec]
    · unfold ownW top
      rw [hk0]
      rfl
  | cons it tl =>
    have htl : ∀ x ∈ tl, ItP P A x := fun x hx => h1 x (by simp [hx])
    have hit := h1 it (by simp)
    cases it with
    | inBlock id =>
      exact sim_move (fr' := { fn := fn, tmps := tmps, todo := tl, defers := [], mode := .run, kind := .normal }) hW (fun w => by simp [G, stepG, stepG.exec]) (fun w => by simp [renG, top, G, stepG, stepG.exec]) (fun w => by simp [ownW, top]) (put _ htl) hcs (Or.inl rfl) h
    | inLoop c =>
      exact sim_move (fr' := { fn := fn, tmps := tmps, todo := .code c :: .inLoop c :: tl, defers := [], mode := .run, kind := .normal }) hW (fun w => by simp [G, stepG, stepG.exec]) (fun w => by simp [renG, top, G, stepG, stepG.exec]) (fun w => by simp [ownW, top]) (put _ (by
        intro x hx
        simp only [List.mem_cons] at hx
        rcases hx with rfl | rfl | hx
        · exact hit
        · exact hit
        · exact htl x hx)) hcs (Or.inl rfl) h
    | inRegion ops l =>
      cases l with
      | nil => exact sim_move (fr' := { fn := fn, tmps := tmps, todo := tl, defers := [], mode := .run, kind := .normal }) hW (fun w => by simp [G, stepG, stepG.exec]) (fun w => by simp [renG, top, G, stepG, stepG.exec]) (fun w => by simp [ownW, top]) (put _ htl) hcs (Or.inl rfl) h
      | cons i l =>
        cases hw : ((ops[i]?).map (Region.wanted · (yielded ops tmps))).getD false with
        | false =>
          have hw' : ((ops[i]?).map (Region.wanted · (yielded ops (tmps.map (rV f))))).getD false = false := by rw [yielded_ren]; exact hw
          refine sim_move (fr' := ({ fn := fn, tmps := tmps, todo := .inRegion ops (i :: l) :: tl, defers := [], mode := .run, kind := .normal } : Frame).finish undef) hW (fun w => by simp [G, stepG, stepG.exec, hw]) (fun w => ?_) (fun w => by simp [ownW, top, hw']) (finish_ok _ hfr0) hcs (Or.inl (finish_mode _ _).1) h
          have e := finish_ren (f := f) ({ fn := fn, tmps := tmps, todo := .inRegion ops (i :: l) :: tl, defers := [], mode := .run, kind := .normal } : Frame) (kk k cs) undef h1 (Or.inl (by simp))
          rw [rV_undef] at e
          unfold renG
          rw [← e]
          simp [top, G, stepG, stepG.exec, hw']
        | true =>
          cases ho : ops[i]? with
          | none => rw [ho] at hw; simp at hw
          | some o =>
            rw [ho] at hw
            exact sim_op hC hX hP (o := o) ⟨rfl, rfl, rfl, ops, i, l, tl, rfl, ho, by simpa using hw⟩ hfr0 hcs h hg hW hF
    | code c =>
      cases c with
      | skip => exact sim_move (fr' := { fn := fn, tmps := tmps, todo := tl, defers := [], mode := .run, kind := .normal }) hW (fun w => by simp [G, stepG, stepG.exec]) (fun w => by simp [renG, top, G, stepG, stepG.exec]) (fun w => by simp [ownW, top]) (put _ htl) hcs (Or.inl rfl) h
      | ret => exact sim_move (fr' := { fn := fn, tmps := tmps, todo := .code .ret :: tl, defers := [], mode := .returning, kind := .normal }) hW (fun w => by simp [G, stepG, stepG.exec]) (fun w => by simp [renG, top, G, stepG, stepG.exec]) (fun w => by simp [ownW, top]) ⟨h1, rfl, rfl, rfl⟩ hcs (Or.inr rfl) h
      | seq a b =>
        refine sim_move (fr' := { fn := fn, tmps := tmps, todo := .code a :: .code b :: tl, defers := [], mode := .run, kind := .normal }) hW (fun w => by simp [G, stepG, stepG.exec]) (fun w => by simp [renG, top, G, stepG, stepG.exec]) (fun w => by simp [ownW, top]) (put _ ?_) hcs (Or.inl rfl) h
        intro x hx
        simp only [List.mem_cons] at hx
        rcases hx with rfl | rfl | hx
        · exact hit.1
        · exact hit.2
        · exact htl x hx
      | block id a =>
        refine sim_move (fr' := { fn := fn, tmps := tmps, todo := .code a :: .inBlock id :: tl, defers := [], mode := .run, kind := .normal }) hW (fun w => by simp [G, stepG, stepG.exec]) (fun w => by simp [renG, top, G, stepG, stepG.exec]) (fun w => by simp [ownW, top]) (put _ ?_) hcs (Or.inl rfl) h
        intro x hx
        simp only [List.mem_cons] at hx
        rcases hx with rfl | rfl | hx
        · exact hit
        · exact trivial
        · exact htl x hx
      | loop a =>
        refine sim_move (fr' := { fn := fn, tmps := tmps, todo := .code a :: .inLoop a :: tl, defers := [], mode := .run, kind := .normal }) hW (fun w => by simp [G, stepG, stepG.exec]) (fun w => by simp [renG, top, G, stepG, stepG.exec]) (fun w => by simp [ownW, top]) (put _ ?_) hcs (Or.inl rfl) h
        intro x hx
        simp only [List.mem_cons] at hx
        rcases hx with rfl | rfl | hx
        · exact hit
        · exact hit
        · exact htl x hx
      | cond c a b =>
        have he := eval_ren (f := f) ({ fn := fn, tmps := tmps, todo := .code (.cond c a b) :: tl, defers := [], mode := .run, kind := .normal } : Frame) (kk k cs) c hit.1
        cases hv : ({ fn := fn, tmps := tmps, todo := .code (.cond c a b) :: tl, defers := [], mode := .run, kind := .normal } : Frame).eval c with
        | bool t =>
          rw [hv, rV_bool] at he
          refine sim_move (fr' := { fn := fn, tmps := tmps, todo := .code (if t then a else b) :: tl, defers := [], mode := .run, kind := .normal }) hW (fun w => by simp [G, stepG, stepG.exec, hv]) (fun w => ?_) (fun w => by simp [ownW, top]) (put _ ?_) hcs (Or.inl rfl) h
          · have he2 : ({ fn := fn, tmps := tmps.map (rV f), todo := .code (.cond c a b) :: (tl ++ kk k cs), defers := [], mode := .run, kind := .normal } : Frame).eval c = .bool t := he
            simp [renG, top, G, stepG, stepG.exec, he2]
          · intro x hx
            simp only [List.mem_cons] at hx
            rcases hx with rfl | hx
            · cases t
              · exact hit.2.2
              · exact hit.2.1
            · exact htl x hx
        | _ => simp [G, stepG, stepG.exec, hv] at h
      | exit id =>
        cases hx : exitTo id tl with
        | none => simp [G, stepG, stepG.exec, hx] at h
        | some t' =>
          have hx2 := exitTo_app id tl (kk k cs) t' hx
          exact sim_move (fr' := { fn := fn, tmps := tmps, todo := t', defers := [], mode := .run, kind := .normal }) hW (fun w => by simp [G, stepG, stepG.exec, hx]) (fun w => by simp [renG, top, G, stepG, stepG.exec, hx2]) (fun w => by simp [ownW, top]) (put _ fun x hx' => htl x (exitTo_mem hx x hx')) hcs (Or.inl rfl) h
      | refuse why => simp [G, stepG, stepG.exec] at h
      | region id ops d =>
        cases d with
        | false =>
          refine sim_move (fr' := { fn := fn, tmps := tmps, todo := .inRegion ops (List.range ops.size) :: tl, defers := [], mode := .run, kind := .normal }) hW (fun w => by simp [G, stepG, stepG.exec]) (fun w => by simp [renG, top, G, stepG, stepG.exec]) (fun w => by simp [ownW, top]) (put _ ?_) hcs (Or.inl rfl) h
          intro x hx
          simp only [List.mem_cons] at hx
          rcases hx with rfl | hx
          · exact hit
          · exact htl x hx
        | true =>
          have hs := Sm.choose (P := P) (Dd := Dd) (f := f) (q := .order fn id)
          have how : ∀ w, ownW P (top f (kk k cs) { fn := fn, tmps := tmps, todo := .code (.region id ops true) :: tl, defers := [], mode := .run, kind := .normal }) w = resW ((choose (.order fn id)).runT P w #[]).1 := fun w => by simp [ownW, top]
          rw [how] at hF
          cases hr : (choose (.order fn id)).runT P wl #[] with
          | mk r es0 =>
            have hr1 : (choose (.order fn id)).run P wl = r := by rw [← Sem.runT_fst P _ wl #[], hr]
            cases r with
            | halt x w => simp [G, stepG, stepG.exec, hr1] at h
            | ok t w1 =>
              obtain ⟨t', wc', es', q1, q2, q3, q4⟩ := hs wl wc _ _ #[] #[] hW hF (Nat.le_refl _) (Nat.le_refl _) t w1 es0 hr
              subst q2
              have q11 : (choose (.order fn id)).run P wc = .ok t wc' := by rw [← Sem.runT_fst P _ wc #[], q1]
              have e : stepG P true (G { fn := fn, tmps := tmps, todo := .code (.region id ops true) :: tl, defers := [], mode := .run, kind := .normal } (cs ++ lb)) wl = .go (G { fn := fn, tmps := tmps, todo := .inRegion ops (Region.schedule (P.follows .mixedOrders) ops t) :: tl, defers := [], mode := .run, kind := .normal } (cs ++ lb)) w1 #[] := by
                simp [G, stepG, stepG.exec, hr1]
              rw [e] at h
              simp only [G, GStep.go.injEq, Goroutine.mk.injEq] at h
              obtain ⟨⟨rfl, rfl, -⟩, rfl, rfl⟩ := h
              refine ⟨cs, rfl, wc', #[], ?_, ?_, q3, q4.sub (fun e he => by simp at he), put _ ?_, hcs, Or.inl rfl⟩
              · simp [renG, top, G, stepG, stepG.exec, q11]
              · rw [how, q1]; rfl
              · intro x hx
                simp only [List.mem_cons] at hx
                rcases hx with rfl | hx
                · exact hit
                · exact htl x hx
      | _ => exact hit.elim
    | _ => exact hit.elim
/-- ONE STEP. -/
theorem sim_step (hC : Closed P f) (hX : Fix P Dd f) (hP : Prg P A) (hm : fr.mode = .run ∨ fr.mode = .returning) (hfr : FrOk P A fr) (hcs : ∀ x ∈ cs, FrOk P A x ∧ x.mode = .run ∧ x.todo ≠ []) (hnf : fr.mode = .run → fr.todo = [] → cs = [] → k = []) (hne : fr.mode = .returning → cs ≠ [])
    (h : stepG P true (G fr (cs ++ lb)) wl = .go (G fr2 cs2) wl2 es) (hg : ∀ ch, fr2.mode ≠ .panicking ch) (hW : WR Dd f wl wc)
    (hF : Fits f wl wc (ownW P (top f (kk k cs) fr) wc).drawn (ownW P (top f (kk k cs) fr) wc).heap.size) : ∃ cs3, cs2 = cs3 ++ lb ∧ Out P A Dd f k cc fr cs wl wc fr2 cs3 wl2 := by
  rcases hm with hm | hm
  · exact sim_run hC hX hP hm hfr hcs (hnf hm) h hg hW hF
  · exact sim_ret hP hm hfr hcs (hne hm) h hW hF
end
end Go.Proofs.Ytdjnnhdeijnhgab.Rn

/-
  Blocks renamed: what else a lone goroutine's step may be; it never comes back from there.
-/
namespace Go.Proofs.Ytdjnnhdeijnhgab.Rn
open Go Go.Conc
set_option linter.all false

def Three : Next → Prop
  | .value _ => True
  | .skip => True
  | .enter _ _ => True
  | _ => False
def Kind (P : Program) (fr : Frame) (cs : List Frame) : GStep → Prop
  | .go g _ _ => (∃ fr2 cs2, g = G fr2 cs2 ∧ ((∀ ch, fr2.mode ≠ .panicking ch) ∨ (cs2 = cs ∧ (∃ ch, fr2.mode = .panicking ch) ∧ fr2.defers = [] ∧ fr2.todo = fr.todo))) ∨ (g.status = .blocked ∧ g.dying = none) ∨ (g.status = .waiting ∧ g.dying = none) ∨ g.dyingOn P
  | .ended _ _ _ => True
  | _ => False
section
variable {P : Program} {A : Nat → Prop} {cs : List Frame} {w : World} {fr : Frame}
theorem Kind.after {es : Array Event} {s : GStep} (h : Kind P fr cs s) : Kind P fr cs (GStep.after es s) := by
  cases s <;> first | exact h | exact h.elim
theorem kind_die {ps : List ByteArray} {m : String} {b : Bool} {fr' : Frame} : Kind P fr cs (dieOf fr' ps m b w) := by
  have h := dieOf_okD (P := P) fr' ps m b w
  cases hs : dieOf fr' ps m b w with
  | go g w es => rw [hs] at h; exact Or.inr (Or.inr (Or.inr h))
  | ended o w es => exact trivial
  | _ => rw [hs] at h; exact h.elim
theorem kind_op (hP : Prg P A) {o : Oper} (ho : AtOp fr o) (hd : fr.defers = []) (hn : ∀ n w' es, (execOp fr.eval o).runT P w #[] = (.ok n w', es) → Three n) : Kind P fr cs (stepG P true (G fr cs) w) := by
  cases hr : (execOp fr.eval o).runT P w #[] with
  | mk r es0 =>
    cases r with
    | ok n w1 =>
      have h3 := hn n w1 es0 hr
      cases n with
      | value v =>
        rw [step_value ho hr]
        exact Or.inl ⟨_, _, rfl, Or.inl fun ch e => by rw [(finish_mode fr v).1, ho.mode] at e; cases e⟩
      | skip =>
        rw [step_skip2 ho hr]
        exact Or.inl ⟨_, _, rfl, Or.inl fun ch e => by rw [(finish_mode fr _).1, ho.mode] at e; cases e⟩
      | enter g args =>
        rw [step_enter ho hr]
        exact Or.inl ⟨_, _, rfl, Or.inl fun ch e => by cases e⟩
      | _ => exact h3.elim
    | halt x w1 =>
      rw [step_oper ho]
      have hk : (fr.kind == CallKind.early) = false := by rw [ho.kind]; rfl
      have hm := ho.mode
      unfold stepG.apply
      simp only [hr, if_true]
      refine Kind.after ?_
      cases x with
      | panic v =>
        refine Or.inl ⟨_, _, rfl, Or.inr ⟨rfl, ?_, ?_, ?_⟩⟩
        · simp [Frame.raise, hm]
        · simp [Frame.raise, hm, hd]
        · simp [Frame.raise, hm]
      | goexit =>
        refine Or.inl ⟨_, _, rfl, Or.inr ⟨rfl, ?_, ?_, ?_⟩⟩
        · simp [Frame.raise, hm]
        · simp [Frame.raise, hm, hd]
        · simp [Frame.raise, hm]
      | blocked => exact Or.inr (Or.inl ⟨rfl, rfl⟩)
      | waiting => exact Or.inr (Or.inr (Or.inl ⟨rfl, rfl⟩))
      | exit c => exact trivial
      | fatal m =>
        simp only [endFatal]
        split
        · exact kind_die
        · exact trivial
        · exact trivial
      | throw m => exact kind_die
      | unsupported u =>
        cases u with
        | initOrder g =>
          simp only [early, hP.ahead, hP.steps]
          exact trivial
        | _ => exact trivial
      | stuck s => exact trivial
theorem kind_to {g : Goroutine} {w' : World} {es : Array Event} {s : GStep} (h : s = .go (G fr cs) w' es) {fr0 : Frame} {cs0 : List Frame} (hm : fr.mode = .run ∨ fr.mode = .returning) : Kind P fr0 cs0 s := by
  rw [h]
  exact Or.inl ⟨_, _, rfl, Or.inl fun ch e => by rw [e] at hm; rcases hm with hm | hm <;> cases hm⟩
theorem kind_run (hP : Prg P A) (hm : fr.mode = .run) (hfr : FrOk P A fr) (hn : ∀ o, AtOp fr o → ∀ n w' es, (execOp fr.eval o).runT P w #[] = (.ok n w', es) → Three n) : Kind P fr cs (stepG P true (G fr cs) w) := by
  have hfr0 := hfr
  obtain ⟨fn, tmps, todo, defers, mode, kind, ro⟩ := fr
  obtain ⟨h1, h2, h3, h4⟩ := hfr
  simp only at hm h1 h2 h3 h4
  subst hm h2 h3 h4
  have go : ∀ (fr2 : Frame) (s : GStep) (w' : World) (es : Array Event), s = .go (G fr2 cs) w' es → (fr2.mode = .run ∨ fr2.mode = .returning) → Kind P { fn := fn, tmps := tmps, todo := todo, defers := [], mode := .run, kind := .normal } cs s := fun fr2 s w' es e hm2 => kind_to (g := default) e hm2
  cases todo with
  | nil => exact go { fn := fn, tmps := tmps, todo := [], defers := [], mode := .returning, kind := .normal } _ w #[] (by simp [G, stepG, stepG.exec]) (Or.inr rfl)
  | cons it tl =>
    have hit := h1 it (by simp)
    cases it with
    | inBlock id => exact go { fn := fn, tmps := tmps, todo := tl, defers := [], mode := .run, kind := .normal } _ w #[] (by simp [G, stepG, stepG.exec]) (Or.inl rfl)
    | inLoop c => exact go { fn := fn, tmps := tmps, todo := .code c :: .inLoop c :: tl, defers := [], mode := .run, kind := .normal } _ w #[] (by simp [G, stepG, stepG.exec]) (Or.inl rfl)
    | inRegion ops l =>
      cases l with
      | nil => exact go { fn := fn, tmps := tmps, todo := tl, defers := [], mode := .run, kind := .normal } _ w #[] (by simp [G, stepG, stepG.exec]) (Or.inl rfl)
      | cons i l =>
        cases hw : ((ops[i]?).map (Region.wanted · (yielded ops tmps))).getD false with
        | false => exact go (({ fn := fn, tmps := tmps, todo := .inRegion ops (i :: l) :: tl, defers := [], mode := .run, kind := .normal } : Frame).finish undef) _ w #[] (by simp [G, stepG, stepG.exec, hw]) (Or.inl (finish_mode _ _).1)
        | true =>
          cases ho : ops[i]? with
          | none => rw [ho] at hw; simp at hw
          | some o =>
            rw [ho] at hw
            have hat : AtOp { fn := fn, tmps := tmps, todo := .inRegion ops (i :: l) :: tl, defers := [], mode := .run, kind := .normal } o := ⟨rfl, rfl, rfl, ops, i, l, tl, rfl, ho, by simpa using hw⟩
            exact kind_op hP hat rfl (hn o hat)
    | code c =>
      cases c with
      | skip => exact go { fn := fn, tmps := tmps, todo := tl, defers := [], mode := .run, kind := .normal } _ w #[] (by simp [G, stepG, stepG.exec]) (Or.inl rfl)
      | ret => exact go { fn := fn, tmps := tmps, todo := .code .ret :: tl, defers := [], mode := .returning, kind := .normal } _ w #[] (by simp [G, stepG, stepG.exec]) (Or.inr rfl)
      | seq a b => exact go { fn := fn, tmps := tmps, todo := .code a :: .code b :: tl, defers := [], mode := .run, kind := .normal } _ w #[] (by simp [G, stepG, stepG.exec]) (Or.inl rfl)
      | block id a => exact go { fn := fn, tmps := tmps, todo := .code a :: .inBlock id :: tl, defers := [], mode := .run, kind := .normal } _ w #[] (by simp [G, stepG, stepG.exec]) (Or.inl rfl)
      | loop a => exact go { fn := fn, tmps := tmps, todo := .code a :: .inLoop a :: tl, defers := [], mode := .run, kind := .normal } _ w #[] (by simp [G, stepG, stepG.exec]) (Or.inl rfl)
      | cond c a b =>
        cases hv : ({ fn := fn, tmps := tmps, todo := .code (.cond c a b) :: tl, defers := [], mode := .run, kind := .normal } : Frame).eval c with
        | bool t => exact go { fn := fn, tmps := tmps, todo := .code (if t then a else b) :: tl, defers := [], mode := .run, kind := .normal } _ w #[] (by simp [G, stepG, stepG.exec, hv]) (Or.inl rfl)
        | _ => simp [G, stepG, stepG.exec, hv, Kind]
      | exit id =>
        cases hx : exitTo id tl with
        | none => simp [G, stepG, stepG.exec, hx, Kind]
        | some t' => exact go { fn := fn, tmps := tmps, todo := t', defers := [], mode := .run, kind := .normal } _ w #[] (by simp [G, stepG, stepG.exec, hx]) (Or.inl rfl)
      | refuse why => simp [G, stepG, stepG.exec, Kind]
      | region id ops d =>
        cases d with
        | false => exact go { fn := fn, tmps := tmps, todo := .inRegion ops (List.range ops.size) :: tl, defers := [], mode := .run, kind := .normal } _ w #[] (by simp [G, stepG, stepG.exec]) (Or.inl rfl)
        | true =>
          cases hr : (choose (.order fn id)).run P w with
          | halt x w => simp [G, stepG, stepG.exec, hr, Kind]
          | ok t w1 => exact go { fn := fn, tmps := tmps, todo := .inRegion ops (Region.schedule (P.follows .mixedOrders) ops t) :: tl, defers := [], mode := .run, kind := .normal } _ w1 #[] (by simp [G, stepG, stepG.exec, hr]) (Or.inl rfl)
      | _ => exact hit.elim
    | _ => exact hit.elim
theorem kind_ret (hm : fr.mode = .returning) (hfr : FrOk P A fr) {c : Frame} (hc : ∀ ch, c.mode ≠ .panicking ch) : Kind P fr (c :: cs) (stepG P true (G fr (c :: cs)) w) := by
  cases hf : P.funcs[fr.fn]? with
  | none =>
    rw [step_ret_none hm hfr.defers hfr.kind hf]
    exact Or.inl ⟨_, _, rfl, Or.inl fun ch e => hc ch (by rw [← (finish_mode c _).1]; exact e)⟩
  | some fn =>
    cases hr : (results fn fr.tmps).runT P w #[] with
    | mk r es0 =>
      cases r with
      | ok v w1 =>
        rw [step_ret hm hfr.defers hfr.kind hf hr]
        exact Or.inl ⟨_, _, rfl, Or.inl fun ch e => hc ch (by rw [← (finish_mode c _).1]; exact e)⟩
      | halt x w1 =>
        unfold stepG G
        simp only [hm]
        unfold unwind
        simp only [hfr.defers, hm, hf, hr]
        refine Kind.after ?_
        split
        · rename_i q; cases q
        · exact trivial
        · exact trivial
end
end Go.Proofs.Ytdjnnhdeijnhgab.Rn
