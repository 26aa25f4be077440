/-
  Blocks renamed: a goroutine's own step beside its renamed one: the moves of control.
-/
import Derived.Test.YtdjnnhdeijnhgabMw8
import Derived.DyingOn
namespace Go.Proofs.Ytdjnnhdeijnhgab.Rn
open Go Go.Conc
set_option linter.all false

section
variable {P : Program} {Dd : Nat → Prop} {f : Nat → Nat} {A : Nat → Prop} {k : List Item} {cc : List Frame} {cs cs2 lb : List Frame} {wl wl2 wc : World} {fr fr2 : Frame} {es : Array Event}
/-- A move of control: both take it, whatever the world. -/
theorem sim_move {fr' : Frame} (hW : WR Dd f wl wc) (hl : ∀ w, stepG P true (G fr (cs ++ lb)) w = .go (G fr' (cs ++ lb)) w #[]) (hc : ∀ w, stepG P true (renG f k cc fr cs) w = .go (renG f k cc fr' cs) w #[]) (ho : ∀ w, ownW P (top f (kk k cs) fr) w = w)
    (hok : FrOk P A fr') (hcs : ∀ x ∈ cs, FrOk P A x ∧ x.mode = .run ∧ x.todo ≠ []) (hm : fr'.mode = .run ∨ fr'.mode = .returning)
    (h : stepG P true (G fr (cs ++ lb)) wl = .go (G fr2 cs2) wl2 es) : ∃ cs3, cs2 = cs3 ++ lb ∧ Out P A Dd f k cc fr cs wl wc fr2 cs3 wl2 := by
  rw [hl] at h
  simp only [G, GStep.go.injEq, Goroutine.mk.injEq] at h
  obtain ⟨⟨rfl, rfl, -⟩, rfl, rfl⟩ := h
  exact ⟨cs, rfl, out_move hW (hc wc) (ho wc) hok hcs hm⟩
theorem sim_run (hC : Closed P f) (hX : Fix P Dd f) (hP : Prg P A) (hm : fr.mode = .run) (hfr : FrOk P A fr) (hcs : ∀ x ∈ cs, FrOk P A x ∧ x.mode = .run ∧ x.todo ≠ []) (hnf : fr.todo = [] → cs = [] → k = [])
    (h : stepG P true (G fr (cs ++ lb)) wl = .go (G fr2 cs2) wl2 es) (hg : ∀ ch, fr2.mode ≠ .panicking ch) (hW : WR Dd f wl wc)
    (hF : Fits f wl wc (ownW P (top f (kk k cs) fr) wc).drawn (ownW P (top f (kk k cs) fr) wc).heap.size) : ∃ cs3, cs2 = cs3 ++ lb ∧ Out P A Dd f k cc fr cs wl wc fr2 cs3 wl2 := by
  have hfr0 := hfr
  obtain ⟨fn, tmps, todo, defers, mode, kind, ro⟩ := fr
  obtain ⟨h1, h2, h3, h4⟩ := hfr
  simp only at hm h1 h2 h3 h4 hnf
  subst hm h2 h3 h4
  have put : ∀ t' : List Item, (∀ it ∈ t', ItP P A it) → FrOk P A { fn := fn, tmps := tmps, todo := t', defers := [], mode := .run, kind := .normal } := fun t' ht => ⟨ht, rfl, rfl, rfl⟩
  cases todo with
  | nil =>
    have hk0 : kk k cs = [] := by
      cases cs with
      | nil => exact hnf rfl rfl
      | cons x xs => rfl
    refine sim_move (fr' := { fn := fn, tmps := tmps, todo := [], defers := [], mode := .returning, kind := .normal }) hW (fun w => by simp [G, stepG, stepG.exec]) (fun w => ?_) (fun w => ?_) ⟨h1, rfl, rfl, rfl⟩ hcs (Or.inr rfl) h
    · unfold renG top
      rw [hk0]
      simp [G, stepG, stepG.exec]
    · unfold ownW top
      rw [hk0]
      rfl
  | cons it tl =>
    have htl : ∀ x ∈ tl, ItP P A x := fun x hx => h1 x (by simp [hx])
    have hit := h1 it (by simp)
    cases it with
    | inBlock id =>
      exact sim_move (fr' := { fn := fn, tmps := tmps, todo := tl, defers := [], mode := .run, kind := .normal }) hW (fun w => by simp [G, stepG, stepG.exec]) (fun w => by simp [renG, top, G, stepG, stepG.exec]) (fun w => by simp [ownW, top]) (put _ htl) hcs (Or.inl rfl) h
    | inLoop c =>
      exact sim_move (fr' := { fn := fn, tmps := tmps, todo := .code c :: .inLoop c :: tl, defers := [], mode := .run, kind := .normal }) hW (fun w => by simp [G, stepG, stepG.exec]) (fun w => by simp [renG, top, G, stepG, stepG.exec]) (fun w => by simp [ownW, top]) (put _ (by
        intro x hx
        simp only [List.mem_cons] at hx
        rcases hx with rfl | rfl | hx
        · exact hit
        · exact hit
        · exact htl x hx)) hcs (Or.inl rfl) h
    | inRegion ops l =>
      cases l with
      | nil => exact sim_move (fr' := { fn := fn, tmps := tmps, todo := tl, defers := [], mode := .run, kind := .normal }) hW (fun w => by simp [G, stepG, stepG.exec]) (fun w => by simp [renG, top, G, stepG, stepG.exec]) (fun w => by simp [ownW, top]) (put _ htl) hcs (Or.inl rfl) h
      | cons i l =>
        cases hw : ((ops[i]?).map (Region.wanted · (yielded ops tmps))).getD false with
        | false =>
          have hw' : ((ops[i]?).map (Region.wanted · (yielded ops (tmps.map (rV f))))).getD false = false := by rw [yielded_ren]; exact hw
          refine sim_move (fr' := ({ fn := fn, tmps := tmps, todo := .inRegion ops (i :: l) :: tl, defers := [], mode := .run, kind := .normal } : Frame).finish undef) hW (fun w => by simp [G, stepG, stepG.exec, hw]) (fun w => ?_) (fun w => by simp [ownW, top, hw']) (finish_ok _ hfr0) hcs (Or.inl (finish_mode _ _).1) h
          have e := finish_ren (f := f) ({ fn := fn, tmps := tmps, todo := .inRegion ops (i :: l) :: tl, defers := [], mode := .run, kind := .normal } : Frame) (kk k cs) undef h1 (Or.inl (by simp))
          rw [rV_undef] at e
          unfold renG
          rw [← e]
          simp [top, G, stepG, stepG.exec, hw']
        | true =>
          cases ho : ops[i]? with
          | none => rw [ho] at hw; simp at hw
          | some o =>
            rw [ho] at hw
            exact sim_op hC hX hP (o := o) ⟨rfl, rfl, rfl, ops, i, l, tl, rfl, ho, by simpa using hw⟩ hfr0 hcs h hg hW hF
    | code c =>
      cases c with
      | skip => exact sim_move (fr' := { fn := fn, tmps := tmps, todo := tl, defers := [], mode := .run, kind := .normal }) hW (fun w => by simp [G, stepG, stepG.exec]) (fun w => by simp [renG, top, G, stepG, stepG.exec]) (fun w => by simp [ownW, top]) (put _ htl) hcs (Or.inl rfl) h
      | ret => exact sim_move (fr' := { fn := fn, tmps := tmps, todo := .code .ret :: tl, defers := [], mode := .returning, kind := .normal }) hW (fun w => by simp [G, stepG, stepG.exec]) (fun w => by simp [renG, top, G, stepG, stepG.exec]) (fun w => by simp [ownW, top]) ⟨h1, rfl, rfl, rfl⟩ hcs (Or.inr rfl) h
      | seq a b =>
        refine sim_move (fr' := { fn := fn, tmps := tmps, todo := .code a :: .code b :: tl, defers := [], mode := .run, kind := .normal }) hW (fun w => by simp [G, stepG, stepG.exec]) (fun w => by simp [renG, top, G, stepG, stepG.exec]) (fun w => by simp [ownW, top]) (put _ ?_) hcs (Or.inl rfl) h
        intro x hx
        simp only [List.mem_cons] at hx
        rcases hx with rfl | rfl | hx
        · exact hit.1
        · exact hit.2
        · exact htl x hx
      | block id a =>
        refine sim_move (fr' := { fn := fn, tmps := tmps, todo := .code a :: .inBlock id :: tl, defers := [], mode := .run, kind := .normal }) hW (fun w => by simp [G, stepG, stepG.exec]) (fun w => by simp [renG, top, G, stepG, stepG.exec]) (fun w => by simp [ownW, top]) (put _ ?_) hcs (Or.inl rfl) h
        intro x hx
        simp only [List.mem_cons] at hx
        rcases hx with rfl | rfl | hx
        · exact hit
        · exact trivial
        · exact htl x hx
      | loop a =>
        refine sim_move (fr' := { fn := fn, tmps := tmps, todo := .code a :: .inLoop a :: tl, defers := [], mode := .run, kind := .normal }) hW (fun w => by simp [G, stepG, stepG.exec]) (fun w => by simp [renG, top, G, stepG, stepG.exec]) (fun w => by simp [ownW, top]) (put _ ?_) hcs (Or.inl rfl) h
        intro x hx
        simp only [List.mem_cons] at hx
        rcases hx with rfl | rfl | hx
        · exact hit
        · exact hit
        · exact htl x hx
      | cond c a b =>
        have he := eval_ren (f := f) ({ fn := fn, tmps := tmps, todo := .code (.cond c a b) :: tl, defers := [], mode := .run, kind := .normal } : Frame) (kk k cs) c hit.1
        cases hv : ({ fn := fn, tmps := tmps, todo := .code (.cond c a b) :: tl, defers := [], mode := .run, kind := .normal } : Frame).eval c with
        | bool t =>
          rw [hv, rV_bool] at he
          refine sim_move (fr' := { fn := fn, tmps := tmps, todo := .code (if t then a else b) :: tl, defers := [], mode := .run, kind := .normal }) hW (fun w => by simp [G, stepG, stepG.exec, hv]) (fun w => ?_) (fun w => by simp [ownW, top]) (put _ ?_) hcs (Or.inl rfl) h
          · have he2 : ({ fn := fn, tmps := tmps.map (rV f), todo := .code (.cond c a b) :: (tl ++ kk k cs), defers := [], mode := .run, kind := .normal } : Frame).eval c = .bool t := he
            simp [renG, top, G, stepG, stepG.exec, he2]
          · intro x hx
            simp only [List.mem_cons] at hx
            rcases hx with rfl | hx
            · cases t
              · exact hit.2.2
              · exact hit.2.1
            · exact htl x hx
        | _ => simp [G, stepG, stepG.exec, hv] at h
      | exit id =>
        cases hx : exitTo id tl with
        | none => simp [G, stepG, stepG.exec, hx] at h
        | some t' =>
          have hx2 := exitTo_app id tl (kk k cs) t' hx
          exact sim_move (fr' := { fn := fn, tmps := tmps, todo := t', defers := [], mode := .run, kind := .normal }) hW (fun w => by simp [G, stepG, stepG.exec, hx]) (fun w => by simp [renG, top, G, stepG, stepG.exec, hx2]) (fun w => by simp [ownW, top]) (put _ fun x hx' => htl x (exitTo_mem hx x hx')) hcs (Or.inl rfl) h
      | refuse why => simp [G, stepG, stepG.exec] at h
      | region id ops d =>
        cases d with
        | false =>
          refine sim_move (fr' := { fn := fn, tmps := tmps, todo := .inRegion ops (List.range ops.size) :: tl, defers := [], mode := .run, kind := .normal }) hW (fun w => by simp [G, stepG, stepG.exec]) (fun w => by simp [renG, top, G, stepG, stepG.exec]) (fun w => by simp [ownW, top]) (put _ ?_) hcs (Or.inl rfl) h
          intro x hx
          simp only [List.mem_cons] at hx
          rcases hx with rfl | hx
          · exact hit
          · exact htl x hx
        | true =>
          have hs := Sm.choose (P := P) (Dd := Dd) (f := f) (q := .order fn id)
          have how : ∀ w, ownW P (top f (kk k cs) { fn := fn, tmps := tmps, todo := .code (.region id ops true) :: tl, defers := [], mode := .run, kind := .normal }) w = resW ((choose (.order fn id)).runT P w #[]).1 := fun w => by simp [ownW, top]
          rw [how] at hF
          cases hr : (choose (.order fn id)).runT P wl #[] with
          | mk r es0 =>
            have hr1 : (choose (.order fn id)).run P wl = r := by rw [← Sem.runT_fst P _ wl #[], hr]
            cases r with
            | halt x w => simp [G, stepG, stepG.exec, hr1] at h
            | ok t w1 =>
              obtain ⟨t', wc', es', q1, q2, q3, q4⟩ := hs wl wc _ _ #[] #[] hW hF (Nat.le_refl _) (Nat.le_refl _) t w1 es0 hr
              subst q2
              have q11 : (choose (.order fn id)).run P wc = .ok t wc' := by rw [← Sem.runT_fst P _ wc #[], q1]
              have e : stepG P true (G { fn := fn, tmps := tmps, todo := .code (.region id ops true) :: tl, defers := [], mode := .run, kind := .normal } (cs ++ lb)) wl = .go (G { fn := fn, tmps := tmps, todo := .inRegion ops (Region.schedule (P.follows .mixedOrders) ops t) :: tl, defers := [], mode := .run, kind := .normal } (cs ++ lb)) w1 #[] := by
                simp [G, stepG, stepG.exec, hr1]
              rw [e] at h
              simp only [G, GStep.go.injEq, Goroutine.mk.injEq] at h
              obtain ⟨⟨rfl, rfl, -⟩, rfl, rfl⟩ := h
              refine ⟨cs, rfl, wc', #[], ?_, ?_, q3, q4.sub (fun e he => by simp at he), put _ ?_, hcs, Or.inl rfl⟩
              · simp [renG, top, G, stepG, stepG.exec, q11]
              · rw [how, q1]; rfl
              · intro x hx
                simp only [List.mem_cons] at hx
                rcases hx with rfl | hx
                · exact hit
                · exact htl x hx
      | _ => exact hit.elim
    | _ => exact hit.elim
/-- ONE STEP. -/
theorem sim_step (hC : Closed P f) (hX : Fix P Dd f) (hP : Prg P A) (hm : fr.mode = .run ∨ fr.mode = .returning) (hfr : FrOk P A fr) (hcs : ∀ x ∈ cs, FrOk P A x ∧ x.mode = .run ∧ x.todo ≠ []) (hnf : fr.mode = .run → fr.todo = [] → cs = [] → k = []) (hne : fr.mode = .returning → cs ≠ [])
    (h : stepG P true (G fr (cs ++ lb)) wl = .go (G fr2 cs2) wl2 es) (hg : ∀ ch, fr2.mode ≠ .panicking ch) (hW : WR Dd f wl wc)
    (hF : Fits f wl wc (ownW P (top f (kk k cs) fr) wc).drawn (ownW P (top f (kk k cs) fr) wc).heap.size) : ∃ cs3, cs2 = cs3 ++ lb ∧ Out P A Dd f k cc fr cs wl wc fr2 cs3 wl2 := by
  rcases hm with hm | hm
  · exact sim_run hC hX hP hm hfr hcs (hnf hm) h hg hW hF
  · exact sim_ret hP hm hfr hcs (hne hm) h hW hF
end
end Go.Proofs.Ytdjnnhdeijnhgab.Rn

/-
  Blocks renamed: what else a lone goroutine's step may be; it never comes back from there.
-/
namespace Go.Proofs.Ytdjnnhdeijnhgab.Rn
open Go Go.Conc
set_option linter.all false

def Three : Next → Prop
  | .value _ => True
  | .skip => True
  | .enter _ _ => True
  | _ => False
def Kind (P : Program) (fr : Frame) (cs : List Frame) : GStep → Prop
  | .go g _ _ => (∃ fr2 cs2, g = G fr2 cs2 ∧ ((∀ ch, fr2.mode ≠ .panicking ch) ∨ (cs2 = cs ∧ (∃ ch, fr2.mode = .panicking ch) ∧ fr2.defers = [] ∧ fr2.todo = fr.todo))) ∨ (g.status = .blocked ∧ g.dying = none) ∨ (g.status = .waiting ∧ g.dying = none) ∨ g.dyingOn P
  | .ended _ _ _ => True
  | _ => False
section
variable {P : Program} {A : Nat → Prop} {cs : List Frame} {w : World} {fr : Frame}
theorem Kind.after {es : Array Event} {s : GStep} (h : Kind P fr cs s) : Kind P fr cs (GStep.after es s) := by
  cases s <;> first | exact h | exact h.elim
theorem kind_die {ps : List ByteArray} {m : String} {b : Bool} {fr' : Frame} : Kind P fr cs (dieOf fr' ps m b w) := by
  have h := dieOf_okD (P := P) fr' ps m b w
  cases hs : dieOf fr' ps m b w with
  | go g w es => rw [hs] at h; exact Or.inr (Or.inr (Or.inr h))
  | ended o w es => exact trivial
  | _ => rw [hs] at h; exact h.elim
theorem kind_op (hP : Prg P A) {o : Oper} (ho : AtOp fr o) (hd : fr.defers = []) (hn : ∀ n w' es, (execOp fr.eval o).runT P w #[] = (.ok n w', es) → Three n) : Kind P fr cs (stepG P true (G fr cs) w) := by
  cases hr : (execOp fr.eval o).runT P w #[] with
  | mk r es0 =>
    cases r with
    | ok n w1 =>
      have h3 := hn n w1 es0 hr
      cases n with
      | value v =>
        rw [step_value ho hr]
        exact Or.inl ⟨_, _, rfl, Or.inl fun ch e => by rw [(finish_mode fr v).1, ho.mode] at e; cases e⟩
      | skip =>
        rw [step_skip2 ho hr]
        exact Or.inl ⟨_, _, rfl, Or.inl fun ch e => by rw [(finish_mode fr _).1, ho.mode] at e; cases e⟩
      | enter g args =>
        rw [step_enter ho hr]
        exact Or.inl ⟨_, _, rfl, Or.inl fun ch e => by cases e⟩
      | _ => exact h3.elim
    | halt x w1 =>
      rw [step_oper ho]
      have hk : (fr.kind == CallKind.early) = false := by rw [ho.kind]; rfl
      have hm := ho.mode
      unfold stepG.apply
      simp only [hr, if_true]
      refine Kind.after ?_
      cases x with
      | panic v =>
        refine Or.inl ⟨_, _, rfl, Or.inr ⟨rfl, ?_, ?_, ?_⟩⟩
        · simp [Frame.raise, hm]
        · simp [Frame.raise, hm, hd]
        · simp [Frame.raise, hm]
      | goexit =>
        refine Or.inl ⟨_, _, rfl, Or.inr ⟨rfl, ?_, ?_, ?_⟩⟩
        · simp [Frame.raise, hm]
        · simp [Frame.raise, hm, hd]
        · simp [Frame.raise, hm]
      | blocked => exact Or.inr (Or.inl ⟨rfl, rfl⟩)
      | waiting => exact Or.inr (Or.inr (Or.inl ⟨rfl, rfl⟩))
      | exit c => exact trivial
      | fatal m =>
        simp only [endFatal]
        split
        · exact kind_die
        · exact trivial
        · exact trivial
      | throw m => exact kind_die
      | unsupported u =>
        cases u with
        | initOrder g =>
          simp only [early, hP.ahead, hP.steps]
          exact trivial
        | _ => exact trivial
      | stuck s => exact trivial
theorem kind_to {g : Goroutine} {w' : World} {es : Array Event} {s : GStep} (h : s = .go (G fr cs) w' es) {fr0 : Frame} {cs0 : List Frame} (hm : fr.mode = .run ∨ fr.mode = .returning) : Kind P fr0 cs0 s := by
  rw [h]
  exact Or.inl ⟨_, _, rfl, Or.inl fun ch e => by rw [e] at hm; rcases hm with hm | hm <;> cases hm⟩
theorem kind_run (hP : Prg P A) (hm : fr.mode = .run) (hfr : FrOk P A fr) (hn : ∀ o, AtOp fr o → ∀ n w' es, (execOp fr.eval o).runT P w #[] = (.ok n w', es) → Three n) : Kind P fr cs (stepG P true (G fr cs) w) := by
  have hfr0 := hfr
  obtain ⟨fn, tmps, todo, defers, mode, kind, ro⟩ := fr
  obtain ⟨h1, h2, h3, h4⟩ := hfr
  simp only at hm h1 h2 h3 h4
  subst hm h2 h3 h4
  have go : ∀ (fr2 : Frame) (s : GStep) (w' : World) (es : Array Event), s = .go (G fr2 cs) w' es → (fr2.mode = .run ∨ fr2.mode = .returning) → Kind P { fn := fn, tmps := tmps, todo := todo, defers := [], mode := .run, kind := .normal } cs s := fun fr2 s w' es e hm2 => kind_to (g := default) e hm2
  cases todo with
  | nil => exact go { fn := fn, tmps := tmps, todo := [], defers := [], mode := .returning, kind := .normal } _ w #[] (by simp [G, stepG, stepG.exec]) (Or.inr rfl)
  | cons it tl =>
    have hit := h1 it (by simp)
    cases it with
    | inBlock id => exact go { fn := fn, tmps := tmps, todo := tl, defers := [], mode := .run, kind := .normal } _ w #[] (by simp [G, stepG, stepG.exec]) (Or.inl rfl)
    | inLoop c => exact go { fn := fn, tmps := tmps, todo := .code c :: .inLoop c :: tl, defers := [], mode := .run, kind := .normal } _ w #[] (by simp [G, stepG, stepG.exec]) (Or.inl rfl)
    | inRegion ops l =>
      cases l with
      | nil => exact go { fn := fn, tmps := tmps, todo := tl, defers := [], mode := .run, kind := .normal } _ w #[] (by simp [G, stepG, stepG.exec]) (Or.inl rfl)
      | cons i l =>
        cases hw : ((ops[i]?).map (Region.wanted · (yielded ops tmps))).getD false with
        | false => exact go (({ fn := fn, tmps := tmps, todo := .inRegion ops (i :: l) :: tl, defers := [], mode := .run, kind := .normal } : Frame).finish undef) _ w #[] (by simp [G, stepG, stepG.exec, hw]) (Or.inl (finish_mode _ _).1)
        | true =>
          cases ho : ops[i]? with
          | none => rw [ho] at hw; simp at hw
          | some o =>
            rw [ho] at hw
            have hat : AtOp { fn := fn, tmps := tmps, todo := .inRegion ops (i :: l) :: tl, defers := [], mode := .run, kind := .normal } o := ⟨rfl, rfl, rfl, ops, i, l, tl, rfl, ho, by simpa using hw⟩
            exact kind_op hP hat rfl (hn o hat)
    | code c =>
      cases c with
      | skip => exact go { fn := fn, tmps := tmps, todo := tl, defers := [], mode := .run, kind := .normal } _ w #[] (by simp [G, stepG, stepG.exec]) (Or.inl rfl)
      | ret => exact go { fn := fn, tmps := tmps, todo := .code .ret :: tl, defers := [], mode := .returning, kind := .normal } _ w #[] (by simp [G, stepG, stepG.exec]) (Or.inr rfl)
      | seq a b => exact go { fn := fn, tmps := tmps, todo := .code a :: .code b :: tl, defers := [], mode := .run, kind := .normal } _ w #[] (by simp [G, stepG, stepG.exec]) (Or.inl rfl)
      | block id a => exact go { fn := fn, tmps := tmps, todo := .code a :: .inBlock id :: tl, defers := [], mode := .run, kind := .normal } _ w #[] (by simp [G, stepG, stepG.exec]) (Or.inl rfl)
      | loop a => exact go { fn := fn, tmps := tmps, todo := .code a :: .inLoop a :: tl, defers := [], mode := .run, kind := .normal } _ w #[] (by simp [G, stepG, stepG.exec]) (Or.inl rfl)
      | cond c a b =>
        cases hv : ({ fn := fn, tmps := tmps, todo := .code (.cond c a b) :: tl, defers := [], mode := .run, kind := .normal } : Frame).eval c with
        | bool t => exact go { fn := fn, tmps := tmps, todo := .code (if t then a else b) :: tl, defers := [], mode := .run, kind := .normal } _ w #[] (by simp [G, stepG, stepG.exec, hv]) (Or.inl rfl)
        | _ => simp [G, stepG, stepG.exec, hv, Kind]
      | exit id =>
        cases hx : exitTo id tl with
        | none => simp [G, stepG, stepG.exec, hx, Kind]
        | some t' => exact go { fn := fn, tmps := tmps, todo := t', defers := [], mode := .run, kind := .normal } _ w #[] (by simp [G, stepG, stepG.exec, hx]) (Or.inl rfl)
      | refuse why => simp [G, stepG, stepG.exec, Kind]
      | region id ops d =>
        cases d with
        | false => exact go { fn := fn, tmps := tmps, todo := .inRegion ops (List.range ops.size) :: tl, defers := [], mode := .run, kind := .normal } _ w #[] (by simp [G, stepG, stepG.exec]) (Or.inl rfl)
        | true =>
          cases hr : (choose (.order fn id)).run P w with
          | halt x w => simp [G, stepG, stepG.exec, hr, Kind]
          | ok t w1 => exact go { fn := fn, tmps := tmps, todo := .inRegion ops (Region.schedule (P.follows .mixedOrders) ops t) :: tl, defers := [], mode := .run, kind := .normal } _ w1 #[] (by simp [G, stepG, stepG.exec, hr]) (Or.inl rfl)
      | _ => exact hit.elim
    | _ => exact hit.elim
theorem kind_ret (hm : fr.mode = .returning) (hfr : FrOk P A fr) {c : Frame} (hc : ∀ ch, c.mode ≠ .panicking ch) : Kind P fr (c :: cs) (stepG P true (G fr (c :: cs)) w) := by
  cases hf : P.funcs[fr.fn]? with
  | none =>
    rw [step_ret_none hm hfr.defers hfr.kind hf]
    exact Or.inl ⟨_, _, rfl, Or.inl fun ch e => hc ch (by rw [← (finish_mode c _).1]; exact e)⟩
  | some fn =>
    cases hr : (results fn fr.tmps).runT P w #[] with
    | mk r es0 =>
      cases r with
      | ok v w1 =>
        rw [step_ret hm hfr.defers hfr.kind hf hr]
        exact Or.inl ⟨_, _, rfl, Or.inl fun ch e => hc ch (by rw [← (finish_mode c _).1]; exact e)⟩
      | halt x w1 =>
        unfold stepG G
        simp only [hm]
        unfold unwind
        simp only [hfr.defers, hm, hf, hr]
        refine Kind.after ?_
        split
        · rename_i q; cases q
        · exact trivial
        · exact trivial
end
end Go.Proofs.Ytdjnnhdeijnhgab.Rn

/-
  Blocks renamed: the lone machine; where it never comes back from.
-/
namespace Go.Proofs.Ytdjnnhdeijnhgab.Rn
open Go Go.Conc
set_option linter.all false

/-- Below the lone stack: who comes down to it ends the run. -/
def trap (P : Program) : Frame := { fn := P.funcs.size, tmps := #[], todo := [.call { target := .nil, args := #[] } false "fmt's door" #[]], defers := [], mode := .run, kind := .normal }
def Doomed (P : Program) (Fin : Frame → Prop) (m : Machine) : Prop := ∀ n fr w, Fin fr → runN P n m ≠ .next (lone fr [trap P] w)
section
variable {P : Program} {A : Nat → Prop} {cs : List Frame} {w : World} {fr : Frame} {Fin : Frame → Prop}
theorem step_one {cs : List Frame} {g : Goroutine} {w' : World} {es : Array Event} (h : stepG P true (G fr cs) w = .go g w' es) : step P (lone fr cs w) = .next (oneG g w') := by
  have h' : stepG P true { frame := fr, callers := cs, status := .running, dying := none } w = .go g w' es := h
  rw [step, stepT, move_lone]
  simp [runT, lone, oneG, Array.swapAt!, h']
theorem step_one_end {cs : List Frame} {o : Outcome} {w' : World} {es : Array Event} (h : stepG P true (G fr cs) w = .ended o w' es) : step P (lone fr cs w) = .ended o w' := by
  have h' : stepG P true { frame := fr, callers := cs, status := .running, dying := none } w = .ended o w' es := h
  rw [step, stepT, move_lone]
  simp [runT, lone, Array.swapAt!, h']
theorem lone_one (fr : Frame) (cs : List Frame) (w : World) : lone fr cs w = oneG (G fr cs) w := rfl
theorem oneG_inj {g g' : Goroutine} {w w' : World} (h : oneG g w = oneG g' w') : g = g' ∧ w = w' := by
  simp [oneG] at h
  exact ⟨h.2, h.1⟩
theorem doomed_ended {m : Machine} {o : Outcome} {w' : World} (h : step P m = .ended o w') (hm : ∀ fr w, Fin fr → m ≠ lone fr [trap P] w) : Doomed P Fin m := by
  intro n fr w hF e
  cases n with
  | zero => simp [runN] at e; exact hm fr w hF e
  | succ n => simp [runN, h] at e
theorem doomed_next {m m' : Machine} (h : step P m = .next m') (hd : Doomed P Fin m') (hm : ∀ fr w, Fin fr → m ≠ lone fr [trap P] w) : Doomed P Fin m := by
  intro n fr w hF e
  cases n with
  | zero => simp [runN] at e; exact hm fr w hF e
  | succ n => simp [runN, h] at e; exact hd n fr w hF e
theorem doomed_blocked {g : Goroutine} (h : g.status = .blocked) : Doomed P Fin (oneG g w) := by
  obtain ⟨fr, cs, st, dy, off⟩ := g
  simp only at h
  subst h
  obtain ⟨o', w', he, ho⟩ := endWith_ended w 2 (bytes "fatal error: all goroutines are asleep - deadlock!\n") (.fatal "all goroutines are asleep - deadlock!")
  refine doomed_ended (o := o') (w' := w') ?_ ?_
  · simp [step, stepT, move, ask, askOn, oneG, runnable_eq, due, ahead, Goroutine.canRun, List.range_succ, pure]
    rw [he]
  · intro fr w hF e
    have := (oneG_inj (e.trans (lone_one _ _ _))).1
    simp [G] at this
theorem doomed_waiting {g : Goroutine} (h : g.status = .waiting) : Doomed P Fin (oneG g w) := by
  obtain ⟨fr, cs, st, dy, off⟩ := g
  simp only at h
  subst h
  have hs : step P (oneG { frame := fr, callers := cs, status := .waiting, dying := dy, offers := off } w) = .next (oneG { frame := fr, callers := cs, status := .waiting, dying := dy, offers := off } w) := by
    simp [step, stepT, move, ask, askOn, oneG, runnable_eq, due, ahead, Goroutine.canRun, List.range_succ, pure, Sem.run]
  intro n fr' w' hF e
  have key : runN P n (oneG { frame := fr, callers := cs, status := .waiting, dying := dy, offers := off } w) = .next (oneG { frame := fr, callers := cs, status := .waiting, dying := dy, offers := off } w) := by
    induction n with
    | zero => rfl
    | succ n ih => simp only [runN, hs]; exact ih (by rw [← e]; simp [runN, hs])
  rw [key] at e
  have := (oneG_inj ((Stepped.next.inj e).trans (lone_one _ _ _))).1
  simp [G] at this
theorem doomed_dying {g : Goroutine} (h : g.dyingOn P) : Doomed P Fin (oneG g w) := by
  intro n
  induction n generalizing g w with
  | zero =>
    intro fr w' hF e
    simp only [runN, Stepped.next.injEq] at e
    have := (oneG_inj (e.trans (lone_one _ _ _))).1
    obtain ⟨-, d, hd, -⟩ := h
    rw [this] at hd
    simp [G] at hd
  | succ n ih =>
    intro fr w' hF e
    rcases step_dyingOn (w := w) h with ⟨g', w1, hs, h'⟩ | ⟨o, w1, hs, ho⟩
    · simp only [runN, hs] at e
      exact ih h' fr w' hF e
    · simp [runN, hs] at e
end
end Go.Proofs.Ytdjnnhdeijnhgab.Rn

/-
  Blocks renamed: the lone machine goes on as it should, or never comes back.
-/
namespace Go.Proofs.Ytdjnnhdeijnhgab.Rn
open Go Go.Conc
set_option linter.all false

section
variable {P : Program} {A : Nat → Prop} {cs : List Frame} {w : World} {fr : Frame} {Fin : Frame → Prop}
theorem not_catches (h : ∀ it ∈ fr.todo, ItP P A it) : fr.catches P = false := by
  unfold Frame.catches
  split
  · rename_i d wr r s tl _ ht
    exact False.elim (h (.call d wr r s) (by rw [ht]; simp))
  · rfl
theorem trap_catches : ({ trap P with mode := .panicking [] } : Frame).catches P = true := by
  simp [Frame.catches, trap]
theorem fin_mode (hF : ∀ fr, Fin fr → fr.mode = .run ∨ fr.mode = .returning) {ch : List PanicEntry} (hm : fr.mode = .panicking ch) {cs : List Frame} : ∀ fr' w', Fin fr' → lone fr cs w ≠ lone fr' [trap P] w' := by
  intro fr' w' hf e
  have := (oneG_inj (((lone_one _ _ _).symm.trans e).trans (lone_one _ _ _))).1
  simp [G] at this
  rcases hF fr' hf with q | q <;> rw [← this.1, hm] at q <;> cases q
theorem doomed_panic (hF : ∀ fr, Fin fr → fr.mode = .run ∨ fr.mode = .returning) : ∀ (cs : List Frame) (fr : Frame) (w : World) (ch : List PanicEntry), fr.mode = .panicking ch → fr.defers = [] → fr.catches P = false → (∀ x ∈ cs, FrOk P A x ∧ x.mode = .run ∧ x.todo ≠ []) → Doomed P Fin (lone fr (cs ++ [trap P]) w) := by
  intro cs
  induction cs with
  | nil =>
    intro fr w ch hm hd hc _
    refine doomed_next (m' := oneG (G ((trap P).raise ch) []) w) (step_one (es := #[]) ?_) ?_ (fin_mode hF hm)
    · unfold stepG G
      simp only [hm]
      unfold unwind
      simp only [hd, hm, hc, List.nil_append]
      rfl
    · have e : stepG P true (G ((trap P).raise ch) []) w = .ended (.unsupported (.noEntry "a panic or Goexit out of a method that fmt calls behind a cut's door") (((trap P).raise ch).pos P)) w #[] := by
        unfold stepG G
        simp only [Frame.raise, trap]
        unfold unwind
        simp [Frame.catches]
      refine doomed_ended (step_one_end e) (fin_mode hF (ch := ch) ?_)
      simp [Frame.raise, trap]
  | cons c cs ih =>
    intro fr w ch hm hd hc hcs
    have hcc := hcs c (by simp)
    refine doomed_next (m' := oneG (G (c.raise ch) (cs ++ [trap P])) w) (step_one (es := #[]) ?_) ?_ (fin_mode hF hm)
    · unfold stepG G
      simp only [hm]
      unfold unwind
      simp only [hd, hm, hc, List.cons_append]
      rfl
    · have hr : (c.raise ch).mode = .panicking ch ∧ (c.raise ch).defers = c.defers ∧ (c.raise ch).todo = c.todo := by
        unfold Frame.raise
        rw [hcc.2.1]
        exact ⟨rfl, rfl, rfl⟩
      exact ih (c.raise ch) w ch hr.1 (hr.2.1.trans hcc.1.defers) (not_catches (A := A) (by rw [hr.2.2]; exact hcc.1.todo)) fun x hx => hcs x (by simp [hx])
/-- Behind the lowest frame's return there is nothing. -/
theorem doomed_down (hm : fr.mode = .returning) (hfr : FrOk P A fr) {m1 : Machine} (h : step P (lone fr [trap P] w) = .next m1) : Doomed P Fin m1 := by
  have key : ∀ v w1, Doomed P Fin (oneG (G ((trap P).finish v) []) w1) := by
    intro v w1
    have e : stepG P true (G ((trap P).finish v) []) w1 = .ended (.stuck ("no extern row " ++ "fmt's door") (((trap P).finish v).pos P)) w1 #[] := by
      have e1 : Extern.next "fmt's door" = none := rfl
      unfold stepG G
      simp only [Frame.finish, trap]
      unfold stepG.exec
      simp [e1]
    refine doomed_ended (step_one_end e) ?_
    intro fr' w' hf e
    have := (oneG_inj (((lone_one _ _ _).symm.trans e).trans (lone_one _ _ _))).1
    simp [G] at this
  cases hf : P.funcs[fr.fn]? with
  | none =>
    rw [step_one (step_ret_none hm hfr.defers hfr.kind hf)] at h
    cases h
    exact key _ _
  | some fn =>
    cases hr : (results fn fr.tmps).runT P w #[] with
    | mk r es0 =>
      cases r with
      | ok v w1 =>
        rw [step_one (step_ret hm hfr.defers hfr.kind hf hr)] at h
        cases h
        exact key _ _
      | halt x w1 =>
        exfalso
        have hk : Kind P fr [trap P] (stepG P true (G fr [trap P]) w) := kind_ret (A := A) hm hfr (fun ch e => by cases e)
        cases hs : stepG P true (G fr [trap P]) w with
        | go g w2 es2 => exact step_ret_halt hm hfr.defers hf hr hs
        | ended o w2 es2 => rw [step_one_end hs] at h; cases h
        | _ => rw [hs] at hk; exact hk.elim
/-- The lone machine's step: as it should be, or doomed. -/
theorem lone_next (hF : ∀ fr, Fin fr → fr.mode = .run ∨ fr.mode = .returning) (hP : Prg P A) (hm : fr.mode = .run ∨ fr.mode = .returning) (hfr : FrOk P A fr) (hcs : ∀ x ∈ cs, FrOk P A x ∧ x.mode = .run ∧ x.todo ≠ []) (hne : fr.mode = .returning → cs ≠ [])
    (hn : ∀ o, AtOp fr o → ∀ n w' es, (execOp fr.eval o).runT P w #[] = (.ok n w', es) → Three n) {m1 : Machine} (h : step P (lone fr (cs ++ [trap P]) w) = .next m1) (hd : ¬ Doomed P Fin m1) :
    ∃ fr2 cs2 w2 es, stepG P true (G fr (cs ++ [trap P])) w = .go (G fr2 cs2) w2 es ∧ (∀ ch, fr2.mode ≠ .panicking ch) ∧ m1 = lone fr2 cs2 w2 := by
  have hk : Kind P fr (cs ++ [trap P]) (stepG P true (G fr (cs ++ [trap P])) w) := by
    rcases hm with hm | hm
    · exact kind_run hP hm hfr hn
    · cases cs with
      | nil => exact absurd rfl (hne hm)
      | cons c cs => exact kind_ret (A := A) hm hfr fun ch e => by rw [(hcs c (by simp)).2.1] at e; cases e
  cases hs : stepG P true (G fr (cs ++ [trap P])) w with
  | ended o w2 es2 => rw [step_one_end hs] at h; cases h
  | go g w2 es2 =>
    rw [hs] at hk
    rw [step_one hs] at h
    cases h
    rcases hk with ⟨fr2, cs2, rfl, k | ⟨rfl, ⟨ch, k1⟩, k2, k3⟩⟩ | k | k | k
    · exact ⟨fr2, cs2, w2, es2, rfl, k, rfl⟩
    · exact absurd (doomed_panic (A := A) hF cs fr2 w2 ch k1 k2 (not_catches (A := A) (by rw [k3]; exact hfr.todo)) hcs) hd
    · exact absurd (doomed_blocked k.1) hd
    · exact absurd (doomed_waiting k.1) hd
    · exact absurd (doomed_dying k) hd
  | _ => rw [hs] at hk; exact hk.elim
end
end Go.Proofs.Ytdjnnhdeijnhgab.Rn
