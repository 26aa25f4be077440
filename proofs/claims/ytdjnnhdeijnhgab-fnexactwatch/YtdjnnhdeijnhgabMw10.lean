/-
  Blocks renamed: what else a lone goroutine's step may be; it never comes back from there.
-/
import Derived.Test.YtdjnnhdeijnhgabMw9
import Derived.DyingOn
import Derived.Conc.CrowdBase
namespace Go.Proofs.Ytdjnnhdeijnhgab.Rn
open Go Go.Conc
set_option linter.all false

def Three : Next → Prop
  | .value _ => True
  | .skip => True
  | .enter _ _ => True
  | _ => False
def Kind (P : Program) (fr : Frame) (cs : List Frame) : GStep → Prop
  | .go g _ _ => (∃ fr2 cs2, g = G fr2 cs2 ∧ ((∀ ch, fr2.mode ≠ .panicking ch) ∨ (cs2 = cs ∧ (∃ ch, fr2.mode = .panicking ch) ∧ fr2.defers = [] ∧ fr2.todo = fr.todo))) ∨ (g.status = .blocked ∧ g.dying = none) ∨ (g.status = .waiting ∧ g.dying = none) ∨ g.dyingOn P
  | .ended _ _ _ => True
  | _ => False
section
variable {P : Program} {A : Nat → Prop} {cs : List Frame} {w : World} {fr : Frame}
theorem Kind.after {es : Array Event} {s : GStep} (h : Kind P fr cs s) : Kind P fr cs (GStep.after es s) := by
  cases s <;> first | exact h | exact h.elim
theorem kind_die {ps : List ByteArray} {m : String} {b : Bool} {fr' : Frame} : Kind P fr cs (dieOf fr' ps m b w) := by
  have h := dieOf_okD (P := P) fr' ps m b w
  cases hs : dieOf fr' ps m b w with
  | go g w es => rw [hs] at h; exact Or.inr (Or.inr (Or.inr h))
  | ended o w es => exact trivial
  | _ => rw [hs] at h; exact h.elim
theorem kind_op (hP : Prg P A) {o : Oper} (ho : AtOp fr o) (hd : fr.defers = []) (hn : ∀ n w' es, (execOp fr.eval o).runT P w #[] = (.ok n w', es) → Three n) : Kind P fr cs (stepG P true (G fr cs) w) := by
  cases hr : (execOp fr.eval o).runT P w #[] with
  | mk r es0 =>
    cases r with
    | ok n w1 =>
      have h3 := hn n w1 es0 hr
      cases n with
      | value v =>
        rw [step_value ho hr]
        exact Or.inl ⟨_, _, rfl, Or.inl fun ch e => by rw [(finish_mode fr v).1, ho.mode] at e; cases e⟩
      | skip =>
        rw [step_skip2 ho hr]
        exact Or.inl ⟨_, _, rfl, Or.inl fun ch e => by rw [(finish_mode fr _).1, ho.mode] at e; cases e⟩
      | enter g args =>
        rw [step_enter ho hr]
        exact Or.inl ⟨_, _, rfl, Or.inl fun ch e => by cases e⟩
      | _ => exact h3.elim
    | halt x w1 =>
      rw [step_oper ho]
      have hk : (fr.kind == CallKind.early) = false := by rw [ho.kind]; rfl
      have hm := ho.mode
      unfold stepG.apply
      simp only [hr, if_true]
      refine Kind.after ?_
      cases x with
      | panic v =>
        refine Or.inl ⟨_, _, rfl, Or.inr ⟨rfl, ?_, ?_, ?_⟩⟩
        · simp [Frame.raise, hm]
        · simp [Frame.raise, hm, hd]
        · simp [Frame.raise, hm]
      | goexit =>
        refine Or.inl ⟨_, _, rfl, Or.inr ⟨rfl, ?_, ?_, ?_⟩⟩
        · simp [Frame.raise, hm]
        · simp [Frame.raise, hm, hd]
        · simp [Frame.raise, hm]
      | blocked => exact Or.inr (Or.inl ⟨rfl, rfl⟩)
      | waiting => exact Or.inr (Or.inr (Or.inl ⟨rfl, rfl⟩))
      | exit c => exact trivial
      | fatal m =>
        simp only [endFatal]
        split
        · exact kind_die
        · exact trivial
        · exact trivial
      | throw m => exact kind_die
      | unsupported u =>
        cases u with
        | initOrder g =>
          simp only [early, hP.ahead, hP.steps]
          exact trivial
        | _ => exact trivial
      | stuck s => exact trivial
theorem kind_to {g : Goroutine} {w' : World} {es : Array Event} {s : GStep} (h : s = .go (G fr cs) w' es) {fr0 : Frame} {cs0 : List Frame} (hm : fr.mode = .run ∨ fr.mode = .returning) : Kind P fr0 cs0 s := by
  rw [h]
  exact Or.inl ⟨_, _, rfl, Or.inl fun ch e => by rw [e] at hm; rcases hm with hm | hm <;> cases hm⟩
theorem kind_run (hP : Prg P A) (hm : fr.mode = .run) (hfr : FrOk P A fr) (hn : ∀ o, AtOp fr o → ∀ n w' es, (execOp fr.eval o).runT P w #[] = (.ok n w', es) → Three n) : Kind P fr cs (stepG P true (G fr cs) w) := by
  have hfr0 := hfr
  obtain ⟨fn, tmps, todo, defers, mode, kind, ro⟩ := fr
  obtain ⟨h1, h2, h3, h4⟩ := hfr
  simp only at hm h1 h2 h3 h4
  subst hm h2 h3 h4
  have go : ∀ (fr2 : Frame) (s : GStep) (w' : World) (es : Array Event), s = .go (G fr2 cs) w' es → (fr2.mode = .run ∨ fr2.mode = .returning) → Kind P { fn := fn, tmps := tmps, todo := todo, defers := [], mode := .run, kind := .normal } cs s := fun fr2 s w' es e hm2 => kind_to (g := default) e hm2
  cases todo with
  | nil => exact go { fn := fn, tmps := tmps, todo := [], defers := [], mode := .returning, kind := .normal } _ w #[] (by simp [G, stepG, stepG.exec]) (Or.inr rfl)
  | cons it tl =>
    have hit := h1 it (by simp)
    cases it with
    | inBlock id => exact go { fn := fn, tmps := tmps, todo := tl, defers := [], mode := .run, kind := .normal } _ w #[] (by simp [G, stepG, stepG.exec]) (Or.inl rfl)
    | inLoop c => exact go { fn := fn, tmps := tmps, todo := .code c :: .inLoop c :: tl, defers := [], mode := .run, kind := .normal } _ w #[] (by simp [G, stepG, stepG.exec]) (Or.inl rfl)
    | inRegion ops l =>
      cases l with
      | nil => exact go { fn := fn, tmps := tmps, todo := tl, defers := [], mode := .run, kind := .normal } _ w #[] (by simp [G, stepG, stepG.exec]) (Or.inl rfl)
      | cons i l =>
        cases hw : ((ops[i]?).map (Region.wanted · (yielded ops tmps))).getD false with
        | false => exact go (({ fn := fn, tmps := tmps, todo := .inRegion ops (i :: l) :: tl, defers := [], mode := .run, kind := .normal } : Frame).finish undef) _ w #[] (by simp [G, stepG, stepG.exec, hw]) (Or.inl (finish_mode _ _).1)
        | true =>
          cases ho : ops[i]? with
          | none => rw [ho] at hw; simp at hw
          | some o =>
            rw [ho] at hw
            have hat : AtOp { fn := fn, tmps := tmps, todo := .inRegion ops (i :: l) :: tl, defers := [], mode := .run, kind := .normal } o := ⟨rfl, rfl, rfl, ops, i, l, tl, rfl, ho, by simpa using hw⟩
            exact kind_op hP hat rfl (hn o hat)
    | code c =>
      cases c with
      | skip => exact go { fn := fn, tmps := tmps, todo := tl, defers := [], mode := .run, kind := .normal } _ w #[] (by simp [G, stepG, stepG.exec]) (Or.inl rfl)
      | ret => exact go { fn := fn, tmps := tmps, todo := .code .ret :: tl, defers := [], mode := .returning, kind := .normal } _ w #[] (by simp [G, stepG, stepG.exec]) (Or.inr rfl)
      | seq a b => exact go { fn := fn, tmps := tmps, todo := .code a :: .code b :: tl, defers := [], mode := .run, kind := .normal } _ w #[] (by simp [G, stepG, stepG.exec]) (Or.inl rfl)
      | block id a => exact go { fn := fn, tmps := tmps, todo := .code a :: .inBlock id :: tl, defers := [], mode := .run, kind := .normal } _ w #[] (by simp [G, stepG, stepG.exec]) (Or.inl rfl)
      | loop a => exact go { fn := fn, tmps := tmps, todo := .code a :: .inLoop a :: tl, defers := [], mode := .run, kind := .normal } _ w #[] (by simp [G, stepG, stepG.exec]) (Or.inl rfl)
      | cond c a b =>
        cases hv : ({ fn := fn, tmps := tmps, todo := .code (.cond c a b) :: tl, defers := [], mode := .run, kind := .normal } : Frame).eval c with
        | bool t => exact go { fn := fn, tmps := tmps, todo := .code (if t then a else b) :: tl, defers := [], mode := .run, kind := .normal } _ w #[] (by simp [G, stepG, stepG.exec, hv]) (Or.inl rfl)
        | _ => simp [G, stepG, stepG.exec, hv, Kind]
      | exit id =>
        cases hx : exitTo id tl with
        | none => simp [G, stepG, stepG.exec, hx, Kind]
        | some t' => exact go { fn := fn, tmps := tmps, todo := t', defers := [], mode := .run, kind := .normal } _ w #[] (by simp [G, stepG, stepG.exec, hx]) (Or.inl rfl)
      | refuse why => simp [G, stepG, stepG.exec, Kind]
      | region id ops d =>
        cases d with
        | false => exact go { fn := fn, tmps := tmps, todo := .inRegion ops (List.range ops.size) :: tl, defers := [], mode := .run, kind := .normal } _ w #[] (by simp [G, stepG, stepG.exec]) (Or.inl rfl)
        | true =>
          cases hr : (choose (.order fn id)).run P w with
          | halt x w => simp [G, stepG, stepG.exec, hr, Kind]
          | ok t w1 => exact go { fn := fn, tmps := tmps, todo := .inRegion ops (Region.schedule (P.follows .mixedOrders) ops t) :: tl, defers := [], mode := .run, kind := .normal } _ w1 #[] (by simp [G, stepG, stepG.exec, hr]) (Or.inl rfl)
      | _ => exact hit.elim
    | _ => exact hit.elim
theorem kind_ret (hm : fr.mode = .returning) (hfr : FrOk P A fr) {c : Frame} (hc : ∀ ch, c.mode ≠ .panicking ch) : Kind P fr (c :: cs) (stepG P true (G fr (c :: cs)) w) := by
  cases hf : P.funcs[fr.fn]? with
  | none =>
    rw [step_ret_none hm hfr.defers hfr.kind hf]
    exact Or.inl ⟨_, _, rfl, Or.inl fun ch e => hc ch (by rw [← (finish_mode c _).1]; exact e)⟩
  | some fn =>
    cases hr : (results fn fr.tmps).runT P w #[] with
    | mk r es0 =>
      cases r with
      | ok v w1 =>
        rw [step_ret hm hfr.defers hfr.kind hf hr]
        exact Or.inl ⟨_, _, rfl, Or.inl fun ch e => hc ch (by rw [← (finish_mode c _).1]; exact e)⟩
      | halt x w1 =>
        unfold stepG G
        simp only [hm]
        unfold unwind
        simp only [hfr.defers, hm, hf, hr]
        refine Kind.after ?_
        split
        · rename_i q; cases q
        · exact trivial
        · exact trivial
end
end Go.Proofs.Ytdjnnhdeijnhgab.Rn

/-
  Blocks renamed: the lone machine; where it never comes back from.
-/
namespace Go.Proofs.Ytdjnnhdeijnhgab.Rn
open Go Go.Conc
set_option linter.all false

/-- Below the lone stack: who comes down to it ends the run. -/
def trap (P : Program) : Frame := { fn := P.funcs.size, tmps := #[], todo := [.call { target := .nil, args := #[] } false "fmt's door" #[]], defers := [], mode := .run, kind := .normal }
def Doomed (P : Program) (Fin : Frame → Prop) (m : Machine) : Prop := ∀ n fr w, Fin fr → runN P n m ≠ .next (lone fr [trap P] w)
section
variable {P : Program} {A : Nat → Prop} {cs : List Frame} {w : World} {fr : Frame} {Fin : Frame → Prop}
theorem step_one {cs : List Frame} {g : Goroutine} {w' : World} {es : Array Event} (h : stepG P true (G fr cs) w = .go g w' es) : step P (lone fr cs w) = .next (oneG g w') := by
  have h' : stepG P true { frame := fr, callers := cs, status := .running, dying := none } w = .go g w' es := h
  rw [step, stepT, move_lone]
  simp [runT, lone, oneG, Array.swapAt!, h']
theorem step_one_end {cs : List Frame} {o : Outcome} {w' : World} {es : Array Event} (h : stepG P true (G fr cs) w = .ended o w' es) : step P (lone fr cs w) = .ended o w' := by
  have h' : stepG P true { frame := fr, callers := cs, status := .running, dying := none } w = .ended o w' es := h
  rw [step, stepT, move_lone]
  simp [runT, lone, Array.swapAt!, h']
theorem lone_one (fr : Frame) (cs : List Frame) (w : World) : lone fr cs w = oneG (G fr cs) w := rfl
theorem oneG_inj {g g' : Goroutine} {w w' : World} (h : oneG g w = oneG g' w') : g = g' ∧ w = w' := by
  simp [oneG] at h
  exact ⟨h.2, h.1⟩
theorem doomed_ended {m : Machine} {o : Outcome} {w' : World} (h : step P m = .ended o w') (hm : ∀ fr w, Fin fr → m ≠ lone fr [trap P] w) : Doomed P Fin m := by
  intro n fr w hF e
  cases n with
  | zero => simp [runN] at e; exact hm fr w hF e
  | succ n => simp [runN, h] at e
theorem doomed_next {m m' : Machine} (h : step P m = .next m') (hd : Doomed P Fin m') (hm : ∀ fr w, Fin fr → m ≠ lone fr [trap P] w) : Doomed P Fin m := by
  intro n fr w hF e
  cases n with
  | zero => simp [runN] at e; exact hm fr w hF e
  | succ n => simp [runN, h] at e; exact hd n fr w hF e
theorem doomed_blocked {g : Goroutine} (h : g.status = .blocked) : Doomed P Fin (oneG g w) := by
  obtain ⟨fr, cs, st, dy, off⟩ := g
  simp only at h
  subst h
  obtain ⟨o', w', he, ho⟩ := endWith_ended w 2 (bytes "fatal error: all goroutines are asleep - deadlock!\n") (.fatal "all goroutines are asleep - deadlock!")
  refine doomed_ended (o := o') (w' := w') ?_ ?_
  · simp [step, stepT, move, ask, askOn, oneG, runnable_eq, due, ahead, Goroutine.canRun, List.range_succ, pure]
    rw [he]
  · intro fr w hF e
    have := (oneG_inj (e.trans (lone_one _ _ _))).1
    simp [G] at this
theorem doomed_waiting {g : Goroutine} (h : g.status = .waiting) : Doomed P Fin (oneG g w) := by
  obtain ⟨fr, cs, st, dy, off⟩ := g
  simp only at h
  subst h
  have hs : step P (oneG { frame := fr, callers := cs, status := .waiting, dying := dy, offers := off } w) = .next (oneG { frame := fr, callers := cs, status := .waiting, dying := dy, offers := off } w) := by
    simp [step, stepT, move, ask, askOn, oneG, runnable_eq, due, ahead, Goroutine.canRun, List.range_succ, pure, Sem.run]
  intro n fr' w' hF e
  have key : runN P n (oneG { frame := fr, callers := cs, status := .waiting, dying := dy, offers := off } w) = .next (oneG { frame := fr, callers := cs, status := .waiting, dying := dy, offers := off } w) := by
    induction n with
    | zero => rfl
    | succ n ih => simp only [runN, hs]; exact ih (by rw [← e]; simp [runN, hs])
  rw [key] at e
  have := (oneG_inj ((Stepped.next.inj e).trans (lone_one _ _ _))).1
  simp [G] at this
theorem doomed_dying {g : Goroutine} (h : g.dyingOn P) : Doomed P Fin (oneG g w) := by
  intro n
  induction n generalizing g w with
  | zero =>
    intro fr w' hF e
    simp only [runN, Stepped.next.injEq] at e
    have := (oneG_inj (e.trans (lone_one _ _ _))).1
    obtain ⟨-, d, hd, -⟩ := h
    rw [this] at hd
    simp [G] at hd
  | succ n ih =>
    intro fr w' hF e
    rcases step_dyingOn (w := w) h with ⟨g', w1, hs, h'⟩ | ⟨o, w1, hs, ho⟩
    · simp only [runN, hs] at e
      exact ih h' fr w' hF e
    · simp [runN, hs] at e
end
end Go.Proofs.Ytdjnnhdeijnhgab.Rn

/-
  Blocks renamed: the lone machine goes on as it should, or never comes back.
-/
namespace Go.Proofs.Ytdjnnhdeijnhgab.Rn
open Go Go.Conc
set_option linter.all false

section
variable {P : Program} {A : Nat → Prop} {cs : List Frame} {w : World} {fr : Frame} {Fin : Frame → Prop}
theorem not_catches (h : ∀ it ∈ fr.todo, ItP P A it) : fr.catches P = false := by
  unfold Frame.catches
  split
  · rename_i d wr r s tl _ ht
    exact False.elim (h (.call d wr r s) (by rw [ht]; simp))
  · rfl
theorem trap_catches : ({ trap P with mode := .panicking [] } : Frame).catches P = true := by
  simp [Frame.catches, trap]
theorem fin_mode (hF : ∀ fr, Fin fr → fr.mode = .run ∨ fr.mode = .returning) {ch : List PanicEntry} (hm : fr.mode = .panicking ch) {cs : List Frame} : ∀ fr' w', Fin fr' → lone fr cs w ≠ lone fr' [trap P] w' := by
  intro fr' w' hf e
  have := (oneG_inj (((lone_one _ _ _).symm.trans e).trans (lone_one _ _ _))).1
  simp [G] at this
  rcases hF fr' hf with q | q <;> rw [← this.1, hm] at q <;> cases q
theorem doomed_panic (hF : ∀ fr, Fin fr → fr.mode = .run ∨ fr.mode = .returning) : ∀ (cs : List Frame) (fr : Frame) (w : World) (ch : List PanicEntry), fr.mode = .panicking ch → fr.defers = [] → fr.catches P = false → (∀ x ∈ cs, FrOk P A x ∧ x.mode = .run ∧ x.todo ≠ []) → Doomed P Fin (lone fr (cs ++ [trap P]) w) := by
  intro cs
  induction cs with
  | nil =>
    intro fr w ch hm hd hc _
    refine doomed_next (m' := oneG (G ((trap P).raise ch) []) w) (step_one (es := #[]) ?_) ?_ (fin_mode hF hm)
    · unfold stepG G
      simp only [hm]
      unfold unwind
      simp only [hd, hm, hc, List.nil_append]
      rfl
    · have e : stepG P true (G ((trap P).raise ch) []) w = .ended (.unsupported (.noEntry "a panic or Goexit out of a method that fmt calls behind a cut's door") (((trap P).raise ch).pos P)) w #[] := by
        unfold stepG G
        simp only [Frame.raise, trap]
        unfold unwind
        simp [Frame.catches]
      refine doomed_ended (step_one_end e) (fin_mode hF (ch := ch) ?_)
      simp [Frame.raise, trap]
  | cons c cs ih =>
    intro fr w ch hm hd hc hcs
    have hcc := hcs c (by simp)
    refine doomed_next (m' := oneG (G (c.raise ch) (cs ++ [trap P])) w) (step_one (es := #[]) ?_) ?_ (fin_mode hF hm)
    · unfold stepG G
      simp only [hm]
      unfold unwind
      simp only [hd, hm, hc, List.cons_append]
      rfl
    · have hr : (c.raise ch).mode = .panicking ch ∧ (c.raise ch).defers = c.defers ∧ (c.raise ch).todo = c.todo := by
        unfold Frame.raise
        rw [hcc.2.1]
        exact ⟨rfl, rfl, rfl⟩
      exact ih (c.raise ch) w ch hr.1 (hr.2.1.trans hcc.1.defers) (not_catches (A := A) (by rw [hr.2.2]; exact hcc.1.todo)) fun x hx => hcs x (by simp [hx])
/-- Behind the lowest frame's return there is nothing. -/
theorem doomed_down (hm : fr.mode = .returning) (hfr : FrOk P A fr) {m1 : Machine} (h : step P (lone fr [trap P] w) = .next m1) : Doomed P Fin m1 := by
  have key : ∀ v w1, Doomed P Fin (oneG (G ((trap P).finish v) []) w1) := by
    intro v w1
    have e : stepG P true (G ((trap P).finish v) []) w1 = .ended (.stuck ("no extern row " ++ "fmt's door") (((trap P).finish v).pos P)) w1 #[] := by
      have e1 : Extern.next "fmt's door" = none := rfl
      unfold stepG G
      simp only [Frame.finish, trap]
      unfold stepG.exec
      simp [e1]
    refine doomed_ended (step_one_end e) ?_
    intro fr' w' hf e
    have := (oneG_inj (((lone_one _ _ _).symm.trans e).trans (lone_one _ _ _))).1
    simp [G] at this
  cases hf : P.funcs[fr.fn]? with
  | none =>
    rw [step_one (step_ret_none hm hfr.defers hfr.kind hf)] at h
    cases h
    exact key _ _
  | some fn =>
    cases hr : (results fn fr.tmps).runT P w #[] with
    | mk r es0 =>
      cases r with
      | ok v w1 =>
        rw [step_one (step_ret hm hfr.defers hfr.kind hf hr)] at h
        cases h
        exact key _ _
      | halt x w1 =>
        exfalso
        have hk : Kind P fr [trap P] (stepG P true (G fr [trap P]) w) := kind_ret (A := A) hm hfr (fun ch e => by cases e)
        cases hs : stepG P true (G fr [trap P]) w with
        | go g w2 es2 => exact step_ret_halt hm hfr.defers hf hr hs
        | ended o w2 es2 => rw [step_one_end hs] at h; cases h
        | _ => rw [hs] at hk; exact hk.elim
/-- The lone machine's step: as it should be, or doomed. -/
theorem lone_next (hF : ∀ fr, Fin fr → fr.mode = .run ∨ fr.mode = .returning) (hP : Prg P A) (hm : fr.mode = .run ∨ fr.mode = .returning) (hfr : FrOk P A fr) (hcs : ∀ x ∈ cs, FrOk P A x ∧ x.mode = .run ∧ x.todo ≠ []) (hne : fr.mode = .returning → cs ≠ [])
    (hn : ∀ o, AtOp fr o → ∀ n w' es, (execOp fr.eval o).runT P w #[] = (.ok n w', es) → Three n) {m1 : Machine} (h : step P (lone fr (cs ++ [trap P]) w) = .next m1) (hd : ¬ Doomed P Fin m1) :
    ∃ fr2 cs2 w2 es, stepG P true (G fr (cs ++ [trap P])) w = .go (G fr2 cs2) w2 es ∧ (∀ ch, fr2.mode ≠ .panicking ch) ∧ m1 = lone fr2 cs2 w2 := by
  have hk : Kind P fr (cs ++ [trap P]) (stepG P true (G fr (cs ++ [trap P])) w) := by
    rcases hm with hm | hm
    · exact kind_run hP hm hfr hn
    · cases cs with
      | nil => exact absurd rfl (hne hm)
      | cons c cs => exact kind_ret (A := A) hm hfr fun ch e => by rw [(hcs c (by simp)).2.1] at e; cases e
  cases hs : stepG P true (G fr (cs ++ [trap P])) w with
  | ended o w2 es2 => rw [step_one_end hs] at h; cases h
  | go g w2 es2 =>
    rw [hs] at hk
    rw [step_one hs] at h
    cases h
    rcases hk with ⟨fr2, cs2, rfl, k | ⟨rfl, ⟨ch, k1⟩, k2, k3⟩⟩ | k | k | k
    · exact ⟨fr2, cs2, w2, es2, rfl, k, rfl⟩
    · exact absurd (doomed_panic (A := A) hF cs fr2 w2 ch k1 k2 (not_catches (A := A) (by rw [k3]; exact hfr.todo)) hcs) hd
    · exact absurd (doomed_blocked k.1) hd
    · exact absurd (doomed_waiting k.1) hd
    · exact absurd (doomed_dying k) hd
  | _ => rw [hs] at hk; exact hk.elim
end
end Go.Proofs.Ytdjnnhdeijnhgab.Rn

/-
  Blocks renamed: a goroutine in company: its own steps, one after another; what they make and draw, laid end to end.
-/
namespace Go.Proofs.Ytdjnnhdeijnhgab.Rn
open Go Go.Conc
set_option linter.all false

/-- Pieces laid end to end. -/
theorem glue {α : Type} (c s : Nat → Nat) (hc : ∀ i, c (i + 1) = c i + s i) (v : Nat → Nat → α) (v0 : Nat → α) : ∃ F : Nat → α, (∀ b, b < c 0 → F b = v0 b) ∧ (∀ i j, j < s i → F (c i + j) = v i j) ∧ ∀ b, (∀ i j, j < s i → c i + j ≠ b) → F b = v0 b := by
  classical
  have mono : ∀ i k, c i ≤ c (i + k) := by
    intro i k
    induction k with
    | zero => exact Nat.le_refl _
    | succ k ih => rw [← Nat.add_assoc, hc]; omega
  have one : ∀ i j i' j', j < s i → j' < s i' → c i + j = c i' + j' → i = i' := by
    intro i j i' j' h1 h2 e
    rcases Nat.lt_trichotomy i i' with h | h | h
    · have := mono (i + 1) (i' - (i + 1))
      rw [show i + 1 + (i' - (i + 1)) = i' by omega, hc] at this
      omega
    · exact h
    · have := mono (i' + 1) (i - (i' + 1))
      rw [show i' + 1 + (i - (i' + 1)) = i by omega, hc] at this
      omega
  refine ⟨fun b => if h : ∃ p : Nat × Nat, p.2 < s p.1 ∧ c p.1 + p.2 = b then v h.choose.1 h.choose.2 else v0 b, fun b hb => ?_, fun i j hj => ?_, fun b hb => ?_⟩
  · show (if h : ∃ p : Nat × Nat, p.2 < s p.1 ∧ c p.1 + p.2 = b then v h.choose.1 h.choose.2 else v0 b) = _
    rw [dif_neg]
    rintro ⟨⟨i, j⟩, h1, h2⟩
    have := mono 0 i
    rw [Nat.zero_add] at this
    simp only at h2
    omega
  · have hx : ∃ p : Nat × Nat, p.2 < s p.1 ∧ c p.1 + p.2 = c i + j := ⟨(i, j), hj, rfl⟩
    show (if h : ∃ p : Nat × Nat, p.2 < s p.1 ∧ c p.1 + p.2 = c i + j then v h.choose.1 h.choose.2 else v0 (c i + j)) = _
    rw [dif_pos hx]
    have hs := hx.choose_spec
    have e1 : hx.choose.1 = i := one _ _ _ _ hs.1 hj hs.2
    have e2 : hx.choose.2 = j := by have := hs.2; rw [e1] at this; omega
    rw [e1, e2]
  · show (if h : ∃ p : Nat × Nat, p.2 < s p.1 ∧ c p.1 + p.2 = b then v h.choose.1 h.choose.2 else v0 b) = _
    rw [dif_neg]
    rintro ⟨⟨i, j⟩, h1, h2⟩
    exact hb i j h1 h2
/-- A company of goroutines: its machine's parts, its trace; N: the blocks that are not goroutine 0's; what the others may still do. -/
structure St where
  gs : Array Goroutine
  w : World
  sl : Option (Nat × Nat)
  t : Trace
  N : Nat → Prop
  μ : Nat
def St.m (x : St) : Machine := crowd x.gs x.w x.sl
def To (P : Program) (x y : St) : Prop := ∃ n, runNT P n x.m x.t = (.next y.m, y.t)
def One (P : Program) (x y : St) : Prop := ∃ ops, stepT P x.m = (.next y.m, ops) ∧ y.t = x.t ++ ops
/-- What the others may do to the world. -/
structure OthW (N : Nat → Prop) (w w' : World) (N' : Nat → Prop) : Prop where
  tape : w'.tape = w.tape
  os : w'.os = w.os
  output : w'.output = w.output
  size : w.heap.size ≤ w'.heap.size
  same : ∀ b, b < w.heap.size → ¬ N b → w'.heap[b]? = w.heap[b]?
  more : ∀ b, N b → N' b
  new : ∀ b, b < w.heap.size → N' b → N b
/-- What goroutine 0 may do to it. -/
structure MineW (N : Nat → Prop) (w w' : World) : Prop where
  tape : w'.tape = w.tape
  os : w'.os = w.os
  output : w'.output = w.output
  size : w.heap.size ≤ w'.heap.size
  same : ∀ b, N b → w'.heap[b]? = w.heap[b]?
def EvC (N : Nat → Prop) (z : Nat) (e : Event) : Prop := (∃ a wr, e = ⟨.cell a, wr, false⟩ ∧ ¬ N a.block ∧ a.block < z) ∨ e = ⟨.mark .noRoom, false, true⟩ ∨ ∃ r s, e = ⟨.obj r, false, s⟩ ∧ r < z
/-- The company behind goroutine 0's own step. -/
def St.own (P : Program) (x : St) (sl : Option (Nat × Nat)) (g g' : Goroutine) (w' : World) (es : Array Event) : St :=
  { gs := (x.gs.map (woken P g g' w')).setIfInBounds 0 g', w := w', sl := sl, t := x.t ++ MemOp.ofEvents 0 g.frame.fn g.frame.place es, N := x.N, μ := x.μ }
structure Comp (P : Program) (I : St → Prop) (R : (Nat → Prop) → World → World → (Nat → Prop) → Prop) : Prop where
  pick : ∀ x fr cs, I x → x.gs[0]? = some (G fr cs) → (∃ d sl', stepT P x.m = runT P (crowd x.gs (x.w.at d) sl') 0) ∨ ∃ y, I y ∧ y.gs[0]? = x.gs[0]? ∧ y.μ < x.μ ∧ One P x y ∧ R x.N x.w y.w y.N
  own : ∀ x fr cs d sl' fr' cs' w' es, I x → x.gs[0]? = some (G fr cs) → stepG P true (G fr cs) (x.w.at d) = .go (G fr' cs') w' es → MineW x.N x.w w' → (∀ e ∈ es, EvC x.N w'.heap.size e) → I (x.own P sl' (G fr cs) (G fr' cs') w' es)
  low : ∀ x, I x → ∀ b, x.N b → b < x.w.heap.size
  oth : ∀ {N w w' N'}, R N w w' N' → OthW N w w' N'
  refl : ∀ N w, R N w w N
  trans : ∀ {N w N' w' N'' w''}, R N w w' N' → R N' w' w'' N'' → R N w w'' N''
section
variable {P : Program} {I : St → Prop} {R : (Nat → Prop) → World → World → (Nat → Prop) → Prop}
theorem To.refl (x : St) : To P x x := ⟨0, rfl⟩
theorem runNT_plus : ∀ (n k : Nat) (m : Machine) (t : Trace) (m' : Machine) (t' : Trace), runNT P n m t = (.next m', t') → runNT P (n + k) m t = runNT P k m' t' := by
  intro n
  induction n with
  | zero => intro k m t m' t' h; simp [runNT] at h; obtain ⟨rfl, rfl⟩ := h; simp
  | succ n ih =>
    intro k m t m' t' h
    rw [show n + 1 + k = (n + k) + 1 by omega]
    simp only [runNT] at h ⊢
    cases hs : stepT P m with
    | mk s ops =>
      cases s with
      | next m1 => rw [hs] at h; simp only at h ⊢; exact ih k m1 _ m' t' h
      | ended o w => rw [hs] at h; simp at h
theorem To.trans {x y z : St} (h : To P x y) (k : To P y z) : To P x z := by
  obtain ⟨n, h⟩ := h
  obtain ⟨j, k⟩ := k
  exact ⟨n + j, by rw [runNT_plus n j _ _ _ _ h]; exact k⟩
theorem One.to {x y : St} (h : One P x y) : To P x y := by
  obtain ⟨ops, h, e⟩ := h
  exact ⟨1, by simp only [runNT, h, e]⟩
/-- Goroutine 0 comes to its next own step. -/
def Ready (P : Program) (I : St → Prop) (R : (Nat → Prop) → World → World → (Nat → Prop) → Prop) (x y : St) (d : Nat) (sl : Option (Nat × Nat)) : Prop :=
  I y ∧ y.gs[0]? = x.gs[0]? ∧ To P x y ∧ R x.N x.w y.w y.N ∧ stepT P y.m = runT P (crowd y.gs (y.w.at d) sl) 0
theorem ready (hK : Comp P I R) : ∀ (n : Nat) (x : St) (fr : Frame) (cs : List Frame), x.μ ≤ n → I x → x.gs[0]? = some (G fr cs) → ∃ y d sl, Ready P I R x y d sl := by
  intro n
  induction n with
  | zero =>
    intro x fr cs hn hI h0
    rcases hK.pick x fr cs hI h0 with ⟨d, sl, h⟩ | ⟨y, h1, h2, h3, h4, h5⟩
    · exact ⟨x, d, sl, hI, rfl, To.refl x, hK.refl _ _, h⟩
    · omega
  | succ n ih =>
    intro x fr cs hn hI h0
    rcases hK.pick x fr cs hI h0 with ⟨d, sl, h⟩ | ⟨y, h1, h2, h3, h4, h5⟩
    · exact ⟨x, d, sl, hI, rfl, To.refl x, hK.refl _ _, h⟩
    · obtain ⟨z, d, sl, k1, k2, k3, k4, k5⟩ := ih y fr cs (by omega) h1 (h2.trans h0)
      exact ⟨z, d, sl, k1, k2.trans h2, h4.to.trans k3, hK.trans h5 k4, k5⟩
theorem ownW_mono (fr : Frame) (w : World) : w.drawn ≤ (ownW P fr w).drawn ∧ w.heap.size ≤ (ownW P fr w).heap.size := by
  unfold ownW
  split
  · split
    · split
      · exact runT_mono _ w #[]
      · exact ⟨Nat.le_refl _, Nat.le_refl _⟩
    · exact ⟨Nat.le_refl _, Nat.le_refl _⟩
  · exact runT_mono _ w #[]
  · split
    · exact runT_mono _ w #[]
    · exact ⟨Nat.le_refl _, Nat.le_refl _⟩
  · exact ⟨Nat.le_refl _, Nat.le_refl _⟩
end
end Go.Proofs.Ytdjnnhdeijnhgab.Rn

/-
  Blocks renamed: the own steps of a goroutine in company, one beside the other with the lone one's.
-/
namespace Go.Proofs.Ytdjnnhdeijnhgab.Rn
open Go Go.Conc
set_option linter.all false

section
variable (P : Program) (I : St → Prop) (R : (Nat → Prop) → World → World → (Nat → Prop) → Prop)
open Classical in
noncomputable def nxt (x : St) : St × Nat × Option (Nat × Nat) := if h : ∃ q : St × Nat × Option (Nat × Nat), Ready P I R x q.1 q.2.1 q.2.2 then h.choose else (x, x.w.drawn, x.sl)
noncomputable def wAt (x : St) : World := (nxt P I R x).1.w.at (nxt P I R x).2.1
def gOf (x : St) : Goroutine := (x.gs[0]?).getD default
noncomputable def after (x : St) : St :=
  match stepG P true (gOf x) (wAt P I R x) with
  | .go g' _ es => (nxt P I R x).1.own P (nxt P I R x).2.2 (gOf x) g' (ownW P (gOf x).frame (wAt P I R x)) es
  | _ => { (nxt P I R x).1 with w := ownW P (gOf x).frame (wAt P I R x) }
noncomputable def xs (x0 : St) : Nat → St
  | 0 => x0
  | i + 1 => after P I R (xs x0 i)
noncomputable def ow (x0 : St) (i : Nat) : World := ownW P (gOf (xs P I R x0 i)).frame (wAt P I R (xs P I R x0 i))
noncomputable def made (x0 : St) (i : Nat) : Nat := (ow P I R x0 i).heap.size - (wAt P I R (xs P I R x0 i)).heap.size
noncomputable def drew (x0 : St) (i : Nat) : Nat := (ow P I R x0 i).drawn - (wAt P I R (xs P I R x0 i)).drawn
noncomputable def cs0 (x0 : St) : Nat → Nat
  | 0 => x0.w.heap.size
  | i + 1 => cs0 x0 i + made P I R x0 i
noncomputable def ds0 (x0 : St) : Nat → Nat
  | 0 => 0
  | i + 1 => ds0 x0 i + drew P I R x0 i
end
section
variable {P : Program} {I : St → Prop} {R : (Nat → Prop) → World → World → (Nat → Prop) → Prop}
theorem after_w (x : St) : (after P I R x).w = ownW P (gOf x).frame (wAt P I R x) := by
  unfold after
  split <;> rfl
theorem nxt_ready {x : St} (h : ∃ y d sl, Ready P I R x y d sl) : Ready P I R x (nxt P I R x).1 (nxt P I R x).2.1 (nxt P I R x).2.2 := by
  obtain ⟨y, d, sl, h⟩ := h
  have hx : ∃ q : St × Nat × Option (Nat × Nat), Ready P I R x q.1 q.2.1 q.2.2 := ⟨(y, d, sl), h⟩
  unfold nxt
  rw [dif_pos hx]
  exact hx.choose_spec
/-- The blocks' new numbers and the tape that the run draws from: of this company's run. -/
structure Own (P : Program) (I : St → Prop) (R : (Nat → Prop) → World → World → (Nat → Prop) → Prop) (x0 : St) (f : Nat → Nat) (T : Tape) : Prop where
  id : ∀ b, b < x0.w.heap.size → f b = b
  new : ∀ i j, j < made P I R x0 i → f (cs0 P I R x0 i + j) = (wAt P I R (xs P I R x0 i)).heap.size + j
  tape : ∀ i j q, j < drew P I R x0 i → T (ds0 P I R x0 i + j) q = (wAt P I R (xs P I R x0 i)).tape ((wAt P I R (xs P I R x0 i)).drawn + j) q
theorem own_some (x0 : St) : ∃ f T, Own P I R x0 f T ∧ ((∀ N w w' N', R N w w' N' → w'.heap.size = w.heap.size) → (∀ b, f b = b) ∧ ∀ i, cs0 P I R x0 i = (xs P I R x0 i).w.heap.size) := by
  obtain ⟨f, h1, h2, h3⟩ := glue (cs0 P I R x0) (made P I R x0) (fun _ => rfl) (fun i j => (wAt P I R (xs P I R x0 i)).heap.size + j) (fun b => b)
  obtain ⟨T, k1, k2, k3⟩ := glue (ds0 P I R x0) (drew P I R x0) (fun _ => rfl) (fun i j => (wAt P I R (xs P I R x0 i)).tape ((wAt P I R (xs P I R x0 i)).drawn + j)) (fun _ _ => 0)
  refine ⟨f, T, ⟨h1, h2, fun i j q hj => by rw [k2 i j hj]⟩, fun hR => ?_⟩
  have hn : ∀ x : St, (wAt P I R x).heap.size = x.w.heap.size := by
    intro x
    by_cases h : ∃ y d sl, Ready P I R x y d sl
    · have hh := hR _ _ _ _ (nxt_ready h).2.2.2.1
      exact hh
    · unfold wAt nxt
      rw [dif_neg (fun ⟨q, hq⟩ => h ⟨_, _, _, hq⟩)]
      rfl
  have hc : ∀ i, cs0 P I R x0 i = (xs P I R x0 i).w.heap.size := by
    intro i
    induction i with
    | zero => rfl
    | succ i ih =>
      have hm := (ownW_mono (P := P) (gOf (xs P I R x0 i)).frame (wAt P I R (xs P I R x0 i))).2
      show cs0 P I R x0 i + made P I R x0 i = (after P I R (xs P I R x0 i)).w.heap.size
      rw [after_w, ih]
      unfold made ow
      rw [← hn (xs P I R x0 i)]
      omega
  refine ⟨fun b => ?_, hc⟩
  by_cases h : ∃ i j, j < made P I R x0 i ∧ cs0 P I R x0 i + j = b
  · obtain ⟨i, j, hj, rfl⟩ := h
    rw [h2 i j hj, hn, hc]
  · exact h3 b fun i j hj e => h ⟨i, j, hj, e⟩
/-- Blocks that can be looked at. -/
def Alive (w : World) (b : Nat) : Prop := ∃ o, w.heap[b]? = some o ∧ o ≠ Dead
theorem isC_alive {w : World} {b : Nat} (h : IsC w b) : Alive w b := by
  obtain ⟨cs, e, fz, h⟩ := h
  exact ⟨_, h, by simp [Dead]⟩
theorem alive_lt {w : World} {b : Nat} (h : Alive w b) : b < w.heap.size := by
  obtain ⟨o, h, -⟩ := h
  exact (Array.getElem?_eq_some_iff.1 h).1
theorem alive_back {Dd : Nat → Prop} {f f' : Nat → Nat} {wl wc wl2 wc2 : World} (h : WR Dd f wl wc) (h2 : WR Dd f' wl2 wc2) {b : Nat} (hb : b < wl.heap.size) (ha : Alive wl2 b) : Alive wl b := by
  obtain ⟨o, ho, hn⟩ := ha
  refine ⟨wl.heap[b], Array.getElem?_eq_getElem hb, fun e => ?_⟩
  have := h2.dd b (h.live b (by rw [Array.getElem?_eq_getElem hb, e]))
  rw [ho] at this
  exact hn (Option.some.inj this)
theorem wr_oth {Dd : Nat → Prop} {f : Nat → Nat} {wl w w' : World} {N N' : Nat → Prop} (h : WR Dd f wl w) (ho : OthW N w w' N') (hd : ∀ b, Alive wl b → ¬ N (f b)) : WR Dd f wl w' := by
  have key : ∀ b o, wl.heap[b]? = some o → o ≠ Dead → w'.heap[f b]? = w.heap[f b]? := fun b o hb hn => ho.same _ (h.lt b (Array.getElem?_eq_some_iff.1 hb).1) (hd b ⟨o, hb, hn⟩)
  refine ⟨fun b cs e fz hb => ?_, fun b a l hb => ?_, h.plain, h.dd, h.live, h.inj, fun b hb => Nat.lt_of_lt_of_le (h.lt b hb) ho.size⟩
  · rw [key b _ hb (by simp [Dead])]; exact h.cells b cs e fz hb
  · rw [key b _ hb (by simp [Dead])]; exact h.nums b a l hb
theorem wr_at {Dd : Nat → Prop} {f : Nat → Nat} {wl w : World} (h : WR Dd f wl w) (d : Nat) : WR Dd f wl (w.at d) := ⟨h.cells, h.nums, h.plain, h.dd, h.live, h.inj, h.lt⟩
end
end Go.Proofs.Ytdjnnhdeijnhgab.Rn
