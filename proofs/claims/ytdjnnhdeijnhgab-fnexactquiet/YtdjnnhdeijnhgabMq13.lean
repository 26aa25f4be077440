/-
  Blocks renamed: what is said of a call of a lone goroutine, in company.
-/
import Derived.Test.YtdjnnhdeijnhgabMq12
import Derived.Conc.Beside
namespace Go.Proofs.Ytdjnnhdeijnhgab.Rn
open Go Go.Conc
set_option linter.all false

section
variable {P : Program} {A : Nat → Prop} {I : St → Prop} {R : (Nat → Prop) → World → World → (Nat → Prop) → Prop} {Dd : Nat → Prop} {x0 : St} {f : Nat → Nat} {T : Tape} {wl0 : World} {k : List Item} {cc : List Frame} {Fin : Frame → Prop}
theorem rn_three {n n' : Next} (h : RN f A n n') : Three n := by
  cases n <;> first | exact trivial | (cases n' <;> exact h.elim)
theorem doomed_ret {fr : Frame} {w : World} (hm : fr.mode = .returning) (hfr : FrOk P A fr) (hF : ∀ fr, Fin fr → fr.mode = .run) : Doomed P Fin (lone fr [trap P] w) := by
  intro n fr' w' hf e
  cases n with
  | zero =>
    simp only [runN, Stepped.next.injEq] at e
    have := (oneG_inj (((lone_one _ _ _).symm.trans e).trans (lone_one _ _ _))).1
    simp [G] at this
    have q := hF fr' hf
    rw [← this, hm] at q
    cases q
  | succ n =>
    simp only [runN] at e
    cases hs : step P (lone fr [trap P] w) with
    | ended o w2 => rw [hs] at e; cases e
    | next m1 =>
      rw [hs] at e
      exact doomed_down (Fin := Fin) hm hfr hs n fr' w' hf e
theorem lift_run (hK : Comp P I R) (hO : Own P I R x0 f T) (hP : Prg P A) (hC : Closed P f) (hX : Fix P Dd f) (hF : ∀ fr, Fin fr → fr.mode = .run ∨ fr.mode = .returning) (hk : k = [] ∨ ∀ fr, Fin fr → fr.mode = .run) {frE : Frame} {wE : World} (hE : Fin frE) :
    ∀ (n i : Nat) (fr : Frame) (cs : List Frame) (wl : World), RelW P I R Dd x0 f T wl0 i (renG f k cc fr cs) wl → FrOk P A fr → (∀ x ∈ cs, FrOk P A x ∧ x.mode = .run ∧ x.todo ≠ []) → (fr.mode = .run ∨ fr.mode = .returning) →
      runN P n (lone fr (cs ++ [trap P]) wl) = .next (lone frE [trap P] wE) → ∃ i', RelW P I R Dd x0 f T wl0 i' (renG f k cc frE []) wE ∧ FrOk P A frE := by
  intro n
  induction n with
  | zero =>
    intro i fr cs wl hr hfr hcs hm e
    simp only [runN, Stepped.next.injEq] at e
    have := oneG_inj (((lone_one _ _ _).symm.trans e).trans (lone_one _ _ _))
    simp [G] at this
    obtain ⟨⟨rfl, rfl⟩, rfl⟩ := this
    exact ⟨i, hr, hfr⟩
  | succ n ih =>
    intro i fr cs wl hr hfr hcs hm e
    simp only [runN] at e
    cases hs : step P (lone fr (cs ++ [trap P]) wl) with
    | ended o w2 => rw [hs] at e; cases e
    | next m1 =>
      rw [hs] at e
      simp only at e
      have hnd : ¬ Doomed P Fin m1 := fun hd => hd n frE wE hE e
      have hne : fr.mode = .returning → cs ≠ [] := by
        rintro hm rfl
        exact hnd (doomed_down hm hfr hs)
      have hnf : fr.mode = .run → fr.todo = [] → cs = [] → k = [] := by
        rintro hm ht rfl
        rcases hk with hk | hk
        · exact hk
        · exfalso
          obtain ⟨fn, tmps, todo, defers, mode, kind, ro⟩ := fr
          obtain ⟨h1, h2, h3, h4⟩ := hfr
          simp only at hm ht h2 h3 h4
          subst hm ht h2 h3 h4
          have e1 : stepG P true (G { fn := fn, tmps := tmps, todo := [], defers := [], mode := .run, kind := .normal } [trap P]) wl = .go (G { fn := fn, tmps := tmps, todo := [], defers := [], mode := .returning, kind := .normal } [trap P]) wl #[] := by
            simp [G, stepG, stepG.exec]
          rw [List.nil_append, step_one e1] at hs
          cases hs
          exact hnd (doomed_ret (A := A) rfl ⟨by simp, rfl, rfl, rfl⟩ hk)
      obtain ⟨fr', cs', wl2, ⟨fr2, cs3, q1, q2, q3, q4, q5, q6⟩, hr2⟩ := relW_next hK hO (frc := top f (kk k cs) fr) (csc := renS f k cc cs) hr
        (Q := fun fr' cs' wl2 => ∃ fr2 cs3, fr' = top f (kk k cs3) fr2 ∧ cs' = renS f k cc cs3 ∧ m1 = lone fr2 (cs3 ++ [trap P]) wl2 ∧ FrOk P A fr2 ∧ (∀ x ∈ cs3, FrOk P A x ∧ x.mode = .run ∧ x.todo ≠ []) ∧ (fr2.mode = .run ∨ fr2.mode = .returning)) (by
          intro wc hW hFi
          have hn : ∀ o, AtOp fr o → ∀ n w' es, (execOp fr.eval o).runT P wl #[] = (.ok n w', es) → Three n := by
            intro o ho n w' es hrun
            rw [ownW_at (top_at ho)] at hFi
            obtain ⟨n', wc', es', h1, h2, h3, h4⟩ := sm_exec (P := P) (Dd := Dd) (f := f) (A := A) hC hX (eval_ren fr (kk k cs)) (fun g => rfl) o (op_of ho hfr) wl wc _ _ #[] #[] hW hFi (Nat.le_refl _) (Nat.le_refl _) n w' es hrun
            exact rn_three h2
          obtain ⟨fr2, cs2, wl2, es, h1, h2, h3⟩ := lone_next hF hP hm hfr hcs hne hn hs hnd
          obtain ⟨cs3, rfl, wc2, es2, k1, k2, k3, k4, k5, k6, k7⟩ := sim_step (cc := cc) hC hX hP hm hfr hcs hnf hne h1 h2 hW hFi
          exact ⟨_, _, wl2, wc2, es2, k1, k2, k3, k4, fr2, cs3, rfl, rfl, h3, k5, k6, k7⟩)
      subst q1 q2 q3
      exact ih (i + 1) fr2 cs3 wl2 hr2 q4 q5 q6 e
/-- The return itself. -/
theorem lift_ret (hK : Comp P I R) (hO : Own P I R x0 f T) {c : Frame} {i : Nat} {fr : Frame} {wl : World} {v : Value} (h : RelW P I R Dd x0 f T wl0 i (renG f [] (c :: cc) fr []) wl) (hfr : FrOk P A fr) (hv : fr.leaving P wl (.returned v)) :
    RelW P I R Dd x0 f T wl0 (i + 1) (G (c.finish (rV f v)) cc) wl := by
  obtain ⟨hm, hd, hk, fn, hf, hres⟩ := hv
  obtain ⟨fr', cs', wl2, ⟨rfl, rfl, rfl⟩, hr2⟩ := relW_next hK hO (frc := top f [] fr) (csc := c :: cc) h (Q := fun fr' cs' wl2 => fr' = c.finish (rV f v) ∧ cs' = cc ∧ wl2 = wl) (by
    intro wc hW hFi
    cases hr : (results fn fr.tmps).runT P wl #[] with
    | mk r es0 =>
      have hr1 : (results fn fr.tmps).run P wl = r := by rw [← Sem.runT_fst P _ wl #[], hr]
      rw [hres] at hr1
      subst hr1
      have how0 : ownW P (top f [] fr) wc = resW ((results fn (fr.tmps.map (rV f))).runT P wc #[]).1 := by
        unfold ownW
        have hm' : (top f [] fr).mode = .returning := hm
        rw [hm']
        show (match P.funcs[fr.fn]? with | some fn => resW ((results fn (fr.tmps.map (rV f))).runT P wc #[]).1 | none => wc) = _
        rw [hf]
      rw [how0] at hFi
      obtain ⟨v', wc', es', h1, h2, h3, h4⟩ := sm_results (P := P) (Dd := Dd) (f := f) fn fr.tmps wl wc _ _ #[] #[] hW hFi (Nat.le_refl _) (Nat.le_refl _) v wl es0 hr
      have h2 : v' = rV f v := h2
      subst h2
      rw [Array.empty_append] at h1
      refine ⟨c.finish (rV f v), cc, wl, wc', seen P fr.fn es', step_ret (P := P) (fr := top f [] fr) hm hd hk hf h1, ?_, h3, h4.sub fun e he => seen_mem he, rfl, rfl, rfl⟩
      rw [how0, h1]; rfl)
  exact hr2
end
end Go.Proofs.Ytdjnnhdeijnhgab.Rn

/-
  Blocks renamed: a call, and a piece of code, in company.
-/
namespace Go.Proofs.Ytdjnnhdeijnhgab.Rn
open Go Go.Conc
set_option linter.all false

def Still (R : (Nat → Prop) → World → World → (Nat → Prop) → Prop) : Prop := ∀ N w w' N', R N w w' N' → w'.heap.size = w.heap.size
/-- What is told of the company behind a piece of goroutine 0's own doing: the lone world's blocks are in it, renamed; what was there and was not the lone one's is as it was. -/
structure Told (P : Program) (I : St → Prop) (R : (Nat → Prop) → World → World → (Nat → Prop) → Prop) (Dd : Nat → Prop) (x : St) (f : Nat → Nat) (wl : World) (y : St) (wE : World) : Prop where
  id : ∀ b, b < x.w.heap.size → f b = b
  to : To P x y
  inv : I y
  wr : WR Dd f wE y.w
  dis : ∀ b, Alive wE b → ¬ y.N (f b)
  old : ∀ b, b < x.w.heap.size → y.N b → x.N b
  more : ∀ b, x.N b → y.N b
  le : x.w.heap.size ≤ y.w.heap.size
  lone : ∀ b, b < x.w.heap.size → IsC wE b → IsC wl b
  lel : x.w.heap.size ≤ wE.heap.size
  out : ∀ b, b < x.w.heap.size → ¬ x.N b → ¬ IsC wl b → y.w.heap[b]? = x.w.heap[b]?
  tape : y.w.tape = x.w.tape
  os : y.w.os = x.w.os
  output : y.w.output = x.w.output
  still : Still R → (∀ b, f b = b) ∧ wE.heap.size = y.w.heap.size
section
variable {P : Program} {A : Nat → Prop} {I : St → Prop} {R : (Nat → Prop) → World → World → (Nat → Prop) → Prop} {Dd : Nat → Prop} {x : St} {wl : World}
theorem told_of {f : Nat → Nat} {T : Tape} {i : Nat} {g : Goroutine} {wE : World} (hO : Own P I R x f T) (hS : Still R → (∀ b, f b = b) ∧ ∀ i, cs0 P I R x i = (xs P I R x i).w.heap.size) (h : RelW P I R Dd x f T { wl with tape := T, drawn := 0 } i g wE) : ∃ y, y.gs[0]? = some g ∧ Told P I R Dd x f wl y wE :=
  ⟨xs P I R x i, h.g0, hO.id, h.to, h.inv, h.wr, h.dis, h.old, h.more, h.le, h.lone, h.lel, h.out, h.tapec, h.os, h.output, fun s => ⟨(hS s).1, h.size.trans ((hS s).2 i)⟩⟩
theorem enter_fr (hP : Prg P A) {g : Nat} (hA : A g) (args : Array Value) : FrOk P A (Frame.enter P g args .normal) := by
  refine ⟨?_, rfl, rfl, rfl⟩
  intro it hit
  simp only [Frame.enter, List.mem_singleton] at hit
  subst hit
  cases hf : P.funcs[g]? with
  | none => exact trivial
  | some fn =>
    cases hb : fn.body with
    | none => simp [hb]; exact trivial
    | some c =>
      have hcc := hP.body g hA fn hf c hb
      show CodeP P A _
      simpa [hb] using hcc
theorem start_rel {f : Nat → Nat} {T : Tape} (hI : I x) {g : Goroutine} (h0 : x.gs[0]? = some g) (hW : WR Dd f wl x.w) (hid : ∀ b, b < x.w.heap.size → f b = b) (hsz : wl.heap.size = x.w.heap.size) (hdis : ∀ b, Alive wl b → ¬ x.N b) :
    RelW P I R Dd x f T { wl with tape := T, drawn := 0 } 0 g { wl with tape := T, drawn := 0 } :=
  { g0 := h0
    wr := ⟨hW.cells, hW.nums, hW.plain, hW.dd, hW.live, hW.inj, hW.lt⟩
    tape := rfl
    drawn := rfl
    size := hsz
    inv := hI
    to := To.refl _
    dis := fun b hb => by
      have hb' : Alive wl b := hb
      show ¬ x.N (f b)
      rw [hid b (by rw [← hsz]; exact alive_lt hb')]
      exact hdis b hb'
    old := fun b _ h => h
    more := fun b h => h
    le := Nat.le_refl _
    lone := fun b _ h => h
    lel := Nat.le_of_eq hsz.symm
    out := fun b _ _ _ => rfl
    tapec := rfl
    os := rfl
    output := rfl }
/-- A CALL IN COMPANY. -/
theorem lift_call (hK : Comp P I R) (hP : Prg P A) (hC : ∀ f, Closed P f) (hX : ∀ f, Fix P Dd f) (hI : I x) {g : Nat} (hA : A g) {args : Array Value} {c : Frame} {cc : List Frame} (h0 : x.gs[0]? = some (G (Frame.enter P g args .normal) (c :: cc)))
    (hW : ∀ f : Nat → Nat, (∀ b, b < x.w.heap.size → f b = b) → (Still R → ∀ b, f b = b) → WR Dd f wl x.w) (hargs : ∀ f : Nat → Nat, (∀ b, b < x.w.heap.size → f b = b) → (Still R → ∀ b, f b = b) → args.map (rV f) = args)
    (hsz : wl.heap.size = x.w.heap.size) (hdis : ∀ b, Alive wl b → ¬ x.N b) {Rr : Ending → World → Prop} (hR : ∀ T, Calls P g args { wl with tape := T, drawn := 0 } Rr) (hRr : ∀ e w, Rr e w → ∃ v, e = .returned v) :
    ∃ f v wE y, Rr (.returned v) wE ∧ y.gs[0]? = some (G (c.finish (rV f v)) cc) ∧ Told P I R Dd x f wl y wE := by
  obtain ⟨f, T, hO, hid⟩ := own_some (P := P) (I := I) (R := R) x
  obtain ⟨e, w', fr, hr, hcomes, hfn, hleave⟩ := hR T [trap P]
  obtain ⟨v, rfl⟩ := hRr e w' hr
  obtain ⟨n, hn⟩ := hcomes
  have hst : RelW P I R Dd x f T { wl with tape := T, drawn := 0 } 0 (renG f [] (c :: cc) (Frame.enter P g args .normal) []) { wl with tape := T, drawn := 0 } := by
    refine start_rel hI ?_ (hW f hO.id fun s => (hid s).1) hO.id hsz hdis
    rw [h0]
    have := enter_ren (P := P) (f := f) g args
    rw [hargs f hO.id fun s => (hid s).1] at this
    show some (G (Frame.enter P g args .normal) (c :: cc)) = some (G (top f [] (Frame.enter P g args .normal)) (c :: cc))
    rw [← this]
  obtain ⟨i, h1, h2⟩ := lift_run (Fin := fun fr => fr.mode = .returning) (k := []) hK hO hP (hC f) (hX f) (fun fr h => Or.inr h) (Or.inl rfl) hleave.1 n 0 (Frame.enter P g args .normal) [] { wl with tape := T, drawn := 0 } hst (enter_fr hP hA args) (fun x hx => by cases hx) (Or.inl rfl) hn
  have h3 := lift_ret hK hO h1 h2 hleave
  obtain ⟨y, hy, ht⟩ := told_of hO hid h3
  exact ⟨f, v, w', y, hr, hy, ht⟩
/-- A PIECE OF A FRAME'S DOING IN COMPANY: one that is left in the frame itself. -/
theorem lift_steps (hK : Comp P I R) (hP : Prg P A) (hC : ∀ f, Closed P f) (hX : ∀ f, Fix P Dd f) (hI : I x) {fr : Frame} (hfr : FrOk P A fr) (hm : fr.mode = .run) {k : List Item} {cc : List Frame}
    (h0 : x.gs[0]? = some (G { fr with todo := fr.todo ++ k } cc))
    (hW : ∀ f : Nat → Nat, (∀ b, b < x.w.heap.size → f b = b) → (Still R → ∀ b, f b = b) → WR Dd f wl x.w) (hargs : ∀ f : Nat → Nat, (∀ b, b < x.w.heap.size → f b = b) → (Still R → ∀ b, f b = b) → fr.tmps.map (rV f) = fr.tmps)
    (hsz : wl.heap.size = x.w.heap.size) (hdis : ∀ b, Alive wl b → ¬ x.N b) {Q : Frame → World → Prop} (hR : ∀ T, ∃ frE wE, Q frE wE ∧ Steps P (lone fr [trap P] { wl with tape := T, drawn := 0 }) (lone frE [trap P] wE)) (hQ : ∀ frE w, Q frE w → frE.mode = .run) :
    ∃ f frE wE y, Q frE wE ∧ y.gs[0]? = some (G (top f k frE) cc) ∧ Told P I R Dd x f wl y wE := by
  obtain ⟨f, T, hO, hid⟩ := own_some (P := P) (I := I) (R := R) x
  obtain ⟨frE, w', hq, n, hn⟩ := hR T
  have hst : RelW P I R Dd x f T { wl with tape := T, drawn := 0 } 0 (renG f k cc fr []) { wl with tape := T, drawn := 0 } := by
    refine start_rel hI ?_ (hW f hO.id fun s => (hid s).1) hO.id hsz hdis
    rw [h0]
    show some (G { fr with todo := fr.todo ++ k } cc) = some (G { fr with tmps := fr.tmps.map (rV f), todo := fr.todo ++ k } cc)
    rw [hargs f hO.id fun s => (hid s).1]
  obtain ⟨i, h1, h2⟩ := lift_run (Fin := fun fr => fr.mode = .run) (k := k) hK hO hP (hC f) (hX f) (fun fr h => Or.inl h) (Or.inr fun fr h => h) (frE := frE) (hQ _ _ hq) n 0 fr [] { wl with tape := T, drawn := 0 } hst hfr (fun x hx => by cases hx) (Or.inl hm) hn
  obtain ⟨y, hy, ht⟩ := told_of hO hid h1
  exact ⟨f, frE, w', y, hq, hy, ht⟩
end
end Go.Proofs.Ytdjnnhdeijnhgab.Rn

/-
  Blocks renamed: the company of those that are only leaving.
-/
namespace Go.Proofs.Ytdjnnhdeijnhgab.Rn
open Go Go.Conc
open Go.ConcN (sumTo upd sumTo_upd upd_ne upd_same)
set_option linter.all false

/-- Nobody writes to an object that is no row of cells but by words of the library's own. -/
def NoObj (t : Trace) : Prop := ∀ op ∈ t, ∀ a, op.act.touch? = some a → ∀ r, a.loc = .obj r → a.write = false
theorem NoObj.app {t u : Trace} (h : NoObj t) (k : NoObj u) : NoObj (t ++ u) := fun op hop => (Array.mem_append.1 hop).elim (h op) (k op)
def Lv (P : Program) (x : St) : Prop := (∀ b, ¬ x.N b) ∧ NoObj x.t ∧ ∃ q B, Leavers P x.t x.gs q ∧ Past (fun _ => False) B x.t ∧ B ≤ x.w.heap.size ∧ x.μ = sumTo x.gs.size q
def LvR (N : Nat → Prop) (w w' : World) (N' : Nat → Prop) : Prop := N' = N ∧ AtRel w w'
theorem evL_of {N : Nat → Prop} {z : Nat} {e : Event} (h : EvC N z e) : EvL (fun _ => False) z e := by
  rcases h with ⟨a, wr, rfl, h1, h2⟩ | rfl | ⟨r, s, rfl, h1⟩
  · refine ⟨fun x _ hf => hf.elim, by simp, by simp, ?_⟩
    rw [ofEvent_cell0]; exact h2
  · refine ⟨fun x _ hf => hf.elim, by simp, by simp, ?_⟩
    simp [MemAct.ofEvent, MemAct.low]
  · refine ⟨fun x _ hf => hf.elim, by simp, by simp, ?_⟩
    cases s <;> simp [MemAct.ofEvent, MemAct.low, Loc.low, h1]
theorem noObj_mute {g : Nat} {fn : FuncId} {pos : String} {es : Array Event} (hm : ∀ e ∈ es, e.mute = true) : NoObj (MemOp.ofEvents g fn pos es) := fun op hop a ha => by
  obtain ⟨e, he, rfl⟩ := Go.Conc.mem_ofEvents hop
  have := touch_mute (hm e he)
  simp only at ha
  rw [this] at ha
  cases ha
theorem noObj_ev {N : Nat → Prop} {z : Nat} {g : Nat} {fn : FuncId} {pos : String} {es : Array Event} (hm : ∀ e ∈ es, EvC N z e) : NoObj (MemOp.ofEvents g fn pos es) := fun op hop a ha r hr => by
  obtain ⟨e, he, rfl⟩ := Go.Conc.mem_ofEvents hop
  rcases hm e he with ⟨ad, wr, rfl, h1, h2⟩ | rfl | ⟨r', s, rfl, h1⟩
  · simp only [ofEvent_cell0, MemAct.touch?, Option.some.injEq] at ha
    subst ha
    cases hr
  · simp [MemAct.ofEvent, MemAct.touch?] at ha
  · cases s <;> (simp only [MemAct.ofEvent, MemAct.touch?, Option.some.injEq] at ha; subst ha; rfl)
section
variable {P : Program}
theorem lv_comp : Comp P (Lv P) LvR where
  pick := by
    rintro x fr cs ⟨hN, hNo, q, B, hL, hP, hB, hμ⟩ h0
    have hrun : (G fr cs).status = .running := rfl
    have haw : ∀ g ∈ x.gs, awake g := by
      intro g hg
      obtain ⟨i, hi, rfl⟩ := Array.mem_iff_getElem.1 hg
      rcases Nat.eq_zero_or_pos i with rfl | hpos
      · have : x.gs[0] = G fr cs := by simpa [Array.getElem?_eq_getElem hi] using h0
        rw [this]; exact awake_of (.inl hrun)
      · exact awake_of ((hL.old i _ hpos (Array.getElem?_eq_getElem hi)).status.elim .inl fun x => .inr (.inr x))
    obtain ⟨i, g, d, sl', hi, hg, hst⟩ := crowd_pick (P := P) (w := x.w) (sl := x.sl) haw ⟨0, _, h0, hrun⟩
    rcases Nat.eq_zero_or_pos i with rfl | hpos
    · exact Or.inl ⟨d, sl', hst⟩
    · right
      have hq := hL.old i g hpos hi
      have hi0 : (i == 0) = false := by simp; omega
      have hlt : i < x.gs.size := (Array.getElem?_eq_some_iff.1 hi).1
      cases hqi : q i with
      | zero => rw [hqi] at hq; rw [hq.1] at hg; cases hg
      | succ k =>
        rw [hqi] at hq
        rcases hq with ⟨hf, _⟩ | ⟨_, g', es, hm, hstp, hq'⟩
        · rw [hf] at hg; cases hg
        have hrunT := runT_crowd_go (P := P) (sl := sl') (i := i) hi (by rw [hi0]; exact hstp (x.w.at d))
        have hsz : ((x.gs.map (woken P g g' (x.w.at d))).setIfInBounds i g').size = x.gs.size := by simp
        have hsum : sumTo x.gs.size (upd q i k) + (k + 1) = sumTo x.gs.size q + k := by
          have := sumTo_upd q k id hlt
          simpa [hqi] using this
        refine ⟨{ gs := (x.gs.map (woken P g g' (x.w.at d))).setIfInBounds i g', w := x.w.at d, sl := sl', t := x.t ++ MemOp.ofEvents i g.frame.fn g.frame.place es, N := x.N, μ := sumTo x.gs.size (upd q i k) }, ⟨hN, hNo.app (noObj_mute hm), upd q i k, B, ⟨fun j y hj hy => ?_, fun j hj => ?_⟩, hP.mute (by omega) hm, hB, by rw [hsz]⟩, ?_, by simp only; omega, ⟨_, hst.trans hrunT, rfl⟩, rfl, ⟨d, rfl⟩⟩
        · by_cases hji : i = j
          · subst hji
            rw [Array.getElem?_setIfInBounds_self_of_lt (by simpa using hlt)] at hy
            obtain rfl := Option.some.inj hy
            rw [upd_same, Deaf_own]
            exact hq'
          · rw [Array.getElem?_setIfInBounds_ne hji, Array.getElem?_map] at hy
            obtain ⟨z, hz, rfl⟩ := Option.map_eq_some_iff.1 hy
            have hqj := hL.old j z hj hz
            rw [woken_quitsD hqj, upd_ne q k (Ne.symm hji), Deaf_other x.t hji _ (fun op hop => by obtain ⟨e, _, rfl⟩ := Go.Conc.mem_ofEvents hop; rfl)]
            exact hqj
        · rw [Deaf_other x.t (g' := i) (by simp at hj; omega) _ (fun op hop => by obtain ⟨e, _, rfl⟩ := Go.Conc.mem_ofEvents hop; rfl)]
          exact hL.above j (by simpa using hj)
        · have hne : i ≠ 0 := by omega
          rw [Array.getElem?_setIfInBounds_ne hne, Array.getElem?_map, h0]
          simp [woken_run hrun]
  own := by
    rintro x fr cs d sl' fr' cs' w' es ⟨hN, hNo, q, B, hL, hP, hB, hμ⟩ h0 hgo hmine hev
    have hsz : ((x.gs.map (woken P (G fr cs) (G fr' cs') w')).setIfInBounds 0 (G fr' cs')).size = x.gs.size := by simp
    refine ⟨hN, hNo.app (noObj_ev hev), q, w'.heap.size, ⟨fun j y hj hy => ?_, fun j hj => ?_⟩, ?_, Nat.le_refl _, by show x.μ = _; rw [hμ]; show _ = sumTo ((x.gs.map (woken P (G fr cs) (G fr' cs') w')).setIfInBounds 0 (G fr' cs')).size q; rw [hsz]⟩
    · have hne : 0 ≠ j := by omega
      have hy : ((x.gs.map (woken P (G fr cs) (G fr' cs') w')).setIfInBounds 0 (G fr' cs'))[j]? = some y := hy
      rw [Array.getElem?_setIfInBounds_ne hne, Array.getElem?_map] at hy
      obtain ⟨z, hz, rfl⟩ := Option.map_eq_some_iff.1 hy
      have hq := hL.old j z hj hz
      show QuitsD P (q j) (Deaf (x.t ++ MemOp.ofEvents 0 (G fr cs).frame.fn (G fr cs).frame.place es) j) _
      rw [woken_quitsD hq, Deaf_other x.t (by omega) _ (fun op hop => by obtain ⟨e, _, rfl⟩ := Go.Conc.mem_ofEvents hop; rfl)]
      exact hq
    · have hj : ((x.gs.map (woken P (G fr cs) (G fr' cs') w')).setIfInBounds 0 (G fr' cs')).size ≤ j := hj
      have hlt : 0 < x.gs.size := (Array.getElem?_eq_some_iff.1 h0).1
      show Deaf (x.t ++ MemOp.ofEvents 0 (G fr cs).frame.fn (G fr cs).frame.place es) j = 0
      rw [Deaf_other x.t (g' := 0) (by simp at hj; omega) _ (fun op hop => by obtain ⟨e, _, rfl⟩ := Go.Conc.mem_ofEvents hop; rfl)]
      exact hL.above j (by simpa using hj)
    · exact (hP.mono (Nat.le_trans hB hmine.size)).own fun e he => evL_of (hev e he)
  low := fun x h b hb => absurd hb (h.1 b)
  oth := by
    rintro N w w' N' ⟨rfl, d, rfl⟩
    exact ⟨rfl, rfl, rfl, Nat.le_refl _, fun _ _ _ => rfl, fun _ h => h, fun _ _ h => h⟩
  refl := fun N w => ⟨rfl, atRel_refl w⟩
  trans := by
    rintro N w N' w' N'' w'' ⟨rfl, h⟩ ⟨rfl, k⟩
    exact ⟨rfl, atRel_trans _ _ _ h k⟩
theorem lv_still : Still LvR := by
  rintro N w w' N' ⟨rfl, d, rfl⟩
  rfl
end
end Go.Proofs.Ytdjnnhdeijnhgab.Rn

/-
  Goroutine 0 beside leavers: what the lone world says of it.
-/
namespace Go.Proofs.Ytdjnnhdeijnhgab.Rn
open Go Go.Conc
open Go.ConcN (sumTo)
set_option linter.all false

def idF : Nat → Nat := fun b => b
theorem rA_id (a : Addr) : rA idF a = a := rfl
theorem rV_id : ∀ v : Value, rV idF v = v
  | .pointer (some a) => by rw [rV_p]; rfl
  | .pointer none => by simp
  | .slice (some a) n c => by rw [rV_s]; rfl
  | .slice none n c => by simp
  | .map (some r) => by rw [rV_m]; rfl
  | .map none => by simp
  | .chan (some r) => by rw [rV_c]; rfl
  | .chan none => by simp
  | .func g x y => by
    rw [rV_func]
    congr 1
    · refine Array.ext (by simp) fun i h1 h2 => ?_
      rw [Array.getElem_map]
      exact rV_id _
    · refine Array.ext (by simp) fun i h1 h2 => ?_
      rw [Array.getElem_map]
      exact rV_id _
  | .iface t v => by rw [rV_iface, rV_id v]
  | .agg cs => by
    rw [rV_agg]
    congr 1
    refine Array.ext (by simp) fun i h1 h2 => ?_
    rw [Array.getElem_map]
    exact rV_id _
  | .tuple cs => by
    rw [rV_tuple]
    congr 1
    refine Array.ext (by simp) fun i h1 h2 => ?_
    rw [Array.getElem_map]
    exact rV_id _
  | .int k n => by simp
  | .bool b => by simp
  | .string s => by simp
  | .float k n => by simp
  | .complex k n m => by simp
  | .nilFunc => by simp
  | .nilIface => by simp
termination_by v => SizeOf.sizeOf v
decreasing_by
  all_goals simp_wf
  all_goals first
    | (have := Array.sizeOf_getElem x i h2; omega)
    | (have := Array.sizeOf_getElem y i h2; omega)
    | (have := Array.sizeOf_getElem cs i h2; omega)
    | omega
theorem rVs_id (vs : Array Value) : vs.map (rV idF) = vs := by
  refine Array.ext (by simp) fun i h1 h2 => ?_
  rw [Array.getElem_map]
  exact rV_id _
def killO : Obj → Obj
  | .cells cs e fz => .cells cs e fz
  | .number a l => .number a l
  | _ => Dead
/-- The world as a lone goroutine may see it: cells and numbers alone. -/
def kill (w : World) : World := { w with heap := w.heap.map killO }
def KW (P : Program) (wl : World) (x : St) : Prop := WR (fun b => wl.heap[b]? = some Dead) idF wl x.w ∧ wl.heap.size = x.w.heap.size ∧ Lv P x
structure KTo (P : Program) (x : St) (wl : World) (y : St) (wE : World) : Prop where
  to : To P x y
  out : ∀ b, b < x.w.heap.size → ¬ IsC wl b → y.w.heap[b]? = x.w.heap[b]?
  lone : ∀ b, b < x.w.heap.size → IsC wE b → IsC wl b
  le : x.w.heap.size ≤ y.w.heap.size
  tape : y.w.tape = x.w.tape
  os : y.w.os = x.w.os
  output : y.w.output = x.w.output
section
variable {P : Program} {A : Nat → Prop} {x y z : St} {wl wE wF : World}
theorem KTo.refl : KTo P x wl x wl := ⟨To.refl x, fun _ _ _ => rfl, fun _ _ h => h, Nat.le_refl _, rfl, rfl, rfl⟩
theorem KTo.trans (h : KTo P x wl y wE) (k : KTo P y wE z wF) : KTo P x wl z wF :=
  ⟨h.to.trans k.to, fun b hb hc => (k.out b (Nat.lt_of_lt_of_le hb h.le) fun q => hc (h.lone b hb q)).trans (h.out b hb hc), fun b hb hc => h.lone b hb (k.lone b (Nat.lt_of_lt_of_le hb h.le) hc), Nat.le_trans h.le k.le, k.tape.trans h.tape, k.os.trans h.os, k.output.trans h.output⟩
theorem killO_cells {o : Obj} {cs : Array Value} {e : TypeId} {fz : Nat × Nat} (h : killO o = .cells cs e fz) : o = .cells cs e fz := by
  cases o <;> simp [killO, Dead] at h
  obtain ⟨rfl, rfl, rfl⟩ := h
  rfl
theorem killO_number {o : Obj} {a : Addr} {l : Bool} (h : killO o = .number a l) : o = .number a l := by
  cases o <;> simp [killO, Dead] at h
  obtain ⟨rfl, rfl⟩ := h
  rfl
theorem kill_wr (w : World) : WR (fun b => (kill w).heap[b]? = some Dead) idF (kill w) w := by
  refine ⟨fun b cs e fz h => ?_, fun b a l h => ?_, fun b o h => ?_, fun b h => h, fun b h => h, fun b b' _ _ h => h, fun b h => by
    show b < w.heap.size
    simpa [kill] using h⟩
  · simp only [kill, Array.getElem?_map] at h
    obtain ⟨o, ho, h⟩ := Option.map_eq_some_iff.1 h
    rw [rVs_id]
    show w.heap[b]? = _
    rw [ho, killO_cells h]
  · simp only [kill, Array.getElem?_map] at h
    obtain ⟨o, ho, h⟩ := Option.map_eq_some_iff.1 h
    show w.heap[b]? = _
    rw [ho, killO_number h]
    rfl
  · simp only [kill, Array.getElem?_map] at h
    obtain ⟨o', ho, rfl⟩ := Option.map_eq_some_iff.1 h
    cases o' <;> first | exact Or.inl ⟨_, _, _, rfl⟩ | exact Or.inr (Or.inl ⟨_, _, rfl⟩) | exact Or.inr (Or.inr rfl)
/-- From what is told of the company behind a piece. -/
theorem kw_told {f : Nat → Nat} (hk : KW P wl x) (h : Told P (Lv P) LvR (fun b => wl.heap[b]? = some Dead) x f wl y wE) : f = idF ∧ KW P wE y ∧ KTo P x wl y wE := by
  obtain ⟨hid, hsz⟩ := h.still lv_still
  have hf : f = idF := funext hid
  subst hf
  refine ⟨rfl, ⟨⟨h.wr.cells, h.wr.nums, h.wr.plain, fun _ q => q, fun _ q => q, h.wr.inj, h.wr.lt⟩, hsz, h.inv⟩, h.to, fun b hb hc => h.out b hb (hk.2.2.1 b) hc, h.lone, h.le, h.tape, h.os, h.output⟩
/-- Goroutine 0, standing so beside leavers, comes to where Q holds. -/
def Kp (P : Program) (g : Goroutine) (wl : World) (Q : Goroutine → World → Prop) : Prop :=
  ∀ x, KW P wl x → x.gs[0]? = some g → ∃ y g' wE, Q g' wE ∧ y.gs[0]? = some g' ∧ KW P wE y ∧ KTo P x wl y wE
variable {Q Q' : Goroutine → World → Prop} {g : Goroutine}
theorem Kp.done (h : Q g wl) : Kp P g wl Q := fun x hk h0 => ⟨x, g, wl, h, h0, hk, KTo.refl⟩
theorem Kp.bind (h : Kp P g wl Q') (k : ∀ g' wE, Q' g' wE → Kp P g' wE Q) : Kp P g wl Q := by
  intro x hk h0
  obtain ⟨y, g', wE, q, h1, h2, h3⟩ := h x hk h0
  obtain ⟨z, g2, wF, q2, k1, k2, k3⟩ := k g' wE q y h2 h1
  exact ⟨z, g2, wF, q2, k1, k2, h3.trans k3⟩
/-- An own step that turns nothing. -/
theorem Kp.own {fr fr' : Frame} {cs cs' : List Frame} (h : ∀ w, (∀ a v, wl.cell? a = some v → w.cell? a = some v) → ∃ es, stepG P true (G fr cs) w = .go (G fr' cs') w es ∧ ∀ e ∈ es, ∃ a, e = ⟨.cell a, false, false⟩ ∧ IsC wl a.block) (k : Kp P (G fr' cs') wl Q) : Kp P (G fr cs) wl Q := by
  intro x hk h0
  obtain ⟨y, d, sl, h1, h2, h3, h4, h5⟩ := ready (lv_comp (P := P)) _ x fr cs (Nat.le_refl _) hk.2.2 h0
  obtain ⟨hN, d0, hw⟩ := h4
  have hh : (y.w.at d).heap = x.w.heap := by rw [hw]; rfl
  have hcell : ∀ a v, wl.cell? a = some v → (y.w.at d).cell? a = some v := by
    intro a v hv
    have := (hk.1.cell hv).1
    rw [rV_id] at this
    have e : (y.w.at d).cell? a = x.w.cell? a := by
      unfold World.cell?
      rw [hh]
    rw [e]; exact this
  obtain ⟨es, hs, hev⟩ := h (y.w.at d) hcell
  have hI := lv_comp.own y fr cs d sl fr' cs' (y.w.at d) es h1 (h2.trans h0) hs ⟨rfl, rfl, rfl, Nat.le_refl _, fun _ _ => rfl⟩ (fun e he => by
    obtain ⟨a, rfl, hc⟩ := hev e he
    refine Or.inl ⟨a, false, rfl, h1.1 _, ?_⟩
    rw [hh]
    exact hk.1.lt _ (isC_lt hc))
  have hone : One P y (y.own P sl (G fr cs) (G fr' cs') (y.w.at d) es) := by
    refine ⟨MemOp.ofEvents 0 (G fr cs).frame.fn (G fr cs).frame.place es, ?_, rfl⟩
    rw [h5]
    exact runT_crowd_go (h2.trans h0) (show stepG P (0 == 0) (G fr cs) (y.w.at d) = _ from hs)
  have hsz : 0 < y.gs.size := (Array.getElem?_eq_some_iff.1 (h2.trans h0)).1
  have hw2 : (y.own P sl (G fr cs) (G fr' cs') (y.w.at d) es).w = y.w.at d := rfl
  have hg2 : (y.own P sl (G fr cs) (G fr' cs') (y.w.at d) es).gs[0]? = some (G fr' cs') := by
    show ((y.gs.map (woken P (G fr cs) (G fr' cs') (y.w.at d))).setIfInBounds 0 (G fr' cs'))[0]? = _
    simp [hsz]
  have hkt : KTo P x wl (y.own P sl (G fr cs) (G fr' cs') (y.w.at d) es) wl := by
    refine ⟨h3.trans hone.to, fun b _ _ => ?_, fun _ _ q => q, ?_, ?_, ?_, ?_⟩ <;> rw [hw2]
    · rw [hh]
    · rw [hh]; exact Nat.le_refl _
    · rw [hw]; rfl
    · rw [hw]; rfl
    · rw [hw]; rfl
  have hkw : KW P wl (y.own P sl (G fr cs) (G fr' cs') (y.w.at d) es) := by
    refine ⟨?_, ?_, hI⟩
    · rw [hw2]
      exact ⟨fun b cs e fz q => by rw [hh]; exact hk.1.cells b cs e fz q, fun b a l q => by rw [hh]; exact hk.1.nums b a l q, hk.1.plain, hk.1.dd, hk.1.live, hk.1.inj, fun b q => by rw [hh]; exact hk.1.lt b q⟩
    · rw [hw2, hh]; exact hk.2.1
  obtain ⟨z, g2, wF, q2, k1, k2, k3⟩ := k _ hkw hg2
  exact ⟨z, g2, wF, q2, k1, k2, hkt.trans k3⟩
theorem Kp.ctl {fr fr' : Frame} {cs cs' : List Frame} (h : ∀ w, stepG P true (G fr cs) w = .go (G fr' cs') w #[]) (k : Kp P (G fr' cs') wl Q) : Kp P (G fr cs) wl Q :=
  Kp.own (fun w _ => ⟨#[], h w, fun e he => by simp at he⟩) k
/-- A call of a lone function. -/
theorem Kp.call (hP : Prg P A) (hC : ∀ f, Closed P f) (hX : ∀ Dd f, Fix P Dd f) {f : Nat} (hA : A f) {args : Array Value} {c : Frame} {cc : List Frame} {Rr : Ending → World → Prop} (hR : ∀ T, Calls P f args { wl with tape := T, drawn := 0 } Rr) (hRr : ∀ e w, Rr e w → ∃ v, e = .returned v)
    (k : ∀ v wE, Rr (.returned v) wE → Kp P (G (c.finish v) cc) wE Q) : Kp P (G (Frame.enter P f args .normal) (c :: cc)) wl Q := by
  intro x hk h0
  obtain ⟨f', v, wE, y, hr, hy, ht⟩ := lift_call (Dd := fun b => wl.heap[b]? = some Dead) lv_comp hP hC (hX _) hk.2.2 hA h0 (fun f _ hs => by
    have hf : f = idF := funext (hs lv_still)
    subst hf
    exact hk.1) (fun f _ hs => by
    have hf : f = idF := funext (hs lv_still)
    subst hf
    exact rVs_id _) hk.2.1 (fun b _ => hk.2.2.1 b) hR hRr
  obtain ⟨rfl, h2, h3⟩ := kw_told hk ht
  rw [rV_id] at hy
  obtain ⟨z, g2, wF, q2, k1, k2, k3⟩ := k v wE hr y h2 hy
  exact ⟨z, g2, wF, q2, k1, k2, h3.trans k3⟩
/-- A piece of a frame's own doing, as the lone goroutine does it. -/
theorem Kp.steps (hP : Prg P A) (hC : ∀ f, Closed P f) (hX : ∀ Dd f, Fix P Dd f) {fr : Frame} (hfr : FrOk P A fr) (hm : fr.mode = .run) {k : List Item} {cc : List Frame} {Qs : Frame → World → Prop} (hR : ∀ T, ∃ frE wE, Qs frE wE ∧ Steps P (lone fr [trap P] { wl with tape := T, drawn := 0 }) (lone frE [trap P] wE)) (hQ : ∀ frE w, Qs frE w → frE.mode = .run)
    (kk : ∀ frE wE, Qs frE wE → Kp P (G { frE with todo := frE.todo ++ k } cc) wE Q) : Kp P (G { fr with todo := fr.todo ++ k } cc) wl Q := by
  intro x hk h0
  obtain ⟨f', frE, wE, y, hr, hy, ht⟩ := lift_steps (Dd := fun b => wl.heap[b]? = some Dead) lv_comp hP hC (hX _) hk.2.2 hfr hm h0 (fun f _ hs => by
    have hf : f = idF := funext (hs lv_still)
    subst hf
    exact hk.1) (fun f _ hs => by
    have hf : f = idF := funext (hs lv_still)
    subst hf
    exact rVs_id _) hk.2.1 (fun b _ => hk.2.2.1 b) hR hQ
  obtain ⟨rfl, h2, h3⟩ := kw_told hk ht
  have e : top idF k frE = { frE with todo := frE.todo ++ k } := by
    unfold top
    rw [rVs_id]
  rw [e] at hy
  obtain ⟨z, g2, wF, q2, k1, k2, k3⟩ := kk frE wE hr y h2 hy
  exact ⟨z, g2, wF, q2, k1, k2, h3.trans k3⟩
end
end Go.Proofs.Ytdjnnhdeijnhgab.Rn
