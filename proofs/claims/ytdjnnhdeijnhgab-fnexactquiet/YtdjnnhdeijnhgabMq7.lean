/-
  Blocks renamed: numbers that are addresses; what names no block.
-/
import Derived.Test.YtdjnnhdeijnhgabMq6
namespace Go.Proofs.Ytdjnnhdeijnhgab.Rn
open Go
set_option linter.all false

/-- It asks for nothing but the program and the tape; what it yields is as Q says. -/
def Air {α : Type} (Q : α → Prop) : Sem α → Prop
  | .pure a => Q a
  | .choose _ k => ∀ n, Air Q (k n)
  | .program k => ∀ p, Air Q (k p)
  | .halt _ => True
  | _ => False
section
variable {P : Program} {Dd : Nat → Prop} {f : Nat → Nat} {α β : Type}
theorem Air.bind {Q : α → Prop} {R : β → Prop} {k : α → Sem β} : ∀ {s : Sem α}, Air Q s → (∀ a, Q a → Air R (k a)) → Air R (s >>= k) := by
  intro s
  show Air Q s → _ → Air R (Sem.bind s k)
  induction s with
  | pure a => intro h hk; exact hk a h
  | choose q j ih => intro h hk n; exact ih n (h n) hk
  | program j ih => intro h hk p; exact ih p (h p) hk
  | halt h => intro _ _; trivial
  | _ => intro h; exact h.elim
theorem Air.mono {Q R : α → Prop} (hq : ∀ a, Q a → R a) : ∀ {s : Sem α}, Air Q s → Air R s := by
  intro s
  induction s with
  | pure a => intro h; exact hq a h
  | choose q j ih => intro h n; exact ih n (h n)
  | program j ih => intro h p; exact ih p (h p)
  | halt h => intro _; trivial
  | _ => intro h; exact h.elim
theorem Air.pure {Q : α → Prop} {a : α} (h : Q a) : Air Q (Pure.pure a) := h
theorem Air.stuck {Q : α → Prop} {w : String} : Air Q (Go.stuck w) := trivial
theorem Air.unsupported {Q : α → Prop} {w : Unsupported} : Air Q (Go.unsupported w) := trivial
theorem Air.choose {Q : Nat → Prop} {q : Question} (h : ∀ n, Q n) : Air Q (Go.choose q) := fun n => h n
theorem Air.program {Q : Program → Prop} (h : ∀ n, Q n) : Air Q Go.program := fun n => h n
theorem sem_choose_bind (q : Question) (k : Nat → Sem α) : Sem.choose q k = Go.choose q >>= k := rfl
theorem sem_program_bind (k : Program → Sem α) : Sem.program k = Go.program >>= k := rfl
theorem Sm.air {Q : α → Prop} : ∀ {s : Sem α}, Air Q s → Sm P Dd f (fun a b => b = a ∧ Q a) s s := by
  intro s
  induction s with
  | pure a => intro h; exact Sm.pure ⟨rfl, h⟩
  | choose q j ih => intro h; rw [sem_choose_bind]; exact Sm.bind Sm.choose (fun a b e => by subst e; exact ih _ (h _))
  | program j ih => intro h; rw [sem_program_bind]; exact Sm.bind Sm.program (fun a b e => by obtain ⟨rfl, rfl⟩ := e; exact ih _ (h _))
  | halt h => intro _; exact Sm.halt
  | _ => intro h; exact h.elim
theorem Sm.airV {s : Sem Value} (h : Air (Shut f) s) : Sm P Dd f (RV f) s s := (Sm.air h).mono fun a b e => by obtain ⟨rfl, h⟩ := e; exact h.symm
theorem air_runtimePanic_div {Q : Value → Prop} : Air Q (runtimePanic (.error "integer divide by zero")) := by
  unfold runtimePanic
  exact Air.bind (Q := fun _ => True) (Air.program fun _ => trivial) (fun p _ => trivial)
theorem air_int (op : BinOp) (k : IntKind) (a b : Int) : Air (Shut f) (Op.intArith op k a b) ∧ Air (Shut f) (Op.intDiv op k a b) ∧ Air (Shut f) (Op.intCmp op a b) := by
  refine ⟨?_, ?_, ?_⟩
  · unfold Op.intArith
    cases op <;> first | exact rV_int f _ _ | trivial
  · unfold Op.intDiv
    split
    · exact air_runtimePanic_div
    · cases op <;> first | exact rV_int f _ _ | trivial
  · unfold Op.intCmp
    cases op <;> first | exact rV_bool f _ | trivial
theorem air_floatArith (op : BinOp) (k : FloatKind) (a b : Nat) : Air (Shut f) (Op.floatArith op k a b) := by
  unfold Op.floatArith
  have key : ∀ r : Option Nat, Air (Shut f) (match r with
      | some r => pure (Value.float k r)
      | none => do pure (Value.float k (← Go.choose (Question.nanBits k a b)))) := by
    intro r
    cases r with
    | some r => exact rV_float f _ _
    | none => exact Air.bind (Q := fun _ => True) (Air.choose fun _ => trivial) (fun n _ => rV_float f _ _)
  cases op <;> exact Air.bind (Q := fun _ => True) trivial (fun r _ => key r)
theorem air_floatCmp (op : BinOp) (k : FloatKind) (a b : Nat) : Air (Shut f) (Op.floatCmp op k a b) := by
  unfold Op.floatCmp
  cases op <;> first | exact rV_bool f _ | trivial
theorem air_string (op : BinOp) (a b : ByteArray) : Air (Shut f) (Op.stringOp op a b) := by
  unfold Op.stringOp
  cases op <;> first | exact rV_bool f _ | trivial | skip
  show Air _ (if _ then _ else _)
  split
  · trivial
  · exact rV_string f _
abbrev An {α : Type} (s : Sem α) : Prop := Air (fun _ => True) s
theorem an_of {Q : α → Prop} {s : Sem α} (h : Air Q s) : An s := h.mono fun _ _ => trivial
theorem an_bind {s : Sem α} {k : α → Sem β} (h : An s) (hk : ∀ a, An (k a)) : An (s >>= k) := Air.bind h (fun a _ => hk a)
theorem an_arith (op : BinOp) (k : FloatKind) (a b : Nat) : An (Op.Complex.arith op k a b) := by
  unfold Op.Complex.arith
  refine an_bind (an_of (air_floatArith (f := fun x => x) op k a b)) fun v => ?_
  cases v <;> trivial
theorem an_cmp (op : BinOp) (k : FloatKind) (a b : Nat) : An (Op.Complex.cmp op k a b) := by
  unfold Op.Complex.cmp
  refine an_bind (an_of (air_floatCmp (f := fun x => x) op k a b)) fun v => ?_
  cases v <;> trivial
theorem an_conv (k : FloatKind) (a : Nat) (d : FloatKind) : An (Op.Complex.conv k a d) := by
  unfold Op.Complex.conv
  split
  · trivial
  · refine an_bind ?_ fun v => ?_
    · unfold Conv.floatToFloat
      repeat' (first | trivial | split | (show An (if _ then _ else _); split) | refine an_bind (Air.choose fun _ => trivial) fun _ => ?_)
    · cases v <;> trivial
theorem an_product (a b c d : Nat) : An (Op.Complex.product a b c d) := by
  unfold Op.Complex.product
  repeat' (first | trivial | refine an_bind (an_arith _ _ _ _) fun _ => ?_)
theorem an_corrected (s a b c d : Nat) : An (Op.Complex.corrected s a b c d) := by
  unfold Op.Complex.corrected
  repeat' (first | trivial | refine an_bind (an_arith _ _ _ _) fun _ => ?_)
theorem an_ite {c : Prop} [Decidable c] {s t : Sem α} (h : An s) (k : An t) : An (if c then s else t) := by split <;> assumption
theorem an_two (a b c d : Nat) (g : Nat → Nat → Sem α) (h : ∀ x y, An (g x y)) : An (do let x ← Op.Complex.mul a b; let y ← Op.Complex.mul c d; g x y) := an_bind (an_arith _ _ _ _) fun _ => an_bind (an_arith _ _ _ _) fun _ => h _ _
theorem an_quotient (a b c d : Nat) : An (Op.Complex.quotient a b c d) := by
  unfold Op.Complex.quotient
  refine an_bind (an_cmp _ _ _ _) fun q => ?_
  have key : ∀ x : Nat × Nat, An (do
      let z ← Op.Complex.cmp .eql .f64 c 0
      let y ← Op.Complex.cmp .eql .f64 d 0
      let zero := z && y
      if (!(Op.Complex.isNaN x.1 && Op.Complex.isNaN x.2)) = true then pure (x.1, x.2)
      else if (zero && (!Op.Complex.isNaN a || !Op.Complex.isNaN b)) = true then do
        let u ← Op.Complex.mul (Op.Complex.copysign Op.Complex.inf c) a
        let v ← Op.Complex.mul (Op.Complex.copysign Op.Complex.inf c) b
        pure (u, v)
      else if ((Op.Complex.isInf a || Op.Complex.isInf b) && Op.Complex.isFinite c && Op.Complex.isFinite d) = true then Op.Complex.corrected Op.Complex.inf (Op.Complex.inf2one a) (Op.Complex.inf2one b) c d
      else if ((Op.Complex.isInf c || Op.Complex.isInf d) && Op.Complex.isFinite a && Op.Complex.isFinite b) = true then Op.Complex.corrected 0 a b (Op.Complex.inf2one c) (Op.Complex.inf2one d)
      else pure (x.1, x.2)) := by
    intro x
    refine an_bind (an_cmp _ _ _ _) fun _ => an_bind (an_cmp _ _ _ _) fun _ => ?_
    refine an_ite trivial (an_ite ?_ (an_ite (an_corrected _ _ _ _ _) (an_ite (an_corrected _ _ _ _ _) trivial)))
    exact an_bind (an_arith _ _ _ _) fun _ => an_bind (an_arith _ _ _ _) fun _ => trivial
  cases q with
  | true =>
    exact an_bind (an_arith _ _ _ _) fun _ => an_bind (an_arith _ _ _ _) fun _ => an_bind (an_arith _ _ _ _) fun _ => an_bind (an_arith _ _ _ _) fun _ => an_bind (an_arith _ _ _ _) fun _ => an_bind (an_arith _ _ _ _) fun _ => an_bind (an_arith _ _ _ _) fun _ => an_bind (an_arith _ _ _ _) fun _ => an_bind (an_arith _ _ _ _) fun _ => an_bind (s := Pure.pure _) trivial fun x => key x
  | false =>
    exact an_bind (an_arith _ _ _ _) fun _ => an_bind (an_arith _ _ _ _) fun _ => an_bind (an_arith _ _ _ _) fun _ => an_bind (an_arith _ _ _ _) fun _ => an_bind (an_arith _ _ _ _) fun _ => an_bind (an_arith _ _ _ _) fun _ => an_bind (an_arith _ _ _ _) fun _ => an_bind (an_arith _ _ _ _) fun _ => an_bind (an_arith _ _ _ _) fun _ => an_bind (s := Pure.pure _) trivial fun x => key x
theorem air_complex (op : BinOp) (k : FloatKind) (a b c d : Nat) : Air (Shut f) (Op.complexOp op k a b c d) := by
  unfold Op.complexOp
  cases op with
  | add => exact Air.bind (an_arith _ _ _ _) fun _ _ => Air.bind (an_arith _ _ _ _) fun _ _ => rV_complex f _ _ _
  | sub => exact Air.bind (an_arith _ _ _ _) fun _ _ => Air.bind (an_arith _ _ _ _) fun _ _ => rV_complex f _ _ _
  | eql => exact Air.bind (an_cmp _ _ _ _) fun _ _ => Air.bind (an_cmp _ _ _ _) fun _ _ => rV_bool f _
  | neq => exact Air.bind (an_cmp _ _ _ _) fun _ _ => Air.bind (an_cmp _ _ _ _) fun _ _ => rV_bool f _
  | mul =>
    refine Air.bind (an_conv _ _ _) fun _ _ => Air.bind (an_conv _ _ _) fun _ _ => Air.bind (an_conv _ _ _) fun _ _ => Air.bind (an_conv _ _ _) fun _ _ => ?_
    exact Air.bind (an_product _ _ _ _) fun _ _ => Air.bind (an_conv _ _ _) fun _ _ => Air.bind (an_conv _ _ _) fun _ _ => rV_complex f _ _ _
  | quo =>
    refine Air.bind (an_conv _ _ _) fun _ _ => Air.bind (an_conv _ _ _) fun _ _ => Air.bind (an_conv _ _ _) fun _ _ => Air.bind (an_conv _ _ _) fun _ _ => ?_
    exact Air.bind (an_quotient _ _ _ _) fun _ _ => Air.bind (an_conv _ _ _) fun _ _ => Air.bind (an_conv _ _ _) fun _ _ => rV_complex f _ _ _
  | _ => trivial
end
end Go.Proofs.Ytdjnnhdeijnhgab.Rn

/-
  Blocks renamed: numbers that are addresses; operators.
-/
namespace Go.Proofs.Ytdjnnhdeijnhgab.Rn
open Go
set_option linter.all false

section
variable {P : Program} {Dd : Nat → Prop} {f : Nat → Nat}
theorem getObj_run (r : Nat) (w : World) (es : Array Event) : (getObj r).runT P w es = (match w.heap[r]? with
    | some (Obj.cells ..) => (.halt (.stuck "getObj: a row of cells") w, es)
    | some o => (.ok o w, es.push ⟨.obj r, false, o.isChan⟩)
    | none => (.halt (.stuck "getObj: no such block") w, es)) := by
  show (Sem.getObj r Sem.pure).runT P w es = _
  unfold Sem.runT
  cases w.heap[r]? with
  | none => rfl
  | some o => cases o <;> rfl
theorem numberAt_run (r : Nat) (w : World) (es : Array Event) : (numberAt r).runT P w es = (match w.heap[r]? with
    | some (Obj.cells ..) => (.ok none w, es)
    | some (Obj.number a l) => (.ok (some (a, l)) w, es.push ⟨.obj r, false, false⟩)
    | some o => (.ok none w, es.push ⟨.obj r, false, o.isChan⟩)
    | none => (.halt (.stuck "getObj: no such block") w, es)) := by
  have e : numberAt r = Sem.bind (shape r) (fun s => if s.isSome = true then Sem.pure none else Sem.bind (getObj r) (fun o => match o with | .number a lost => Sem.pure (some (a, lost)) | _ => Sem.pure none)) := rfl
  rw [e, Sem.runT_bind']
  have e2 : (shape r).runT P w es = (.ok (w.shape? r) w, es) := rfl
  rw [e2]
  simp only
  have e3 := getObj_run (P := P) r w es
  unfold World.shape?
  cases hr : w.heap[r]? with
  | none =>
    rw [hr] at e3
    simp only [Option.isSome_none, Bool.false_eq_true, if_false]
    rw [Sem.runT_bind', e3]
  | some o =>
    rw [hr] at e3
    cases o <;> (simp only [Option.isSome_none, Option.isSome_some, Bool.false_eq_true, if_false, if_true]) <;> first
      | rfl
      | (rw [Sem.runT_bind', e3]; rfl)
/-- What lies behind an address: itself, or what a number was made of; nothing is known of a dead block. -/
theorem sm_behind (n : Addr) : Sm P Dd f (fun x y => y = (rA f x.1, x.2) ∨ Dd x.1.block) (behindNumber n) (behindNumber (rA f n)) := by
  unfold behindNumber
  refine Sm.bind (Rr := fun x y => (Dd n.block ∧ x = none) ∨ y = x.map (fun p => (rA f p.1, p.2))) ?_ ?_
  · intro wl wc D Z el ec hW hF hD hZ a' wl' el' hr
    rw [numberAt_run] at hr
    have k := Later.refl f wl wc
    cases hb : wl.heap[n.block]? with
    | none => rw [hb] at hr; simp at hr
    | some o =>
      rw [hb] at hr
      rcases hW.plain _ _ hb with ⟨cs, e, fz, rfl⟩ | ⟨a, l, rfl⟩ | rfl
      · simp only [Prod.mk.injEq, Result.ok.injEq] at hr
        obtain ⟨⟨rfl, rfl⟩, rfl⟩ := hr
        have hc := hW.cells _ _ _ _ hb
        refine ⟨none, wc, #[], ?_, Or.inr rfl, hW, k⟩
        have hc' : wc.heap[(rA f n).block]? = _ := hc
        rw [numberAt_run, hc']
        simp
      · simp only [Prod.mk.injEq, Result.ok.injEq] at hr
        obtain ⟨⟨rfl, rfl⟩, rfl⟩ := hr
        have hc := hW.nums _ _ _ hb
        refine ⟨some (rA f a, l), wc, #[⟨.obj (f n.block), false, false⟩], ?_, Or.inr rfl, hW, k.d, k.dle, k.z, k.zle, rfl, rfl, rfl, rfl, rfl, rfl, k.keep, k.back, k.out, fun e he => ?_⟩
        · have hc' : wc.heap[(rA f n).block]? = _ := hc
          rw [numberAt_run, hc']
          rfl
        · simp at he
          subst he
          exact Or.inr (Or.inr ⟨_, _, rfl, (Array.getElem?_eq_some_iff.1 hb).1⟩)
      · have hd := hW.live _ hb
        have hlt := (Array.getElem?_eq_some_iff.1 hb).1
        have hl := hW.lt _ hlt
        have hq : (match some Dead with
          | some (Obj.cells ..) => ((Result.ok none wl : Result (Option (Addr × Bool))), el)
          | some (Obj.number a l) => (.ok (some (a, l)) wl, el.push ⟨.obj n.block, false, false⟩)
          | some o => (.ok none wl, el.push ⟨.obj n.block, false, o.isChan⟩)
          | none => (.halt (.stuck "getObj: no such block") wl, el)) = (.ok none wl, el.push ⟨.obj n.block, false, Dead.isChan⟩) := rfl
        rw [hq] at hr
        simp only [Prod.mk.injEq, Result.ok.injEq] at hr
        obtain ⟨⟨rfl, rfl⟩, rfl⟩ := hr
        have hev : ∀ s, ∀ e ∈ (#[⟨.obj (f n.block), false, s⟩] : Array Event), EvOk f wl e := fun s e he => by
          simp at he
          subst he
          exact Or.inr (Or.inr ⟨_, _, rfl, hlt⟩)
        have lat : ∀ s, Later f wl wc wl wc #[⟨.obj (f n.block), false, s⟩] := fun s => ⟨k.d, k.dle, k.z, k.zle, rfl, rfl, rfl, rfl, rfl, rfl, k.keep, k.back, k.out, hev s⟩
        have hg : wc.heap[(rA f n).block]? = some (wc.heap[f n.block]'hl) := Array.getElem?_eq_getElem hl
        have hrun := numberAt_run (P := P) (rA f n).block wc ec
        rw [hg] at hrun
        cases ho : wc.heap[f n.block]'hl with
        | cells cs e fz =>
          rw [ho] at hrun
          exact ⟨none, wc, #[], by rw [hrun]; simp, Or.inl ⟨hd, rfl⟩, hW, k⟩
        | number a l =>
          rw [ho] at hrun
          exact ⟨some (a, l), wc, #[⟨.obj (f n.block), false, false⟩], by rw [hrun]; rfl, Or.inl ⟨hd, rfl⟩, hW, lat false⟩
        | _ =>
          rw [ho] at hrun
          exact ⟨none, wc, #[⟨.obj (f n.block), false, _⟩], by rw [hrun]; rfl, Or.inl ⟨hd, rfl⟩, hW, lat _⟩
  · rintro x y (⟨hd, rfl⟩ | rfl)
    · exact Sm.pure (Or.inr hd)
    · cases x with
      | none => exact Sm.pure (Or.inl rfl)
      | some p => exact Sm.pure (Or.inl rfl)
/-- Nothing comes of a dead block. -/
theorem Sm.dd {α β : Type} {Rr : α → β → Prop} {s : Sem α} {s' : Sem β} {b : Nat} (hb : Dd b) (h : ∀ w es a w' es', w.heap[b]? = some Dead → s.runT P w es ≠ (.ok a w', es')) : Sm P Dd f Rr s s' :=
  fun wl wc D Z el ec hW _ _ _ a' wl' el' hr => absurd hr (h _ _ _ _ _ (hW.dd b hb))
theorem viewAt_run (r : Nat) (w : World) (es : Array Event) : (viewAt r).runT P w es = (match w.heap[r]? with
    | some (Obj.cells ..) => (.ok none w, es)
    | some (Obj.view a t) => (.ok (some (a, t)) w, es.push ⟨.obj r, false, false⟩)
    | some o => (.ok none w, es.push ⟨.obj r, false, o.isChan⟩)
    | none => (.halt (.stuck "getObj: no such block") w, es)) := by
  have e : viewAt r = Sem.bind (shape r) (fun s => if s.isSome = true then Sem.pure none else Sem.bind (getObj r) (fun o => match o with | .view a t => Sem.pure (some (a, t)) | _ => Sem.pure none)) := rfl
  rw [e, Sem.runT_bind']
  have e2 : (shape r).runT P w es = (.ok (w.shape? r) w, es) := rfl
  rw [e2]
  simp only
  have e3 := getObj_run (P := P) r w es
  unfold World.shape?
  cases hr : w.heap[r]? with
  | none =>
    rw [hr] at e3
    simp only [Option.isSome_none, Bool.false_eq_true, if_false]
    rw [Sem.runT_bind', e3]
  | some o =>
    rw [hr] at e3
    cases o <;> (simp only [Option.isSome_none, Option.isSome_some, Bool.false_eq_true, if_false, if_true]) <;> first
      | rfl
      | (rw [Sem.runT_bind', e3]; rfl)
/-- What a word does where a block is a row of cells. -/
theorem Sm.onCells {α β : Type} {Rr : α → β → Prop} {s : Sem α} {s' : Sem β} (b : Nat)
    (hno : ∀ w es a w' es', ¬ IsC w b → s.runT P w es ≠ (.ok a w', es'))
    (hyes : ∀ (e : TypeId) (n : Nat), ∃ x : Except Halt α, ∃ y : Except Halt β, (∀ w es, w.shape? b = some (e, n) → s.runT P w es = (match x with | .ok a => (.ok a w, es) | .error h => (.halt h w, es))) ∧ (∀ w es, w.shape? (f b) = some (e, n) → s'.runT P w es = (match y with | .ok a => (.ok a w, es) | .error h => (.halt h w, es))) ∧ ∀ a, x = .ok a → ∃ a', y = .ok a' ∧ Rr a a') : Sm P Dd f Rr s s' := by
  intro wl wc D Z el ec hW hF hD hZ a' wl' el' hr
  by_cases hc : IsC wl b
  · obtain ⟨cs, e, fz, hb⟩ := hc
    have hs : wl.shape? b = some (e, cs.size) := by unfold World.shape?; rw [hb]
    obtain ⟨x, y, h1, h2, h3⟩ := hyes e cs.size
    rw [h1 _ _ hs] at hr
    cases x with
    | error h => simp at hr
    | ok a =>
      simp only [Prod.mk.injEq, Result.ok.injEq] at hr
      obtain ⟨⟨rfl, rfl⟩, rfl⟩ := hr
      obtain ⟨a', hy, hR⟩ := h3 a rfl
      refine ⟨a', wc, #[], ?_, hR, hW, Later.refl _ _ _⟩
      rw [h2 _ _ (hW.shape hs), hy]
      simp
  · exact absurd hr (hno _ _ _ _ _ hc)
theorem isC_shape {w : World} {b : Nat} : (w.shape? b).isSome = true ↔ IsC w b := by
  unfold World.shape? IsC
  cases w.heap[b]? with
  | none => simp
  | some o => cases o <;> simp
theorem viewAt_cells {w : World} {b : Nat} {es : Array Event} {x : TypeId × Nat} (h : w.shape? b = some x) : (viewAt b).runT P w es = (.ok none w, es) := by
  rw [viewAt_run]
  obtain ⟨cs, e, fz, hb⟩ := isC_shape.1 (by rw [h]; rfl)
  rw [hb]
def byteP (P : Program) (e : TypeId) (off : Nat) : Except Halt Nat :=
  if P.cellsOf e = 0 then .ok 0 else match byteOfCell P P.depth e (off % P.cellsOf e) with
    | some b => .ok (off / P.cellsOf e * P.bytesOf e + b)
    | none => .error (.stuck "byteOf: no such cell")
theorem runT_bm {α β : Type} (x : Sem α) (k : α → Sem β) (w : World) (es : Array Event) : (x >>= k).runT P w es = match x.runT P w es with
      | (.ok a w', es') => (k a).runT P w' es'
      | (.halt h w', es') => (.halt h w', es') := Sem.runT_bind' P x k w es
theorem noView_cells {a : Addr} {w : World} {es : Array Event} {x : TypeId × Nat} (h : w.shape? a.block = some x) : (noView a).runT P w es = (.ok () w, es) := by
  unfold noView
  rw [runT_bm, viewAt_cells h]
  rfl
theorem noView_world {a : Addr} {w w' : World} {es es' : Array Event} {u : Unit} (h : (noView a).runT P w es = (.ok u w', es')) : w' = w := by
  unfold noView at h
  rw [runT_bm, viewAt_run] at h
  have key : ∀ (v : Option (Addr × TypeId)) (es2 : Array Event), (if v.isSome = true then (Go.unsupported (.unsafePointer "memory seen as another type") : Sem Unit) else Pure.pure ()).runT P w es2 = (.ok u w', es') → w' = w := by
    intro v es2 hq
    cases v with
    | none =>
      have hq2 : ((Result.ok () w : Result Unit), es2) = _ := hq
      simp only [Prod.mk.injEq, Result.ok.injEq] at hq2
      exact hq2.1.2.symm
    | some y => cases (congrArg Prod.fst hq : (Result.halt _ _ : Result Unit) = _)
  cases hb : w.heap[a.block]? with
  | none => rw [hb] at h; cases (congrArg Prod.fst h : (Result.halt _ _ : Result Unit) = _)
  | some o => rw [hb] at h; cases o <;> exact key _ _ h
theorem byteOf_cells {a : Addr} {w : World} {es : Array Event} {e : TypeId} {n : Nat} (hs : a.spot = none) (h : w.shape? a.block = some (e, n)) : (byteOf a).runT P w es = (match byteP P e a.off with | .ok b => (.ok b w, es) | .error h => (.halt h w, es)) := by
  unfold byteOf
  rw [hs]
  have e0 : Go.program.runT P w es = (.ok P w, es) := rfl
  have e2 : (shape a.block).runT P w es = (.ok (w.shape? a.block) w, es) := rfl
  rw [runT_bm, e0]
  simp only
  rw [runT_bm, noView_cells h]
  simp only
  rw [runT_bm, e2, h]
  unfold byteP
  simp only
  split
  · rfl
  · cases byteOfCell P P.depth e (a.off % P.cellsOf e) <;> rfl
theorem byteOf_none {a : Addr} {w : World} {es es' : Array Event} {x : Nat} {w' : World} (hs : a.spot = none) (h : ¬ IsC w a.block) : (byteOf a).runT P w es ≠ (.ok x w', es') := by
  have hsh : w.shape? a.block = none := by
    cases q : w.shape? a.block with
    | none => rfl
    | some y => exact absurd (isC_shape.1 (by rw [q]; rfl)) h
  unfold byteOf
  rw [hs]
  have e0 : Go.program.runT P w es = (.ok P w, es) := rfl
  rw [runT_bm, e0]
  simp only
  rw [runT_bm]
  cases hq : (noView a).runT P w es with
  | mk r es2 =>
    cases r with
    | halt y w2 => intro e; cases (congrArg Prod.fst e : (Result.halt _ _ : Result Nat) = _)
    | ok u w2 =>
      obtain rfl := noView_world hq
      have e2 : (shape a.block).runT P w2 es2 = (.ok (w2.shape? a.block) w2, es2) := rfl
      simp only
      rw [runT_bm, e2, hsh]
      intro e; cases (congrArg Prod.fst e : (Result.halt _ _ : Result Nat) = _)
theorem sm_byteOf (a : Addr) : Sm P Dd f Eq (byteOf a) (byteOf (rA f a)) := by
  cases hs : a.spot with
  | some s =>
    have h : ∀ b : Addr, b.spot = some s → byteOf b = Sem.pure s := fun b hb => by unfold byteOf; rw [hb]; rfl
    rw [h a hs, h (rA f a) hs]
    exact Sm.pure rfl
  | none =>
    refine Sm.onCells a.block (fun w es x w' es' h => byteOf_none hs h) (fun e n => ⟨byteP P e a.off, byteP P e a.off, (fun w es h => ?_), (fun w es h => ?_), fun x hx => ⟨x, hx, rfl⟩⟩)
    · rw [byteOf_cells hs h]; cases byteP P e a.off <;> rfl
    · rw [byteOf_cells (a := rA f a) hs h]
      show (match byteP P e a.off with | .ok b => ((Result.ok b w : Result Nat), es) | .error h => (.halt h w, es)) = _
      cases byteP P e a.off <;> rfl
end
end Go.Proofs.Ytdjnnhdeijnhgab.Rn
