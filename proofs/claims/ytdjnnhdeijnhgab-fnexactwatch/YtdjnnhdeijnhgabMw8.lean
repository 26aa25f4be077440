/-
  Blocks renamed: one operation.
-/
import Derived.Test.YtdjnnhdeijnhgabMw7
import Derived.Conc.Own
import Derived.RunT
import Derived.Laws.Sem
namespace Go.Proofs.Ytdjnnhdeijnhgab.Rn
open Go
set_option linter.all false

def constB : Value → Bool
  | .int _ _ => true
  | .bool _ => true
  | .string _ => true
  | .float _ _ => true
  | .slice none _ _ => true
  | .pointer none => true
  | .nilFunc => true
  | .nilIface => true
  | _ => false
theorem const_ren {f : Nat → Nat} {v : Value} (h : constB v = true) : rV f v = v := by
  cases v with
  | pointer a => cases a <;> simp [constB] at h <;> simp
  | slice a n c => cases a <;> simp [constB] at h <;> simp
  | _ => simp [constB] at h <;> simp
def oprB : Operand → Bool
  | .tmp _ => true
  | .const v => constB v
  | .func _ => true
  | .global _ => false
/-- Two frames' operands, the one renamed. -/
def Evs (f : Nat → Nat) (ρ ρ' : Operand → Value) : Prop := ∀ x, oprB x = true → ρ' x = rV f (ρ x)
def NotCopy (P : Program) (t : TypeId) : Prop := ∀ i, P.info? t = some i → ∀ u, i.desc ≠ .named "sync.copyChecker" u
def IsSlice (P : Program) (t : TypeId) : Prop := ∃ e, P.underlying t = some (.slice e)
def Called (P : Program) (A : Nat → Prop) (g : Nat) : Prop := A g ∧ ∃ fn, P.funcs[g]? = some fn ∧ fn.body.isSome = true ∧ (fn.name == "runtime.NumGoroutine") = false
/-- The operations that are served. -/
def OpP (P : Program) (A : Nat → Prop) : Op → Prop
  | .move x | .assign x => oprB x = true
  | .pick c a b => oprB c = true ∧ oprB a = true ∧ oprB b = true
  | .alloc _ => True
  | .box _ x => oprB x = true
  | .build _ parts | .buildSlice _ _ parts => ∀ p ∈ parts, oprB p.2 = true
  | .load _ a => oprB a = true
  | .store _ a x => oprB a = true ∧ oprB x = true
  | .binOp op t x y _ => oprB x = true ∧ oprB y = true ∧ opOk op = true ∧ Plainly P t ∧ NotCopy P t
  | .unOp _ _ x => oprB x = true
  | .makeFunc _ first captured => (∀ x ∈ first, oprB x = true) ∧ ∀ x ∈ captured, oprB x = true
  | .makeSlice _ l c => oprB l = true ∧ oprB c = true
  | .fieldAddr s x i => oprB x = true ∧ Roomy P s i
  | .indexAddr t x i => oprB x = true ∧ oprB i = true ∧ IsSlice P t
  | .extract x _ => oprB x = true
  | .call c => (∀ x ∈ c.args, oprB x = true) ∧ match c.callee with
    | .value (.func g) => Called P A g
    | .builtin .len => ∃ t, c.argTypes[0]? = some t ∧ IsSlice P t
    | .builtin .append => AppOk P c.argTypes
    | _ => False
  | _ => False
/-- What an operation yields, the one renamed. -/
def RN (f : Nat → Nat) (A : Nat → Prop) : Next → Next → Prop
  | .value v, .value v' => v' = rV f v
  | .skip, .skip => True
  | .enter g args, .enter g' args' => g' = g ∧ args' = args.map (rV f) ∧ A g
  | _, _ => False
section
variable {P : Program} {Dd : Nat → Prop} {f : Nat → Nat} {A : Nat → Prop}
theorem sm_val {s s' : Sem Value} (h : Sm P Dd f (RV f) s s') : Sm P Dd f (RN f A) (do pure (.value (← s))) (do pure (.value (← s'))) :=
  Sm.bind h fun a b e => Sm.pure (by show b = rV f a; exact e)
theorem sm_unit {s s' : Sem Unit} (h : Sm P Dd f (fun _ _ => True) s s') : Sm P Dd f (RN f A) (do s; pure .skip) (do s'; pure .skip) :=
  Sm.bind h fun a b e => Sm.pure trivial
theorem args_ren {ρ ρ' : Operand → Value} (hρ : Evs f ρ ρ') {xs : Array Operand} (h : ∀ x ∈ xs, oprB x = true) : xs.map ρ' = (xs.map ρ).map (rV f) := by
  rw [Array.map_map]
  exact Array.map_congr_left fun x hx => hρ x (h x hx)
theorem parts_ren {ρ ρ' : Operand → Value} (hρ : Evs f ρ ρ') {xs : Array (Nat × Operand)} (h : ∀ x ∈ xs, oprB x.2 = true) : (xs.map fun (i, x) => (i, ρ' x)) = RP f (xs.map fun (i, x) => (i, ρ x)) := by
  unfold RP
  rw [Array.map_map]
  exact Array.map_congr_left fun x hx => by
    obtain ⟨i, x⟩ := x
    show (i, ρ' x) = (i, rV f (ρ x))
    rw [hρ x (h _ hx)]
theorem sm_call (g : Nat) (hg : Called P A g) (args : Array Value) : Sm P Dd f (RN f A) (callFunc g args) (callFunc g (args.map (rV f))) := by
  obtain ⟨ha, fn, hf, hb, hn⟩ := hg
  unfold callFunc
  refine Sm.bind Sm.program ?_
  rintro _ _ ⟨rfl, rfl⟩
  rw [hf]
  have hnn : fn.body.isNone = false := by
    cases h : fn.body
    · rw [h] at hb; simp at hb
    · rfl
  simp only [hn, hnn, Bool.false_eq_true, if_false]
  exact Sm.pure ⟨rfl, rfl, ha⟩
theorem sm_exec (hC : Closed P f) (hX : Fix P Dd f) {ρ ρ' : Operand → Value} (hρ : Evs f ρ ρ') (hF : ∀ g, ρ (.func g) = .func (.func g) #[] #[]) (o : Oper) (h : OpP P A o.op) : Sm P Dd f (RN f A) (execOp ρ o) (execOp ρ' o) := by
  unfold execOp
  cases ho : o.op with
  | move x => rw [ho] at h; exact Sm.pure (hρ x h)
  | assign x => rw [ho] at h; exact Sm.pure (hρ x h)
  | pick c a b =>
    rw [ho] at h
    simp only [hρ c h.1, hρ a h.2.1, hρ b h.2.2]
    refine Sm.bind (sm_asBool _) ?_
    rintro t _ rfl
    exact Sm.pure (by show _ = rV f _; cases t <;> rfl)
  | alloc e => exact sm_val (sm_alloc hC e)
  | box e x =>
    rw [ho] at h
    simp only [hρ x h]
    exact sm_val (sm_box e _)
  | build t parts =>
    rw [ho] at h
    have e := parts_ren hρ h
    simp only [e]
    exact sm_val (sm_build hC t _)
  | buildSlice t len parts =>
    rw [ho] at h
    have e := parts_ren hρ h
    simp only [e]
    exact sm_val (sm_buildSlice hC t len _)
  | load t a =>
    rw [ho] at h
    simp only [hρ a h]
    exact sm_val (sm_loadAt t _)
  | store t a x =>
    rw [ho] at h
    simp only [hρ a h.1, hρ x h.2]
    exact sm_unit (sm_storeAt t _ _)
  | binOp op t x y u =>
    rw [ho] at h
    obtain ⟨hx, hy, h1, h2, h3⟩ := h
    simp only [hρ x hx, hρ y hy]
    refine sm_val ?_
    exact Sm.bind (sm_eqGuard op t h2 x y _ _) fun _ _ _ => sm_binOp op h1 t h2.raw h3 hX _ _
  | unOp op t x =>
    rw [ho] at h
    simp only [hρ x h]
    exact sm_val (sm_unary op _)
  | makeFunc fn first captured =>
    rw [ho] at h
    refine sm_val ?_
    unfold Instr.makeFunc
    rw [args_ren hρ h.1, args_ren hρ h.2]
    exact Sm.pure (rV_func f _ _ _).symm
  | makeSlice t l c =>
    rw [ho] at h
    simp only [hρ l h.1, hρ c h.2]
    exact sm_val (sm_makeSlice hC t _ _)
  | fieldAddr s x i =>
    rw [ho] at h
    simp only [hρ x h.1]
    exact sm_val (sm_fieldAt s _ i h.2)
  | indexAddr t x i =>
    rw [ho] at h
    simp only [hρ x h.1, hρ i h.2.1]
    exact sm_val (sm_indexAt t _ _ h.2.2)
  | extract x i =>
    rw [ho] at h
    simp only [hρ x h]
    exact sm_val (sm_extract _ i)
  | call c =>
    rw [ho] at h
    obtain ⟨callee, args, argTypes⟩ := c
    obtain ⟨ha, hc⟩ := h
    have e := args_ren hρ ha
    cases callee with
    | value x =>
      cases x with
      | func g =>
        have e2 : ρ' (.func g) = .func (.func g) #[] #[] := by
          rw [hρ (.func g) rfl, hF g]
          simp
        refine Sm.bind (Rr := fun a b => a = { target := .fn (.func g) #[], args := #[] ++ args.map ρ } ∧ b = { target := .fn (.func g) #[], args := #[] ++ args.map ρ' }) ?_ ?_
        · show Sm P Dd f _ (Deferred.ofValue (ρ (.func g)) (args.map ρ)) (Deferred.ofValue (ρ' (.func g)) (args.map ρ'))
          rw [hF g, e2]
          exact Sm.pure ⟨rfl, rfl⟩
        · rintro _ _ ⟨rfl, rfl⟩
          show Sm P Dd f (RN f A) (callFunc g ((#[] ++ args.map ρ) ++ #[])) (callFunc g ((#[] ++ args.map ρ') ++ #[]))
          rw [e, Array.append_empty, Array.append_empty, Array.empty_append, Array.empty_append]
          exact sm_call g hc _
      | _ => exact absurd hc (by simp)
    | builtin b =>
      cases b with
      | len =>
        obtain ⟨t, h1, e1, h2⟩ := hc
        refine Sm.bind (Rr := fun a b => a = { target := .builtin .len argTypes o.type (args.map fun | .const _ => true | _ => false), args := args.map ρ } ∧ b = { target := .builtin .len argTypes o.type (args.map fun | .const _ => true | _ => false), args := args.map ρ' }) (Sm.pure ⟨rfl, rfl⟩) ?_
        rintro _ _ ⟨rfl, rfl⟩
        show Sm P Dd f (RN f A) (do pure (.value (← Builtin.len_ argTypes o.type (args.map ρ)))) (do pure (.value (← Builtin.len_ argTypes o.type (args.map ρ'))))
        rw [e]
        exact sm_val (sm_len argTypes o.type _ ⟨t, e1, h1, h2⟩)
      | append =>
        refine Sm.bind (Rr := fun a b => a = { target := .builtin .append argTypes o.type (args.map fun | .const _ => true | _ => false), args := args.map ρ } ∧ b = { target := .builtin .append argTypes o.type (args.map fun | .const _ => true | _ => false), args := args.map ρ' }) (Sm.pure ⟨rfl, rfl⟩) ?_
        rintro _ _ ⟨rfl, rfl⟩
        show Sm P Dd f (RN f A) (do pure (.value (← Builtin.append_ argTypes o.type (args.map ρ)))) (do pure (.value (← Builtin.append_ argTypes o.type (args.map ρ'))))
        rw [e]
        exact sm_val (sm_append hC argTypes o.type _ hc)
      | _ => exact absurd hc (by simp)
    | invoke r n => exact absurd hc (by simp)
  | _ => rw [ho] at h; exact h.elim
end
end Go.Proofs.Ytdjnnhdeijnhgab.Rn

/-
  Blocks renamed: frames, and what a goroutine's own step is.
-/
namespace Go.Proofs.Ytdjnnhdeijnhgab.Rn
open Go Go.Conc
set_option linter.all false

def CodeP (P : Program) (A : Nat → Prop) : Code → Prop
  | .skip => True
  | .region _ ops _ => ∀ o ∈ ops, OpP P A o.op
  | .seq a b => CodeP P A a ∧ CodeP P A b
  | .cond c a b => oprB c = true ∧ CodeP P A a ∧ CodeP P A b
  | .block _ a => CodeP P A a
  | .loop a => CodeP P A a
  | .exit _ => True
  | .ret => True
  | .refuse _ => True
  | _ => False
def ItP (P : Program) (A : Nat → Prop) : Item → Prop
  | .code c => CodeP P A c
  | .inBlock _ => True
  | .inLoop c => CodeP P A c
  | .inRegion ops _ => ∀ o ∈ ops, OpP P A o.op
  | _ => False
structure Prg (P : Program) (A : Nat → Prop) : Prop where
  body : ∀ g, A g → ∀ fn, P.funcs[g]? = some fn → ∀ c, fn.body = some c → CodeP P A c
  inits : ∀ g, A g → P.inits.idxOf? g = none
  steps : ∀ g, P.stepOf g = none
  ahead : P.follows .staticDataAhead = true
structure FrOk (P : Program) (A : Nat → Prop) (fr : Frame) : Prop where
  todo : ∀ it ∈ fr.todo, ItP P A it
  defers : fr.defers = []
  kind : fr.kind = .normal
  round : fr.roundOf = none
/-- A frame renamed, with more to do behind what it has. -/
def top (f : Nat → Nat) (k : List Item) (fr : Frame) : Frame := { fr with tmps := fr.tmps.map (rV f), todo := fr.todo ++ k }
/-- What is to be done behind the frame's own: the lowest one's alone. -/
def kk (k : List Item) (cs : List Frame) : List Item := match cs with | [] => k | _ => []
def renS (f : Nat → Nat) (k : List Item) (cc : List Frame) : List Frame → List Frame
  | [] => cc
  | x :: xs => top f (kk k xs) x :: renS f k cc xs
def renG (f : Nat → Nat) (k : List Item) (cc : List Frame) (fr : Frame) (cs : List Frame) : Goroutine := G (top f (kk k cs) fr) (renS f k cc cs)
/-- The world behind the frame's own step, as far as it draws and makes. -/
def ownW (P : Program) (fr : Frame) (w : World) : World :=
  match fr.mode, fr.todo with
  | .run, .inRegion ops (i :: _) :: _ => if ((ops[i]?).map (Region.wanted · (yielded ops fr.tmps))).getD false then (match ops[i]? with | some o => resW ((execOp fr.eval o).runT P w #[]).1 | none => w) else w
  | .run, .code (.region id _ true) :: _ => resW ((choose (.order fr.fn id)).runT P w #[]).1
  | .returning, _ => (match P.funcs[fr.fn]? with | some fn => resW ((results fn fr.tmps).runT P w #[]).1 | none => w)
  | _, _ => w
section
variable {P : Program} {Dd : Nat → Prop} {f : Nat → Nat} {A : Nat → Prop}
theorem getD_ren (tmps : Array Value) (t : Nat) : (tmps.map (rV f)).getD t undef = rV f (tmps.getD t undef) := by
  simp only [Array.getD_eq_getD_getElem?, Array.getElem?_map]
  cases tmps[t]? with
  | none => simp
  | some v => rfl
theorem eval_ren (fr : Frame) (k : List Item) : Evs f fr.eval (top f k fr).eval := by
  intro x hx
  cases x with
  | tmp t => exact getD_ren _ _
  | const v => exact (const_ren hx).symm
  | func g => exact (by simp [Frame.eval])
  | global g => simp [oprB] at hx
theorem yielded_ren (ops : Array Oper) (tmps : Array Value) : yielded ops (tmps.map (rV f)) = yielded ops tmps := by
  funext j
  unfold yielded
  cases (ops[j]?).bind (·.dst) with
  | none => rfl
  | some d =>
    simp only [Option.bind_some, Array.getElem?_map]
    cases h : tmps[d]? with
    | none => rfl
    | some v =>
      cases v with
      | pointer a => cases a <;> simp
      | slice a n c => cases a <;> simp
      | map a => cases a <;> simp
      | chan a => cases a <;> simp
      | _ => simp
theorem finish_ren (fr : Frame) (k : List Item) (v : Value) (h : ∀ it ∈ fr.todo, ItP P A it) (hne : fr.todo ≠ [] ∨ k = []) : (top f k fr).finish (rV f v) = top f k (fr.finish v) := by
  obtain ⟨fn, tmps, todo, defers, mode, kind, ro⟩ := fr
  cases todo with
  | nil =>
    rcases hne with h0 | rfl
    · exact absurd rfl h0
    · rfl
  | cons it rest =>
    cases it with
    | inRegion ops l =>
      cases l with
      | nil => rfl
      | cons i l =>
        simp only [Frame.finish, top, List.cons_append]
        cases (ops[i]?).bind (·.dst) with
        | none => rfl
        | some d => simp
    | inRangeFunc l => exact False.elim (h (.inRangeFunc l) (by simp))
    | beginRound => exact False.elim (h .beginRound (by simp))
    | call d w r s => exact False.elim (h (.call d w r s) (by simp))
    | extern r a => exact False.elim (h (.extern r a) (by simp))
    | _ => rfl
theorem finish_todo (fr : Frame) (v : Value) (h : ∀ it ∈ fr.todo, ItP P A it) : ∀ it ∈ (fr.finish v).todo, ItP P A it := by
  obtain ⟨fn, tmps, todo, defers, mode, kind, ro⟩ := fr
  cases todo with
  | nil => exact h
  | cons it rest =>
    cases it with
    | inRegion ops l =>
      cases l with
      | nil => exact h
      | cons i l =>
        intro it hit
        simp only [Frame.finish, List.mem_cons] at hit
        rcases hit with rfl | hit
        · exact h (.inRegion ops (i :: l)) (by simp)
        · exact h it (by simp; exact Or.inr hit)
    | inRangeFunc l => exact False.elim (h (.inRangeFunc l) (by simp))
    | beginRound => exact False.elim (h .beginRound (by simp))
    | call d w r s => exact False.elim (h (.call d w r s) (by simp))
    | extern r a => exact False.elim (h (.extern r a) (by simp))
    | _ => exact h
theorem finish_ok {fr : Frame} (v : Value) (h : FrOk P A fr) : FrOk P A (fr.finish v) := by
  refine ⟨finish_todo fr v h.todo, ?_, ?_, ?_⟩
  · rw [← h.defers]; unfold Frame.finish; split <;> rfl
  · rw [← h.kind]; unfold Frame.finish; split <;> rfl
  · rw [← h.round]; unfold Frame.finish; split <;> rfl
theorem finish_mode (fr : Frame) (v : Value) : (fr.finish v).mode = fr.mode ∧ (fr.finish v).fn = fr.fn := by
  constructor <;> (unfold Frame.finish; split <;> rfl)
theorem exitTo_app (id : Nat) : ∀ (l k : List Item) (k' : List Item), exitTo id l = some k' → exitTo id (l ++ k) = some (k' ++ k) := by
  intro l
  induction l with
  | nil => intro k k' h; simp [exitTo] at h
  | cons it l ih =>
    intro k k' h
    cases it with
    | inBlock id' =>
      simp only [exitTo, List.cons_append] at h ⊢
      split at h
      · rename_i hh
        rw [if_pos hh]
        simp only [Option.some.injEq] at h
        rw [h]
      · rename_i hh
        rw [if_neg hh]
        exact ih k k' h
    | _ => simp only [exitTo, List.cons_append] at h ⊢; exact ih k k' h
theorem exitTo_mem {id : Nat} : ∀ {l k' : List Item}, exitTo id l = some k' → ∀ it ∈ k', it ∈ l := by
  intro l
  induction l with
  | nil => intro k' h; simp [exitTo] at h
  | cons x l ih =>
    intro k' h it hit
    cases x with
    | inBlock id' =>
      simp only [exitTo] at h
      split at h
      · simp only [Option.some.injEq] at h
        subst h
        exact List.mem_cons_of_mem _ hit
      · exact List.mem_cons_of_mem _ (ih h it hit)
    | _ => simp only [exitTo] at h; exact List.mem_cons_of_mem _ (ih h it hit)
theorem enter_ren (g : Nat) (args : Array Value) : Frame.enter P g (args.map (rV f)) .normal = top f [] (Frame.enter P g args .normal) := by
  unfold Frame.enter top
  simp
theorem seen_mem {fn : FuncId} {es : Array Event} {e : Event} (h : e ∈ seen P fn es) : e ∈ es := by
  unfold seen at h
  have key : ∀ (l : List Event) (q : Bool) (acc : Array Event) (e : Event), e ∈ (l.foldl (fun (x : Bool × Array Event) e => match e.loc with
      | .mark (.extern f) => ((P.funcs[f]?).any (·.norace), x.2)
      | _ => (x.1, if x.1 && !e.sync then x.2 else x.2.push e)) (q, acc)).2 → e ∈ acc ∨ e ∈ l := by
    intro l
    induction l with
    | nil => intro q acc e h; exact Or.inl h
    | cons x l ih =>
      intro q acc e h
      simp only [List.foldl_cons] at h
      split at h
      · rcases ih _ _ _ h with k | k
        · exact Or.inl k
        · exact Or.inr (List.mem_cons_of_mem _ k)
      · rcases ih _ _ _ h with k | k
        · split at k
          · exact Or.inl k
          · rcases Array.mem_push.1 k with k | k
            · exact Or.inl k
            · exact Or.inr (by rw [k]; exact List.mem_cons_self)
        · exact Or.inr (List.mem_cons_of_mem _ k)
  have := key es.toList ((P.funcs[fn]?).any (·.norace)) #[] e (by rw [Array.foldl_toList]; exact h)
  rcases this with k | k
  · simp at k
  · exact Array.mem_toList_iff.1 k
end
end Go.Proofs.Ytdjnnhdeijnhgab.Rn

/-
  Blocks renamed: a goroutine's own step.
-/
namespace Go.Proofs.Ytdjnnhdeijnhgab.Rn
open Go Go.Conc
set_option linter.all false

def Out (P : Program) (A : Nat → Prop) (Dd : Nat → Prop) (f : Nat → Nat) (k : List Item) (cc : List Frame) (fr : Frame) (cs : List Frame) (wl wc : World) (fr2 : Frame) (cs2 : List Frame) (wl2 : World) : Prop :=
  ∃ wc2 es2, stepG P true (renG f k cc fr cs) wc = .go (renG f k cc fr2 cs2) wc2 es2 ∧ wc2 = ownW P (top f (kk k cs) fr) wc ∧ WR Dd f wl2 wc2 ∧ Later f wl wc wl2 wc2 es2 ∧
    FrOk P A fr2 ∧ (∀ x ∈ cs2, FrOk P A x ∧ x.mode = .run ∧ x.todo ≠ []) ∧ (fr2.mode = .run ∨ fr2.mode = .returning)
section
variable {P : Program} {Dd : Nat → Prop} {f : Nat → Nat} {A : Nat → Prop} {k : List Item} {cc : List Frame} {cs : List Frame} {wl wc : World}
theorem out_move {fr fr' : Frame} (hW : WR Dd f wl wc) (hc : stepG P true (renG f k cc fr cs) wc = .go (renG f k cc fr' cs) wc #[]) (ho : ownW P (top f (kk k cs) fr) wc = wc) (hok : FrOk P A fr') (hcs : ∀ x ∈ cs, FrOk P A x ∧ x.mode = .run ∧ x.todo ≠ [])
    (hm : fr'.mode = .run ∨ fr'.mode = .returning) : Out P A Dd f k cc fr cs wl wc fr' cs wl :=
  ⟨wc, #[], hc, ho.symm, hW, Later.refl _ _ _, hok, hcs, hm⟩
theorem not_die {fr : Frame} {ps : List ByteArray} {m : String} {b : Bool} {w w2 : World} {fr2 : Frame} {cs2 : List Frame} {es : Array Event} : dieOf fr ps m b w ≠ .go (G fr2 cs2) w2 es := by
  unfold dieOf G
  intro h
  simp at h
theorem not_after {es es2 : Array Event} {s : GStep} {g : Goroutine} {w : World} (h : GStep.after es s = .go g w es2) : ∃ es3, s = .go g w es3 ∧ es2 = es ++ es3 := by
  cases s <;> simp [GStep.after] at h
  obtain ⟨rfl, rfl, rfl⟩ := h
  exact ⟨_, rfl, rfl⟩
theorem Later.sub {wl2 wc2 : World} {es es' : Array Event} (h : Later f wl wc wl2 wc2 es) (hs : ∀ e ∈ es', e ∈ es) : Later f wl wc wl2 wc2 es' :=
  ⟨h.d, h.dle, h.z, h.zle, h.tl, h.tc, h.os, h.output, h.osl, h.outl, h.keep, h.back, h.out, fun e he => h.evs e (hs e he)⟩
end
end Go.Proofs.Ytdjnnhdeijnhgab.Rn

/-
  Blocks renamed: a goroutine's own step, at an operation.
-/
namespace Go.Proofs.Ytdjnnhdeijnhgab.Rn
open Go Go.Conc
set_option linter.all false

section
variable {P : Program} {fr : Frame} {cs : List Frame} {w w' : World} {ops : Array Oper} {i : Nat} {rest : List Nat} {tl : List Item} {o : Oper}
/-- A frame at an operation that is wanted. -/
structure AtOp (fr : Frame) (o : Oper) : Prop where
  mode : fr.mode = .run
  round : fr.roundOf = none
  kind : fr.kind = .normal
  todo : ∃ ops i rest tl, fr.todo = .inRegion ops (i :: rest) :: tl ∧ ops[i]? = some o ∧ Region.wanted o (yielded ops fr.tmps) = true
theorem step_oper (h : AtOp fr o) : stepG P true (G fr cs) w = stepG.apply P true fr cs none (execOp fr.eval o) w := by
  obtain ⟨fn, tmps, todo, defers, mode, kind, ro⟩ := fr
  obtain ⟨h1, h2, h3, ops, i, rest, tl, h4, h5, h6⟩ := h
  simp only at h1 h2 h3 h4 h6
  subst h1 h2 h3 h4
  simp [stepG, stepG.exec, stepG.oper, G, Frame.oper?, h5, h6]
theorem step_value (h : AtOp fr o) {v : Value} {es : Array Event} (hr : (execOp fr.eval o).runT P w #[] = (.ok (.value v) w', es)) : stepG P true (G fr cs) w = .go (G (fr.finish v) cs) w' (seen P fr.fn es) := by
  rw [step_oper h]
  have hk : (fr.kind == CallKind.early) = false := by rw [h.kind]; rfl
  unfold stepG.apply
  simp only [hr, if_true, hk]
  simp [GStep.after, G]
theorem step_skip2 (h : AtOp fr o) {es : Array Event} (hr : (execOp fr.eval o).runT P w #[] = (.ok .skip w', es)) : stepG P true (G fr cs) w = .go (G (fr.finish undef) cs) w' (seen P fr.fn es) := by
  rw [step_oper h]
  have hk : (fr.kind == CallKind.early) = false := by rw [h.kind]; rfl
  unfold stepG.apply
  simp only [hr, if_true, hk]
  simp [GStep.after, G]
theorem step_enter (h : AtOp fr o) {g : FuncId} {args : Array Value} {es : Array Event} (hr : (execOp fr.eval o).runT P w #[] = (.ok (.enter g args) w', es)) : stepG P true (G fr cs) w = .go (G (Frame.enter P g args .normal) (fr :: cs)) w' (seen P fr.fn es) := by
  rw [step_oper h]
  have hk : (fr.kind == CallKind.early) = false := by rw [h.kind]; rfl
  obtain ⟨ops, i, rest, tl, h4, h5, h6⟩ := h.todo
  unfold stepG.apply
  simp only [hr, if_true, hk, h4]
  simp [GStep.after, G]
theorem step_halt (h : AtOp fr o) (hA : P.follows .staticDataAhead = true) (hS : ∀ g, P.stepOf g = none) {x : Halt} {es es2 : Array Event} {fr2 : Frame} {cs2 : List Frame} {w2 : World} (hr : (execOp fr.eval o).runT P w #[] = (.halt x w', es))
    (hg : ∀ ch, fr2.mode ≠ .panicking ch) : stepG P true (G fr cs) w ≠ .go (G fr2 cs2) w2 es2 := by
  rw [step_oper h]
  intro e
  have hk : (fr.kind == CallKind.early) = false := by rw [h.kind]; rfl
  have hm := h.mode
  unfold stepG.apply at e
  simp only [hr, if_true] at e
  obtain ⟨es3, e, -⟩ := not_after e
  cases x with
  | panic v =>
    simp only [Frame.raise, hm, G, GStep.go.injEq, Goroutine.mk.injEq] at e
    exact hg _ (by rw [← e.1.1])
  | goexit =>
    simp only [Frame.raise, hm, G, GStep.go.injEq, Goroutine.mk.injEq] at e
    exact hg _ (by rw [← e.1.1])
  | blocked => simp [G] at e
  | waiting => simp [G] at e
  | exit c => simp at e
  | fatal m =>
    simp only [endFatal] at e
    split at e
    · exact not_die e
    · simp at e
    · simp at e
  | throw m => exact not_die e
  | unsupported u =>
    cases u with
    | initOrder g => simp [early, hA, hS] at e
    | _ => simp at e
  | stuck s => simp at e
end
end Go.Proofs.Ytdjnnhdeijnhgab.Rn

/-
  Blocks renamed: a goroutine's own step, all of them.
-/
namespace Go.Proofs.Ytdjnnhdeijnhgab.Rn
open Go Go.Conc
set_option linter.all false

section
variable {P : Program} {Dd : Nat → Prop} {f : Nat → Nat} {A : Nat → Prop}
theorem sm_asAddr (v : Value) : Sm P Dd f (fun a b => b = rA f a) (asAddr v) (asAddr (rV f v)) := by
  unfold asAddr
  cases v with
  | pointer a =>
    cases a with
    | none => exact Sm.never (never_runtimePanic _)
    | some a => rw [rV_p]; exact Sm.pure rfl
  | _ => exact Sm.stuck
theorem sm_mapL {α : Type} (s s' : α → Sem Value) (h : ∀ a, Sm P Dd f (RV f) (s a) (s' a)) : ∀ l : List α, Sm P Dd f (fun a b => b = a.map (rV f)) (l.mapM s) (l.mapM s')
  | [] => by
    rw [List.mapM_nil, List.mapM_nil]
    exact Sm.pure rfl
  | x :: l => by
    rw [List.mapM_cons, List.mapM_cons]
    refine Sm.bind (h x) ?_
    rintro v _ rfl
    refine Sm.bind (sm_mapL s s' h l) ?_
    rintro vs _ rfl
    exact Sm.pure (by simp)
theorem sm_results (fn : Func) (tmps : Array Value) : Sm P Dd f (RV f) (results fn tmps) (results fn (tmps.map (rV f))) := by
  unfold results
  rw [Array.mapM_eq_mapM_toList, Array.mapM_eq_mapM_toList]
  refine Sm.bind (Rr := fun a b => b = a.map (rV f)) ?_ ?_
  · rw [map_eq_pure_bind, map_eq_pure_bind]
    refine Sm.bind (sm_mapL _ _ (fun r => ?_) _) ?_
    · cases r with
      | tmp t => exact Sm.pure (getD_ren tmps t)
      | cell a t =>
        show Sm P Dd f (RV f) (do loadVar t (← asAddr (tmps.getD a undef))) (do loadVar t (← asAddr ((tmps.map (rV f)).getD a undef)))
        rw [getD_ren]
        refine Sm.bind (sm_asAddr _) ?_
        rintro x _ rfl
        exact sm_loadVar t x
    · rintro vs _ rfl
      exact Sm.pure (by simp)
  · rintro vs _ rfl
    refine Sm.pure ?_
    by_cases h : vs.size = 1
    · have h2 : (vs.map (rV f)).size = 1 := by simpa using h
      show (if h : (vs.map (rV f)).size = 1 then (vs.map (rV f))[0] else .tuple (vs.map (rV f))) = rV f (if h : vs.size = 1 then vs[0] else .tuple vs)
      rw [dif_pos h2, dif_pos h]
      simp
    · have h2 : ¬ (vs.map (rV f)).size = 1 := by simpa using h
      show (if h : (vs.map (rV f)).size = 1 then (vs.map (rV f))[0] else .tuple (vs.map (rV f))) = rV f (if h : vs.size = 1 then vs[0] else .tuple vs)
      rw [dif_neg h2, dif_neg h, rV_tuple]
end
section
variable {P : Program} {fr : Frame} {c : Frame} {cs : List Frame} {w w' : World}
theorem step_ret (hm : fr.mode = .returning) (hd : fr.defers = []) (hk : fr.kind = .normal) {fn : Func} (hf : P.funcs[fr.fn]? = some fn) {v : Value} {es : Array Event} (hr : (results fn fr.tmps).runT P w #[] = (.ok v w', es)) :
    stepG P true (G fr (c :: cs)) w = .go (G (c.finish v) cs) w' (seen P fr.fn es) := by
  unfold stepG G
  simp only [hm]
  unfold unwind
  simp only [hd, hm, hf, hr]
  unfold doReturn
  simp only [hk]
  simp [GStep.after]
theorem step_ret_none (hm : fr.mode = .returning) (hd : fr.defers = []) (hk : fr.kind = .normal) (hf : P.funcs[fr.fn]? = none) :
    stepG P true (G fr (c :: cs)) w = .go (G (c.finish (fr.tmps.getD 0 undef)) cs) w #[] := by
  unfold stepG G
  simp only [hm]
  unfold unwind
  simp only [hd, hm, hf]
  unfold doReturn
  simp only [hk]
theorem step_ret_halt (hm : fr.mode = .returning) (hd : fr.defers = []) {fn : Func} (hf : P.funcs[fr.fn]? = some fn) {x : Halt} {es : Array Event} (hr : (results fn fr.tmps).runT P w #[] = (.halt x w', es)) {g : Goroutine} {w2 : World} {es2 : Array Event} :
    stepG P true (G fr cs) w ≠ .go g w2 es2 := by
  intro e
  unfold stepG G at e
  simp only [hm] at e
  unfold unwind at e
  simp only [hd, hm, hf, hr] at e
  obtain ⟨es3, e, -⟩ := not_after e
  split at e
  · rename_i q; cases q
  · simp at e
  · simp at e
theorem step_ret_end (hm : fr.mode = .returning) (hd : fr.defers = []) (hk : fr.kind = .normal) (hi : P.inits.idxOf? fr.fn = none) {g : Goroutine} {w2 : World} {es2 : Array Event} :
    stepG P true (G fr []) w ≠ .go g w2 es2 := by
  intro e
  unfold stepG G at e
  simp only [hm] at e
  unfold unwind at e
  simp only [hd, hm] at e
  split at e
  · unfold doReturn at e
    simp [hk, hi] at e
  · obtain ⟨es3, e, -⟩ := not_after e
    split at e
    · unfold doReturn at e
      simp [hk, hi] at e
    · simp at e
    · simp at e
end
end Go.Proofs.Ytdjnnhdeijnhgab.Rn

/-
  Blocks renamed: a goroutine's own step beside its renamed one.
-/
namespace Go.Proofs.Ytdjnnhdeijnhgab.Rn
open Go Go.Conc
set_option linter.all false

section
variable {P : Program} {Dd : Nat → Prop} {f : Nat → Nat} {A : Nat → Prop} {k : List Item} {cc : List Frame} {cs cs2 lb : List Frame} {wl wl2 wc : World} {fr fr2 : Frame} {es : Array Event}
theorem top_at {k : List Item} {o : Oper} (h : AtOp fr o) : AtOp (top f k fr) o := by
  obtain ⟨h1, h2, h3, ops, i, rest, tl, h4, h5, h6⟩ := h
  refine ⟨h1, h2, h3, ops, i, rest, tl ++ k, ?_, h5, ?_⟩
  · show fr.todo ++ k = _
    rw [h4]; rfl
  · show Region.wanted o (yielded ops (fr.tmps.map (rV f))) = true
    rw [yielded_ren]; exact h6
theorem ownW_at {o : Oper} (h : AtOp fr o) (w : World) : ownW P fr w = resW ((execOp fr.eval o).runT P w #[]).1 := by
  obtain ⟨h1, h2, h3, ops, i, rest, tl, h4, h5, h6⟩ := h
  unfold ownW
  simp [h1, h4, h5, h6]
theorem finish_at {k : List Item} {o : Oper} (h : AtOp fr o) (hok : FrOk P A fr) (v : Value) : (top f k fr).finish (rV f v) = top f k (fr.finish v) := by
  obtain ⟨h1, h2, h3, ops, i, rest, tl, h4, h5, h6⟩ := h
  exact finish_ren fr k v hok.todo (Or.inl (by rw [h4]; simp))
/-- The frame's operation is one that is served. -/
theorem op_of {o : Oper} (h : AtOp fr o) (hok : FrOk P A fr) : OpP P A o.op := by
  obtain ⟨h1, h2, h3, ops, i, rest, tl, h4, h5, h6⟩ := h
  have := hok.todo (.inRegion ops (i :: rest)) (by rw [h4]; simp)
  exact this o (Array.mem_of_getElem? h5)
theorem sim_op (hC : Closed P f) (hX : Fix P Dd f) (hP : Prg P A) {o : Oper} (ho : AtOp fr o) (hfr : FrOk P A fr) (hcs : ∀ x ∈ cs, FrOk P A x ∧ x.mode = .run ∧ x.todo ≠ [])
    (h : stepG P true (G fr (cs ++ lb)) wl = .go (G fr2 cs2) wl2 es) (hg : ∀ ch, fr2.mode ≠ .panicking ch) (hW : WR Dd f wl wc)
    (hF : Fits f wl wc (ownW P (top f (kk k cs) fr) wc).drawn (ownW P (top f (kk k cs) fr) wc).heap.size) : ∃ cs3, cs2 = cs3 ++ lb ∧ Out P A Dd f k cc fr cs wl wc fr2 cs3 wl2 := by
  have ho' := top_at (f := f) (k := kk k cs) ho
  have hs := sm_exec (P := P) (Dd := Dd) (f := f) (A := A) hC hX (eval_ren fr (kk k cs)) (fun g => rfl) o (op_of ho hfr)
  cases hr : (execOp fr.eval o).runT P wl #[] with
  | mk r es0 =>
    cases r with
    | halt x w => exact absurd h (step_halt ho hP.ahead hP.steps hr hg)
    | ok n w1 =>
      rw [ownW_at ho'] at hF
      obtain ⟨n', wc', es', h1, h2, h3, h4⟩ := hs wl wc _ _ #[] #[] hW hF (Nat.le_refl _) (Nat.le_refl _) n w1 es0 hr
      rw [Array.empty_append] at h1
      have how : ownW P (top f (kk k cs) fr) wc = wc' := by rw [ownW_at ho', h1]; rfl
      have hlat : Later f wl wc w1 wc' (seen P fr.fn es') := h4.sub fun e he => seen_mem he
      cases n with
      | value v =>
        cases n' with
        | value v' =>
          have h2 : v' = rV f v := h2
          subst h2
          rw [step_value ho hr] at h
          simp only [G, GStep.go.injEq, Goroutine.mk.injEq] at h
          obtain ⟨⟨rfl, rfl, -⟩, rfl, rfl⟩ := h
          refine ⟨cs, rfl, wc', seen P fr.fn es', ?_, how.symm, h3, hlat, finish_ok v hfr, hcs, ?_⟩
          · have := step_value (cs := renS f k cc cs) ho' h1
            rw [finish_at ho hfr] at this
            exact this
          · rw [(finish_mode fr v).1]; exact Or.inl ho.mode
        | _ => exact h2.elim
      | skip =>
        cases n' with
        | skip =>
          rw [step_skip2 ho hr] at h
          simp only [G, GStep.go.injEq, Goroutine.mk.injEq] at h
          obtain ⟨⟨rfl, rfl, -⟩, rfl, rfl⟩ := h
          refine ⟨cs, rfl, wc', seen P fr.fn es', ?_, how.symm, h3, hlat, finish_ok _ hfr, hcs, ?_⟩
          · have := step_skip2 (cs := renS f k cc cs) ho' h1
            rw [← rV_undef f, finish_at ho hfr] at this
            exact this
          · rw [(finish_mode fr _).1]; exact Or.inl ho.mode
        | _ => exact h2.elim
      | enter g args =>
        cases n' with
        | enter g' args' =>
          obtain ⟨rfl, rfl, hA⟩ : g' = g ∧ args' = args.map (rV f) ∧ A g := h2
          rw [step_enter ho hr] at h
          simp only [G, GStep.go.injEq, Goroutine.mk.injEq] at h
          obtain ⟨⟨rfl, rfl, -⟩, rfl, rfl⟩ := h
          refine ⟨fr :: cs, rfl, wc', seen P fr.fn es', ?_, how.symm, h3, hlat, ⟨?_, rfl, rfl, rfl⟩, ?_, Or.inl rfl⟩
          · have := step_enter (cs := renS f k cc cs) ho' h1
            rw [enter_ren] at this
            exact this
          · intro it hit
            simp only [Frame.enter, List.mem_singleton] at hit
            subst hit
            cases hf : P.funcs[g']? with
            | none => exact trivial
            | some fn =>
              cases hb : fn.body with
              | none => simp [hb]; exact trivial
              | some c =>
                have hcc := hP.body g' hA fn hf c hb
                show CodeP P A _
                simpa [hb] using hcc
          · intro x hx
            rcases List.mem_cons.1 hx with rfl | hx
            · obtain ⟨ops, i, rest, tl, q4, q5, q6⟩ := ho.todo
              exact ⟨hfr, ho.mode, by rw [q4]; simp⟩
            · exact hcs x hx
        | _ => exact h2.elim
      | _ => cases n' <;> exact h2.elim
theorem sim_ret (hP : Prg P A) (hm : fr.mode = .returning) (hfr : FrOk P A fr) (hcs : ∀ x ∈ cs, FrOk P A x ∧ x.mode = .run ∧ x.todo ≠ []) (hne : cs ≠ [])
    (h : stepG P true (G fr (cs ++ lb)) wl = .go (G fr2 cs2) wl2 es) (hW : WR Dd f wl wc)
    (hF : Fits f wl wc (ownW P (top f (kk k cs) fr) wc).drawn (ownW P (top f (kk k cs) fr) wc).heap.size) : ∃ cs3, cs2 = cs3 ++ lb ∧ Out P A Dd f k cc fr cs wl wc fr2 cs3 wl2 := by
  cases cs with
  | nil => exact absurd rfl hne
  | cons c cs =>
    have hc := hcs c (by simp)
    have hcn := hc.2.2
    have fin : ∀ v, (top f (kk k cs) c).finish (rV f v) = top f (kk k cs) (c.finish v) := fun v => finish_ren c _ v hc.1.todo (Or.inl hcn)
    have hm' : (top f (kk k (c :: cs)) fr).mode = .returning := hm
    cases hf : P.funcs[fr.fn]? with
    | none =>
      rw [List.cons_append, step_ret_none hm hfr.defers hfr.kind hf] at h
      simp only [G, GStep.go.injEq, Goroutine.mk.injEq] at h
      obtain ⟨⟨rfl, rfl, -⟩, rfl, rfl⟩ := h
      refine ⟨cs, rfl, wc, #[], ?_, ?_, hW, Later.refl _ _ _, finish_ok _ hc.1, fun x hx => hcs x (by simp [hx]), ?_⟩
      · have := step_ret_none (P := P) (fr := top f (kk k (c :: cs)) fr) (c := top f (kk k cs) c) (cs := renS f k cc cs) (w := wc) hm hfr.defers hfr.kind hf
        have e : (top f (kk k (c :: cs)) fr).tmps.getD 0 undef = rV f (fr.tmps.getD 0 undef) := getD_ren _ _
        rw [e, fin] at this
        exact this
      · unfold ownW
        rw [hm']
        show wc = (match P.funcs[fr.fn]? with | some fn => _ | none => wc)
        rw [hf]
      · rw [(finish_mode c _).1]; exact Or.inl hc.2.1
    | some fn =>
      cases hr : (results fn fr.tmps).runT P wl #[] with
      | mk r es0 =>
        cases r with
        | halt x w => exact absurd h (step_ret_halt hm hfr.defers hf hr)
        | ok v w1 =>
          have how0 : ownW P (top f (kk k (c :: cs)) fr) wc = resW ((results fn (fr.tmps.map (rV f))).runT P wc #[]).1 := by
            unfold ownW
            rw [hm']
            show (match P.funcs[fr.fn]? with | some fn => resW ((results fn (fr.tmps.map (rV f))).runT P wc #[]).1 | none => wc) = _
            rw [hf]
          rw [how0] at hF
          obtain ⟨v', wc', es', h1, h2, h3, h4⟩ := sm_results (P := P) (Dd := Dd) (f := f) fn fr.tmps wl wc _ _ #[] #[] hW hF (Nat.le_refl _) (Nat.le_refl _) v w1 es0 hr
          have h2 : v' = rV f v := h2
          subst h2
          rw [Array.empty_append] at h1
          rw [List.cons_append, step_ret hm hfr.defers hfr.kind hf hr] at h
          simp only [G, GStep.go.injEq, Goroutine.mk.injEq] at h
          obtain ⟨⟨rfl, rfl, -⟩, rfl, rfl⟩ := h
          refine ⟨cs, rfl, wc', seen P fr.fn es', ?_, ?_, h3, h4.sub fun e he => seen_mem he, finish_ok _ hc.1, fun x hx => hcs x (by simp [hx]), ?_⟩
          · have := step_ret (P := P) (fr := top f (kk k (c :: cs)) fr) (c := top f (kk k cs) c) (cs := renS f k cc cs) (w := wc) hm hfr.defers hfr.kind hf h1
            rw [fin] at this
            exact this
          · rw [how0, h1]; rfl
          · rw [(finish_mode c _).1]; exact Or.inl hc.2.1
end
end Go.Proofs.Ytdjnnhdeijnhgab.Rn
