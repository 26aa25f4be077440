/-
  Blocks renamed: a row made, a comparison's guard, a call: what an operation yields.
-/
import Derived.Test.YtdjnnhdeijnhgabMq9
import Derived.Conc.Own
import Derived.RunT
import Derived.Laws.Sem
namespace Go.Proofs.Ytdjnnhdeijnhgab.Rn
open Go
set_option linter.all false

section
variable {P : Program} {Dd : Nat → Prop} {f : Nat → Nat}
theorem sm_makeSlice (hC : Closed P f) (t : TypeId) (l c : Value) : Sm P Dd f (RV f) (Instr.makeSlice t l c) (Instr.makeSlice t (rV f l) (rV f c)) := by
  unfold Instr.makeSlice
  refine Sm.bind (sm_underlying' t) ?_
  rintro d d' ⟨hdd, hd⟩
  subst hdd
  cases d' with
  | slice e =>
    refine Sm.bind (sm_asInt l) ?_
    rintro n _ rfl
    refine Sm.bind (sm_asInt c) ?_
    rintro m _ rfl
    refine Sm.bind (sm_typeInfo e) ?_
    rintro i j ⟨hj, hi⟩
    subst hj
    refine Sm.ite (fun _ => ?_) (fun _ => ?_)
    · refine Sm.ite (fun _ => Sm.never (Never.bindL (never_runtimePanic _))) (fun _ => ?_)
      refine Sm.ite (fun _ => Sm.never (Never.bindL (never_runtimePanic _))) (fun _ => ?_)
      exact Sm.never (Never.bind fun _ => Never.bindL (never_runtimePanic _))
    · refine Sm.bind Sm.askRoom (fun _ _ _ => ?_)
      refine Sm.bind (sm_sizeOf e) ?_
      rintro size _ rfl
      have fin : ∀ zero : Array Value, zero.map (rV f) = zero → ∀ k : Nat, Sm P Dd f (RV f) (do
          let a ← newRow e ((Array.range k).map (zero[· % zero.size]!))
          pure (.slice (some a) (IntKind.i64.wrap n).toNat (IntKind.i64.wrap m).toNat)) (do
          let a ← newRow e ((Array.range k).map (zero[· % zero.size]!))
          pure (.slice (some a) (IntKind.i64.wrap n).toNat (IntKind.i64.wrap m).toNat)) := by
        intro zero hz k
        refine Sm.bind (Rr := fun a b => b = rA f a) ?_ ?_
        · have := Sm.newRow (P := P) (Dd := Dd) (f := f) (e := e) (cs := (Array.range k).map (zero[· % zero.size]!))
          rw [zeros_ren zero k hz] at this
          exact this
        · rintro a _ rfl
          exact Sm.pure (rV_s f _ _ _).symm
      refine Sm.ite (fun _ => fin _ (by simp) _) (fun _ => ?_)
      refine Sm.bind (sm_zeroS hC e) ?_
      rintro z z' ⟨hzz, hz⟩
      subst hzz
      exact fin _ (shut_cells hz) _
  | _ => exact Sm.stuck
/-- A type whose values bear no guard. -/
def Plainly (P : Program) (t : TypeId) : Prop := ∃ d, P.underlying t = some d ∧ ((∃ k, d = .int k) ∨ d = .bool)
theorem Plainly.raw {t : TypeId} (h : Plainly P t) : NoRaw P t := by
  obtain ⟨d, h, k⟩ := h
  intro d' h'
  rw [h] at h'
  cases h'
  exact k
def gk : Value → Nat
  | .nilIface => 1
  | .agg _ => 2
  | _ => 0
theorem gk_ren (v : Value) : gk (rV f v) = gk v := by
  cases v with
  | pointer a => cases a <;> simp [gk]
  | slice a n c => cases a <;> simp [gk]
  | map a => cases a <;> simp [gk]
  | chan a => cases a <;> simp [gk]
  | _ => simp [gk]
theorem gk_one {v : Value} (h : gk v = 1) : v = .nilIface := by cases v <;> simp [gk] at h; rfl
theorem gk_two {v : Value} (h : gk v = 2) : ∃ c, v = .agg c := by cases v <;> simp [gk] at h; exact ⟨_, rfl⟩
theorem guard_else (op : BinOp) (t : TypeId) (xo yo : Operand) (x y : Value) (h1 : ¬ (gk x = 1 ∧ gk y = 1)) (h2 : ¬ (gk x = 2 ∧ gk y = 2)) : eqGuard op t xo yo x y = (if !(op matches .eql | .neq) then pure () else pure ()) := by
  unfold eqGuard
  cases x <;> first | rfl | (cases y <;> first | rfl | exact absurd ⟨rfl, rfl⟩ h1 | exact absurd ⟨rfl, rfl⟩ h2)
theorem guardIn_plain (n : Nat) (t : TypeId) (hT : Plainly P t) (a b a' b' : Value) : Sm P Dd f (fun x y => x = false ∧ y = false) (Op.eqGuardIn n t a b) (Op.eqGuardIn n t a' b') := by
  obtain ⟨d, hd, hk⟩ := hT
  cases n with
  | zero => exact Sm.unsupported
  | succ n =>
    unfold Op.eqGuardIn
    refine Sm.bind (sm_underlying' t) ?_
    rintro d1 d2 ⟨hdd, hd1⟩
    subst hdd
    rw [hd] at hd1
    cases hd1
    rcases hk with ⟨k, rfl⟩ | rfl
    · exact Sm.pure ⟨rfl, rfl⟩
    · exact Sm.pure ⟨rfl, rfl⟩
theorem sm_eqGuard (op : BinOp) (t : TypeId) (hT : Plainly P t) (xo yo : Operand) (x y : Value) : Sm P Dd f (fun _ _ => True) (eqGuard op t xo yo x y) (eqGuard op t xo yo (rV f x) (rV f y)) := by
  by_cases h1 : gk x = 1 ∧ gk y = 1
  · rw [gk_one h1.1, gk_one h1.2, rV_nili]
    unfold eqGuard
    refine Sm.ite (fun _ => Sm.pure trivial) (fun _ => ?_)
    refine Sm.ite (fun _ => Sm.pure trivial) (fun _ => ?_)
    refine Sm.bind (guardIn_plain _ t hT _ _ _ _) ?_
    rintro _ _ ⟨rfl, rfl⟩
    exact Sm.pure trivial
  · by_cases h2 : gk x = 2 ∧ gk y = 2
    · obtain ⟨c, rfl⟩ := gk_two h2.1
      obtain ⟨c', rfl⟩ := gk_two h2.2
      rw [rV_agg, rV_agg]
      unfold eqGuard
      refine Sm.ite (fun _ => Sm.pure trivial) (fun _ => ?_)
      refine Sm.bind Sm.program ?_
      rintro _ _ ⟨rfl, rfl⟩
      refine Sm.bind Sm.program ?_
      rintro _ _ ⟨rfl, rfl⟩
      refine Sm.ite (fun _ => Sm.pure trivial) (fun _ => ?_)
      refine Sm.bind (guardIn_plain _ t hT _ _ _ _) ?_
      rintro _ _ ⟨rfl, rfl⟩
      exact Sm.pure trivial
    · rw [guard_else op t xo yo x y h1 h2, guard_else op t xo yo (rV f x) (rV f y) (by rw [gk_ren, gk_ren]; exact h1) (by rw [gk_ren, gk_ren]; exact h2)]
      exact Sm.ite (fun _ => Sm.pure trivial) (fun _ => Sm.pure trivial)
end
end Go.Proofs.Ytdjnnhdeijnhgab.Rn

/-
  Blocks renamed: one operation.
-/
namespace Go.Proofs.Ytdjnnhdeijnhgab.Rn
open Go
set_option linter.all false

def constB : Value → Bool
  | .int _ _ => true
  | .bool _ => true
  | .string _ => true
  | .float _ _ => true
  | .slice none _ _ => true
  | .pointer none => true
  | .nilFunc => true
  | .nilIface => true
  | _ => false
theorem const_ren {f : Nat → Nat} {v : Value} (h : constB v = true) : rV f v = v := by
  cases v with
  | pointer a => cases a <;> simp [constB] at h <;> simp
  | slice a n c => cases a <;> simp [constB] at h <;> simp
  | _ => simp [constB] at h <;> simp
def oprB : Operand → Bool
  | .tmp _ => true
  | .const v => constB v
  | .func _ => true
  | .global _ => false
/-- Two frames' operands, the one renamed. -/
def Evs (f : Nat → Nat) (ρ ρ' : Operand → Value) : Prop := ∀ x, oprB x = true → ρ' x = rV f (ρ x)
def NotCopy (P : Program) (t : TypeId) : Prop := ∀ i, P.info? t = some i → ∀ u, i.desc ≠ .named "sync.copyChecker" u
def IsSlice (P : Program) (t : TypeId) : Prop := ∃ e, P.underlying t = some (.slice e)
def Called (P : Program) (A : Nat → Prop) (g : Nat) : Prop := A g ∧ ∃ fn, P.funcs[g]? = some fn ∧ fn.body.isSome = true ∧ (fn.name == "runtime.NumGoroutine") = false
/-- The operations that are served. -/
def OpP (P : Program) (A : Nat → Prop) : Op → Prop
  | .move x | .assign x => oprB x = true
  | .pick c a b => oprB c = true ∧ oprB a = true ∧ oprB b = true
  | .alloc _ => True
  | .box _ x => oprB x = true
  | .build _ parts | .buildSlice _ _ parts => ∀ p ∈ parts, oprB p.2 = true
  | .load _ a => oprB a = true
  | .store _ a x => oprB a = true ∧ oprB x = true
  | .binOp op t x y _ => oprB x = true ∧ oprB y = true ∧ opOk op = true ∧ Plainly P t ∧ NotCopy P t
  | .unOp _ _ x => oprB x = true
  | .makeFunc _ first captured => (∀ x ∈ first, oprB x = true) ∧ ∀ x ∈ captured, oprB x = true
  | .makeSlice _ l c => oprB l = true ∧ oprB c = true
  | .fieldAddr s x i => oprB x = true ∧ Roomy P s i
  | .indexAddr t x i => oprB x = true ∧ oprB i = true ∧ IsSlice P t
  | .extract x _ => oprB x = true
  | .call c => (∀ x ∈ c.args, oprB x = true) ∧ match c.callee with
    | .value (.func g) => Called P A g
    | .builtin .len => ∃ t, c.argTypes[0]? = some t ∧ IsSlice P t
    | .builtin .append => AppOk P c.argTypes
    | _ => False
  | _ => False
/-- What an operation yields, the one renamed. -/
def RN (f : Nat → Nat) (A : Nat → Prop) : Next → Next → Prop
  | .value v, .value v' => v' = rV f v
  | .skip, .skip => True
  | .enter g args, .enter g' args' => g' = g ∧ args' = args.map (rV f) ∧ A g
  | _, _ => False
section
variable {P : Program} {Dd : Nat → Prop} {f : Nat → Nat} {A : Nat → Prop}
theorem sm_val {s s' : Sem Value} (h : Sm P Dd f (RV f) s s') : Sm P Dd f (RN f A) (do pure (.value (← s))) (do pure (.value (← s'))) :=
  Sm.bind h fun a b e => Sm.pure (by show b = rV f a; exact e)
theorem sm_unit {s s' : Sem Unit} (h : Sm P Dd f (fun _ _ => True) s s') : Sm P Dd f (RN f A) (do s; pure .skip) (do s'; pure .skip) :=
  Sm.bind h fun a b e => Sm.pure trivial
theorem args_ren {ρ ρ' : Operand → Value} (hρ : Evs f ρ ρ') {xs : Array Operand} (h : ∀ x ∈ xs, oprB x = true) : xs.map ρ' = (xs.map ρ).map (rV f) := by
  rw [Array.map_map]
  exact Array.map_congr_left fun x hx => hρ x (h x hx)
theorem parts_ren {ρ ρ' : Operand → Value} (hρ : Evs f ρ ρ') {xs : Array (Nat × Operand)} (h : ∀ x ∈ xs, oprB x.2 = true) : (xs.map fun (i, x) => (i, ρ' x)) = RP f (xs.map fun (i, x) => (i, ρ x)) := by
  unfold RP
  rw [Array.map_map]
  exact Array.map_congr_left fun x hx => by
    obtain ⟨i, x⟩ := x
    show (i, ρ' x) = (i, rV f (ρ x))
    rw [hρ x (h _ hx)]
theorem sm_call (g : Nat) (hg : Called P A g) (args : Array Value) : Sm P Dd f (RN f A) (callFunc g args) (callFunc g (args.map (rV f))) := by
  obtain ⟨ha, fn, hf, hb, hn⟩ := hg
  unfold callFunc
  refine Sm.bind Sm.program ?_
  rintro _ _ ⟨rfl, rfl⟩
  rw [hf]
  have hnn : fn.body.isNone = false := by
    cases h : fn.body
    · rw [h] at hb; simp at hb
    · rfl
  simp only [hn, hnn, Bool.false_eq_true, if_false]
  exact Sm.pure ⟨rfl, rfl, ha⟩
theorem sm_exec (hC : Closed P f) (hX : Fix P Dd f) {ρ ρ' : Operand → Value} (hρ : Evs f ρ ρ') (hF : ∀ g, ρ (.func g) = .func (.func g) #[] #[]) (o : Oper) (h : OpP P A o.op) : Sm P Dd f (RN f A) (execOp ρ o) (execOp ρ' o) := by
  unfold execOp
  cases ho : o.op with
  | move x => rw [ho] at h; exact Sm.pure (hρ x h)
  | assign x => rw [ho] at h; exact Sm.pure (hρ x h)
  | pick c a b =>
    rw [ho] at h
    simp only [hρ c h.1, hρ a h.2.1, hρ b h.2.2]
    refine Sm.bind (sm_asBool _) ?_
    rintro t _ rfl
    exact Sm.pure (by show _ = rV f _; cases t <;> rfl)
  | alloc e => exact sm_val (sm_alloc hC e)
  | box e x =>
    rw [ho] at h
    simp only [hρ x h]
    exact sm_val (sm_box e _)
  | build t parts =>
    rw [ho] at h
    have e := parts_ren hρ h
    simp only [e]
    exact sm_val (sm_build hC t _)
  | buildSlice t len parts =>
    rw [ho] at h
    have e := parts_ren hρ h
    simp only [e]
    exact sm_val (sm_buildSlice hC t len _)
  | load t a =>
    rw [ho] at h
    simp only [hρ a h]
    exact sm_val (sm_loadAt t _)
  | store t a x =>
    rw [ho] at h
    simp only [hρ a h.1, hρ x h.2]
    exact sm_unit (sm_storeAt t _ _)
  | binOp op t x y u =>
    rw [ho] at h
    obtain ⟨hx, hy, h1, h2, h3⟩ := h
    simp only [hρ x hx, hρ y hy]
    refine sm_val ?_
    exact Sm.bind (sm_eqGuard op t h2 x y _ _) fun _ _ _ => sm_binOp op h1 t h2.raw h3 hX _ _
  | unOp op t x =>
    rw [ho] at h
    simp only [hρ x h]
    exact sm_val (sm_unary op _)
  | makeFunc fn first captured =>
    rw [ho] at h
    refine sm_val ?_
    unfold Instr.makeFunc
    rw [args_ren hρ h.1, args_ren hρ h.2]
    exact Sm.pure (rV_func f _ _ _).symm
  | makeSlice t l c =>
    rw [ho] at h
    simp only [hρ l h.1, hρ c h.2]
    exact sm_val (sm_makeSlice hC t _ _)
  | fieldAddr s x i =>
    rw [ho] at h
    simp only [hρ x h.1]
    exact sm_val (sm_fieldAt s _ i h.2)
  | indexAddr t x i =>
    rw [ho] at h
    simp only [hρ x h.1, hρ i h.2.1]
    exact sm_val (sm_indexAt t _ _ h.2.2)
  | extract x i =>
    rw [ho] at h
    simp only [hρ x h]
    exact sm_val (sm_extract _ i)
  | call c =>
    rw [ho] at h
    obtain ⟨callee, args, argTypes⟩ := c
    obtain ⟨ha, hc⟩ := h
    have e := args_ren hρ ha
    cases callee with
    | value x =>
      cases x with
      | func g =>
        have e2 : ρ' (.func g) = .func (.func g) #[] #[] := by
          rw [hρ (.func g) rfl, hF g]
          simp
        refine Sm.bind (Rr := fun a b => a = { target := .fn (.func g) #[], args := #[] ++ args.map ρ } ∧ b = { target := .fn (.func g) #[], args := #[] ++ args.map ρ' }) ?_ ?_
        · show Sm P Dd f _ (Deferred.ofValue (ρ (.func g)) (args.map ρ)) (Deferred.ofValue (ρ' (.func g)) (args.map ρ'))
          rw [hF g, e2]
          exact Sm.pure ⟨rfl, rfl⟩
        · rintro _ _ ⟨rfl, rfl⟩
          show Sm P Dd f (RN f A) (callFunc g ((#[] ++ args.map ρ) ++ #[])) (callFunc g ((#[] ++ args.map ρ') ++ #[]))
          rw [e, Array.append_empty, Array.append_empty, Array.empty_append, Array.empty_append]
          exact sm_call g hc _
      | _ => exact absurd hc (by simp)
    | builtin b =>
      cases b with
      | len =>
        obtain ⟨t, h1, e1, h2⟩ := hc
        refine Sm.bind (Rr := fun a b => a = { target := .builtin .len argTypes o.type (args.map fun | .const _ => true | _ => false), args := args.map ρ } ∧ b = { target := .builtin .len argTypes o.type (args.map fun | .const _ => true | _ => false), args := args.map ρ' }) (Sm.pure ⟨rfl, rfl⟩) ?_
        rintro _ _ ⟨rfl, rfl⟩
        show Sm P Dd f (RN f A) (do pure (.value (← Builtin.len_ argTypes o.type (args.map ρ)))) (do pure (.value (← Builtin.len_ argTypes o.type (args.map ρ'))))
        rw [e]
        exact sm_val (sm_len argTypes o.type _ ⟨t, e1, h1, h2⟩)
      | append =>
        refine Sm.bind (Rr := fun a b => a = { target := .builtin .append argTypes o.type (args.map fun | .const _ => true | _ => false), args := args.map ρ } ∧ b = { target := .builtin .append argTypes o.type (args.map fun | .const _ => true | _ => false), args := args.map ρ' }) (Sm.pure ⟨rfl, rfl⟩) ?_
        rintro _ _ ⟨rfl, rfl⟩
        show Sm P Dd f (RN f A) (do pure (.value (← Builtin.append_ argTypes o.type (args.map ρ)))) (do pure (.value (← Builtin.append_ argTypes o.type (args.map ρ'))))
        rw [e]
        exact sm_val (sm_append hC argTypes o.type _ hc)
      | _ => exact absurd hc (by simp)
    | invoke r n => exact absurd hc (by simp)
  | _ => rw [ho] at h; exact h.elim
end
end Go.Proofs.Ytdjnnhdeijnhgab.Rn

/-
  Blocks renamed: frames, and what a goroutine's own step is.
-/
namespace Go.Proofs.Ytdjnnhdeijnhgab.Rn
open Go Go.Conc
set_option linter.all false

def CodeP (P : Program) (A : Nat → Prop) : Code → Prop
  | .skip => True
  | .region _ ops _ => ∀ o ∈ ops, OpP P A o.op
  | .seq a b => CodeP P A a ∧ CodeP P A b
  | .cond c a b => oprB c = true ∧ CodeP P A a ∧ CodeP P A b
  | .block _ a => CodeP P A a
  | .loop a => CodeP P A a
  | .exit _ => True
  | .ret => True
  | .refuse _ => True
  | _ => False
def ItP (P : Program) (A : Nat → Prop) : Item → Prop
  | .code c => CodeP P A c
  | .inBlock _ => True
  | .inLoop c => CodeP P A c
  | .inRegion ops _ => ∀ o ∈ ops, OpP P A o.op
  | _ => False
structure Prg (P : Program) (A : Nat → Prop) : Prop where
  body : ∀ g, A g → ∀ fn, P.funcs[g]? = some fn → ∀ c, fn.body = some c → CodeP P A c
  inits : ∀ g, A g → P.inits.idxOf? g = none
  steps : ∀ g, P.stepOf g = none
  ahead : P.follows .staticDataAhead = true
structure FrOk (P : Program) (A : Nat → Prop) (fr : Frame) : Prop where
  todo : ∀ it ∈ fr.todo, ItP P A it
  defers : fr.defers = []
  kind : fr.kind = .normal
  round : fr.roundOf = none
/-- A frame renamed, with more to do behind what it has. -/
def top (f : Nat → Nat) (k : List Item) (fr : Frame) : Frame := { fr with tmps := fr.tmps.map (rV f), todo := fr.todo ++ k }
/-- What is to be done behind the frame's own: the lowest one's alone. -/
def kk (k : List Item) (cs : List Frame) : List Item := match cs with | [] => k | _ => []
def renS (f : Nat → Nat) (k : List Item) (cc : List Frame) : List Frame → List Frame
  | [] => cc
  | x :: xs => top f (kk k xs) x :: renS f k cc xs
def renG (f : Nat → Nat) (k : List Item) (cc : List Frame) (fr : Frame) (cs : List Frame) : Goroutine := G (top f (kk k cs) fr) (renS f k cc cs)
/-- The world behind the frame's own step, as far as it draws and makes. -/
def ownW (P : Program) (fr : Frame) (w : World) : World :=
  match fr.mode, fr.todo with
  | .run, .inRegion ops (i :: _) :: _ => if ((ops[i]?).map (Region.wanted · (yielded ops fr.tmps))).getD false then (match ops[i]? with | some o => resW ((execOp fr.eval o).runT P w #[]).1 | none => w) else w
  | .run, .code (.region id _ true) :: _ => resW ((choose (.order fr.fn id)).runT P w #[]).1
  | .returning, _ => (match P.funcs[fr.fn]? with | some fn => resW ((results fn fr.tmps).runT P w #[]).1 | none => w)
  | _, _ => w
section
variable {P : Program} {Dd : Nat → Prop} {f : Nat → Nat} {A : Nat → Prop}
theorem getD_ren (tmps : Array Value) (t : Nat) : (tmps.map (rV f)).getD t undef = rV f (tmps.getD t undef) := by
  simp only [Array.getD_eq_getD_getElem?, Array.getElem?_map]
  cases tmps[t]? with
  | none => simp
  | some v => rfl
theorem eval_ren (fr : Frame) (k : List Item) : Evs f fr.eval (top f k fr).eval := by
  intro x hx
  cases x with
  | tmp t => exact getD_ren _ _
  | const v => exact (const_ren hx).symm
  | func g => exact (by simp [Frame.eval])
  | global g => simp [oprB] at hx
theorem yielded_ren (ops : Array Oper) (tmps : Array Value) : yielded ops (tmps.map (rV f)) = yielded ops tmps := by
  funext j
  unfold yielded
  cases (ops[j]?).bind (·.dst) with
  | none => rfl
  | some d =>
    simp only [Option.bind_some, Array.getElem?_map]
    cases h : tmps[d]? with
    | none => rfl
    | some v =>
      cases v with
      | pointer a => cases a <;> simp
      | slice a n c => cases a <;> simp
      | map a => cases a <;> simp
      | chan a => cases a <;> simp
      | _ => simp
theorem finish_ren (fr : Frame) (k : List Item) (v : Value) (h : ∀ it ∈ fr.todo, ItP P A it) (hne : fr.todo ≠ [] ∨ k = []) : (top f k fr).finish (rV f v) = top f k (fr.finish v) := by
  obtain ⟨fn, tmps, todo, defers, mode, kind, ro⟩ := fr
  cases todo with
  | nil =>
    rcases hne with h0 | rfl
    · exact absurd rfl h0
    · rfl
  | cons it rest =>
    cases it with
    | inRegion ops l =>
      cases l with
      | nil => rfl
      | cons i l =>
        simp only [Frame.finish, top, List.cons_append]
        cases (ops[i]?).bind (·.dst) with
        | none => rfl
        | some d => simp
    | inRangeFunc l => exact False.elim (h (.inRangeFunc l) (by simp))
    | beginRound => exact False.elim (h .beginRound (by simp))
    | call d w r s => exact False.elim (h (.call d w r s) (by simp))
    | extern r a => exact False.elim (h (.extern r a) (by simp))
    | _ => rfl
theorem finish_todo (fr : Frame) (v : Value) (h : ∀ it ∈ fr.todo, ItP P A it) : ∀ it ∈ (fr.finish v).todo, ItP P A it := by
  obtain ⟨fn, tmps, todo, defers, mode, kind, ro⟩ := fr
  cases todo with
  | nil => exact h
  | cons it rest =>
    cases it with
    | inRegion ops l =>
      cases l with
      | nil => exact h
      | cons i l =>
        intro it hit
        simp only [Frame.finish, List.mem_cons] at hit
        rcases hit with rfl | hit
        · exact h (.inRegion ops (i :: l)) (by simp)
        · exact h it (by simp; exact Or.inr hit)
    | inRangeFunc l => exact False.elim (h (.inRangeFunc l) (by simp))
    | beginRound => exact False.elim (h .beginRound (by simp))
    | call d w r s => exact False.elim (h (.call d w r s) (by simp))
    | extern r a => exact False.elim (h (.extern r a) (by simp))
    | _ => exact h
theorem finish_ok {fr : Frame} (v : Value) (h : FrOk P A fr) : FrOk P A (fr.finish v) := by
  refine ⟨finish_todo fr v h.todo, ?_, ?_, ?_⟩
  · rw [← h.defers]; unfold Frame.finish; split <;> rfl
  · rw [← h.kind]; unfold Frame.finish; split <;> rfl
  · rw [← h.round]; unfold Frame.finish; split <;> rfl
theorem finish_mode (fr : Frame) (v : Value) : (fr.finish v).mode = fr.mode ∧ (fr.finish v).fn = fr.fn := by
  constructor <;> (unfold Frame.finish; split <;> rfl)
theorem exitTo_app (id : Nat) : ∀ (l k : List Item) (k' : List Item), exitTo id l = some k' → exitTo id (l ++ k) = some (k' ++ k) := by
  intro l
  induction l with
  | nil => intro k k' h; simp [exitTo] at h
  | cons it l ih =>
    intro k k' h
    cases it with
    | inBlock id' =>
      simp only [exitTo, List.cons_append] at h ⊢
      split at h
      · rename_i hh
        rw [if_pos hh]
        simp only [Option.some.injEq] at h
        rw [h]
      · rename_i hh
        rw [if_neg hh]
        exact ih k k' h
    | _ => simp only [exitTo, List.cons_append] at h ⊢; exact ih k k' h
theorem exitTo_mem {id : Nat} : ∀ {l k' : List Item}, exitTo id l = some k' → ∀ it ∈ k', it ∈ l := by
  intro l
  induction l with
  | nil => intro k' h; simp [exitTo] at h
  | cons x l ih =>
    intro k' h it hit
    cases x with
    | inBlock id' =>
      simp only [exitTo] at h
      split at h
      · simp only [Option.some.injEq] at h
        subst h
        exact List.mem_cons_of_mem _ hit
      · exact List.mem_cons_of_mem _ (ih h it hit)
    | _ => simp only [exitTo] at h; exact List.mem_cons_of_mem _ (ih h it hit)
theorem enter_ren (g : Nat) (args : Array Value) : Frame.enter P g (args.map (rV f)) .normal = top f [] (Frame.enter P g args .normal) := by
  unfold Frame.enter top
  simp
theorem seen_mem {fn : FuncId} {es : Array Event} {e : Event} (h : e ∈ seen P fn es) : e ∈ es := by
  unfold seen at h
  have key : ∀ (l : List Event) (q : Bool) (acc : Array Event) (e : Event), e ∈ (l.foldl (fun (x : Bool × Array Event) e => match e.loc with
      | .mark (.extern f) => ((P.funcs[f]?).any (·.norace), x.2)
      | _ => (x.1, if x.1 && !e.sync then x.2 else x.2.push e)) (q, acc)).2 → e ∈ acc ∨ e ∈ l := by
    intro l
    induction l with
    | nil => intro q acc e h; exact Or.inl h
    | cons x l ih =>
      intro q acc e h
      simp only [List.foldl_cons] at h
      split at h
      · rcases ih _ _ _ h with k | k
        · exact Or.inl k
        · exact Or.inr (List.mem_cons_of_mem _ k)
      · rcases ih _ _ _ h with k | k
        · split at k
          · exact Or.inl k
          · rcases Array.mem_push.1 k with k | k
            · exact Or.inl k
            · exact Or.inr (by rw [k]; exact List.mem_cons_self)
        · exact Or.inr (List.mem_cons_of_mem _ k)
  have := key es.toList ((P.funcs[fn]?).any (·.norace)) #[] e (by rw [Array.foldl_toList]; exact h)
  rcases this with k | k
  · simp at k
  · exact Array.mem_toList_iff.1 k
end
end Go.Proofs.Ytdjnnhdeijnhgab.Rn

/-
  Blocks renamed: a goroutine's own step.
-/
namespace Go.Proofs.Ytdjnnhdeijnhgab.Rn
open Go Go.Conc
set_option linter.all false

def Out (P : Program) (A : Nat → Prop) (Dd : Nat → Prop) (f : Nat → Nat) (k : List Item) (cc : List Frame) (fr : Frame) (cs : List Frame) (wl wc : World) (fr2 : Frame) (cs2 : List Frame) (wl2 : World) : Prop :=
  ∃ wc2 es2, stepG P true (renG f k cc fr cs) wc = .go (renG f k cc fr2 cs2) wc2 es2 ∧ wc2 = ownW P (top f (kk k cs) fr) wc ∧ WR Dd f wl2 wc2 ∧ Later f wl wc wl2 wc2 es2 ∧
    FrOk P A fr2 ∧ (∀ x ∈ cs2, FrOk P A x ∧ x.mode = .run ∧ x.todo ≠ []) ∧ (fr2.mode = .run ∨ fr2.mode = .returning)
section
variable {P : Program} {Dd : Nat → Prop} {f : Nat → Nat} {A : Nat → Prop} {k : List Item} {cc : List Frame} {cs : List Frame} {wl wc : World}
theorem out_move {fr fr' : Frame} (hW : WR Dd f wl wc) (hc : stepG P true (renG f k cc fr cs) wc = .go (renG f k cc fr' cs) wc #[]) (ho : ownW P (top f (kk k cs) fr) wc = wc) (hok : FrOk P A fr') (hcs : ∀ x ∈ cs, FrOk P A x ∧ x.mode = .run ∧ x.todo ≠ [])
    (hm : fr'.mode = .run ∨ fr'.mode = .returning) : Out P A Dd f k cc fr cs wl wc fr' cs wl :=
  ⟨wc, #[], hc, ho.symm, hW, Later.refl _ _ _, hok, hcs, hm⟩
theorem not_die {fr : Frame} {ps : List ByteArray} {m : String} {b : Bool} {w w2 : World} {fr2 : Frame} {cs2 : List Frame} {es : Array Event} : dieOf fr ps m b w ≠ .go (G fr2 cs2) w2 es := by
  unfold dieOf G
  intro h
  simp at h
theorem not_after {es es2 : Array Event} {s : GStep} {g : Goroutine} {w : World} (h : GStep.after es s = .go g w es2) : ∃ es3, s = .go g w es3 ∧ es2 = es ++ es3 := by
  cases s <;> simp [GStep.after] at h
  obtain ⟨rfl, rfl, rfl⟩ := h
  exact ⟨_, rfl, rfl⟩
theorem Later.sub {wl2 wc2 : World} {es es' : Array Event} (h : Later f wl wc wl2 wc2 es) (hs : ∀ e ∈ es', e ∈ es) : Later f wl wc wl2 wc2 es' :=
  ⟨h.d, h.dle, h.z, h.zle, h.tl, h.tc, h.os, h.output, h.osl, h.outl, h.keep, h.back, h.out, fun e he => h.evs e (hs e he)⟩
end
end Go.Proofs.Ytdjnnhdeijnhgab.Rn

/-
  Blocks renamed: a goroutine's own step, at an operation.
-/
namespace Go.Proofs.Ytdjnnhdeijnhgab.Rn
open Go Go.Conc
set_option linter.all false

section
variable {P : Program} {fr : Frame} {cs : List Frame} {w w' : World} {ops : Array Oper} {i : Nat} {rest : List Nat} {tl : List Item} {o : Oper}
/-- A frame at an operation that is wanted. -/
structure AtOp (fr : Frame) (o : Oper) : Prop where
  mode : fr.mode = .run
  round : fr.roundOf = none
  kind : fr.kind = .normal
  todo : ∃ ops i rest tl, fr.todo = .inRegion ops (i :: rest) :: tl ∧ ops[i]? = some o ∧ Region.wanted o (yielded ops fr.tmps) = true
theorem step_oper (h : AtOp fr o) : stepG P true (G fr cs) w = stepG.apply P true fr cs none (execOp fr.eval o) w := by
  obtain ⟨fn, tmps, todo, defers, mode, kind, ro⟩ := fr
  obtain ⟨h1, h2, h3, ops, i, rest, tl, h4, h5, h6⟩ := h
  simp only at h1 h2 h3 h4 h6
  subst h1 h2 h3 h4
  simp [stepG, stepG.exec, stepG.oper, G, Frame.oper?, h5, h6]
theorem step_value (h : AtOp fr o) {v : Value} {es : Array Event} (hr : (execOp fr.eval o).runT P w #[] = (.ok (.value v) w', es)) : stepG P true (G fr cs) w = .go (G (fr.finish v) cs) w' (seen P fr.fn es) := by
  rw [step_oper h]
  have hk : (fr.kind == CallKind.early) = false := by rw [h.kind]; rfl
  unfold stepG.apply
  simp only [hr, if_true, hk]
  simp [GStep.after, G]
theorem step_skip2 (h : AtOp fr o) {es : Array Event} (hr : (execOp fr.eval o).runT P w #[] = (.ok .skip w', es)) : stepG P true (G fr cs) w = .go (G (fr.finish undef) cs) w' (seen P fr.fn es) := by
  rw [step_oper h]
  have hk : (fr.kind == CallKind.early) = false := by rw [h.kind]; rfl
  unfold stepG.apply
  simp only [hr, if_true, hk]
  simp [GStep.after, G]
theorem step_enter (h : AtOp fr o) {g : FuncId} {args : Array Value} {es : Array Event} (hr : (execOp fr.eval o).runT P w #[] = (.ok (.enter g args) w', es)) : stepG P true (G fr cs) w = .go (G (Frame.enter P g args .normal) (fr :: cs)) w' (seen P fr.fn es) := by
  rw [step_oper h]
  have hk : (fr.kind == CallKind.early) = false := by rw [h.kind]; rfl
  obtain ⟨ops, i, rest, tl, h4, h5, h6⟩ := h.todo
  unfold stepG.apply
  simp only [hr, if_true, hk, h4]
  simp [GStep.after, G]
theorem step_halt (h : AtOp fr o) (hA : P.follows .staticDataAhead = true) (hS : ∀ g, P.stepOf g = none) {x : Halt} {es es2 : Array Event} {fr2 : Frame} {cs2 : List Frame} {w2 : World} (hr : (execOp fr.eval o).runT P w #[] = (.halt x w', es))
    (hg : ∀ ch, fr2.mode ≠ .panicking ch) : stepG P true (G fr cs) w ≠ .go (G fr2 cs2) w2 es2 := by
  rw [step_oper h]
  intro e
  have hk : (fr.kind == CallKind.early) = false := by rw [h.kind]; rfl
  have hm := h.mode
  unfold stepG.apply at e
  simp only [hr, if_true] at e
  obtain ⟨es3, e, -⟩ := not_after e
  cases x with
  | panic v =>
    simp only [Frame.raise, hm, G, GStep.go.injEq, Goroutine.mk.injEq] at e
    exact hg _ (by rw [← e.1.1])
  | goexit =>
    simp only [Frame.raise, hm, G, GStep.go.injEq, Goroutine.mk.injEq] at e
    exact hg _ (by rw [← e.1.1])
  | blocked => simp [G] at e
  | waiting => simp [G] at e
  | exit c => simp at e
  | fatal m =>
    simp only [endFatal] at e
    split at e
    · exact not_die e
    · simp at e
    · simp at e
  | throw m => exact not_die e
  | unsupported u =>
    cases u with
    | initOrder g => simp [early, hA, hS] at e
    | _ => simp at e
  | stuck s => simp at e
end
end Go.Proofs.Ytdjnnhdeijnhgab.Rn

/-
  Blocks renamed: a goroutine's own step, all of them.
-/
namespace Go.Proofs.Ytdjnnhdeijnhgab.Rn
open Go Go.Conc
set_option linter.all false

section
variable {P : Program} {Dd : Nat → Prop} {f : Nat → Nat} {A : Nat → Prop}
theorem sm_asAddr (v : Value) : Sm P Dd f (fun a b => b = rA f a) (asAddr v) (asAddr (rV f v)) := by
  unfold asAddr
  cases v with
  | pointer a =>
    cases a with
    | none => exact Sm.never (never_runtimePanic _)
    | some a => rw [rV_p]; exact Sm.pure rfl
  | _ => exact Sm.stuck
theorem sm_mapL {α : Type} (s s' : α → Sem Value) (h : ∀ a, Sm P Dd f (RV f) (s a) (s' a)) : ∀ l : List α, Sm P Dd f (fun a b => b = a.map (rV f)) (l.mapM s) (l.mapM s')
  | [] => by
    rw [List.mapM_nil, List.mapM_nil]
    exact Sm.pure rfl
  | x :: l => by
    rw [List.mapM_cons, List.mapM_cons]
    refine Sm.bind (h x) ?_
    rintro v _ rfl
    refine Sm.bind (sm_mapL s s' h l) ?_
    rintro vs _ rfl
    exact Sm.pure (by simp)
theorem sm_results (fn : Func) (tmps : Array Value) : Sm P Dd f (RV f) (results fn tmps) (results fn (tmps.map (rV f))) := by
  unfold results
  rw [Array.mapM_eq_mapM_toList, Array.mapM_eq_mapM_toList]
  refine Sm.bind (Rr := fun a b => b = a.map (rV f)) ?_ ?_
  · rw [map_eq_pure_bind, map_eq_pure_bind]
    refine Sm.bind (sm_mapL _ _ (fun r => ?_) _) ?_
    · cases r with
      | tmp t => exact Sm.pure (getD_ren tmps t)
      | cell a t =>
        show Sm P Dd f (RV f) (do loadVar t (← asAddr (tmps.getD a undef))) (do loadVar t (← asAddr ((tmps.map (rV f)).getD a undef)))
        rw [getD_ren]
        refine Sm.bind (sm_asAddr _) ?_
        rintro x _ rfl
        exact sm_loadVar t x
    · rintro vs _ rfl
      exact Sm.pure (by simp)
  · rintro vs _ rfl
    refine Sm.pure ?_
    by_cases h : vs.size = 1
    · have h2 : (vs.map (rV f)).size = 1 := by simpa using h
      show (if h : (vs.map (rV f)).size = 1 then (vs.map (rV f))[0] else .tuple (vs.map (rV f))) = rV f (if h : vs.size = 1 then vs[0] else .tuple vs)
      rw [dif_pos h2, dif_pos h]
      simp
    · have h2 : ¬ (vs.map (rV f)).size = 1 := by simpa using h
      show (if h : (vs.map (rV f)).size = 1 then (vs.map (rV f))[0] else .tuple (vs.map (rV f))) = rV f (if h : vs.size = 1 then vs[0] else .tuple vs)
      rw [dif_neg h2, dif_neg h, rV_tuple]
end
section
variable {P : Program} {fr : Frame} {c : Frame} {cs : List Frame} {w w' : World}
theorem step_ret (hm : fr.mode = .returning) (hd : fr.defers = []) (hk : fr.kind = .normal) {fn : Func} (hf : P.funcs[fr.fn]? = some fn) {v : Value} {es : Array Event} (hr : (results fn fr.tmps).runT P w #[] = (.ok v w', es)) :
    stepG P true (G fr (c :: cs)) w = .go (G (c.finish v) cs) w' (seen P fr.fn es) := by
  unfold stepG G
  simp only [hm]
  unfold unwind
  simp only [hd, hm, hf, hr]
  unfold doReturn
  simp only [hk]
  simp [GStep.after]
theorem step_ret_none (hm : fr.mode = .returning) (hd : fr.defers = []) (hk : fr.kind = .normal) (hf : P.funcs[fr.fn]? = none) :
    stepG P true (G fr (c :: cs)) w = .go (G (c.finish (fr.tmps.getD 0 undef)) cs) w #[] := by
  unfold stepG G
  simp only [hm]
  unfold unwind
  simp only [hd, hm, hf]
  unfold doReturn
  simp only [hk]
theorem step_ret_halt (hm : fr.mode = .returning) (hd : fr.defers = []) {fn : Func} (hf : P.funcs[fr.fn]? = some fn) {x : Halt} {es : Array Event} (hr : (results fn fr.tmps).runT P w #[] = (.halt x w', es)) {g : Goroutine} {w2 : World} {es2 : Array Event} :
    stepG P true (G fr cs) w ≠ .go g w2 es2 := by
  intro e
  unfold stepG G at e
  simp only [hm] at e
  unfold unwind at e
  simp only [hd, hm, hf, hr] at e
  obtain ⟨es3, e, -⟩ := not_after e
  split at e
  · rename_i q; cases q
  · simp at e
  · simp at e
theorem step_ret_end (hm : fr.mode = .returning) (hd : fr.defers = []) (hk : fr.kind = .normal) (hi : P.inits.idxOf? fr.fn = none) {g : Goroutine} {w2 : World} {es2 : Array Event} :
    stepG P true (G fr []) w ≠ .go g w2 es2 := by
  intro e
  unfold stepG G at e
  simp only [hm] at e
  unfold unwind at e
  simp only [hd, hm] at e
  split at e
  · unfold doReturn at e
    simp [hk, hi] at e
  · obtain ⟨es3, e, -⟩ := not_after e
    split at e
    · unfold doReturn at e
      simp [hk, hi] at e
    · simp at e
    · simp at e
end
end Go.Proofs.Ytdjnnhdeijnhgab.Rn
