/-
  The functions that goroutine 0 runs by itself: none of them starts, waits, or names a package's variable.
-/
import Derived.Test.YtdjnnhdeijnhgabMw11
import Derived.Test.YtdjnnhdeijnhgabProg
import Derived.ProofKit
import Derived.Test.YtdjnnhdeijnhgabMw17
import Derived.Below
namespace Go.Proofs.Ytdjnnhdeijnhgab.Rn
open Go Go.Conc
set_option linter.all false
set_option maxRecDepth 100000

def plainlyB (P : Program) (t : TypeId) : Bool := match P.underlying t with | some (.int _) => true | some .bool => true | _ => false
def notCopyB (P : Program) (t : TypeId) : Bool := match P.info? t with | some i => (match i.desc with | .named n _ => n != "sync.copyChecker" | _ => true) | none => true
def isSliceB (P : Program) (t : TypeId) : Bool := match P.underlying t with | some (.slice _) => true | _ => false
def roomyB (P : Program) (s : TypeId) (i : Nat) : Bool := match P.underlying s with
  | some (.struct fields) => (match fields[i]? with | some fd => (match P.info? fd.type with | some inf => inf.size != 0 | none => false) | none => false)
  | _ => false
def calledB (P : Program) (A : List Nat) (g : Nat) : Bool := A.contains g && (match P.funcs[g]? with | some fn => fn.body.isSome && !(fn.name == "runtime.NumGoroutine") | none => false)
theorem plainlyB_ok {P : Program} {t : TypeId} (h : plainlyB P t = true) : Plainly P t := by
  unfold plainlyB at h
  split at h
  · rename_i k e; exact ⟨_, e, .inl ⟨_, rfl⟩⟩
  · rename_i e; exact ⟨_, e, .inr rfl⟩
  · cases h
theorem notCopyB_ok {P : Program} {t : TypeId} (h : notCopyB P t = true) : NotCopy P t := by
  intro i hi u hd
  unfold notCopyB at h
  rw [hi] at h
  simp only [hd] at h
  exact absurd h (by decide)
theorem isSliceB_ok {P : Program} {t : TypeId} (h : isSliceB P t = true) : IsSlice P t := by
  unfold isSliceB at h
  split at h
  · rename_i e he; exact ⟨_, he⟩
  · cases h
theorem roomyB_ok {P : Program} {s : TypeId} {i : Nat} (h : roomyB P s i = true) : Roomy P s i := by
  unfold roomyB at h
  split at h
  · rename_i fields e1
    split at h
    · rename_i fd e2
      split at h
      · rename_i inf e3
        exact ⟨fields, fd, inf, e1, e2, e3, by simpa using h⟩
      · cases h
    · cases h
  · cases h
theorem calledB_ok {P : Program} {A : List Nat} {g : Nat} (h : calledB P A g = true) : Called P (· ∈ A) g := by
  unfold calledB at h
  simp only [Bool.and_eq_true] at h
  obtain ⟨h1, h2⟩ := h
  split at h2
  · rename_i fn e
    simp only [Bool.and_eq_true, Bool.not_eq_true'] at h2
    exact ⟨by simpa using h1, fn, e, h2.1, h2.2⟩
  · cases h2
def appOkB (P : Program) (ts : Array TypeId) : Bool := (match ts[0]? with | some t => isSliceB P t | none => false) && (match ts[1]? with | some t => isSliceB P t | none => false)
def opB (P : Program) (A : List Nat) : Op → Bool
  | .move x | .assign x => oprB x
  | .pick c a b => oprB c && (oprB a && oprB b)
  | .alloc _ => true
  | .box _ x => oprB x
  | .build _ parts | .buildSlice _ _ parts => parts.all fun p => oprB p.2
  | .load _ a => oprB a
  | .store _ a x => oprB a && oprB x
  | .binOp op t x y _ => oprB x && (oprB y && (opOk op && (plainlyB P t && notCopyB P t)))
  | .unOp _ _ x => oprB x
  | .makeFunc _ first captured => first.all oprB && captured.all oprB
  | .makeSlice _ l c => oprB l && oprB c
  | .fieldAddr s x i => oprB x && roomyB P s i
  | .indexAddr t x i => oprB x && (oprB i && isSliceB P t)
  | .extract x _ => oprB x
  | .call c => c.args.all oprB && (match c.callee with
    | .value (.func g) => calledB P A g
    | .builtin .len => (match c.argTypes[0]? with | some t => isSliceB P t | none => false)
    | .builtin .append => appOkB P c.argTypes
    | _ => false)
  | _ => false
theorem all_mem {α : Type} {xs : Array α} {p : α → Bool} (h : xs.all p = true) : ∀ x ∈ xs, p x = true := Array.all_eq_true_iff_forall_mem.1 h
theorem opB_ok {P : Program} {A : List Nat} : ∀ {o : Op}, opB P A o = true → OpP P (· ∈ A) o := by
  intro o h
  cases o with
  | move x => exact h
  | assign x => exact h
  | pick c a b => simp only [opB, Bool.and_eq_true] at h; exact h
  | alloc _ => trivial
  | box _ x => exact h
  | build _ parts => exact all_mem h
  | buildSlice _ _ parts => exact all_mem h
  | load _ a => exact h
  | store _ a x => simp only [opB, Bool.and_eq_true] at h; exact h
  | binOp op t x y _ =>
    simp only [opB, Bool.and_eq_true] at h
    exact ⟨h.1, h.2.1, h.2.2.1, plainlyB_ok h.2.2.2.1, notCopyB_ok h.2.2.2.2⟩
  | unOp _ _ x => exact h
  | makeFunc _ first captured => simp only [opB, Bool.and_eq_true] at h; exact ⟨all_mem h.1, all_mem h.2⟩
  | makeSlice _ l c => simp only [opB, Bool.and_eq_true] at h; exact h
  | fieldAddr s x i => simp only [opB, Bool.and_eq_true] at h; exact ⟨h.1, roomyB_ok h.2⟩
  | indexAddr t x i => simp only [opB, Bool.and_eq_true] at h; exact ⟨h.1, h.2.1, isSliceB_ok h.2.2⟩
  | extract x _ => exact h
  | call c =>
    simp only [opB, Bool.and_eq_true] at h
    obtain ⟨h1, h2⟩ := h
    refine ⟨all_mem h1, ?_⟩
    obtain ⟨callee, args, argTypes⟩ := c
    cases callee with
    | value x =>
      cases x with
      | func g => exact calledB_ok h2
      | _ => cases h2
    | builtin b =>
      cases b with
      | len =>
        simp only at h2 ⊢
        split at h2
        · rename_i t e; exact ⟨t, e, isSliceB_ok h2⟩
        · cases h2
      | append =>
        simp only [appOkB, Bool.and_eq_true] at h2
        obtain ⟨q1, q2⟩ := h2
        constructor
        · split at q1
          · rename_i t e
            obtain ⟨e', he'⟩ := isSliceB_ok q1
            exact ⟨t, e', e, he'⟩
          · cases q1
        · split at q2
          · rename_i t e
            obtain ⟨e', he'⟩ := isSliceB_ok q2
            exact ⟨t, e', e, he'⟩
          · cases q2
      | _ => cases h2
    | _ => cases h2
  | _ => cases h
def codeB (P : Program) (A : List Nat) : Code → Bool
  | .skip => true
  | .region _ ops _ => ops.all fun o => opB P A o.op
  | .seq a b => codeB P A a && codeB P A b
  | .cond c a b => oprB c && (codeB P A a && codeB P A b)
  | .block _ a => codeB P A a
  | .loop a => codeB P A a
  | .exit _ => true
  | .ret => true
  | .refuse _ => true
  | _ => false
theorem codeB_ok {P : Program} {A : List Nat} : ∀ {c : Code}, codeB P A c = true → CodeP P (· ∈ A) c
  | .skip, _ => trivial
  | .region _ ops _, h => fun o ho => opB_ok (all_mem h o ho)
  | .seq a b, h => by simp only [codeB, Bool.and_eq_true] at h; exact ⟨codeB_ok h.1, codeB_ok h.2⟩
  | .cond c a b, h => by simp only [codeB, Bool.and_eq_true] at h; exact ⟨h.1, codeB_ok h.2.1, codeB_ok h.2.2⟩
  | .block _ a, h => codeB_ok (c := a) h
  | .loop a, h => codeB_ok (c := a) h
  | .exit _, _ => trivial
  | .ret, _ => trivial
  | .refuse _, _ => trivial
def okFun (P : Program) (A : List Nat) (g : Nat) : Bool := match P.funcs[g]? with | some fn => (match fn.body with | some c => codeB P A c | none => true) | none => true
/-- Goroutine 0's own. -/
def AQ : List Nat := [6, 9, 12, 13, 18, 20, 22, 23, 25, 30, 32, 33, 34, 35, 8, 11, 14, 15, 7, 16, 21, 24, 27, 28, 29, 37, 31]
theorem okAQ : AQ.all (okFun Try.prog AQ) = true := by decide +kernel
theorem prgQ : Prg Try.prog (· ∈ AQ) := by
  refine ⟨fun g hg fn hf c hc => ?_, fun g hg => ?_, fun g => ?_, by decide +kernel⟩
  · have h := List.all_eq_true.1 okAQ g hg
    unfold okFun at h
    rw [hf] at h
    simp only [hc] at h
    exact codeB_ok h
  · have h : AQ.all (fun g => (Try.prog.inits.idxOf? g).isNone) = true := by decide +kernel
    simpa using List.all_eq_true.1 h g hg
  · unfold Program.stepOf
    have h : Try.prog.funcs.all (fun f => (f.body.map readies).all (·.isEmpty)) = true := by decide +kernel
    rw [Array.findIdx?_eq_none_iff]
    intro fn hfn
    have h2 := all_mem h fn hfn
    cases hb : fn.body with
    | none => simp
    | some c =>
      rw [hb] at h2
      simp only [Option.map_some, Option.all_some, List.isEmpty_iff] at h2
      simp [h2]
theorem fixQ (Dd : Nat → Prop) (f : Nat → Nat) : Fix Try.prog Dd f := by
  have h : Try.prog.globals.size = 0 := by decide +kernel
  exact ⟨fun b hb => by omega, fun b _ => by omega⟩
/-- A value that names no block. -/
def Blank (v : Value) : Prop := ∀ f : Nat → Nat, rV f v = v
theorem Blank.cells {v : Value} (h : Blank v) : ∀ c ∈ v.cells, Blank c := by
  intro c hc f
  have h2 := rV_cells f v
  rw [h f] at h2
  obtain ⟨i, hi, rfl⟩ := Array.mem_iff_getElem.1 hc
  have h3 : v.cells[i]? = (v.cells.map (rV f))[i]? := by rw [← h2]
  rw [Array.getElem?_map, Array.getElem?_eq_getElem hi] at h3
  exact (Option.some.inj h3).symm
theorem blank_agg {cs : Array Value} (h : ∀ c ∈ cs, Blank c) : Blank (.agg cs) := fun f => by
  rw [rV_agg]
  congr 1
  refine Array.ext (by simp) fun i h1 h2 => ?_
  rw [Array.getElem_map]
  exact h _ (Array.getElem_mem _) f
theorem forIn_opt {α σ : Type} (I : σ → Prop) (f : α → σ → Option (ForInStep σ)) (hf : ∀ x s r, I s → f x s = some r → (match r with | .yield s' => I s' | .done s' => I s')) : ∀ (l : List α) (s s' : σ), I s → forIn l s f = some s' → I s' := by
  intro l
  induction l with
  | nil => intro s s' hs h; simp at h; exact h ▸ hs
  | cons x l ih =>
    intro s s' hs h
    rw [List.forIn_cons] at h
    simp only [bind, Option.bind_eq_some_iff] at h
    obtain ⟨r, h1, h2⟩ := h
    have := hf x s r hs h1
    cases r with
    | done t =>
      simp only [pure] at h2
      obtain rfl := Option.some.inj h2
      exact this
    | yield t => exact ih t s' this h2
theorem zero_next {i : TypeInfo} {s : Option (Array Value)} {q : Prop} [Decidable q] (hi : ∀ z, i.zero = some z → Blank z) (hs : ∀ z, s = some z → ∀ c ∈ z, Blank c) : ∀ z, (if q then none else s.bind fun u => i.zero.bind fun v => some (u ++ v.cells)) = some z → ∀ c ∈ z, Blank c := by
  intro z hz c hc
  split at hz
  · cases hz
  · obtain ⟨u, hu, hz⟩ := Option.bind_eq_some_iff.1 hz
    obtain ⟨v, hv, hz⟩ := Option.bind_eq_some_iff.1 hz
    obtain rfl := Option.some.inj hz
    rcases Array.mem_append.1 hc with hc | hc
    · exact hs u hu c hc
    · exact (hi v hv).cells c hc
/-- What is known of the types reckons values that name no block. -/
theorem reckon_blank {info : TypeId → Option TypeInfo} (hinfo : ∀ t i z, info t = some i → i.zero = some z → Blank z) {d : TypeDesc} {i : TypeInfo} {z : Value} (h : Made.reckon info d = some i) (hz : i.zero = some z) : Blank z := by
  unfold Made.reckon at h
  split at h
  case h_7 fs =>
    unfold Made.reckonStruct at h
    simp only [bind, Option.bind_eq_some_iff, pure] at h
    obtain ⟨a, h1, h⟩ := h
    have hI : ∀ z, a.snd.snd.snd.snd.snd.snd.snd.fst = some z → ∀ c ∈ z, Blank c := by
      rw [← Array.forIn_toList] at h1
      refine forIn_opt (fun a : Array Field × Nat × Nat × Nat × Nat × Bool × Bool × Option (Array Value) × String => ∀ z, a.snd.snd.snd.snd.snd.snd.snd.fst = some z → ∀ c ∈ z, Blank c) _ ?_ _ _ _ ?_ h1
      · intro x s r hs hb
        obtain ⟨i', hi', hb⟩ := Option.bind_eq_some_iff.1 hb
        have key : ∀ (q : Prop) [Decidable q], ∀ z, (if q then none else s.snd.snd.snd.snd.snd.snd.snd.fst.bind fun u => i'.zero.bind fun v => some (u ++ v.cells)) = some z → ∀ c ∈ z, Blank c := fun q _ => zero_next (fun z hz => hinfo _ _ _ hi' hz) hs
        repeat' split at hb
        all_goals first
          | (cases hb; done)
          | skip
        all_goals (obtain ⟨tag, -, hb⟩ := Option.bind_eq_some_iff.1 hb)
        all_goals (obtain rfl := Option.some.inj hb)
        all_goals first
          | exact fun z hz => key False z (by rw [if_neg (fun h => h)]; exact hz)
          | (intro z hz; cases hz; done)
      · intro z hz c hc
        obtain rfl := Option.some.inj hz
        simp at hc
    have hz2 : Option.map Value.agg a.snd.snd.snd.snd.snd.snd.snd.fst = some z := by
      split at h <;> (obtain rfl := Option.some.inj h; exact hz)
    obtain ⟨u, hu, rfl⟩ := Option.map_eq_some_iff.1 hz2
    exact blank_agg (hI u hu)
  case h_6 n e =>
    simp only [bind, Option.bind_eq_some_iff, pure] at h
    obtain ⟨i', hi', st, -, h⟩ := h
    obtain rfl := Option.some.inj h
    simp only at hz
    split at hz
    · cases hz
    · split at hz
      · obtain rfl := Option.some.inj hz
        exact blank_agg fun c hc => by simp at hc
      · obtain ⟨u, hu, rfl⟩ := Option.map_eq_some_iff.1 hz
        refine blank_agg fun c hc => ?_
        obtain ⟨xs, hxs, hc⟩ := Array.mem_flatten.1 hc
        rw [(Array.mem_replicate.1 hxs).2] at hc
        exact (hinfo _ _ _ hi' hu).cells c hc
  all_goals try (simp only [bind, Option.bind_eq_some_iff, pure] at h)
  case h_1 e =>
    obtain ⟨i', hi', h⟩ := h
    split at h
    · cases h
    · split at h
      · cases h
      · obtain ⟨st, -, h⟩ := Option.bind_eq_some_iff.1 h
        obtain rfl := Option.some.inj h
        obtain rfl := Option.some.inj hz
        exact fun f => by simp
    · obtain ⟨st, -, h⟩ := Option.bind_eq_some_iff.1 h
      obtain rfl := Option.some.inj h
      obtain rfl := Option.some.inj hz
      exact fun f => by simp
  case h_2 =>
    obtain ⟨_, _, _, _, h⟩ := h
    obtain rfl := Option.some.inj h
    obtain rfl := Option.some.inj hz
    exact fun f => by simp
  case h_3 =>
    obtain ⟨_, _, _, _, _, _, _, _, h⟩ := h
    obtain rfl := Option.some.inj h
    obtain rfl := Option.some.inj hz
    exact fun f => by simp
  case h_4 =>
    obtain ⟨_, _, _, _, h⟩ := h
    obtain rfl := Option.some.inj h
    obtain rfl := Option.some.inj hz
    exact fun f => by simp
  case h_5 =>
    obtain ⟨_, _, h⟩ := h
    obtain rfl := Option.some.inj h
    obtain rfl := Option.some.inj hz
    exact fun f => by simp
  case h_8 => cases h
theorem infoAt_blank {T : Tables} (h : ∀ (t : TypeId) (i : TypeInfo) (z : Value), T.types[t]? = some i → i.zero = some z → Blank z) : ∀ (n : Nat) (t : TypeId) (i : TypeInfo) (z : Value), Made.infoAt T n t = some i → i.zero = some z → Blank z := by
  intro n
  induction n with
  | zero => intro t i z hi hz; cases hi
  | succ n ih =>
    intro t i z hi hz
    unfold Made.infoAt at hi
    split at hi
    · exact h t i z hi hz
    · obtain ⟨d, -, hd⟩ := Option.bind_eq_some_iff.1 hi
      exact reckon_blank ih hd hz
/-- A zero value names no block. -/
def blank1 : Value → Bool
  | .int _ _ => true
  | .bool _ => true
  | .string _ => true
  | .float _ _ => true
  | .complex _ _ _ => true
  | .slice none _ _ => true
  | .pointer none => true
  | .map none => true
  | .chan none => true
  | .nilFunc => true
  | .nilIface => true
  | _ => false
theorem blank1_ok {v : Value} (h : blank1 v = true) : Blank v := by
  intro f
  cases v with
  | slice a _ _ => cases a <;> simp [blank1] at h ⊢
  | pointer a => cases a <;> simp [blank1] at h ⊢
  | map a => cases a <;> simp [blank1] at h ⊢
  | chan a => cases a <;> simp [blank1] at h ⊢
  | _ => simp [blank1] at h <;> simp
def blankB : Value → Bool
  | .agg cs => cs.all blank1
  | .tuple cs => cs.all fun v => match v with | .agg ds => ds.all blank1 | v => blank1 v
  | v => blank1 v
theorem blankB_ok : ∀ {v : Value}, blankB v = true → Blank v := by
  intro v h
  cases v with
  | agg cs => exact blank_agg fun c hc => blank1_ok (all_mem h c hc)
  | tuple cs =>
    intro f
    rw [rV_tuple]
    congr 1
    refine Array.ext (by simp) fun i h1 h2 => ?_
    rw [Array.getElem_map]
    have h3 := all_mem h _ (Array.getElem_mem h2)
    generalize cs[i] = v at h3 ⊢
    cases v with
    | agg ds => exact blank_agg (fun c hc => blank1_ok (all_mem h3 c hc)) f
    | _ => exact blank1_ok h3 f
  | _ => exact blank1_ok h
theorem typesQ : Try.prog.types.all (fun i => match i.zero with | some z => blankB z | none => true) = true := by decide +kernel
theorem closedQ (f : Nat → Nat) : Closed Try.prog f := by
  have h0 : ∀ (t : TypeId) (i : TypeInfo) (z : Value), Try.prog.types[t]? = some i → i.zero = some z → Blank z := fun t i z hi hz => by
    obtain ⟨hlt, rfl⟩ := Array.getElem?_eq_some_iff.1 hi
    have := all_mem typesQ _ (Array.getElem_mem hlt)
    rw [hz] at this
    exact blankB_ok this
  intro t i z hi hz
  unfold Tables.info? at hi
  split at hi
  · exact h0 t i z hi hz f
  · exact infoAt_blank h0 _ t i z hi hz f
end Go.Proofs.Ytdjnnhdeijnhgab.Rn

/-
  Goroutine 0's walk beside leavers: a piece of code walked as a lone one's; the return.
-/
namespace Go.Proofs.Ytdjnnhdeijnhgab.Rn
open Go Go.Conc Va Go.RowKit
set_option linter.all false
set_option maxRecDepth 20000

/-- What lay below B lies there. -/
structure HB (B : Nat) (w w' : World) : Prop where
  size : w.heap.size ≤ w'.heap.size
  block : ∀ b, b < B → w'.heap[b]? = w.heap[b]?
theorem HB.refl (B : Nat) (w : World) : HB B w w := ⟨Nat.le_refl _, fun _ _ => rfl⟩
theorem HB.trans {B : Nat} {a b c : World} (h : HB B a b) (k : HB B b c) : HB B a c := ⟨Nat.le_trans h.size k.size, fun i hi => (k.block i hi).trans (h.block i hi)⟩
theorem HB.mono {B B' : Nat} {w w' : World} (h : HB B w w') (hB : B' ≤ B) : HB B' w w' := ⟨h.size, fun i hi => h.block i (by omega)⟩
theorem HB.of {B : Nat} {w w' : World} {T : Tape} {n : Nat} (h : Below B { w with tape := T, drawn := n } w') : HB B w w' := ⟨h.size, h.block⟩
/-- As a lone call's contract has it. -/
theorem HB.below {B : Nat} {w w' : World} (h : HB B w w') : Below B { w with tape := w'.tape, os := w'.os, output := w'.output } w' := ⟨rfl, rfl, rfl, h.size, h.block⟩
theorem LA.of {n : Nat} {a : Act} {vs : List (Nat × Value)} (h1 : a.tmps.size = n) (h2 : a.defers = []) (h3 : ∀ p ∈ vs, a.eval (.tmp p.1) = p.2) : LA n a vs := by
  refine ⟨h1, h2, fun t v h => ?_⟩
  have : (t, v) ∈ vs := by
    clear h3
    induction vs with
    | nil => cases h
    | cons p vs ih =>
      rw [List.lookup_cons] at h
      by_cases e : t = p.1
      · subst e
        simp only [beq_self_eq_true] at h
        obtain rfl := Option.some.inj h
        exact List.mem_cons_self
      · have e' : (t == p.1) = false := by simpa using e
        rw [e'] at h
        exact List.mem_cons_of_mem _ (ih h)
  exact h3 _ this
section
variable {A : Nat → Prop} {b : Frame} {a : Act} {ops : Array Oper} {i d n : Nat} {rest : List Nat} {kk : List Item} {cs : List Frame} {wl : World} {Q : Goroutine → World → Prop} {vs : List (Nat × Value)}
theorem K.code (hP : Prg Try.prog A) (hC : ∀ f, Closed Try.prog f) (hX : ∀ Dd f, Fix Try.prog Dd f) {C : Code} (hCP : CodeP Try.prog A C) (ha : a.defers = []) (hb : b.kind = .normal) {Post : Act → World → Prop}
    (hR : ∀ T, C.wp Try.prog (fun ex a' w' => ex = .normal ∧ Post a' w') a { wl with tape := T, drawn := 0 })
    (k : ∀ a' wE, Post a' wE → Kp Try.prog (G (b.at a' kk) cs) wE Q) : Kp Try.prog (G (b.at a (.code C :: kk)) cs) wl Q := by
  refine Kp.steps (fr := b.at a [.code C]) (k := kk) hP hC hX ⟨fun it hit => ?_, ha, hb, rfl⟩ rfl (Qs := fun fr w => ∃ a', fr = b.at a' [] ∧ Post a' w) (fun T => ?_) (fun fr w ⟨a', h, _⟩ => by rw [h]; rfl) (fun fr wE ⟨a', h1, h2⟩ => ?_)
  · have : it = .code C := by simpa [Frame.at] using hit
    subst this
    exact hCP
  · obtain ⟨e, a', w', ⟨rfl, hp⟩, hs⟩ := hR T b [] [trap Try.prog]
    exact ⟨b.at a' [], w', ⟨a', rfl, hp⟩, hs⟩
  · subst h1
    exact k a' wE h2
theorem st_ret {w : World} : stepG Try.prog true (G (b.at a (.code .ret :: kk)) cs) w = .go (G { b.at a (.code .ret :: kk) with mode := .returning } cs) w #[] := by
  simp [G, stepG, stepG.exec, Frame.at]
theorem K.ret {c : Frame} {fn : Func} {t : Tmp} {v : Value} (hb : b.kind = .normal) (h : LA n a vs) (hf : Try.prog.funcs[b.fn]? = some fn) (hr : fn.results = #[.tmp t]) (hv : vs.lookup t = some v)
    (k : Kp Try.prog (G (c.finish v) cs) wl Q) : Kp Try.prog (G (b.at a (.code .ret :: kk)) (c :: cs)) wl Q := by
  refine Kp.ctl (fun w => st_ret) ?_
  have e := h.get t v hv
  refine Kp.ctl (fr' := c.finish v) (cs' := cs) (fun w => ?_) k
  refine stepG_leave hb h.defers hf ?_ (events_results_tmp hr _ _)
  rw [results_tmp hr]
  have : a.tmps.getD t undef = v := e
  rw [this]
end
end Go.Proofs.Ytdjnnhdeijnhgab.Rn
