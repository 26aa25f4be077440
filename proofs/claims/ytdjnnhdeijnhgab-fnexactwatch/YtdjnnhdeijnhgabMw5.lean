/-
  Blocks renamed: the operations that these programs are made of.
-/
import Derived.Test.YtdjnnhdeijnhgabMw4
namespace Go.Proofs.Ytdjnnhdeijnhgab.Rn
open Go
set_option linter.all false

/-- A value that names no block. -/
def Shut (f : Nat → Nat) (v : Value) : Prop := rV f v = v
/-- The program's own values: no zero value names a block. -/
def Closed (P : Program) (f : Nat → Nat) : Prop := ∀ t i z, P.info? t = some i → i.zero = some z → Shut f z
section
variable {P : Program} {Dd : Nat → Prop} {f : Nat → Nat}
abbrev RV (f : Nat → Nat) : Value → Value → Prop := fun v v' => v' = rV f v
abbrev RVs (f : Nat → Nat) : Array Value → Array Value → Prop := fun v v' => v' = v.map (rV f)
theorem sm_underlying (t : TypeId) : Sm P Dd f Eq (underlying t) (underlying t) := by
  unfold underlying
  refine Sm.bind Sm.program ?_
  rintro a b ⟨rfl, rfl⟩
  cases b.underlying t with
  | none => exact Sm.stuck
  | some d => exact Sm.pure rfl
theorem sm_typeInfo (t : TypeId) : Sm P Dd f (fun i i' => i' = i ∧ P.info? t = some i) (typeInfo t) (typeInfo t) := by
  unfold typeInfo
  refine Sm.bind Sm.program ?_
  rintro a b ⟨rfl, rfl⟩
  cases h : b.info? t with
  | none => exact Sm.stuck
  | some d => exact Sm.pure ⟨rfl, rfl⟩
theorem sm_zero (hC : Closed P f) (t : TypeId) : Sm P Dd f (RV f) (zeroValue t) (zeroValue t) := by
  unfold zeroValue
  refine Sm.bind (sm_typeInfo t) ?_
  rintro a b ⟨rfl, h⟩
  cases hz : b.zero with
  | none => exact Sm.unsupported
  | some z => exact Sm.pure (hC t b z h hz).symm
theorem sm_sizeOf (t : TypeId) : Sm P Dd f Eq (Go.sizeOf t) (Go.sizeOf t) := by
  unfold Go.sizeOf
  refine Sm.bind (sm_typeInfo t) ?_
  rintro a b ⟨rfl, h⟩
  exact Sm.pure rfl
theorem sm_isAgg (t : TypeId) : Sm P Dd f Eq (isAgg t) (isAgg t) := by
  unfold isAgg
  refine Sm.bind (sm_underlying t) ?_
  rintro a b rfl
  split <;> exact Sm.pure rfl
theorem sm_loadCellsFrom (a : Addr) : ∀ (n i : Nat) (acc : Array Value), Sm P Dd f (RVs f) (loadCellsFrom a i n acc) (loadCellsFrom (rA f a) i n (acc.map (rV f))) := by
  intro n
  induction n with
  | zero => intro i acc; exact Sm.pure rfl
  | succ n ih =>
    intro i acc
    unfold loadCellsFrom
    rw [← rA_add]
    refine Sm.bind Sm.load ?_
    rintro v v' rfl
    have := ih (i + 1) (acc.push v)
    rw [Array.map_push] at this
    exact this
theorem sm_loadCells (a : Addr) (n : Nat) : Sm P Dd f (RVs f) (loadCells a n) (loadCells (rA f a) n) := by
  have := sm_loadCellsFrom (P := P) (Dd := Dd) (f := f) a n 0 #[]
  unfold loadCells
  simpa using this
theorem sm_storeCells (a : Addr) : ∀ (vs : List Value) (i : Nat), Sm P Dd f (fun _ _ => True) (storeCells a vs i) (storeCells (rA f a) (vs.map (rV f)) i) := by
  intro vs
  induction vs with
  | nil => intro i; exact Sm.pure trivial
  | cons v vs ih =>
    intro i
    show Sm P Dd f _ (do Go.store (a.add i) v; storeCells a vs (i + 1)) (do Go.store ((rA f a).add i) (rV f v); storeCells (rA f a) (vs.map (rV f)) (i + 1))
    rw [← rA_add]
    exact Sm.bind Sm.store (fun _ _ _ => ih (i + 1))
theorem sm_loadVar (t : TypeId) (a : Addr) : Sm P Dd f (RV f) (loadVar t a) (loadVar t (rA f a)) := by
  unfold loadVar
  refine Sm.bind (sm_isAgg t) ?_
  rintro b _ rfl
  cases b with
  | false => exact Sm.load
  | true =>
    refine Sm.bind (sm_sizeOf t) ?_
    rintro n _ rfl
    refine Sm.bind (sm_loadCells a n) ?_
    rintro cs _ rfl
    exact Sm.pure (rV_agg f cs).symm
theorem sm_storeVar (t : TypeId) (a : Addr) (v : Value) : Sm P Dd f (fun _ _ => True) (storeVar t a v) (storeVar t (rA f a) (rV f v)) := by
  unfold storeVar
  refine Sm.bind (sm_sizeOf t) ?_
  rintro n _ rfl
  rw [rV_cells, Array.size_map]
  have h : Sm P Dd f (fun _ _ => True) (storeCells a v.cells.toList 0) (storeCells (rA f a) (v.cells.map (rV f)).toList 0) := by
    rw [Array.toList_map]; exact sm_storeCells a _ 0
  exact Sm.ite (fun _ => Sm.bind (Rr := fun _ _ => True) Sm.stuck (fun _ _ _ => h)) (fun _ => h)
theorem sm_newVar (t : TypeId) (v : Value) : Sm P Dd f (fun a b => b = rA f a) (newVar t v) (newVar t (rV f v)) := by
  unfold newVar
  rw [rV_cells]
  exact Sm.newRow
theorem sm_alloc (hC : Closed P f) (t : TypeId) : Sm P Dd f (RV f) (Instr.alloc t true (.tuple #[])) (Instr.alloc t true (.tuple #[])) := by
  unfold Instr.alloc
  refine Sm.bind (sm_zero hC t) ?_
  rintro z _ rfl
  refine Sm.bind (sm_newVar t z) ?_
  rintro a _ rfl
  exact Sm.pure (rV_p f a).symm
theorem sm_box (t : TypeId) (v : Value) : Sm P Dd f (RV f) (Instr.box t v) (Instr.box t (rV f v)) := by
  unfold Instr.box
  refine Sm.bind (sm_newVar t v) ?_
  rintro a _ rfl
  exact Sm.pure (rV_p f a).symm
theorem fold_ren (off : Nat) : ∀ (l : List (Value × Nat)) (cs : Array Value), (l.map fun p => (rV f p.1, p.2)).foldl (fun cs p => cs.setIfInBounds (off + p.2) p.1) (cs.map (rV f)) = (l.foldl (fun cs p => cs.setIfInBounds (off + p.2) p.1) cs).map (rV f) := by
  intro l
  induction l with
  | nil => intro cs; rfl
  | cons p l ih =>
    intro cs
    simp only [List.map_cons, List.foldl_cons]
    rw [← map_setIf]
    exact ih _
theorem fill_ren (place : Nat → Option (Nat × Nat)) : ∀ (parts : List (Nat × Value)) (cs : Array Value), Instr.fill place (cs.map (rV f)) (parts.map fun p => (p.1, rV f p.2)) = (Instr.fill place cs parts).map (fun a => a.map (rV f)) := by
  intro parts
  induction parts with
  | nil => intro cs; rfl
  | cons p parts ih =>
    intro cs
    obtain ⟨i, v⟩ := p
    simp only [List.map_cons, Instr.fill]
    cases hp : place i with
    | none => rfl
    | some q =>
      obtain ⟨off, size⟩ := q
      simp only [rV_cells, Array.size_map]
      split
      · rfl
      · have e : (Array.map (rV f) v.cells).zipIdx = v.cells.zipIdx.map (fun p => (rV f p.1, p.2)) := by
          rw [Array.zipIdx_map]; rfl
        rw [e, ← Array.foldl_toList, Array.toList_map]
        have := fold_ren (f := f) off v.cells.zipIdx.toList cs
        rw [this, ih, Array.foldl_toList]
theorem zeros_ren (zero : Array Value) (n : Nat) (hz : zero.map (rV f) = zero) : ((Array.range n).map (zero[· % zero.size]!)).map (rV f) = (Array.range n).map (zero[· % zero.size]!) := by
  rw [Array.map_map]
  apply Array.ext_getElem?
  intro j
  simp only [Array.getElem?_map]
  cases (Array.range n)[j]? with
  | none => rfl
  | some i =>
    simp only [Option.map_some, Function.comp]
    congr 1
    rcases Nat.eq_zero_or_pos zero.size with h0 | h0
    · obtain rfl := Array.eq_empty_of_size_eq_zero h0
      show rV f (default : Value) = default
      exact rV_bool f default
    · have hlt : i % zero.size < zero.size := Nat.mod_lt _ h0
      rw [getElem!_pos zero _ hlt]
      have e : (zero.map (rV f))[i % zero.size]? = zero[i % zero.size]? := by rw [hz]
      rw [Array.getElem?_map, Array.getElem?_eq_getElem hlt] at e
      simpa using e
theorem shut_cells {z : Value} (h : rV f z = z) : z.cells.map (rV f) = z.cells := by rw [← rV_cells, h]
abbrev RP (f : Nat → Nat) (parts : Array (Nat × Value)) : Array (Nat × Value) := parts.map fun p => (p.1, rV f p.2)
theorem sm_build (hC : Closed P f) (t : TypeId) (parts : Array (Nat × Value)) : Sm P Dd f (RV f) (Instr.build t parts) (Instr.build t (RP f parts)) := by
  unfold Instr.build
  refine Sm.bind (sm_zero hC t) ?_
  rintro z z' rfl
  refine Sm.bind (sm_underlying t) ?_
  rintro d _ rfl
  cases d with
  | struct fields =>
    have hp : Sm P Dd f Eq (fields.mapM fun x => do pure (x.offset, ← Go.sizeOf x.type)) (fields.mapM fun x => do pure (x.offset, ← Go.sizeOf x.type)) := by
      rw [Array.mapM_eq_mapM_toList]
      refine Sm.bind (Rr := Eq) ?_ (fun a b e => by subst e; exact Sm.pure rfl)
      generalize fields.toList = l
      induction l with
      | nil => exact Sm.pure rfl
      | cons x l ih =>
        rw [List.mapM_cons]
        refine Sm.bind (Rr := Eq) (Sm.bind (sm_sizeOf x.type) (fun a b e => by subst e; exact Sm.pure rfl)) ?_
        rintro a _ rfl
        refine Sm.bind ih ?_
        rintro b _ rfl
        exact Sm.pure rfl
    refine Sm.bind hp ?_
    rintro places _ rfl
    rw [rV_cells, Array.toList_map, fill_ren]
    cases Instr.fill (fun x => places[x]?) z.cells parts.toList with
    | none => exact Sm.stuck
    | some cs => exact Sm.pure (rV_agg f cs).symm
  | array n e =>
    refine Sm.bind (sm_sizeOf e) ?_
    rintro size _ rfl
    rw [rV_cells, Array.toList_map, fill_ren]
    cases Instr.fill (fun i => some (i * size, size)) z.cells parts.toList with
    | none => exact Sm.stuck
    | some cs => exact Sm.pure (rV_agg f cs).symm
  | _ => exact Sm.stuck
theorem sm_zeroS (hC : Closed P f) (e : TypeId) : Sm P Dd f (fun a b => b = a ∧ rV f a = a) (zeroValue e) (zeroValue e) := by
  unfold zeroValue
  refine Sm.bind (sm_typeInfo e) ?_
  rintro a b ⟨rfl, h⟩
  cases hz : b.zero with
  | none => exact Sm.unsupported
  | some z => exact Sm.pure ⟨rfl, hC e b z h hz⟩
theorem sm_buildSlice (hC : Closed P f) (t : TypeId) (len : Nat) (parts : Array (Nat × Value)) : Sm P Dd f (RV f) (Instr.buildSlice t len parts) (Instr.buildSlice t len (RP f parts)) := by
  unfold Instr.buildSlice
  refine Sm.bind (sm_underlying t) ?_
  rintro d _ rfl
  cases d with
  | slice e =>
    refine Sm.bind (sm_sizeOf e) ?_
    rintro size _ rfl
    have key : ∀ zero : Array Value, zero.map (rV f) = zero → Sm P Dd f (RV f)
        (match Instr.fill (fun i => some (i * size, size)) ((Array.range (len * size)).map (zero[· % zero.size]!)) parts.toList with
          | some cells => do pure (Value.slice (some (← newRow e cells)) len len)
          | x => stuck "buildSlice: a part of the wrong size")
        (match Instr.fill (fun i => some (i * size, size)) ((Array.range (len * size)).map (zero[· % zero.size]!)) (RP f parts).toList with
          | some cells => do pure (Value.slice (some (← newRow e cells)) len len)
          | x => stuck "buildSlice: a part of the wrong size") := by
      intro zero hz
      have e1 := zeros_ren (f := f) zero (len * size) hz
      have e2 := fill_ren (f := f) (fun i => some (i * size, size)) parts.toList ((Array.range (len * size)).map (zero[· % zero.size]!))
      rw [e1] at e2
      rw [Array.toList_map, e2]
      cases Instr.fill (fun i => some (i * size, size)) ((Array.range (len * size)).map (zero[· % zero.size]!)) parts.toList with
      | none => exact Sm.stuck
      | some cs =>
        refine Sm.bind Sm.newRow ?_
        rintro a _ rfl
        exact Sm.pure (rV_s f a len len).symm
    refine Sm.ite (fun _ => Sm.bind (Rr := fun _ _ => False) Sm.unsupported (fun _ _ h => h.elim)) (fun _ => ?_)
    refine Sm.ite (fun _ => Sm.bind (Rr := fun a b => b = a ∧ a.map (rV f) = a) (Sm.pure ⟨rfl, by simp⟩) ?_) (fun _ => ?_)
    · rintro zero _ ⟨rfl, hz⟩
      exact key _ hz
    · refine Sm.bind (sm_zeroS hC e) ?_
      rintro z _ ⟨rfl, hz⟩
      exact Sm.bind (Rr := fun a b => b = a ∧ a.map (rV f) = a) (Sm.pure ⟨rfl, shut_cells hz⟩) (fun a b h => by obtain ⟨rfl, hz⟩ := h; exact key _ hz)
  | _ => exact Sm.stuck
theorem sm_sureAddr (v : Value) : Sm P Dd f (fun a b => b = rA f a) (Instr.sureAddr v) (Instr.sureAddr (rV f v)) := by
  cases v with
  | pointer a =>
    cases a with
    | none => exact Sm.stuck
    | some a => rw [rV_p]; exact Sm.pure rfl
  | _ => exact Sm.stuck
theorem sm_loadAt (t : TypeId) (v : Value) : Sm P Dd f (RV f) (Instr.loadAt t v) (Instr.loadAt t (rV f v)) := by
  unfold Instr.loadAt
  refine Sm.bind (sm_sureAddr v) ?_
  rintro a _ rfl
  exact sm_loadVar t a
theorem sm_storeAt (t : TypeId) (v x : Value) : Sm P Dd f (fun _ _ => True) (Instr.storeAt t v x) (Instr.storeAt t (rV f v) (rV f x)) := by
  unfold Instr.storeAt
  refine Sm.bind (sm_sureAddr v) ?_
  rintro a _ rfl
  exact sm_storeVar t a x
theorem sm_asIntOf (v : Value) : Sm P Dd f Eq (asIntOf v) (asIntOf (rV f v)) := by
  cases v with
  | int k n => rw [rV_int]; exact Sm.pure rfl
  | pointer a =>
    cases a with
    | none => exact Sm.stuck
    | some a => exact Sm.unsupported
  | _ => exact Sm.stuck
theorem sm_asInt (v : Value) : Sm P Dd f Eq (asInt v) (asInt (rV f v)) := by
  unfold asInt
  refine Sm.bind (sm_asIntOf v) ?_
  rintro a _ rfl
  exact Sm.pure rfl
theorem sm_asBool (v : Value) : Sm P Dd f Eq (asBool v) (asBool (rV f v)) := by
  cases v with
  | bool b => rw [rV_bool]; exact Sm.pure rfl
  | _ => exact Sm.stuck
/-- It never comes to an end of its own. -/
def Never (P : Program) {α : Type} (s : Sem α) : Prop := ∀ w es a w' es', s.runT P w es ≠ (.ok a w', es')
theorem Never.halt {α : Type} {h : Halt} : Never P (Sem.halt h : Sem α) := fun w es a w' es' e => by
  have h2 : (Result.halt h w : Result α) = .ok a w' := congrArg Prod.fst e
  cases h2
theorem Never.bind {α β : Type} {s : Sem α} {k : α → Sem β} (h : ∀ a, Never P (k a)) : Never P (s >>= k) := fun w es a w' es' e => by
  replace e : (Sem.bind s k).runT P w es = (.ok a w', es') := e
  rw [Sem.runT_bind'] at e
  generalize s.runT P w es = r at e
  obtain ⟨r, e1⟩ := r
  cases r with
  | ok b w1 => exact h b _ _ _ _ _ e
  | halt x w1 => simp at e
theorem Sm.never {α β : Type} {Rr : α → β → Prop} {s : Sem α} {s' : Sem β} (h : Never P s) : Sm P Dd f Rr s s' := fun wl wc D Z el ec _ _ _ _ a' wl' el' hr => absurd hr (h _ _ _ _ _)
theorem never_runtimePanic {α : Type} (e : RuntimeError) : Never P (runtimePanic e : Sem α) := by
  unfold runtimePanic
  refine Never.bind fun p => ?_
  cases e with
  | typeAssertion i c a m => exact Never.bind fun _ => Never.bind fun _ => Never.halt
  | panicNil => exact Never.bind fun _ => Never.bind fun _ => Never.halt
  | _ => exact Never.halt
theorem never_boundsPanic {α : Type} (k : IntKind) (x y : Int) (c : BoundsCode) : Never P (boundsPanic k x y c : Sem α) := by
  unfold boundsPanic
  split
  · exact Never.bind fun _ => never_runtimePanic _
  · exact Never.bind fun _ => never_runtimePanic _
end
end Go.Proofs.Ytdjnnhdeijnhgab.Rn

/-
  Blocks renamed: addresses, rows, calls.
-/
namespace Go.Proofs.Ytdjnnhdeijnhgab.Rn
open Go
set_option linter.all false

section
variable {P : Program} {Dd : Nat → Prop} {f : Nat → Nat}
/-- A field that takes room. -/
def Roomy (P : Program) (s : TypeId) (i : Nat) : Prop := ∃ fields fd inf, P.underlying s = some (.struct fields) ∧ fields[i]? = some fd ∧ P.info? fd.type = some inf ∧ inf.size ≠ 0
theorem sm_underlying' (t : TypeId) : Sm P Dd f (fun a b => b = a ∧ P.underlying t = some a) (underlying t) (underlying t) := by
  unfold underlying
  refine Sm.bind Sm.program ?_
  rintro a b ⟨rfl, rfl⟩
  cases h : b.underlying t with
  | none => exact Sm.stuck
  | some d => exact Sm.pure ⟨rfl, rfl⟩
theorem sm_sizeOf' (t : TypeId) : Sm P Dd f (fun a b => b = a ∧ ∃ i, P.info? t = some i ∧ i.size = a) (Go.sizeOf t) (Go.sizeOf t) := by
  unfold Go.sizeOf
  refine Sm.bind (sm_typeInfo t) ?_
  rintro a b ⟨rfl, h⟩
  exact Sm.pure ⟨rfl, b, h, rfl⟩
theorem sm_fieldAt (s : TypeId) (v : Value) (i : Nat) (hR : Roomy P s i) : Sm P Dd f (RV f) (Instr.fieldAt s v i) (Instr.fieldAt s (rV f v) i) := by
  obtain ⟨fields, fd, inf, h1, h2, h3, h4⟩ := hR
  unfold Instr.fieldAt
  refine Sm.bind (sm_underlying' s) ?_
  rintro d _ ⟨rfl, hd⟩
  rw [h1] at hd
  cases hd
  simp only [h2]
  refine Sm.bind (sm_sureAddr v) ?_
  rintro a _ rfl
  refine Sm.bind (Rr := fun a b => b = rA f a) ?_ ?_
  · unfold fieldPlace
    refine Sm.bind (sm_sizeOf' fd.type) ?_
    rintro n _ ⟨rfl, i2, h5, h6⟩
    rw [h3] at h5
    cases h5
    rw [if_neg (by omega), if_neg (by omega)]
    exact Sm.pure (rA_add f a _).symm
  · rintro a _ rfl
    exact Sm.pure (rV_p f a).symm
theorem sm_extract (v : Value) (i : Nat) : Sm P Dd f (RV f) (Instr.extract v i) (Instr.extract (rV f v) i) := by
  unfold Instr.extract
  cases v with
  | tuple vs =>
    rw [rV_tuple]
    simp only [Array.getElem?_map]
    cases vs[i]? with
    | none => exact Sm.stuck
    | some x => exact Sm.pure rfl
  | _ => exact Sm.stuck
theorem sm_indexAt (t : TypeId) (x ix : Value) (hs : ∃ e, P.underlying t = some (.slice e)) : Sm P Dd f (RV f) (Instr.indexAt t x ix) (Instr.indexAt t (rV f x) (rV f ix)) := by
  obtain ⟨e, he⟩ := hs
  unfold Instr.indexAt
  refine Sm.bind (sm_asIntOf ix) ?_
  rintro p _ rfl
  obtain ⟨k, i⟩ := p
  simp only
  refine Sm.bind (sm_underlying' t) ?_
  rintro d _ ⟨rfl, hd⟩
  rw [he] at hd
  cases hd
  have nev : ∀ {α β : Type} {s : Sem α} {k : α → Sem β}, Never P s → Never P (s >>= k) := fun {α β s k} h w es a w' es' e => by
    replace e : (Sem.bind s k).runT P w es = (.ok a w', es') := e
    rw [Sem.runT_bind'] at e
    cases hs : s.runT P w es with
    | mk r e1 =>
      rw [hs] at e
      cases r with
      | ok b w1 => exact h _ _ _ _ _ hs
      | halt x w1 => simp at e
  cases x with
  | slice base len cap =>
    have key : ∀ base' : Option Addr, (base = none ∧ base' = none ∨ ∃ a, base = some a ∧ base' = some (rA f a)) → Sm P Dd f (RV f)
        (do
          let __x ← pure (base, len, e)
          let d ← underlying t
          match __x.fst with
            | some a => if 0 ≤ i ∧ i < (__x.2.fst : Int) then (do pure (Value.pointer (some (a.add (i.toNat * (← Go.sizeOf __x.2.snd)))))) else if (decide (__x.2.fst ≤ 1) && (match d with | TypeDesc.array _ _ => true | _ => false)) = true then unsupported (Unsupported.noEntry "op/indexAddr.an index out of range at an array of length 0 or 1 (ledger 616)") else boundsPanic k i (__x.2.fst : Int) BoundsCode.index
            | none => boundsPanic k i 0 BoundsCode.index)
        (do
          let __x ← pure (base', len, e)
          let d ← underlying t
          match __x.fst with
            | some a => if 0 ≤ i ∧ i < (__x.2.fst : Int) then (do pure (Value.pointer (some (a.add (i.toNat * (← Go.sizeOf __x.2.snd)))))) else if (decide (__x.2.fst ≤ 1) && (match d with | TypeDesc.array _ _ => true | _ => false)) = true then unsupported (Unsupported.noEntry "op/indexAddr.an index out of range at an array of length 0 or 1 (ledger 616)") else boundsPanic k i (__x.2.fst : Int) BoundsCode.index
            | none => boundsPanic k i 0 BoundsCode.index) := by
      intro base' hb
      refine Sm.bind (Rr := fun a b => a = (base, len, e) ∧ b = (base', len, e)) (Sm.pure ⟨rfl, rfl⟩) ?_
      rintro _ _ ⟨rfl, rfl⟩
      refine Sm.bind (sm_underlying t) ?_
      rintro d _ rfl
      rcases hb with ⟨rfl, rfl⟩ | ⟨a, rfl, rfl⟩
      · exact Sm.never (never_boundsPanic _ _ _ _)
      · refine Sm.ite (fun _ => ?_) (fun _ => Sm.ite (fun _ => Sm.unsupported) (fun _ => Sm.never (never_boundsPanic _ _ _ _)))
        refine Sm.bind (sm_sizeOf e) ?_
        rintro n _ rfl
        exact Sm.pure (by rw [← rA_add]; exact (rV_p f _).symm)
    cases base with
    | none => rw [rV_snil]; exact key none (Or.inl ⟨rfl, rfl⟩)
    | some a => rw [rV_s]; exact key _ (Or.inr ⟨a, rfl, rfl⟩)
  | _ => exact Sm.never (nev Never.halt)
theorem sm_len (argTypes : Array TypeId) (type : TypeId) (args : Array Value) (hs : ∃ t e, argTypes[0]? = some t ∧ P.underlying t = some (.slice e)) : Sm P Dd f (RV f) (Builtin.len_ argTypes type args) (Builtin.len_ argTypes type (args.map (rV f))) := by
  obtain ⟨t, e, ht, he⟩ := hs
  unfold Builtin.len_
  rw [ht, Array.getElem?_map]
  cases args[0]? with
  | none => exact Sm.stuck
  | some x =>
    simp only [Option.map_some]
    refine Sm.bind (sm_underlying' t) ?_
    rintro d _ ⟨rfl, hd⟩
    rw [he] at hd
    cases hd
    cases x with
    | slice base len cap => cases base <;> simp only [rV_s, rV_snil] <;> exact Sm.pure (rV_int f _ _).symm
    | _ => exact Sm.stuck
theorem Never.bindL {α β : Type} {s : Sem α} {k : α → Sem β} (h : Never P s) : Never P (s >>= k) := fun w es a w' es' e => by
  replace e : (Sem.bind s k).runT P w es = (.ok a w', es') := e
  rw [Sem.runT_bind'] at e
  cases hs : s.runT P w es with
  | mk r e1 =>
    rw [hs] at e
    cases r with
    | ok b w1 => exact h _ _ _ _ _ hs
    | halt x w1 => simp at e
/-- A number or a truth, or nothing that is compared here. -/
def Flat : Value → Bool
  | .int _ _ => true
  | .bool _ => true
  | .string _ => true
  | _ => false
theorem flat_ren {v : Value} (h : Flat v = true) : rV f v = v := by cases v <;> simp [Flat] at h <;> simp
theorem sm_unary (op : UnOp) (v : Value) : Sm P Dd f (RV f) (Op.unary op v) (Op.unary op (rV f v)) := by
  unfold Op.unary
  cases op <;> cases v <;> first
    | exact Sm.stuck
    | (simp only [rV_int, rV_bool, rV_float, rV_complex]; exact Sm.pure (by simp [RV]))
    | (simp only [rV_int]; unfold Op.intArith; exact Sm.pure (rV_int f _ _).symm)
    | (rename_i a; cases a <;> first | exact Sm.stuck | exact Sm.unsupported)
    | skip
  all_goals trace_state
  all_goals sorry
end
end Go.Proofs.Ytdjnnhdeijnhgab.Rn

/-
  Blocks renamed: numbers that are addresses; what names no block.
-/
namespace Go.Proofs.Ytdjnnhdeijnhgab.Rn
open Go
set_option linter.all false

/-- It asks for nothing but the program and the tape; what it yields is as Q says. -/
def Air {α : Type} (Q : α → Prop) : Sem α → Prop
  | .pure a => Q a
  | .choose _ k => ∀ n, Air Q (k n)
  | .program k => ∀ p, Air Q (k p)
  | .halt _ => True
  | _ => False
section
variable {P : Program} {Dd : Nat → Prop} {f : Nat → Nat} {α β : Type}
theorem Air.bind {Q : α → Prop} {R : β → Prop} {k : α → Sem β} : ∀ {s : Sem α}, Air Q s → (∀ a, Q a → Air R (k a)) → Air R (s >>= k) := by
  intro s
  show Air Q s → _ → Air R (Sem.bind s k)
  induction s with
  | pure a => intro h hk; exact hk a h
  | choose q j ih => intro h hk n; exact ih n (h n) hk
  | program j ih => intro h hk p; exact ih p (h p) hk
  | halt h => intro _ _; trivial
  | _ => intro h; exact h.elim
theorem Air.mono {Q R : α → Prop} (hq : ∀ a, Q a → R a) : ∀ {s : Sem α}, Air Q s → Air R s := by
  intro s
  induction s with
  | pure a => intro h; exact hq a h
  | choose q j ih => intro h n; exact ih n (h n)
  | program j ih => intro h p; exact ih p (h p)
  | halt h => intro _; trivial
  | _ => intro h; exact h.elim
theorem Air.pure {Q : α → Prop} {a : α} (h : Q a) : Air Q (Pure.pure a) := h
theorem Air.stuck {Q : α → Prop} {w : String} : Air Q (Go.stuck w) := trivial
theorem Air.unsupported {Q : α → Prop} {w : Unsupported} : Air Q (Go.unsupported w) := trivial
theorem Air.choose {Q : Nat → Prop} {q : Question} (h : ∀ n, Q n) : Air Q (Go.choose q) := fun n => h n
theorem Air.program {Q : Program → Prop} (h : ∀ n, Q n) : Air Q Go.program := fun n => h n
theorem sem_choose_bind (q : Question) (k : Nat → Sem α) : Sem.choose q k = Go.choose q >>= k := rfl
theorem sem_program_bind (k : Program → Sem α) : Sem.program k = Go.program >>= k := rfl
theorem Sm.air {Q : α → Prop} : ∀ {s : Sem α}, Air Q s → Sm P Dd f (fun a b => b = a ∧ Q a) s s := by
  intro s
  induction s with
  | pure a => intro h; exact Sm.pure ⟨rfl, h⟩
  | choose q j ih => intro h; rw [sem_choose_bind]; exact Sm.bind Sm.choose (fun a b e => by subst e; exact ih _ (h _))
  | program j ih => intro h; rw [sem_program_bind]; exact Sm.bind Sm.program (fun a b e => by obtain ⟨rfl, rfl⟩ := e; exact ih _ (h _))
  | halt h => intro _; exact Sm.halt
  | _ => intro h; exact h.elim
theorem Sm.airV {s : Sem Value} (h : Air (Shut f) s) : Sm P Dd f (RV f) s s := (Sm.air h).mono fun a b e => by obtain ⟨rfl, h⟩ := e; exact h.symm
theorem air_runtimePanic_div {Q : Value → Prop} : Air Q (runtimePanic (.error "integer divide by zero")) := by
  unfold runtimePanic
  exact Air.bind (Q := fun _ => True) (Air.program fun _ => trivial) (fun p _ => trivial)
theorem air_int (op : BinOp) (k : IntKind) (a b : Int) : Air (Shut f) (Op.intArith op k a b) ∧ Air (Shut f) (Op.intDiv op k a b) ∧ Air (Shut f) (Op.intCmp op a b) := by
  refine ⟨?_, ?_, ?_⟩
  · unfold Op.intArith
    cases op <;> first | exact rV_int f _ _ | trivial
  · unfold Op.intDiv
    split
    · exact air_runtimePanic_div
    · cases op <;> first | exact rV_int f _ _ | trivial
  · unfold Op.intCmp
    cases op <;> first | exact rV_bool f _ | trivial
theorem air_floatArith (op : BinOp) (k : FloatKind) (a b : Nat) : Air (Shut f) (Op.floatArith op k a b) := by
  unfold Op.floatArith
  have key : ∀ r : Option Nat, Air (Shut f) (match r with
      | some r => pure (Value.float k r)
      | none => do pure (Value.float k (← Go.choose (Question.nanBits k a b)))) := by
    intro r
    cases r with
    | some r => exact rV_float f _ _
    | none => exact Air.bind (Q := fun _ => True) (Air.choose fun _ => trivial) (fun n _ => rV_float f _ _)
  cases op <;> exact Air.bind (Q := fun _ => True) trivial (fun r _ => key r)
theorem air_floatCmp (op : BinOp) (k : FloatKind) (a b : Nat) : Air (Shut f) (Op.floatCmp op k a b) := by
  unfold Op.floatCmp
  cases op <;> first | exact rV_bool f _ | trivial
theorem air_string (op : BinOp) (a b : ByteArray) : Air (Shut f) (Op.stringOp op a b) := by
  unfold Op.stringOp
  cases op <;> first | exact rV_bool f _ | trivial | skip
  show Air _ (if _ then _ else _)
  split
  · trivial
  · exact rV_string f _
abbrev An {α : Type} (s : Sem α) : Prop := Air (fun _ => True) s
theorem an_of {Q : α → Prop} {s : Sem α} (h : Air Q s) : An s := h.mono fun _ _ => trivial
theorem an_bind {s : Sem α} {k : α → Sem β} (h : An s) (hk : ∀ a, An (k a)) : An (s >>= k) := Air.bind h (fun a _ => hk a)
theorem an_arith (op : BinOp) (k : FloatKind) (a b : Nat) : An (Op.Complex.arith op k a b) := by
  unfold Op.Complex.arith
  refine an_bind (an_of (air_floatArith (f := fun x => x) op k a b)) fun v => ?_
  cases v <;> trivial
theorem an_cmp (op : BinOp) (k : FloatKind) (a b : Nat) : An (Op.Complex.cmp op k a b) := by
  unfold Op.Complex.cmp
  refine an_bind (an_of (air_floatCmp (f := fun x => x) op k a b)) fun v => ?_
  cases v <;> trivial
theorem an_conv (k : FloatKind) (a : Nat) (d : FloatKind) : An (Op.Complex.conv k a d) := by
  unfold Op.Complex.conv
  split
  · trivial
  · refine an_bind ?_ fun v => ?_
    · unfold Conv.floatToFloat
      repeat' (first | trivial | split | (show An (if _ then _ else _); split) | refine an_bind (Air.choose fun _ => trivial) fun _ => ?_)
    · cases v <;> trivial
theorem an_product (a b c d : Nat) : An (Op.Complex.product a b c d) := by
  unfold Op.Complex.product
  repeat' (first | trivial | refine an_bind (an_arith _ _ _ _) fun _ => ?_)
theorem an_corrected (s a b c d : Nat) : An (Op.Complex.corrected s a b c d) := by
  unfold Op.Complex.corrected
  repeat' (first | trivial | refine an_bind (an_arith _ _ _ _) fun _ => ?_)
theorem an_ite {c : Prop} [Decidable c] {s t : Sem α} (h : An s) (k : An t) : An (if c then s else t) := by split <;> assumption
theorem an_two (a b c d : Nat) (g : Nat → Nat → Sem α) (h : ∀ x y, An (g x y)) : An (do let x ← Op.Complex.mul a b; let y ← Op.Complex.mul c d; g x y) := an_bind (an_arith _ _ _ _) fun _ => an_bind (an_arith _ _ _ _) fun _ => h _ _
theorem an_quotient (a b c d : Nat) : An (Op.Complex.quotient a b c d) := by
  unfold Op.Complex.quotient
  refine an_bind (an_cmp _ _ _ _) fun q => ?_
  have key : ∀ x : Nat × Nat, An (do
      let z ← Op.Complex.cmp .eql .f64 c 0
      let y ← Op.Complex.cmp .eql .f64 d 0
      let zero := z && y
      if (!(Op.Complex.isNaN x.1 && Op.Complex.isNaN x.2)) = true then pure (x.1, x.2)
      else if (zero && (!Op.Complex.isNaN a || !Op.Complex.isNaN b)) = true then do
        let u ← Op.Complex.mul (Op.Complex.copysign Op.Complex.inf c) a
        let v ← Op.Complex.mul (Op.Complex.copysign Op.Complex.inf c) b
        pure (u, v)
      else if ((Op.Complex.isInf a || Op.Complex.isInf b) && Op.Complex.isFinite c && Op.Complex.isFinite d) = true then Op.Complex.corrected Op.Complex.inf (Op.Complex.inf2one a) (Op.Complex.inf2one b) c d
      else if ((Op.Complex.isInf c || Op.Complex.isInf d) && Op.Complex.isFinite a && Op.Complex.isFinite b) = true then Op.Complex.corrected 0 a b (Op.Complex.inf2one c) (Op.Complex.inf2one d)
      else pure (x.1, x.2)) := by
    intro x
    refine an_bind (an_cmp _ _ _ _) fun _ => an_bind (an_cmp _ _ _ _) fun _ => ?_
    refine an_ite trivial (an_ite ?_ (an_ite (an_corrected _ _ _ _ _) (an_ite (an_corrected _ _ _ _ _) trivial)))
    exact an_bind (an_arith _ _ _ _) fun _ => an_bind (an_arith _ _ _ _) fun _ => trivial
  cases q with
  | true =>
    exact an_bind (an_arith _ _ _ _) fun _ => an_bind (an_arith _ _ _ _) fun _ => an_bind (an_arith _ _ _ _) fun _ => an_bind (an_arith _ _ _ _) fun _ => an_bind (an_arith _ _ _ _) fun _ => an_bind (an_arith _ _ _ _) fun _ => an_bind (an_arith _ _ _ _) fun _ => an_bind (an_arith _ _ _ _) fun _ => an_bind (an_arith _ _ _ _) fun _ => an_bind (s := Pure.pure _) trivial fun x => key x
  | false =>
    exact an_bind (an_arith _ _ _ _) fun _ => an_bind (an_arith _ _ _ _) fun _ => an_bind (an_arith _ _ _ _) fun _ => an_bind (an_arith _ _ _ _) fun _ => an_bind (an_arith _ _ _ _) fun _ => an_bind (an_arith _ _ _ _) fun _ => an_bind (an_arith _ _ _ _) fun _ => an_bind (an_arith _ _ _ _) fun _ => an_bind (an_arith _ _ _ _) fun _ => an_bind (s := Pure.pure _) trivial fun x => key x
theorem air_complex (op : BinOp) (k : FloatKind) (a b c d : Nat) : Air (Shut f) (Op.complexOp op k a b c d) := by
  unfold Op.complexOp
  cases op with
  | add => exact Air.bind (an_arith _ _ _ _) fun _ _ => Air.bind (an_arith _ _ _ _) fun _ _ => rV_complex f _ _ _
  | sub => exact Air.bind (an_arith _ _ _ _) fun _ _ => Air.bind (an_arith _ _ _ _) fun _ _ => rV_complex f _ _ _
  | eql => exact Air.bind (an_cmp _ _ _ _) fun _ _ => Air.bind (an_cmp _ _ _ _) fun _ _ => rV_bool f _
  | neq => exact Air.bind (an_cmp _ _ _ _) fun _ _ => Air.bind (an_cmp _ _ _ _) fun _ _ => rV_bool f _
  | mul =>
    refine Air.bind (an_conv _ _ _) fun _ _ => Air.bind (an_conv _ _ _) fun _ _ => Air.bind (an_conv _ _ _) fun _ _ => Air.bind (an_conv _ _ _) fun _ _ => ?_
    exact Air.bind (an_product _ _ _ _) fun _ _ => Air.bind (an_conv _ _ _) fun _ _ => Air.bind (an_conv _ _ _) fun _ _ => rV_complex f _ _ _
  | quo =>
    refine Air.bind (an_conv _ _ _) fun _ _ => Air.bind (an_conv _ _ _) fun _ _ => Air.bind (an_conv _ _ _) fun _ _ => Air.bind (an_conv _ _ _) fun _ _ => ?_
    exact Air.bind (an_quotient _ _ _ _) fun _ _ => Air.bind (an_conv _ _ _) fun _ _ => Air.bind (an_conv _ _ _) fun _ _ => rV_complex f _ _ _
  | _ => trivial
end
end Go.Proofs.Ytdjnnhdeijnhgab.Rn
