/-
  Blocks renamed: one run beside the other; the words that are common.
-/
import Derived.Test.YtdjnnhdeijnhgabMq5
namespace Go.Proofs.Ytdjnnhdeijnhgab.Rn
open Go
set_option linter.all false

/-- What the one yields, the other yields, renamed. -/
def Sm (P : Program) (Dd : Nat → Prop) (f : Nat → Nat) {α β : Type} (Rr : α → β → Prop) (s : Sem α) (s' : Sem β) : Prop :=
  ∀ wl wc D Z el ec, WR Dd f wl wc → Fits f wl wc D Z → (resW (s'.runT P wc ec).1).drawn ≤ D → (resW (s'.runT P wc ec).1).heap.size ≤ Z → ∀ a wl' el', s.runT P wl el = (.ok a wl', el') →
    ∃ b wc' es, s'.runT P wc ec = (.ok b wc', ec ++ es) ∧ Rr a b ∧ WR Dd f wl' wc' ∧ Later f wl wc wl' wc' es
section
variable {P : Program} {Dd : Nat → Prop} {f : Nat → Nat} {α β γ δ : Type} {Rr : α → β → Prop} {Rs : γ → δ → Prop}
theorem Sm.pure {a : α} {b : β} (h : Rr a b) : Sm P Dd f Rr (Pure.pure a) (Pure.pure b) := by
  intro wl wc D Z el ec hW hF hD hZ a' wl' el' hr
  have e : (Sem.pure a).runT P wl el = (.ok a' wl', el') := hr
  simp only [Sem.runT, Prod.mk.injEq, Result.ok.injEq] at e
  obtain ⟨⟨rfl, rfl⟩, rfl⟩ := e
  exact ⟨b, wc, #[], by show (Sem.pure b).runT P wc ec = _; simp [Sem.runT], h, hW, Later.refl _ _ _⟩
theorem Sm.halt {h : Halt} {s' : Sem β} : Sm P Dd f Rr (Sem.halt h : Sem α) s' := by
  intro wl wc D Z el ec hW hF hD hZ a' wl' el' hr
  simp [Sem.runT] at hr
theorem Sm.stuck {why : String} {s' : Sem β} : Sm P Dd f Rr (Go.stuck why : Sem α) s' := Sm.halt
theorem Sm.unsupported {u : Unsupported} {s' : Sem β} : Sm P Dd f Rr (Go.unsupported u : Sem α) s' := Sm.halt
theorem Sm.mono {s : Sem α} {s' : Sem β} {Rr' : α → β → Prop} (h : Sm P Dd f Rr s s') (k : ∀ a b, Rr a b → Rr' a b) : Sm P Dd f Rr' s s' := by
  intro wl wc D Z el ec hW hF hD hZ a' wl' el' hr
  obtain ⟨b, wc', es, h1, h2, h3, h4⟩ := h wl wc D Z el ec hW hF hD hZ a' wl' el' hr
  exact ⟨b, wc', es, h1, k _ _ h2, h3, h4⟩
theorem Sm.bind {s : Sem α} {s' : Sem β} {k : α → Sem γ} {k' : β → Sem δ} (h : Sm P Dd f Rr s s') (hk : ∀ a b, Rr a b → Sm P Dd f Rs (k a) (k' b)) : Sm P Dd f Rs (s >>= k) (s' >>= k') := by
  intro wl wc D Z el ec hW hF hD hZ a' wl' el' hr
  replace hr : (Sem.bind s k).runT P wl el = (.ok a' wl', el') := hr
  rw [Sem.runT_bind'] at hr
  have eb : (s' >>= k').runT P wc ec = _ := Sem.runT_bind' P s' k' wc ec
  rw [eb] at hD hZ ⊢
  cases hs : s.runT P wl el with
  | mk r el1 =>
    rw [hs] at hr
    cases r with
    | halt x w => simp at hr
    | ok a wl1 =>
      simp only at hr
      have h0 := runT_mono (P := P) s' wc ec
      have hle : (resW (s'.runT P wc ec).1).drawn ≤ D ∧ (resW (s'.runT P wc ec).1).heap.size ≤ Z := by
        generalize s'.runT P wc ec = r' at hD hZ
        obtain ⟨r', el'⟩ := r'
        cases r' with
        | halt x w => exact ⟨hD, hZ⟩
        | ok b w =>
          have := runT_mono (P := P) (k' b) w el'
          exact ⟨Nat.le_trans this.1 hD, Nat.le_trans this.2 hZ⟩
      obtain ⟨b, wc1, es1, h1, h2, h3, h4⟩ := h wl wc D Z el ec hW hF hle.1 hle.2 a wl1 el1 hs
      rw [h1] at hD hZ hle ⊢
      simp only at hD hZ ⊢
      obtain ⟨c, wc2, es2, k1, k2, k3, k4⟩ := hk a b h2 wl1 wc1 D Z el1 (ec ++ es1) h3 (hF.later h4) hD hZ a' wl' el' hr
      exact ⟨c, wc2, es1 ++ es2, by rw [k1, Array.append_assoc], k2, k3, h4.trans k4 hF hle.2⟩
theorem Sm.ite {c : Prop} [Decidable c] {s t : Sem α} {s' t' : Sem β} (h : c → Sm P Dd f Rr s s') (k : ¬ c → Sm P Dd f Rr t t') : Sm P Dd f Rr (if c then s else t) (if c then s' else t') := by
  by_cases q : c
  · rw [if_pos q, if_pos q]; exact h q
  · rw [if_neg q, if_neg q]; exact k q
/-- A word that only asks for the program. -/
theorem Sm.same {s : Sem α} {g : World → Array Event → Option α} (hok : ∀ w es, (∃ x, s.runT P w es = (.ok x w, es) ∧ ∀ w' es', s.runT P w' es' = (.ok x w', es')) ∨ ∃ x, s.runT P w es = (.halt x w, es)) : Sm P Dd f Eq s s := by
  intro wl wc D Z el ec hW hF hD hZ a' wl' el' hr
  rcases hok wl el with ⟨x, h1, h2⟩ | ⟨x, h1⟩
  · rw [h1] at hr
    simp only [Prod.mk.injEq, Result.ok.injEq] at hr
    obtain ⟨⟨rfl, rfl⟩, rfl⟩ := hr
    exact ⟨x, wc, #[], by rw [h2]; simp, rfl, hW, Later.refl _ _ _⟩
  · rw [h1] at hr; simp at hr
theorem Sm.program : Sm P Dd f (fun a b => a = P ∧ b = P) Go.program Go.program := by
  intro wl wc D Z el ec hW hF hD hZ a' wl' el' hr
  simp only [Go.program, Sem.runT, Prod.mk.injEq, Result.ok.injEq] at hr
  obtain ⟨⟨rfl, rfl⟩, rfl⟩ := hr
  exact ⟨P, wc, #[], by rw [Array.append_empty]; rfl, ⟨rfl, rfl⟩, hW, Later.refl _ _ _⟩
theorem Sm.load {a : Addr} : Sm P Dd f (fun v v' => v' = rV f v) (Go.load a) (Go.load (rA f a)) := by
  intro wl wc D Z el ec hW hF hD hZ a' wl' el' hr
  simp only [Go.load, Sem.runT] at hr
  cases hc : wl.cell? a with
  | none =>
    obtain ⟨x, hx⟩ := hW.none_far hc P (Mode.plain == Mode.atomic)
    rw [hc, hx] at hr
    simp at hr
  | some v =>
    rw [hc] at hr
    simp only [Prod.mk.injEq, Result.ok.injEq] at hr
    obtain ⟨⟨rfl, rfl⟩, rfl⟩ := hr
    obtain ⟨h1, h2⟩ := hW.cell hc
    refine ⟨rV f v, wc, #[⟨.cell (rA f a), false, false⟩], ?_, rfl, hW, ?_⟩
    · simp only [Go.load, Sem.runT, h1]
      rfl
    · have k := Later.refl f wl wc
      exact ⟨k.d, k.dle, k.z, k.zle, rfl, rfl, rfl, rfl, rfl, rfl, k.keep, k.back, k.out, fun e he => by
        simp at he
        subst he
        exact Or.inl ⟨a, false, rfl, h2⟩⟩
theorem Sm.store {a : Addr} {v : Value} : Sm P Dd f (fun _ _ => True) (Go.store a v) (Go.store (rA f a) (rV f v)) := by
  intro wl wc D Z el ec hW hF hD hZ a' wl' el' hr
  have hv : (∀ cs, v ≠ .agg cs) ∧ ∀ cs, v ≠ .tuple cs := by
    constructor <;> · rintro cs rfl; have h2 : (Result.halt (.stuck "store: not the value of one cell") wl : Result Unit) = .ok a' wl' := congrArg Prod.fst hr; cases h2
  have e1 : ∀ (x : Addr) (u : Value), (∀ cs, u ≠ .agg cs) → (∀ cs, u ≠ .tuple cs) → ∀ w es, (Go.store x u).runT P w es = (match w.cell? x with
      | some _ => if w.frozen? x then (.halt (.unsupported (.unsafePointer "a write to bytes that a string shares")) w, es) else (.ok () (w.setCell x u), es.push ⟨.cell x, true, false⟩)
      | none => match w.farStore P x u false with
        | .ok (w, touched) => (.ok () w, es ++ touched.toArray.map (⟨.cell ·, true, false⟩))
        | .error h => (.halt h w, es)) := by
    intro x u h1 h2 w es
    cases u <;> first | exact absurd rfl (h1 _) | exact absurd rfl (h2 _) | rfl
  have hv' : (∀ cs, rV f v ≠ .agg cs) ∧ ∀ cs, rV f v ≠ .tuple cs := by
    constructor
    · intro cs e
      cases v with
      | pointer a => cases a <;> simp at e
      | slice a n c => cases a <;> simp at e
      | map a => cases a <;> simp at e
      | chan a => cases a <;> simp at e
      | agg c => exact hv.1 _ rfl
      | _ => simp at e
    · intro cs e
      cases v with
      | pointer a => cases a <;> simp at e
      | slice a n c => cases a <;> simp at e
      | map a => cases a <;> simp at e
      | chan a => cases a <;> simp at e
      | tuple c => exact hv.2 _ rfl
      | _ => simp at e
  rw [e1 a v hv.1 hv.2] at hr
  cases hc : wl.cell? a with
  | none =>
    obtain ⟨x, hx⟩ := hW.none_farS hc P v false
    rw [hc, hx] at hr
    simp at hr
  | some u =>
    rw [hc] at hr
    simp only at hr
    obtain ⟨h1, h2⟩ := hW.cell hc
    split at hr
    · simp at hr
    · rename_i hfz
      simp only [Prod.mk.injEq, Result.ok.injEq] at hr
      obtain ⟨⟨-, rfl⟩, rfl⟩ := hr
      refine ⟨(), wc.setCell (rA f a) (rV f v), #[⟨.cell (rA f a), true, false⟩], ?_, trivial, hW.set a v h2, ?_⟩
      · rw [e1 _ _ hv'.1 hv'.2, h1]
        simp only
        rw [if_neg (by rw [hW.frozen h2]; exact hfz)]
        rfl
      · refine ⟨by show wl.drawn + _ = _; rfl, Nat.le_refl _, by rw [size_set, size_set], by rw [size_set]; exact Nat.le_refl _, rfl, rfl, rfl, rfl, rfl, rfl, fun b hb => setCell_isC.2 hb, fun b _ hb => setCell_isC.1 hb, fun b hb hq => ?_, fun e he => ?_⟩
        · rw [setCell_heap]; exact if_neg (show ¬ (rA f a).block = b from fun e => hq a.block (isC_lt h2) h2 e)
        · simp at he
          subst he
          exact Or.inl ⟨a, true, rfl, setCell_isC.2 h2⟩
theorem push_isC {w : World} {o : Obj} {b : Nat} (h : IsC w b) : IsC { w with heap := w.heap.push o } b := by
  have hl := isC_lt h
  obtain ⟨cs, e, fz, h⟩ := h
  exact ⟨cs, e, fz, by simp only [Array.getElem?_push]; rw [if_neg (by omega)]; exact h⟩
theorem Sm.newRow {e : TypeId} {cs : Array Value} : Sm P Dd f (fun a b => b = rA f a) (Go.newRow e cs) (Go.newRow e (cs.map (rV f))) := by
  intro wl wc D Z el ec hW hF hD hZ a' wl' el' hr
  have e1 : ∀ (cs : Array Value) (w : World) (es : Array Event), (Go.newRow e cs).runT P w es = (.ok ⟨w.heap.size, 0, none⟩ { w with heap := w.heap.push (Obj.cells cs e) }, es) := fun cs w es => rfl
  rw [e1] at hr hD hZ ⊢
  simp only [Prod.mk.injEq, Result.ok.injEq] at hr
  obtain ⟨⟨rfl, rfl⟩, rfl⟩ := hr
  have hn : f wl.heap.size = wc.heap.size := by
    have := hF.new 0 (by simp [resW] at hZ; omega)
    simpa using this
  refine ⟨_, _, #[], by rw [Array.append_empty], by simp [rA, hn], hW.alloc cs e (0, 0) hn, rfl, Nat.le_refl _, by simp; omega, by simp, rfl, rfl, rfl, rfl, rfl, rfl, fun b hb => push_isC hb, fun b hb hc => ?_, fun b hb _ => ?_, fun e he => by simp at he⟩
  · obtain ⟨cs, e, fz, h⟩ := hc
    simp only [Array.getElem?_push] at h
    rw [if_neg (by omega)] at h
    exact ⟨cs, e, fz, h⟩
  · simp only [Array.getElem?_push]
    rw [if_neg (by omega)]
theorem Sm.choose {q : Question} : Sm P Dd f Eq (Go.choose q) (Go.choose q) := by
  intro wl wc D Z el ec hW hF hD hZ a' wl' el' hr
  simp only [Go.choose, Sem.runT] at hr hD hZ ⊢
  split at hr
  · rename_i hq
    simp only [Prod.mk.injEq, Result.ok.injEq] at hr
    obtain ⟨⟨rfl, rfl⟩, rfl⟩ := hr
    rw [if_pos hq]
    exact ⟨0, wc, #[], by simp, rfl, hW, Later.refl _ _ _⟩
  · rename_i hq
    rw [if_neg hq] at hD hZ ⊢
    simp only [Prod.mk.injEq, Result.ok.injEq] at hr
    obtain ⟨⟨rfl, rfl⟩, rfl⟩ := hr
    have ht := hF.tape 0 q (by simp [resW] at hD; omega)
    simp only [Nat.add_zero] at ht
    have k := Later.refl f wl wc
    refine ⟨q.cut (wc.tape wc.drawn q), { wc with drawn := wc.drawn + 1 }, #[], by rw [Array.append_empty], by rw [ht], ⟨hW.cells, hW.nums, hW.plain, hW.dd, hW.live, hW.inj, hW.lt⟩, by show wl.drawn + 1 + wc.drawn = wl.drawn + (wc.drawn + 1); omega, Nat.le_succ _, k.z, k.zle, rfl, rfl, rfl, rfl, rfl, rfl, k.keep, k.back, fun _ _ _ => rfl, fun e he => by simp at he⟩
theorem Sm.noRoom : Sm P Dd f (fun _ _ => True) (Go.mark .noRoom) (Go.mark .noRoom) := by
  intro wl wc D Z el ec hW hF hD hZ a' wl' el' hr
  replace hr : ((Result.ok () wl : Result Unit), el.push ⟨.mark .noRoom, false, true⟩) = (.ok a' wl', el') := hr
  simp only [Prod.mk.injEq, Result.ok.injEq] at hr
  obtain ⟨⟨-, rfl⟩, rfl⟩ := hr
  have k := Later.refl f wl wc
  refine ⟨(), wc, #[⟨.mark .noRoom, false, true⟩], ?_, trivial, hW, k.d, k.dle, k.z, k.zle, rfl, rfl, rfl, rfl, rfl, rfl, k.keep, k.back, k.out, fun e he => ?_⟩
  · rfl
  · simp at he; exact Or.inr (Or.inl he)
theorem Sm.askRoom {n : Nat} : Sm P Dd f (fun _ _ => True) (Go.askRoom n) (Go.askRoom n) := by
  unfold Go.askRoom
  exact Sm.ite (fun _ => Sm.noRoom) (fun _ => Sm.pure trivial)
end
end Go.Proofs.Ytdjnnhdeijnhgab.Rn

/-
  Blocks renamed: the operations that these programs are made of.
-/
namespace Go.Proofs.Ytdjnnhdeijnhgab.Rn
open Go
set_option linter.all false

/-- A value that names no block. -/
def Shut (f : Nat → Nat) (v : Value) : Prop := rV f v = v
/-- The program's own values: no zero value names a block. -/
def Closed (P : Program) (f : Nat → Nat) : Prop := ∀ t i z, P.info? t = some i → i.zero = some z → Shut f z
section
variable {P : Program} {Dd : Nat → Prop} {f : Nat → Nat}
abbrev RV (f : Nat → Nat) : Value → Value → Prop := fun v v' => v' = rV f v
abbrev RVs (f : Nat → Nat) : Array Value → Array Value → Prop := fun v v' => v' = v.map (rV f)
theorem sm_underlying (t : TypeId) : Sm P Dd f Eq (underlying t) (underlying t) := by
  unfold underlying
  refine Sm.bind Sm.program ?_
  rintro a b ⟨rfl, rfl⟩
  cases b.underlying t with
  | none => exact Sm.stuck
  | some d => exact Sm.pure rfl
theorem sm_typeInfo (t : TypeId) : Sm P Dd f (fun i i' => i' = i ∧ P.info? t = some i) (typeInfo t) (typeInfo t) := by
  unfold typeInfo
  refine Sm.bind Sm.program ?_
  rintro a b ⟨rfl, rfl⟩
  cases h : b.info? t with
  | none => exact Sm.stuck
  | some d => exact Sm.pure ⟨rfl, rfl⟩
theorem sm_zero (hC : Closed P f) (t : TypeId) : Sm P Dd f (RV f) (zeroValue t) (zeroValue t) := by
  unfold zeroValue
  refine Sm.bind (sm_typeInfo t) ?_
  rintro a b ⟨rfl, h⟩
  cases hz : b.zero with
  | none => exact Sm.unsupported
  | some z => exact Sm.pure (hC t b z h hz).symm
theorem sm_sizeOf (t : TypeId) : Sm P Dd f Eq (Go.sizeOf t) (Go.sizeOf t) := by
  unfold Go.sizeOf
  refine Sm.bind (sm_typeInfo t) ?_
  rintro a b ⟨rfl, h⟩
  exact Sm.pure rfl
theorem sm_isAgg (t : TypeId) : Sm P Dd f Eq (isAgg t) (isAgg t) := by
  unfold isAgg
  refine Sm.bind (sm_underlying t) ?_
  rintro a b rfl
  split <;> exact Sm.pure rfl
theorem sm_loadCellsFrom (a : Addr) : ∀ (n i : Nat) (acc : Array Value), Sm P Dd f (RVs f) (loadCellsFrom a i n acc) (loadCellsFrom (rA f a) i n (acc.map (rV f))) := by
  intro n
  induction n with
  | zero => intro i acc; exact Sm.pure rfl
  | succ n ih =>
    intro i acc
    unfold loadCellsFrom
    rw [← rA_add]
    refine Sm.bind Sm.load ?_
    rintro v v' rfl
    have := ih (i + 1) (acc.push v)
    rw [Array.map_push] at this
    exact this
theorem sm_loadCells (a : Addr) (n : Nat) : Sm P Dd f (RVs f) (loadCells a n) (loadCells (rA f a) n) := by
  have := sm_loadCellsFrom (P := P) (Dd := Dd) (f := f) a n 0 #[]
  unfold loadCells
  simpa using this
theorem sm_storeCells (a : Addr) : ∀ (vs : List Value) (i : Nat), Sm P Dd f (fun _ _ => True) (storeCells a vs i) (storeCells (rA f a) (vs.map (rV f)) i) := by
  intro vs
  induction vs with
  | nil => intro i; exact Sm.pure trivial
  | cons v vs ih =>
    intro i
    show Sm P Dd f _ (do Go.store (a.add i) v; storeCells a vs (i + 1)) (do Go.store ((rA f a).add i) (rV f v); storeCells (rA f a) (vs.map (rV f)) (i + 1))
    rw [← rA_add]
    exact Sm.bind Sm.store (fun _ _ _ => ih (i + 1))
theorem sm_loadVar (t : TypeId) (a : Addr) : Sm P Dd f (RV f) (loadVar t a) (loadVar t (rA f a)) := by
  unfold loadVar
  refine Sm.bind (sm_isAgg t) ?_
  rintro b _ rfl
  cases b with
  | false => exact Sm.load
  | true =>
    refine Sm.bind (sm_sizeOf t) ?_
    rintro n _ rfl
    refine Sm.bind (sm_loadCells a n) ?_
    rintro cs _ rfl
    exact Sm.pure (rV_agg f cs).symm
theorem sm_storeVar (t : TypeId) (a : Addr) (v : Value) : Sm P Dd f (fun _ _ => True) (storeVar t a v) (storeVar t (rA f a) (rV f v)) := by
  unfold storeVar
  refine Sm.bind (sm_sizeOf t) ?_
  rintro n _ rfl
  rw [rV_cells, Array.size_map]
  have h : Sm P Dd f (fun _ _ => True) (storeCells a v.cells.toList 0) (storeCells (rA f a) (v.cells.map (rV f)).toList 0) := by
    rw [Array.toList_map]; exact sm_storeCells a _ 0
  exact Sm.ite (fun _ => Sm.bind (Rr := fun _ _ => True) Sm.stuck (fun _ _ _ => h)) (fun _ => h)
theorem sm_newVar (t : TypeId) (v : Value) : Sm P Dd f (fun a b => b = rA f a) (newVar t v) (newVar t (rV f v)) := by
  unfold newVar
  rw [rV_cells]
  exact Sm.newRow
theorem sm_alloc (hC : Closed P f) (t : TypeId) : Sm P Dd f (RV f) (Instr.alloc t true (.tuple #[])) (Instr.alloc t true (.tuple #[])) := by
  unfold Instr.alloc
  refine Sm.bind (sm_zero hC t) ?_
  rintro z _ rfl
  refine Sm.bind (sm_newVar t z) ?_
  rintro a _ rfl
  exact Sm.pure (rV_p f a).symm
theorem sm_box (t : TypeId) (v : Value) : Sm P Dd f (RV f) (Instr.box t v) (Instr.box t (rV f v)) := by
  unfold Instr.box
  refine Sm.bind (sm_newVar t v) ?_
  rintro a _ rfl
  exact Sm.pure (rV_p f a).symm
theorem fold_ren (off : Nat) : ∀ (l : List (Value × Nat)) (cs : Array Value), (l.map fun p => (rV f p.1, p.2)).foldl (fun cs p => cs.setIfInBounds (off + p.2) p.1) (cs.map (rV f)) = (l.foldl (fun cs p => cs.setIfInBounds (off + p.2) p.1) cs).map (rV f) := by
  intro l
  induction l with
  | nil => intro cs; rfl
  | cons p l ih =>
    intro cs
    simp only [List.map_cons, List.foldl_cons]
    rw [← map_setIf]
    exact ih _
theorem fill_ren (place : Nat → Option (Nat × Nat)) : ∀ (parts : List (Nat × Value)) (cs : Array Value), Instr.fill place (cs.map (rV f)) (parts.map fun p => (p.1, rV f p.2)) = (Instr.fill place cs parts).map (fun a => a.map (rV f)) := by
  intro parts
  induction parts with
  | nil => intro cs; rfl
  | cons p parts ih =>
    intro cs
    obtain ⟨i, v⟩ := p
    simp only [List.map_cons, Instr.fill]
    cases hp : place i with
    | none => rfl
    | some q =>
      obtain ⟨off, size⟩ := q
      simp only [rV_cells, Array.size_map]
      split
      · rfl
      · have e : (Array.map (rV f) v.cells).zipIdx = v.cells.zipIdx.map (fun p => (rV f p.1, p.2)) := by
          rw [Array.zipIdx_map]; rfl
        rw [e, ← Array.foldl_toList, Array.toList_map]
        have := fold_ren (f := f) off v.cells.zipIdx.toList cs
        rw [this, ih, Array.foldl_toList]
theorem zeros_ren (zero : Array Value) (n : Nat) (hz : zero.map (rV f) = zero) : ((Array.range n).map (zero[· % zero.size]!)).map (rV f) = (Array.range n).map (zero[· % zero.size]!) := by
  rw [Array.map_map]
  apply Array.ext_getElem?
  intro j
  simp only [Array.getElem?_map]
  cases (Array.range n)[j]? with
  | none => rfl
  | some i =>
    simp only [Option.map_some, Function.comp]
    congr 1
    rcases Nat.eq_zero_or_pos zero.size with h0 | h0
    · obtain rfl := Array.eq_empty_of_size_eq_zero h0
      show rV f (default : Value) = default
      exact rV_bool f default
    · have hlt : i % zero.size < zero.size := Nat.mod_lt _ h0
      rw [getElem!_pos zero _ hlt]
      have e : (zero.map (rV f))[i % zero.size]? = zero[i % zero.size]? := by rw [hz]
      rw [Array.getElem?_map, Array.getElem?_eq_getElem hlt] at e
      simpa using e
theorem shut_cells {z : Value} (h : rV f z = z) : z.cells.map (rV f) = z.cells := by rw [← rV_cells, h]
abbrev RP (f : Nat → Nat) (parts : Array (Nat × Value)) : Array (Nat × Value) := parts.map fun p => (p.1, rV f p.2)
theorem sm_build (hC : Closed P f) (t : TypeId) (parts : Array (Nat × Value)) : Sm P Dd f (RV f) (Instr.build t parts) (Instr.build t (RP f parts)) := by
  unfold Instr.build
  refine Sm.bind (sm_zero hC t) ?_
  rintro z z' rfl
  refine Sm.bind (sm_underlying t) ?_
  rintro d _ rfl
  cases d with
  | struct fields =>
    have hp : Sm P Dd f Eq (fields.mapM fun x => do pure (x.offset, ← Go.sizeOf x.type)) (fields.mapM fun x => do pure (x.offset, ← Go.sizeOf x.type)) := by
      rw [Array.mapM_eq_mapM_toList]
      refine Sm.bind (Rr := Eq) ?_ (fun a b e => by subst e; exact Sm.pure rfl)
      generalize fields.toList = l
      induction l with
      | nil => exact Sm.pure rfl
      | cons x l ih =>
        rw [List.mapM_cons]
        refine Sm.bind (Rr := Eq) (Sm.bind (sm_sizeOf x.type) (fun a b e => by subst e; exact Sm.pure rfl)) ?_
        rintro a _ rfl
        refine Sm.bind ih ?_
        rintro b _ rfl
        exact Sm.pure rfl
    refine Sm.bind hp ?_
    rintro places _ rfl
    rw [rV_cells, Array.toList_map, fill_ren]
    cases Instr.fill (fun x => places[x]?) z.cells parts.toList with
    | none => exact Sm.stuck
    | some cs => exact Sm.pure (rV_agg f cs).symm
  | array n e =>
    refine Sm.bind (sm_sizeOf e) ?_
    rintro size _ rfl
    rw [rV_cells, Array.toList_map, fill_ren]
    cases Instr.fill (fun i => some (i * size, size)) z.cells parts.toList with
    | none => exact Sm.stuck
    | some cs => exact Sm.pure (rV_agg f cs).symm
  | _ => exact Sm.stuck
theorem sm_zeroS (hC : Closed P f) (e : TypeId) : Sm P Dd f (fun a b => b = a ∧ rV f a = a) (zeroValue e) (zeroValue e) := by
  unfold zeroValue
  refine Sm.bind (sm_typeInfo e) ?_
  rintro a b ⟨rfl, h⟩
  cases hz : b.zero with
  | none => exact Sm.unsupported
  | some z => exact Sm.pure ⟨rfl, hC e b z h hz⟩
theorem sm_buildSlice (hC : Closed P f) (t : TypeId) (len : Nat) (parts : Array (Nat × Value)) : Sm P Dd f (RV f) (Instr.buildSlice t len parts) (Instr.buildSlice t len (RP f parts)) := by
  unfold Instr.buildSlice
  refine Sm.bind (sm_underlying t) ?_
  rintro d _ rfl
  cases d with
  | slice e =>
    refine Sm.bind (sm_sizeOf e) ?_
    rintro size _ rfl
    have key : ∀ zero : Array Value, zero.map (rV f) = zero → Sm P Dd f (RV f)
        (match Instr.fill (fun i => some (i * size, size)) ((Array.range (len * size)).map (zero[· % zero.size]!)) parts.toList with
          | some cells => do pure (Value.slice (some (← newRow e cells)) len len)
          | x => stuck "buildSlice: a part of the wrong size")
        (match Instr.fill (fun i => some (i * size, size)) ((Array.range (len * size)).map (zero[· % zero.size]!)) (RP f parts).toList with
          | some cells => do pure (Value.slice (some (← newRow e cells)) len len)
          | x => stuck "buildSlice: a part of the wrong size") := by
      intro zero hz
      have e1 := zeros_ren (f := f) zero (len * size) hz
      have e2 := fill_ren (f := f) (fun i => some (i * size, size)) parts.toList ((Array.range (len * size)).map (zero[· % zero.size]!))
      rw [e1] at e2
      rw [Array.toList_map, e2]
      cases Instr.fill (fun i => some (i * size, size)) ((Array.range (len * size)).map (zero[· % zero.size]!)) parts.toList with
      | none => exact Sm.stuck
      | some cs =>
        refine Sm.bind Sm.newRow ?_
        rintro a _ rfl
        exact Sm.pure (rV_s f a len len).symm
    refine Sm.ite (fun _ => Sm.bind (Rr := fun _ _ => False) Sm.unsupported (fun _ _ h => h.elim)) (fun _ => ?_)
    refine Sm.ite (fun _ => Sm.bind (Rr := fun a b => b = a ∧ a.map (rV f) = a) (Sm.pure ⟨rfl, by simp⟩) ?_) (fun _ => ?_)
    · rintro zero _ ⟨rfl, hz⟩
      exact key _ hz
    · refine Sm.bind (sm_zeroS hC e) ?_
      rintro z _ ⟨rfl, hz⟩
      exact Sm.bind (Rr := fun a b => b = a ∧ a.map (rV f) = a) (Sm.pure ⟨rfl, shut_cells hz⟩) (fun a b h => by obtain ⟨rfl, hz⟩ := h; exact key _ hz)
  | _ => exact Sm.stuck
theorem sm_sureAddr (v : Value) : Sm P Dd f (fun a b => b = rA f a) (Instr.sureAddr v) (Instr.sureAddr (rV f v)) := by
  cases v with
  | pointer a =>
    cases a with
    | none => exact Sm.stuck
    | some a => rw [rV_p]; exact Sm.pure rfl
  | _ => exact Sm.stuck
theorem sm_loadAt (t : TypeId) (v : Value) : Sm P Dd f (RV f) (Instr.loadAt t v) (Instr.loadAt t (rV f v)) := by
  unfold Instr.loadAt
  refine Sm.bind (sm_sureAddr v) ?_
  rintro a _ rfl
  exact sm_loadVar t a
theorem sm_storeAt (t : TypeId) (v x : Value) : Sm P Dd f (fun _ _ => True) (Instr.storeAt t v x) (Instr.storeAt t (rV f v) (rV f x)) := by
  unfold Instr.storeAt
  refine Sm.bind (sm_sureAddr v) ?_
  rintro a _ rfl
  exact sm_storeVar t a x
theorem sm_asIntOf (v : Value) : Sm P Dd f Eq (asIntOf v) (asIntOf (rV f v)) := by
  cases v with
  | int k n => rw [rV_int]; exact Sm.pure rfl
  | pointer a =>
    cases a with
    | none => exact Sm.stuck
    | some a => exact Sm.unsupported
  | _ => exact Sm.stuck
theorem sm_asInt (v : Value) : Sm P Dd f Eq (asInt v) (asInt (rV f v)) := by
  unfold asInt
  refine Sm.bind (sm_asIntOf v) ?_
  rintro a _ rfl
  exact Sm.pure rfl
theorem sm_asBool (v : Value) : Sm P Dd f Eq (asBool v) (asBool (rV f v)) := by
  cases v with
  | bool b => rw [rV_bool]; exact Sm.pure rfl
  | _ => exact Sm.stuck
/-- It never comes to an end of its own. -/
def Never (P : Program) {α : Type} (s : Sem α) : Prop := ∀ w es a w' es', s.runT P w es ≠ (.ok a w', es')
theorem Never.halt {α : Type} {h : Halt} : Never P (Sem.halt h : Sem α) := fun w es a w' es' e => by
  have h2 : (Result.halt h w : Result α) = .ok a w' := congrArg Prod.fst e
  cases h2
theorem Never.bind {α β : Type} {s : Sem α} {k : α → Sem β} (h : ∀ a, Never P (k a)) : Never P (s >>= k) := fun w es a w' es' e => by
  replace e : (Sem.bind s k).runT P w es = (.ok a w', es') := e
  rw [Sem.runT_bind'] at e
  generalize s.runT P w es = r at e
  obtain ⟨r, e1⟩ := r
  cases r with
  | ok b w1 => exact h b _ _ _ _ _ e
  | halt x w1 => simp at e
theorem Sm.never {α β : Type} {Rr : α → β → Prop} {s : Sem α} {s' : Sem β} (h : Never P s) : Sm P Dd f Rr s s' := fun wl wc D Z el ec _ _ _ _ a' wl' el' hr => absurd hr (h _ _ _ _ _)
theorem never_runtimePanic {α : Type} (e : RuntimeError) : Never P (runtimePanic e : Sem α) := by
  unfold runtimePanic
  refine Never.bind fun p => ?_
  cases e with
  | typeAssertion i c a m => exact Never.bind fun _ => Never.bind fun _ => Never.halt
  | panicNil => exact Never.bind fun _ => Never.bind fun _ => Never.halt
  | _ => exact Never.halt
theorem never_boundsPanic {α : Type} (k : IntKind) (x y : Int) (c : BoundsCode) : Never P (boundsPanic k x y c : Sem α) := by
  unfold boundsPanic
  split
  · exact Never.bind fun _ => never_runtimePanic _
  · exact Never.bind fun _ => never_runtimePanic _
end
end Go.Proofs.Ytdjnnhdeijnhgab.Rn

/-
  Blocks renamed: addresses, rows, calls.
-/
namespace Go.Proofs.Ytdjnnhdeijnhgab.Rn
open Go
set_option linter.all false

section
variable {P : Program} {Dd : Nat → Prop} {f : Nat → Nat}
/-- A field that takes room. -/
def Roomy (P : Program) (s : TypeId) (i : Nat) : Prop := ∃ fields fd inf, P.underlying s = some (.struct fields) ∧ fields[i]? = some fd ∧ P.info? fd.type = some inf ∧ inf.size ≠ 0
theorem sm_underlying' (t : TypeId) : Sm P Dd f (fun a b => b = a ∧ P.underlying t = some a) (underlying t) (underlying t) := by
  unfold underlying
  refine Sm.bind Sm.program ?_
  rintro a b ⟨rfl, rfl⟩
  cases h : b.underlying t with
  | none => exact Sm.stuck
  | some d => exact Sm.pure ⟨rfl, rfl⟩
theorem sm_sizeOf' (t : TypeId) : Sm P Dd f (fun a b => b = a ∧ ∃ i, P.info? t = some i ∧ i.size = a) (Go.sizeOf t) (Go.sizeOf t) := by
  unfold Go.sizeOf
  refine Sm.bind (sm_typeInfo t) ?_
  rintro a b ⟨rfl, h⟩
  exact Sm.pure ⟨rfl, b, h, rfl⟩
theorem sm_fieldAt (s : TypeId) (v : Value) (i : Nat) (hR : Roomy P s i) : Sm P Dd f (RV f) (Instr.fieldAt s v i) (Instr.fieldAt s (rV f v) i) := by
  obtain ⟨fields, fd, inf, h1, h2, h3, h4⟩ := hR
  unfold Instr.fieldAt
  refine Sm.bind (sm_underlying' s) ?_
  rintro d _ ⟨rfl, hd⟩
  rw [h1] at hd
  cases hd
  simp only [h2]
  refine Sm.bind (sm_sureAddr v) ?_
  rintro a _ rfl
  refine Sm.bind (Rr := fun a b => b = rA f a) ?_ ?_
  · unfold fieldPlace
    refine Sm.bind (sm_sizeOf' fd.type) ?_
    rintro n _ ⟨rfl, i2, h5, h6⟩
    rw [h3] at h5
    cases h5
    rw [if_neg (by omega), if_neg (by omega)]
    exact Sm.pure (rA_add f a _).symm
  · rintro a _ rfl
    exact Sm.pure (rV_p f a).symm
theorem sm_extract (v : Value) (i : Nat) : Sm P Dd f (RV f) (Instr.extract v i) (Instr.extract (rV f v) i) := by
  unfold Instr.extract
  cases v with
  | tuple vs =>
    rw [rV_tuple]
    simp only [Array.getElem?_map]
    cases vs[i]? with
    | none => exact Sm.stuck
    | some x => exact Sm.pure rfl
  | _ => exact Sm.stuck
theorem sm_indexAt (t : TypeId) (x ix : Value) (hs : ∃ e, P.underlying t = some (.slice e)) : Sm P Dd f (RV f) (Instr.indexAt t x ix) (Instr.indexAt t (rV f x) (rV f ix)) := by
  obtain ⟨e, he⟩ := hs
  unfold Instr.indexAt
  refine Sm.bind (sm_asIntOf ix) ?_
  rintro p _ rfl
  obtain ⟨k, i⟩ := p
  simp only
  refine Sm.bind (sm_underlying' t) ?_
  rintro d _ ⟨rfl, hd⟩
  rw [he] at hd
  cases hd
  have nev : ∀ {α β : Type} {s : Sem α} {k : α → Sem β}, Never P s → Never P (s >>= k) := fun {α β s k} h w es a w' es' e => by
    replace e : (Sem.bind s k).runT P w es = (.ok a w', es') := e
    rw [Sem.runT_bind'] at e
    cases hs : s.runT P w es with
    | mk r e1 =>
      rw [hs] at e
      cases r with
      | ok b w1 => exact h _ _ _ _ _ hs
      | halt x w1 => simp at e
  cases x with
  | slice base len cap =>
    have key : ∀ base' : Option Addr, (base = none ∧ base' = none ∨ ∃ a, base = some a ∧ base' = some (rA f a)) → Sm P Dd f (RV f)
        (do
          let __x ← pure (base, len, e)
          let d ← underlying t
          match __x.fst with
            | some a => if 0 ≤ i ∧ i < (__x.2.fst : Int) then (do pure (Value.pointer (some (a.add (i.toNat * (← Go.sizeOf __x.2.snd)))))) else if (decide (__x.2.fst ≤ 1) && (match d with | TypeDesc.array _ _ => true | _ => false)) = true then unsupported (Unsupported.noEntry "op/indexAddr.an index out of range at an array of length 0 or 1 (ledger 616)") else boundsPanic k i (__x.2.fst : Int) BoundsCode.index
            | none => boundsPanic k i 0 BoundsCode.index)
        (do
          let __x ← pure (base', len, e)
          let d ← underlying t
          match __x.fst with
            | some a => if 0 ≤ i ∧ i < (__x.2.fst : Int) then (do pure (Value.pointer (some (a.add (i.toNat * (← Go.sizeOf __x.2.snd)))))) else if (decide (__x.2.fst ≤ 1) && (match d with | TypeDesc.array _ _ => true | _ => false)) = true then unsupported (Unsupported.noEntry "op/indexAddr.an index out of range at an array of length 0 or 1 (ledger 616)") else boundsPanic k i (__x.2.fst : Int) BoundsCode.index
            | none => boundsPanic k i 0 BoundsCode.index) := by
      intro base' hb
      refine Sm.bind (Rr := fun a b => a = (base, len, e) ∧ b = (base', len, e)) (Sm.pure ⟨rfl, rfl⟩) ?_
      rintro _ _ ⟨rfl, rfl⟩
      refine Sm.bind (sm_underlying t) ?_
      rintro d _ rfl
      rcases hb with ⟨rfl, rfl⟩ | ⟨a, rfl, rfl⟩
      · exact Sm.never (never_boundsPanic _ _ _ _)
      · refine Sm.ite (fun _ => ?_) (fun _ => Sm.ite (fun _ => Sm.unsupported) (fun _ => Sm.never (never_boundsPanic _ _ _ _)))
        refine Sm.bind (sm_sizeOf e) ?_
        rintro n _ rfl
        exact Sm.pure (by rw [← rA_add]; exact (rV_p f _).symm)
    cases base with
    | none => rw [rV_snil]; exact key none (Or.inl ⟨rfl, rfl⟩)
    | some a => rw [rV_s]; exact key _ (Or.inr ⟨a, rfl, rfl⟩)
  | _ => exact Sm.never (nev Never.halt)
theorem sm_len (argTypes : Array TypeId) (type : TypeId) (args : Array Value) (hs : ∃ t e, argTypes[0]? = some t ∧ P.underlying t = some (.slice e)) : Sm P Dd f (RV f) (Builtin.len_ argTypes type args) (Builtin.len_ argTypes type (args.map (rV f))) := by
  obtain ⟨t, e, ht, he⟩ := hs
  unfold Builtin.len_
  rw [ht, Array.getElem?_map]
  cases args[0]? with
  | none => exact Sm.stuck
  | some x =>
    simp only [Option.map_some]
    refine Sm.bind (sm_underlying' t) ?_
    rintro d _ ⟨rfl, hd⟩
    rw [he] at hd
    cases hd
    cases x with
    | slice base len cap => cases base <;> simp only [rV_s, rV_snil] <;> exact Sm.pure (rV_int f _ _).symm
    | _ => exact Sm.stuck
theorem Never.bindL {α β : Type} {s : Sem α} {k : α → Sem β} (h : Never P s) : Never P (s >>= k) := fun w es a w' es' e => by
  replace e : (Sem.bind s k).runT P w es = (.ok a w', es') := e
  rw [Sem.runT_bind'] at e
  cases hs : s.runT P w es with
  | mk r e1 =>
    rw [hs] at e
    cases r with
    | ok b w1 => exact h _ _ _ _ _ hs
    | halt x w1 => simp at e
/-- A number or a truth, or nothing that is compared here. -/
def Flat : Value → Bool
  | .int _ _ => true
  | .bool _ => true
  | .string _ => true
  | _ => false
theorem flat_ren {v : Value} (h : Flat v = true) : rV f v = v := by cases v <;> simp [Flat] at h <;> simp
theorem sm_unary (op : UnOp) (v : Value) : Sm P Dd f (RV f) (Op.unary op v) (Op.unary op (rV f v)) := by
  unfold Op.unary
  cases op <;> cases v <;> first
    | exact Sm.stuck
    | (simp only [rV_int, rV_bool, rV_float, rV_complex]; exact Sm.pure (by simp [RV]))
    | (simp only [rV_int]; unfold Op.intArith; exact Sm.pure (rV_int f _ _).symm)
    | (rename_i a; cases a <;> first | exact Sm.stuck | exact Sm.unsupported)
    | skip
  all_goals trace_state
  all_goals sorry
end
end Go.Proofs.Ytdjnnhdeijnhgab.Rn
