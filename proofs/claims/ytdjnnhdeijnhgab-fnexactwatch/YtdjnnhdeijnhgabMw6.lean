/-
  Blocks renamed: numbers that are addresses; operators.
-/
import Derived.Test.YtdjnnhdeijnhgabMw5
namespace Go.Proofs.Ytdjnnhdeijnhgab.Rn
open Go
set_option linter.all false

section
variable {P : Program} {Dd : Nat → Prop} {f : Nat → Nat}
theorem getObj_run (r : Nat) (w : World) (es : Array Event) : (getObj r).runT P w es = (match w.heap[r]? with
    | some (Obj.cells ..) => (.halt (.stuck "getObj: a row of cells") w, es)
    | some o => (.ok o w, es.push ⟨.obj r, false, o.isChan⟩)
    | none => (.halt (.stuck "getObj: no such block") w, es)) := by
  show (Sem.getObj r Sem.pure).runT P w es = _
  unfold Sem.runT
  cases w.heap[r]? with
  | none => rfl
  | some o => cases o <;> rfl
theorem numberAt_run (r : Nat) (w : World) (es : Array Event) : (numberAt r).runT P w es = (match w.heap[r]? with
    | some (Obj.cells ..) => (.ok none w, es)
    | some (Obj.number a l) => (.ok (some (a, l)) w, es.push ⟨.obj r, false, false⟩)
    | some o => (.ok none w, es.push ⟨.obj r, false, o.isChan⟩)
    | none => (.halt (.stuck "getObj: no such block") w, es)) := by
  have e : numberAt r = Sem.bind (shape r) (fun s => if s.isSome = true then Sem.pure none else Sem.bind (getObj r) (fun o => match o with | .number a lost => Sem.pure (some (a, lost)) | _ => Sem.pure none)) := rfl
  rw [e, Sem.runT_bind']
  have e2 : (shape r).runT P w es = (.ok (w.shape? r) w, es) := rfl
  rw [e2]
  simp only
  have e3 := getObj_run (P := P) r w es
  unfold World.shape?
  cases hr : w.heap[r]? with
  | none =>
    rw [hr] at e3
    simp only [Option.isSome_none, Bool.false_eq_true, if_false]
    rw [Sem.runT_bind', e3]
  | some o =>
    rw [hr] at e3
    cases o <;> (simp only [Option.isSome_none, Option.isSome_some, Bool.false_eq_true, if_false, if_true]) <;> first
      | rfl
      | (rw [Sem.runT_bind', e3]; rfl)
/-- What lies behind an address: itself, or what a number was made of; nothing is known of a dead block. -/
theorem sm_behind (n : Addr) : Sm P Dd f (fun x y => y = (rA f x.1, x.2) ∨ Dd x.1.block) (behindNumber n) (behindNumber (rA f n)) := by
  unfold behindNumber
  refine Sm.bind (Rr := fun x y => (Dd n.block ∧ x = none) ∨ y = x.map (fun p => (rA f p.1, p.2))) ?_ ?_
  · intro wl wc D Z el ec hW hF hD hZ a' wl' el' hr
    rw [numberAt_run] at hr
    have k := Later.refl f wl wc
    cases hb : wl.heap[n.block]? with
    | none => rw [hb] at hr; simp at hr
    | some o =>
      rw [hb] at hr
      rcases hW.plain _ _ hb with ⟨cs, e, fz, rfl⟩ | ⟨a, l, rfl⟩ | rfl
      · simp only [Prod.mk.injEq, Result.ok.injEq] at hr
        obtain ⟨⟨rfl, rfl⟩, rfl⟩ := hr
        have hc := hW.cells _ _ _ _ hb
        refine ⟨none, wc, #[], ?_, Or.inr rfl, hW, k⟩
        have hc' : wc.heap[(rA f n).block]? = _ := hc
        rw [numberAt_run, hc']
        simp
      · simp only [Prod.mk.injEq, Result.ok.injEq] at hr
        obtain ⟨⟨rfl, rfl⟩, rfl⟩ := hr
        have hc := hW.nums _ _ _ hb
        refine ⟨some (rA f a, l), wc, #[⟨.obj (f n.block), false, false⟩], ?_, Or.inr rfl, hW, k.d, k.dle, k.z, k.zle, rfl, rfl, rfl, rfl, rfl, rfl, k.keep, k.back, k.out, fun e he => ?_⟩
        · have hc' : wc.heap[(rA f n).block]? = _ := hc
          rw [numberAt_run, hc']
          rfl
        · simp at he
          subst he
          exact Or.inr (Or.inr ⟨_, _, rfl, (Array.getElem?_eq_some_iff.1 hb).1⟩)
      · have hd := hW.live _ hb
        have hlt := (Array.getElem?_eq_some_iff.1 hb).1
        have hl := hW.lt _ hlt
        have hq : (match some Dead with
          | some (Obj.cells ..) => ((Result.ok none wl : Result (Option (Addr × Bool))), el)
          | some (Obj.number a l) => (.ok (some (a, l)) wl, el.push ⟨.obj n.block, false, false⟩)
          | some o => (.ok none wl, el.push ⟨.obj n.block, false, o.isChan⟩)
          | none => (.halt (.stuck "getObj: no such block") wl, el)) = (.ok none wl, el.push ⟨.obj n.block, false, Dead.isChan⟩) := rfl
        rw [hq] at hr
        simp only [Prod.mk.injEq, Result.ok.injEq] at hr
        obtain ⟨⟨rfl, rfl⟩, rfl⟩ := hr
        have hev : ∀ s, ∀ e ∈ (#[⟨.obj (f n.block), false, s⟩] : Array Event), EvOk f wl e := fun s e he => by
          simp at he
          subst he
          exact Or.inr (Or.inr ⟨_, _, rfl, hlt⟩)
        have lat : ∀ s, Later f wl wc wl wc #[⟨.obj (f n.block), false, s⟩] := fun s => ⟨k.d, k.dle, k.z, k.zle, rfl, rfl, rfl, rfl, rfl, rfl, k.keep, k.back, k.out, hev s⟩
        have hg : wc.heap[(rA f n).block]? = some (wc.heap[f n.block]'hl) := Array.getElem?_eq_getElem hl
        have hrun := numberAt_run (P := P) (rA f n).block wc ec
        rw [hg] at hrun
        cases ho : wc.heap[f n.block]'hl with
        | cells cs e fz =>
          rw [ho] at hrun
          exact ⟨none, wc, #[], by rw [hrun]; simp, Or.inl ⟨hd, rfl⟩, hW, k⟩
        | number a l =>
          rw [ho] at hrun
          exact ⟨some (a, l), wc, #[⟨.obj (f n.block), false, false⟩], by rw [hrun]; rfl, Or.inl ⟨hd, rfl⟩, hW, lat false⟩
        | _ =>
          rw [ho] at hrun
          exact ⟨none, wc, #[⟨.obj (f n.block), false, _⟩], by rw [hrun]; rfl, Or.inl ⟨hd, rfl⟩, hW, lat _⟩
  · rintro x y (⟨hd, rfl⟩ | rfl)
    · exact Sm.pure (Or.inr hd)
    · cases x with
      | none => exact Sm.pure (Or.inl rfl)
      | some p => exact Sm.pure (Or.inl rfl)
/-- Nothing comes of a dead block. -/
theorem Sm.dd {α β : Type} {Rr : α → β → Prop} {s : Sem α} {s' : Sem β} {b : Nat} (hb : Dd b) (h : ∀ w es a w' es', w.heap[b]? = some Dead → s.runT P w es ≠ (.ok a w', es')) : Sm P Dd f Rr s s' :=
  fun wl wc D Z el ec hW _ _ _ a' wl' el' hr => absurd hr (h _ _ _ _ _ (hW.dd b hb))
theorem viewAt_run (r : Nat) (w : World) (es : Array Event) : (viewAt r).runT P w es = (match w.heap[r]? with
    | some (Obj.cells ..) => (.ok none w, es)
    | some (Obj.view a t) => (.ok (some (a, t)) w, es.push ⟨.obj r, false, false⟩)
    | some o => (.ok none w, es.push ⟨.obj r, false, o.isChan⟩)
    | none => (.halt (.stuck "getObj: no such block") w, es)) := by
  have e : viewAt r = Sem.bind (shape r) (fun s => if s.isSome = true then Sem.pure none else Sem.bind (getObj r) (fun o => match o with | .view a t => Sem.pure (some (a, t)) | _ => Sem.pure none)) := rfl
  rw [e, Sem.runT_bind']
  have e2 : (shape r).runT P w es = (.ok (w.shape? r) w, es) := rfl
  rw [e2]
  simp only
  have e3 := getObj_run (P := P) r w es
  unfold World.shape?
  cases hr : w.heap[r]? with
  | none =>
    rw [hr] at e3
    simp only [Option.isSome_none, Bool.false_eq_true, if_false]
    rw [Sem.runT_bind', e3]
  | some o =>
    rw [hr] at e3
    cases o <;> (simp only [Option.isSome_none, Option.isSome_some, Bool.false_eq_true, if_false, if_true]) <;> first
      | rfl
      | (rw [Sem.runT_bind', e3]; rfl)
/-- What a word does where a block is a row of cells. -/
theorem Sm.onCells {α β : Type} {Rr : α → β → Prop} {s : Sem α} {s' : Sem β} (b : Nat)
    (hno : ∀ w es a w' es', ¬ IsC w b → s.runT P w es ≠ (.ok a w', es'))
    (hyes : ∀ (e : TypeId) (n : Nat), ∃ x : Except Halt α, ∃ y : Except Halt β, (∀ w es, w.shape? b = some (e, n) → s.runT P w es = (match x with | .ok a => (.ok a w, es) | .error h => (.halt h w, es))) ∧ (∀ w es, w.shape? (f b) = some (e, n) → s'.runT P w es = (match y with | .ok a => (.ok a w, es) | .error h => (.halt h w, es))) ∧ ∀ a, x = .ok a → ∃ a', y = .ok a' ∧ Rr a a') : Sm P Dd f Rr s s' := by
  intro wl wc D Z el ec hW hF hD hZ a' wl' el' hr
  by_cases hc : IsC wl b
  · obtain ⟨cs, e, fz, hb⟩ := hc
    have hs : wl.shape? b = some (e, cs.size) := by unfold World.shape?; rw [hb]
    obtain ⟨x, y, h1, h2, h3⟩ := hyes e cs.size
    rw [h1 _ _ hs] at hr
    cases x with
    | error h => simp at hr
    | ok a =>
      simp only [Prod.mk.injEq, Result.ok.injEq] at hr
      obtain ⟨⟨rfl, rfl⟩, rfl⟩ := hr
      obtain ⟨a', hy, hR⟩ := h3 a rfl
      refine ⟨a', wc, #[], ?_, hR, hW, Later.refl _ _ _⟩
      rw [h2 _ _ (hW.shape hs), hy]
      simp
  · exact absurd hr (hno _ _ _ _ _ hc)
theorem isC_shape {w : World} {b : Nat} : (w.shape? b).isSome = true ↔ IsC w b := by
  unfold World.shape? IsC
  cases w.heap[b]? with
  | none => simp
  | some o => cases o <;> simp
theorem viewAt_cells {w : World} {b : Nat} {es : Array Event} {x : TypeId × Nat} (h : w.shape? b = some x) : (viewAt b).runT P w es = (.ok none w, es) := by
  rw [viewAt_run]
  obtain ⟨cs, e, fz, hb⟩ := isC_shape.1 (by rw [h]; rfl)
  rw [hb]
def byteP (P : Program) (e : TypeId) (off : Nat) : Except Halt Nat :=
  if P.cellsOf e = 0 then .ok 0 else match byteOfCell P P.depth e (off % P.cellsOf e) with
    | some b => .ok (off / P.cellsOf e * P.bytesOf e + b)
    | none => .error (.stuck "byteOf: no such cell")
theorem runT_bm {α β : Type} (x : Sem α) (k : α → Sem β) (w : World) (es : Array Event) : (x >>= k).runT P w es = match x.runT P w es with
      | (.ok a w', es') => (k a).runT P w' es'
      | (.halt h w', es') => (.halt h w', es') := Sem.runT_bind' P x k w es
theorem noView_cells {a : Addr} {w : World} {es : Array Event} {x : TypeId × Nat} (h : w.shape? a.block = some x) : (noView a).runT P w es = (.ok () w, es) := by
  unfold noView
  rw [runT_bm, viewAt_cells h]
  rfl
theorem noView_world {a : Addr} {w w' : World} {es es' : Array Event} {u : Unit} (h : (noView a).runT P w es = (.ok u w', es')) : w' = w := by
  unfold noView at h
  rw [runT_bm, viewAt_run] at h
  have key : ∀ (v : Option (Addr × TypeId)) (es2 : Array Event), (if v.isSome = true then (Go.unsupported (.unsafePointer "memory seen as another type") : Sem Unit) else Pure.pure ()).runT P w es2 = (.ok u w', es') → w' = w := by
    intro v es2 hq
    cases v with
    | none =>
      have hq2 : ((Result.ok () w : Result Unit), es2) = _ := hq
      simp only [Prod.mk.injEq, Result.ok.injEq] at hq2
      exact hq2.1.2.symm
    | some y => cases (congrArg Prod.fst hq : (Result.halt _ _ : Result Unit) = _)
  cases hb : w.heap[a.block]? with
  | none => rw [hb] at h; cases (congrArg Prod.fst h : (Result.halt _ _ : Result Unit) = _)
  | some o => rw [hb] at h; cases o <;> exact key _ _ h
theorem byteOf_cells {a : Addr} {w : World} {es : Array Event} {e : TypeId} {n : Nat} (hs : a.spot = none) (h : w.shape? a.block = some (e, n)) : (byteOf a).runT P w es = (match byteP P e a.off with | .ok b => (.ok b w, es) | .error h => (.halt h w, es)) := by
  unfold byteOf
  rw [hs]
  have e0 : Go.program.runT P w es = (.ok P w, es) := rfl
  have e2 : (shape a.block).runT P w es = (.ok (w.shape? a.block) w, es) := rfl
  rw [runT_bm, e0]
  simp only
  rw [runT_bm, noView_cells h]
  simp only
  rw [runT_bm, e2, h]
  unfold byteP
  simp only
  split
  · rfl
  · cases byteOfCell P P.depth e (a.off % P.cellsOf e) <;> rfl
theorem byteOf_none {a : Addr} {w : World} {es es' : Array Event} {x : Nat} {w' : World} (hs : a.spot = none) (h : ¬ IsC w a.block) : (byteOf a).runT P w es ≠ (.ok x w', es') := by
  have hsh : w.shape? a.block = none := by
    cases q : w.shape? a.block with
    | none => rfl
    | some y => exact absurd (isC_shape.1 (by rw [q]; rfl)) h
  unfold byteOf
  rw [hs]
  have e0 : Go.program.runT P w es = (.ok P w, es) := rfl
  rw [runT_bm, e0]
  simp only
  rw [runT_bm]
  cases hq : (noView a).runT P w es with
  | mk r es2 =>
    cases r with
    | halt y w2 => intro e; cases (congrArg Prod.fst e : (Result.halt _ _ : Result Nat) = _)
    | ok u w2 =>
      obtain rfl := noView_world hq
      have e2 : (shape a.block).runT P w2 es2 = (.ok (w2.shape? a.block) w2, es2) := rfl
      simp only
      rw [runT_bm, e2, hsh]
      intro e; cases (congrArg Prod.fst e : (Result.halt _ _ : Result Nat) = _)
theorem sm_byteOf (a : Addr) : Sm P Dd f Eq (byteOf a) (byteOf (rA f a)) := by
  cases hs : a.spot with
  | some s =>
    have h : ∀ b : Addr, b.spot = some s → byteOf b = Sem.pure s := fun b hb => by unfold byteOf; rw [hb]; rfl
    rw [h a hs, h (rA f a) hs]
    exact Sm.pure rfl
  | none =>
    refine Sm.onCells a.block (fun w es x w' es' h => byteOf_none hs h) (fun e n => ⟨byteP P e a.off, byteP P e a.off, (fun w es h => ?_), (fun w es h => ?_), fun x hx => ⟨x, hx, rfl⟩⟩)
    · rw [byteOf_cells hs h]; cases byteP P e a.off <;> rfl
    · rw [byteOf_cells (a := rA f a) hs h]
      show (match byteP P e a.off with | .ok b => ((Result.ok b w : Result Nat), es) | .error h => (.halt h w, es)) = _
      cases byteP P e a.off <;> rfl
end
end Go.Proofs.Ytdjnnhdeijnhgab.Rn

/-
  Blocks renamed: operators.
-/
namespace Go.Proofs.Ytdjnnhdeijnhgab.Rn
open Go
set_option linter.all false

/-- What stays as it is: the package's variables; no dead block among them. -/
structure Fix (P : Program) (Dd : Nat → Prop) (f : Nat → Nat) : Prop where
  id : ∀ b, b < P.globals.size → f b = b
  dd : ∀ b, Dd b → P.globals.size ≤ b
section
variable {P : Program} {Dd : Nat → Prop} {f : Nat → Nat}
abbrev RB (Dd : Nat → Prop) (f : Nat → Nat) : Addr → Addr → Prop := fun a a' => a' = rA f a ∨ Dd a.block
theorem never_bindL {α β : Type} {s : Sem α} {k : α → Sem β} (h : Never P s) : Never P (s >>= k) := Never.bindL h
theorem sm_twoPlaces (hX : Fix P Dd f) {a b a' b' : Addr} (ha : RB Dd f a a') (hb : RB Dd f b b') : Sm P Dd f Eq (Op.twoPlaces a b) (Op.twoPlaces a' b') := by
  by_cases hq : a.block = b.block ∧ a.block < P.globals.size
  · have h1 : a' = a := by
      rcases ha with rfl | h
      · unfold rA; rw [hX.id _ hq.2]
      · have := hX.dd _ h; omega
    have h2 : b' = b := by
      rcases hb with rfl | h
      · unfold rA; rw [hX.id _ (by omega)]
      · have := hX.dd _ h; omega
    subst h1 h2
    have ea : rA f a' = a' := by unfold rA; rw [hX.id _ hq.2]
    have eb : rA f b' = b' := by unfold rA; rw [hX.id _ (by omega)]
    unfold Op.twoPlaces
    refine Sm.bind Sm.program ?_
    rintro p q ⟨hp, hq'⟩
    rw [hp, hq']
    refine Sm.ite (fun _ => Sm.bind (Rr := fun _ _ => False) Sm.unsupported (fun _ _ h => h.elim)) (fun _ => ?_)
    have k1 := sm_byteOf (P := P) (Dd := Dd) (f := f) a'
    have k2 := sm_byteOf (P := P) (Dd := Dd) (f := f) b'
    rw [ea] at k1
    rw [eb] at k2
    refine Sm.bind k1 ?_
    rintro x _ rfl
    refine Sm.bind k2 ?_
    rintro y _ rfl
    exact Sm.pure rfl
  · refine Sm.never ?_
    unfold Op.twoPlaces
    intro w es x w' es' e
    rw [runT_bm] at e
    have e0 : Go.program.runT P w es = (.ok P w, es) := rfl
    rw [e0] at e
    simp only at e
    rw [if_pos (by
      rcases Nat.lt_or_ge a.block P.globals.size with c | c
      · have : a.block ≠ b.block := fun h => hq ⟨h, c⟩
        simp [this]
      · simp [c])] at e
    exact Never.bindL (P := P) Never.halt _ _ _ _ _ e
theorem sm_addrSub (hX : Fix P Dd f) (k : IntKind) {a b a' b' : Addr} (ha : RB Dd f a a') (hb : RB Dd f b b') : Sm P Dd f (RV f) (Op.addrSub k a b) (Op.addrSub k a' b') := by
  unfold Op.addrSub
  refine Sm.bind (sm_twoPlaces hX ha hb) ?_
  rintro x _ rfl
  exact Sm.pure (rV_int f _ _).symm
theorem sm_addrCmp (hX : Fix P Dd f) (op : BinOp) {a b a' b' : Addr} (ha : RB Dd f a a') (hb : RB Dd f b b') : Sm P Dd f (RV f) (Op.addrCmp op a b) (Op.addrCmp op a' b') := by
  unfold Op.addrCmp
  refine Sm.bind (sm_twoPlaces hX ha hb) ?_
  rintro x _ rfl
  cases op <;> first | exact Sm.pure (rV_bool f _).symm | exact Sm.unsupported
theorem not_isC_dead {w : World} {b : Nat} (h : w.heap[b]? = some Dead) : ¬ IsC w b := fun ⟨cs, e, fz, k⟩ => by rw [h] at k; cases k
theorem shape_none {w : World} {b : Nat} (h : ¬ IsC w b) : w.shape? b = none := by
  cases q : w.shape? b with
  | none => rfl
  | some y => exact absurd (isC_shape.1 (by rw [q]; rfl)) h
/-- A block's make, where it is a row of cells. -/
theorem Sm.shapeC {α β : Type} {Rr : α → β → Prop} {b b' : Nat} {k : Option (TypeId × Nat) → Sem α} {k' : Option (TypeId × Nat) → Sem β} (hb : b' = f b ∨ Dd b) (h0 : Never P (k none)) (h : ∀ x, Sm P Dd f Rr (k (some x)) (k' (some x))) : Sm P Dd f Rr (shape b >>= k) (shape b' >>= k') := by
  intro wl wc D Z el ec hW hF hD hZ a' wl' el' hr
  have e2 : ∀ (r : Nat) (w : World) (es : Array Event), (shape r).runT P w es = (.ok (w.shape? r) w, es) := fun _ _ _ => rfl
  rw [runT_bm, e2] at hr
  simp only at hr
  cases hs : wl.shape? b with
  | none => rw [hs] at hr; exact absurd hr (h0 _ _ _ _ _)
  | some x =>
    rw [hs] at hr
    have hc : IsC wl b := isC_shape.1 (by rw [hs]; rfl)
    rcases hb with rfl | hd
    · have hs' := hW.shape hs
      rw [runT_bm, e2, hs'] at hD hZ ⊢
      exact h x wl wc D Z el ec hW hF hD hZ a' wl' el' hr
    · exact absurd hc (not_isC_dead (hW.dd _ hd))
theorem sm_addrMod (k : IntKind) {a a' : Addr} (n : Int) (ha : RB Dd f a a') : Sm P Dd f (RV f) (Op.addrMod k a n) (Op.addrMod k a' n) := by
  unfold Op.addrMod
  by_cases hd : Dd a.block
  · refine Sm.dd hd fun w es y w' es' hw e => ?_
    have e2 : (shape a.block).runT P w es = (.ok (w.shape? a.block) w, es) := rfl
    rw [runT_bm, e2, shape_none (not_isC_dead hw)] at e
    cases (congrArg Prod.fst e : (Result.halt _ _ : Result Value) = _)
  · obtain rfl := ha.resolve_right hd
    refine Sm.shapeC (Or.inl rfl) Never.halt (fun x => ?_)
    refine Sm.bind (sm_typeInfo x.1) ?_
    rintro i _ ⟨rfl, -⟩
    refine Sm.ite (fun _ => Sm.bind (Rr := fun _ _ => False) Sm.unsupported (fun _ _ h => h.elim)) (fun _ => ?_)
    refine Sm.bind (sm_byteOf a) ?_
    rintro y _ rfl
    exact Sm.pure (rV_int f _ _).symm
theorem sm_asNumber (a : Addr) (l : Bool) : Sm P Dd f (RV f) (asNumber a l) (asNumber (rA f a) l) := by
  intro wl wc D Z el ec hW hF hD hZ a' wl' el' hr
  have e1 : ∀ (a : Addr) (w : World) (es : Array Event), (asNumber a l).runT P w es = (.ok (.pointer (some ⟨w.heap.size, 0, none⟩)) { w with heap := w.heap.push (Obj.number a l) }, es) := fun a w es => rfl
  rw [e1] at hr hD hZ ⊢
  simp only [Prod.mk.injEq, Result.ok.injEq] at hr
  obtain ⟨⟨rfl, rfl⟩, rfl⟩ := hr
  have hn : f wl.heap.size = wc.heap.size := by
    have := hF.new 0 (by simp [resW] at hZ; omega)
    simpa using this
  refine ⟨_, _, #[], by rw [Array.append_empty], by show _ = rV f _; rw [rV_p]; simp [rA, hn], hW.push _ _ hn (Or.inr ⟨a, l, rfl, rfl⟩), rfl, Nat.le_refl _, by simp; omega, by simp, rfl, rfl, rfl, rfl, rfl, rfl, fun b hb => push_isC hb, fun b hb hc => ?_, fun b hb _ => ?_, fun e he => by simp at he⟩
  · obtain ⟨cs, e, fz, h⟩ := hc
    simp only [Array.getElem?_push] at h
    rw [if_neg (by omega)] at h
    exact ⟨cs, e, fz, h⟩
  · simp only [Array.getElem?_push]
    rw [if_neg (by omega)]
/-- A move by a count of bytes, as it is reckoned. -/
def UA (a : Addr) (y : Value) : Sem Value := asInt y >>= fun n =>
  if n = 0 then viewAt a.block >>= fun v => if v.isSome = true then Go.unsupported (.unsafePointer "Add: at a place where no cell lies") else pure (.pointer (some a))
  else if n < 0 then Go.unsupported (.unsafePointer "Add: a move by a count below zero")
  else shape a.block >>= fun s => match s with
    | some (e, cells) => Go.program >>= fun p => match cellAtBytes p p.depth e (cells / p.cellsOf e) a.off n with
      | some off => pure (.pointer (some { a with off }))
      | none => Go.unsupported (.unsafePointer "Add")
    | none => Go.unsupported (.unsafePointer "Add")
theorem ua_eq (t : TypeId) (a : Addr) (y : Value) : Builtin.unsafeAdd_ #[] t #[.pointer (some a), y] = UA a y := by
  unfold Builtin.unsafeAdd_ UA
  show (asInt y >>= _) = (asInt y >>= _)
  congr 1
  funext n
  by_cases h : n = 0
  · rw [if_pos h, if_pos h]
    rfl
  · rw [if_neg h, if_neg h]
    by_cases h2 : n < 0
    · rw [if_pos h2, if_pos h2]; rfl
    · rw [if_neg h2, if_neg h2]
      show (shape a.block >>= _) = (shape a.block >>= _)
      congr 1
      funext s
      cases s with
      | none => rfl
      | some q =>
        show (Go.program >>= _) = (Go.program >>= _)
        congr 1
theorem UA_dead {β : Type} {Rr : Value → β → Prop} {s' : Sem β} {a : Addr} (y : Value) (hd : Dd a.block) : Sm P Dd f Rr (UA a y) s' := by
  refine Sm.dd hd fun w es v w' es' hw e => ?_
  unfold UA at e
  rw [runT_bm] at e
  have hsame : ∀ n w1 es1, (asInt y).runT P w es = (.ok n w1, es1) → w1 = w := by
    intro n w1 es1 h
    unfold asInt at h
    rw [runT_bm] at h
    cases y with
    | int k n =>
      have h2 : ((Result.ok n w : Result Int), es) = _ := h
      simp only [Prod.mk.injEq, Result.ok.injEq] at h2
      exact h2.1.2.symm
    | pointer q => cases q <;> cases (congrArg Prod.fst h : (Result.halt _ _ : Result Int) = _)
    | _ => cases (congrArg Prod.fst h : (Result.halt _ _ : Result Int) = _)
  cases hq : (asInt y).runT P w es with
  | mk r es1 =>
    rw [hq] at e
    cases r with
    | halt x w1 => cases (congrArg Prod.fst e : (Result.halt _ _ : Result Value) = _)
    | ok n w1 =>
      obtain rfl := hsame n w1 es1 hq
      simp only at e
      split at e
      · rw [runT_bm, viewAt_run, hw] at e
        cases (congrArg Prod.fst e : (Result.halt _ _ : Result Value) = _)
      · split at e
        · cases (congrArg Prod.fst e : (Result.halt _ _ : Result Value) = _)
        · have e2 : (shape a.block).runT P w1 es1 = (.ok (w1.shape? a.block) w1, es1) := rfl
          rw [runT_bm, e2, shape_none (not_isC_dead hw)] at e
          cases (congrArg Prod.fst e : (Result.halt _ _ : Result Value) = _)
theorem sm_UA {a a' : Addr} (y : Value) (ha : RB Dd f a a') : Sm P Dd f (fun v v' => ∃ b, v = .pointer (some b) ∧ v' = .pointer (some (rA f b))) (UA a y) (UA a' (rV f y)) := by
  by_cases hd : Dd a.block
  · exact UA_dead y hd
  · obtain rfl := ha.resolve_right hd
    unfold UA
    refine Sm.bind (sm_asInt y) ?_
    rintro n _ rfl
    refine Sm.ite (fun _ => ?_) (fun _ => Sm.ite (fun _ => Sm.unsupported) (fun _ => ?_))
    · intro wl wc D Z el ec hW hF hD hZ a' wl' el' hr
      rw [runT_bm, viewAt_run] at hr
      have k := Later.refl f wl wc
      cases hb : wl.heap[a.block]? with
      | none => rw [hb] at hr; cases (congrArg Prod.fst hr : (Result.halt _ _ : Result Value) = _)
      | some o =>
        have hlt := (Array.getElem?_eq_some_iff.1 hb).1
        rw [hb] at hr
        rcases hW.plain _ _ hb with ⟨cs, e, fz, rfl⟩ | ⟨x, l, rfl⟩ | rfl
        · have hr2 : ((Result.ok (.pointer (some a)) wl : Result Value), el) = _ := hr
          simp only [Prod.mk.injEq, Result.ok.injEq] at hr2
          obtain ⟨⟨rfl, rfl⟩, rfl⟩ := hr2
          have hc : wc.heap[(rA f a).block]? = _ := hW.cells _ _ _ _ hb
          refine ⟨_, wc, #[], ?_, ⟨a, rfl, rfl⟩, hW, k⟩
          rw [runT_bm, viewAt_run, hc, Array.append_empty]
          rfl
        · have hr2 : ((Result.ok (.pointer (some a)) wl : Result Value), el.push ⟨.obj a.block, false, false⟩) = _ := hr
          simp only [Prod.mk.injEq, Result.ok.injEq] at hr2
          obtain ⟨⟨rfl, rfl⟩, rfl⟩ := hr2
          have hc : wc.heap[(rA f a).block]? = _ := hW.nums _ _ _ hb
          refine ⟨_, wc, #[⟨.obj (f a.block), false, false⟩], ?_, ⟨a, rfl, rfl⟩, hW, k.d, k.dle, k.z, k.zle, rfl, rfl, rfl, rfl, rfl, rfl, k.keep, k.back, k.out, fun e he => ?_⟩
          · rw [runT_bm, viewAt_run, hc]
            rfl
          · simp at he
            subst he
            exact Or.inr (Or.inr ⟨_, _, rfl, hlt⟩)
        · exact absurd (hW.live _ hb) hd
    · refine Sm.shapeC (Or.inl rfl) Never.halt (fun x => ?_)
      obtain ⟨e, cells⟩ := x
      refine Sm.bind Sm.program ?_
      rintro p q ⟨hp, hq⟩
      rw [hp, hq]
      show Sm P Dd f _ (match cellAtBytes P P.depth e (cells / P.cellsOf e) a.off n with | some off => _ | none => _) (match cellAtBytes P P.depth e (cells / P.cellsOf e) a.off n with | some off => _ | none => _)
      cases cellAtBytes P P.depth e (cells / P.cellsOf e) a.off n with
      | none => exact Sm.unsupported
      | some off => exact Sm.pure ⟨_, rfl, rfl⟩
/-- No type of an address without a type. -/
def NoRaw (P : Program) (t : TypeId) : Prop := ∀ d, P.underlying t = some d → (∃ k, d = .int k) ∨ d = .bool
theorem sm_movedNumber (t : TypeId) (hT : NoRaw P t) (x : Addr) (y : Value) : Sm P Dd f (RV f) (movedNumber t (.pointer (some x)) y) (movedNumber t (.pointer (some (rA f x))) (rV f y)) := by
  unfold movedNumber
  refine Sm.bind (sm_underlying' t) ?_
  rintro d d' ⟨hdd, hd⟩
  subst hdd
  have key : Sm P Dd f (RV f) (do
      let (a, lost) ← behindNumber x
      match ← Builtin.unsafeAdd_ #[] t #[.pointer (some a), y] with
      | .pointer (some b) => asNumber b lost
      | v => pure v) (do
      let (a, lost) ← behindNumber (rA f x)
      match ← Builtin.unsafeAdd_ #[] t #[.pointer (some a), rV f y] with
      | .pointer (some b) => asNumber b lost
      | v => pure v) := by
    refine Sm.bind (sm_behind x) ?_
    rintro ⟨a, l⟩ ⟨a', l'⟩ h
    simp only [ua_eq]
    have hb : RB Dd f a a' := by
      rcases h with h | h
      · exact Or.inl (congrArg Prod.fst h)
      · exact Or.inr h
    by_cases hd : Dd a.block
    · exact Sm.bind (Rr := fun _ _ => False) (UA_dead y hd) (fun _ _ h => h.elim)
    · have hl : l' = l := by
        rcases h with h | h
        · exact congrArg Prod.snd h
        · exact absurd h hd
      subst hl
      refine Sm.bind (sm_UA y hb) ?_
      rintro _ _ ⟨b, rfl, rfl⟩
      exact sm_asNumber b l'
  rcases hT _ hd with ⟨k, rfl⟩ | rfl
  · exact key
  · exact key
end
end Go.Proofs.Ytdjnnhdeijnhgab.Rn
