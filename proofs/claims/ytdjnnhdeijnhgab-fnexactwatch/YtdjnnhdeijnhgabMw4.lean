/-
  Blocks renamed: what a step yields where its blocks bear other numbers.
-/
import Derived.Conc.Events
import Derived.Conc.CrowdComm
import Derived.Laws.World
namespace Go.Proofs.Ytdjnnhdeijnhgab.Rn
open Go
set_option linter.all false

section
variable (f : Nat → Nat)
def rA (a : Addr) : Addr := { a with block := f a.block }
def rV : Value → Value
  | .pointer (some a) => .pointer (some (rA f a))
  | .slice (some a) n c => .slice (some (rA f a)) n c
  | .map (some r) => .map (some (f r))
  | .chan (some r) => .chan (some (f r))
  | .func g x y => .func g (x.attach.map fun v => rV v.1) (y.attach.map fun v => rV v.1)
  | .iface t v => .iface t (rV v)
  | .agg cs => .agg (cs.attach.map fun v => rV v.1)
  | .tuple cs => .tuple (cs.attach.map fun v => rV v.1)
  | v => v
termination_by v => SizeOf.sizeOf v
decreasing_by
  all_goals simp_wf
  all_goals first
    | (have := Array.sizeOf_lt_of_mem v.2; omega)
    | omega
@[simp] theorem rV_int (k : IntKind) (n : Int) : rV f (.int k n) = .int k n := by rw [rV] <;> simp
@[simp] theorem rV_bool (b : Bool) : rV f (.bool b) = .bool b := by rw [rV] <;> simp
@[simp] theorem rV_string (s : ByteArray) : rV f (.string s) = .string s := by rw [rV] <;> simp
@[simp] theorem rV_float (k : FloatKind) (n : Nat) : rV f (.float k n) = .float k n := by rw [rV] <;> simp
@[simp] theorem rV_complex (k : FloatKind) (n m : Nat) : rV f (.complex k n m) = .complex k n m := by rw [rV] <;> simp
@[simp] theorem rV_pnil : rV f (.pointer none) = .pointer none := by rw [rV] <;> simp
@[simp] theorem rV_p (a : Addr) : rV f (.pointer (some a)) = .pointer (some (rA f a)) := by rw [rV]
@[simp] theorem rV_snil (n c : Nat) : rV f (.slice none n c) = .slice none n c := by rw [rV] <;> simp
@[simp] theorem rV_s (a : Addr) (n c : Nat) : rV f (.slice (some a) n c) = .slice (some (rA f a)) n c := by rw [rV]
@[simp] theorem rV_mnil : rV f (.map none) = .map none := by rw [rV] <;> simp
@[simp] theorem rV_m (r : Nat) : rV f (.map (some r)) = .map (some (f r)) := by rw [rV]
@[simp] theorem rV_cnil : rV f (.chan none) = .chan none := by rw [rV] <;> simp
@[simp] theorem rV_c (r : Nat) : rV f (.chan (some r)) = .chan (some (f r)) := by rw [rV]
@[simp] theorem rV_nilf : rV f .nilFunc = .nilFunc := by rw [rV] <;> simp
@[simp] theorem rV_nili : rV f .nilIface = .nilIface := by rw [rV] <;> simp
@[simp] theorem rV_iface (t : TypeId) (v : Value) : rV f (.iface t v) = .iface t (rV f v) := by rw [rV]
@[simp] theorem rV_agg (cs : Array Value) : rV f (.agg cs) = .agg (cs.map (rV f)) := by rw [rV]; simp
@[simp] theorem rV_tuple (cs : Array Value) : rV f (.tuple cs) = .tuple (cs.map (rV f)) := by rw [rV]; simp
@[simp] theorem rV_func (g : Fn) (x y : Array Value) : rV f (.func g x y) = .func g (x.map (rV f)) (y.map (rV f)) := by rw [rV]; simp
theorem rV_cells (v : Value) : (rV f v).cells = v.cells.map (rV f) := by
  cases v <;> (try simp [Value.cells])
  case pointer a => cases a <;> simp [Value.cells]
  case slice a n c => cases a <;> simp [Value.cells]
  case map a => cases a <;> simp [Value.cells]
  case chan a => cases a <;> simp [Value.cells]
@[simp] theorem rV_undef : rV f undef = undef := by unfold undef; simp
@[simp] theorem rA_add (a : Addr) (n : Nat) : rA f (a.add n) = (rA f a).add n := by unfold Addr.add; split <;> rfl
end

def IsC (w : World) (b : Nat) : Prop := ∃ cs e fz, w.heap[b]? = some (Obj.cells cs e fz)
/-- A block that cannot be looked at. -/
def Dead : Obj := Obj.view ⟨0, 0, some 0⟩ 0
/-- The worlds, block by block: what the one holds as cells the other holds, renamed. -/
structure WR (Dd : Nat → Prop) (f : Nat → Nat) (wl wc : World) : Prop where
  cells : ∀ (b : Nat) cs e fz, wl.heap[b]? = some (Obj.cells cs e fz) → wc.heap[f b]? = some (Obj.cells (cs.map (rV f)) e fz)
  nums : ∀ (b : Nat) a l, wl.heap[b]? = some (Obj.number a l) → wc.heap[f b]? = some (Obj.number (rA f a) l)
  plain : ∀ (b : Nat) (o : Obj), wl.heap[b]? = some o → (∃ cs e fz, o = Obj.cells cs e fz) ∨ (∃ a l, o = Obj.number a l) ∨ o = Dead
  dd : ∀ b : Nat, Dd b → wl.heap[b]? = some Dead
  live : ∀ b : Nat, wl.heap[b]? = some Dead → Dd b
  inj : ∀ b b' : Nat, b < wl.heap.size → b' < wl.heap.size → f b = f b' → b = b'
  lt : ∀ b : Nat, b < wl.heap.size → f b < wc.heap.size
/-- What is drawn and made alike, up to D draws and Z blocks of the other's. -/
structure Fits (f : Nat → Nat) (wl wc : World) (D Z : Nat) : Prop where
  tape : ∀ j q, wc.drawn + j < D → wl.tape (wl.drawn + j) q = wc.tape (wc.drawn + j) q
  new : ∀ j, wc.heap.size + j < Z → f (wl.heap.size + j) = wc.heap.size + j
def EvOk (f : Nat → Nat) (w : World) (e : Event) : Prop := (∃ a wr, e = ⟨.cell (rA f a), wr, false⟩ ∧ IsC w a.block) ∨ e = ⟨.mark .noRoom, false, true⟩ ∨ ∃ r s, e = ⟨.obj (f r), false, s⟩ ∧ r < w.heap.size
structure Later (f : Nat → Nat) (wl wc wl' wc' : World) (es : Array Event) : Prop where
  d : wl'.drawn + wc.drawn = wl.drawn + wc'.drawn
  dle : wc.drawn ≤ wc'.drawn
  z : wl'.heap.size + wc.heap.size = wl.heap.size + wc'.heap.size
  zle : wc.heap.size ≤ wc'.heap.size
  tl : wl'.tape = wl.tape
  tc : wc'.tape = wc.tape
  os : wc'.os = wc.os
  output : wc'.output = wc.output
  osl : wl'.os = wl.os
  outl : wl'.output = wl.output
  keep : ∀ b, IsC wl b → IsC wl' b
  back : ∀ b, b < wl.heap.size → IsC wl' b → IsC wl b
  out : ∀ b, b < wc.heap.size → (∀ b', b' < wl.heap.size → IsC wl b' → f b' ≠ b) → wc'.heap[b]? = wc.heap[b]?
  evs : ∀ e ∈ es, EvOk f wl' e
def resW {α : Type} : Result α → World
  | .ok _ w => w
  | .halt _ w => w
section
variable {f : Nat → Nat} {wl wc wl' wc' wl2 wc2 : World} {D Z : Nat} {es es2 : Array Event}
theorem Later.refl (f : Nat → Nat) (wl wc : World) : Later f wl wc wl wc #[] :=
  ⟨rfl, Nat.le_refl _, rfl, Nat.le_refl _, rfl, rfl, rfl, rfl, rfl, rfl, fun _ h => h, fun _ _ h => h, fun _ _ _ => rfl, fun e he => by simp at he⟩
theorem EvOk.keep {e : Event} (h : EvOk f wl e) (k : ∀ b, IsC wl b → IsC wl' b) (hz : wl.heap.size ≤ wl'.heap.size) : EvOk f wl' e := by
  rcases h with ⟨a, wr, h1, h2⟩ | h | ⟨r, s, h1, h2⟩
  · exact Or.inl ⟨a, wr, h1, k _ h2⟩
  · exact Or.inr (Or.inl h)
  · exact Or.inr (Or.inr ⟨r, s, h1, Nat.lt_of_lt_of_le h2 hz⟩)
theorem Later.trans (h : Later f wl wc wl' wc' es) (k : Later f wl' wc' wl2 wc2 es2) (hF : Fits f wl wc D Z) (hZ : wc'.heap.size ≤ Z) : Later f wl wc wl2 wc2 (es ++ es2) := by
  have d1 := h.d; have d2 := k.d; have z1 := h.z; have z2 := k.z; have l1 := h.zle; have l2 := k.zle
  refine ⟨by omega, Nat.le_trans h.dle k.dle, by omega, by omega, k.tl.trans h.tl, k.tc.trans h.tc, k.os.trans h.os, k.output.trans h.output, k.osl.trans h.osl, k.outl.trans h.outl, fun b q => k.keep b (h.keep b q), fun b hb q => h.back b hb (k.back b (by omega) q), fun b hb hq => ?_, fun e he => ?_⟩
  · refine (k.out b (by omega) fun b' hb' hc e => ?_).trans (h.out b hb hq)
    rcases Nat.lt_or_ge b' wl.heap.size with c | c
    · exact hq b' c (h.back b' c hc) e
    · have := hF.new (b' - wl.heap.size) (by omega)
      rw [show wl.heap.size + (b' - wl.heap.size) = b' by omega] at this
      omega
  · rcases Array.mem_append.1 he with q | q
    · exact (h.evs e q).keep k.keep (by omega)
    · exact k.evs e q
theorem Fits.later (hF : Fits f wl wc D Z) (h : Later f wl wc wl' wc' es) : Fits f wl' wc' D Z := by
  have d1 := h.d; have z1 := h.z; have l1 := h.zle; have l2 := h.dle
  refine ⟨fun j q hj => ?_, fun j hj => ?_⟩
  · have := hF.tape (wc'.drawn - wc.drawn + j) q (by omega)
    rw [h.tl, h.tc, show wl'.drawn + j = wl.drawn + (wc'.drawn - wc.drawn + j) by omega, this, show wc.drawn + (wc'.drawn - wc.drawn + j) = wc'.drawn + j by omega]
  · have := hF.new (wc'.heap.size - wc.heap.size + j) (by omega)
    rw [show wl'.heap.size + j = wl.heap.size + (wc'.heap.size - wc.heap.size + j) by omega, this]
    omega
end
end Go.Proofs.Ytdjnnhdeijnhgab.Rn

/-
  Blocks renamed: the operations' own words.
-/
namespace Go.Proofs.Ytdjnnhdeijnhgab.Rn
open Go
set_option linter.all false

section
variable {Dd : Nat → Prop} {f : Nat → Nat} {wl wc : World}
theorem WR.cell (h : WR Dd f wl wc) {a : Addr} {v : Value} (hv : wl.cell? a = some v) : wc.cell? (rA f a) = some (rV f v) ∧ IsC wl a.block := by
  unfold World.cell? at hv ⊢
  split at hv
  · rename_i cs e fz hb
    have hc := h.cells _ _ _ _ hb
    refine ⟨?_, cs, e, fz, hb⟩
    show (match wc.heap[f a.block]? with | some (Obj.cells c _ _) => if a.spot.isSome then none else c[a.off]? | _ => none) = _
    rw [hc]
    cases hs : a.spot.isSome with
    | true => simp [hs] at hv
    | false =>
      simp only [hs, Bool.false_eq_true, if_false] at hv ⊢
      rw [Array.getElem?_map, hv]
      rfl
  · cases hv
theorem dead_seen (P : Program) (w : World) (a : Addr) (b : Bool) : w.seen P ⟨0, 0, some 0⟩ 0 a b = .error "memory seen as another type: a place without cells" := by
  unfold World.seen
  rw [show (a.spot.isSome || (⟨0, 0, some 0⟩ : Addr).spot.isSome) = true by simp]
  rfl
theorem dead_load (P : Program) (w : World) (a : Addr) (b : Bool) : ∃ x, w.viewLoad P ⟨0, 0, some 0⟩ 0 a b = .error x := by
  unfold World.viewLoad
  rw [dead_seen]
  exact ⟨_, rfl⟩
theorem dead_store (P : Program) (w : World) (a : Addr) (v : Value) (b : Bool) : ∃ x, w.viewStore P ⟨0, 0, some 0⟩ 0 a v b = .error x := by
  unfold World.viewStore
  rw [dead_seen]
  cases tight P P.depth 0 with
  | false => exact ⟨_, rfl⟩
  | true => exact ⟨_, rfl⟩
theorem WR.none_far (h : WR Dd f wl wc) {a : Addr} (hv : wl.cell? a = none) (P : Program) (b : Bool) : ∃ x, wl.farLoad P a b = .error x := by
  unfold World.farLoad
  split
  · rename_i hb
    rcases h.plain _ _ hb with ⟨_, _, _, e⟩ | ⟨_, _, e⟩ | e <;> cases e
    obtain ⟨x, hx⟩ := dead_load P wl a b
    rw [hx]
    exact ⟨_, rfl⟩
  · exact ⟨_, rfl⟩
theorem WR.none_farS (h : WR Dd f wl wc) {a : Addr} (hv : wl.cell? a = none) (P : Program) (v : Value) (b : Bool) : ∃ x, wl.farStore P a v b = .error x := by
  unfold World.farStore
  split
  · rename_i hb
    rcases h.plain _ _ hb with ⟨_, _, _, e⟩ | ⟨_, _, e⟩ | e <;> cases e
    obtain ⟨x, hx⟩ := dead_store P wl a v b
    rw [hx]
    exact ⟨_, rfl⟩
  · exact ⟨_, rfl⟩
theorem WR.frozen (h : WR Dd f wl wc) {a : Addr} (hc : IsC wl a.block) : wc.frozen? (rA f a) = wl.frozen? a := by
  obtain ⟨cs, e, fz, hb⟩ := hc
  have := h.cells _ _ _ _ hb
  unfold World.frozen?
  show (match wc.heap[f a.block]? with | some (Obj.cells _ _ (lo, hi)) => decide (lo ≤ a.off) && decide (a.off < hi) | _ => false) = _
  rw [this, hb]
theorem WR.shape (h : WR Dd f wl wc) {r : Nat} {x : TypeId × Nat} (hx : wl.shape? r = some x) : wc.shape? (f r) = some x := by
  unfold World.shape? at hx ⊢
  split at hx
  · rename_i cs e fz hb
    rw [h.cells _ _ _ _ hb]
    simpa using hx
  · cases hx
theorem isC_lt {w : World} {b : Nat} (h : IsC w b) : b < w.heap.size := by
  obtain ⟨_, _, _, h⟩ := h
  exact (Array.getElem?_eq_some_iff.1 h).1
theorem setCell_heap (w : World) (a : Addr) (v : Value) (b : Nat) : (w.setCell a v).heap[b]? = if a.block = b then (w.heap[b]?).map (fun o => match o with | Obj.cells c e fz => Obj.cells (if a.spot.isSome then c else c.setIfInBounds a.off v) e fz | o => o) else w.heap[b]? := by
  unfold World.setCell
  simp only [Array.getElem?_modify]
  split <;> rfl
theorem map_setIf (c : Array Value) (i : Nat) (v : Value) (g : Value → Value) : (c.setIfInBounds i v).map g = (c.map g).setIfInBounds i (g v) := by
  apply Array.ext_getElem?
  intro j
  simp only [Array.getElem?_map, Array.getElem?_setIfInBounds, Array.size_map]
  split
  · split <;> simp
  · rfl
theorem setCell_isC {w : World} {a : Addr} {v : Value} {b : Nat} : IsC (w.setCell a v) b ↔ IsC w b := by
  unfold IsC
  rw [setCell_heap]
  split
  · constructor
    · rintro ⟨cs, e, fz, h⟩
      obtain ⟨o, ho, h2⟩ := Option.map_eq_some_iff.1 h
      cases o <;> simp at h2
      exact ⟨_, _, _, ho⟩
    · rintro ⟨cs, e, fz, h⟩
      rw [h]
      exact ⟨_, _, _, rfl⟩
  · exact Iff.rfl
theorem size_set (w : World) (a : Addr) (v : Value) : (w.setCell a v).heap.size = w.heap.size := by simp [World.setCell]
theorem WR.set (h : WR Dd f wl wc) (a : Addr) (v : Value) (hc : IsC wl a.block) : WR Dd f (wl.setCell a v) (wc.setCell (rA f a) (rV f v)) := by
  refine ⟨fun b cs e fz hb => ?_, fun b a' l hb => ?_, fun b o hb => ?_, fun b hb => ?_, fun b hb => ?_, ?_, ?_⟩
  · rw [setCell_heap] at hb
    rw [setCell_heap]
    show (if f a.block = f b then _ else _) = _
    split at hb
    · rename_i e1
      subst e1
      obtain ⟨o, ho, h2⟩ := Option.map_eq_some_iff.1 hb
      cases o <;> simp at h2
      rename_i c e' fz'
      obtain ⟨rfl, rfl, rfl⟩ := h2
      rw [if_pos rfl, h.cells _ _ _ _ ho]
      simp only [Option.map_some]
      congr 2
      show (if a.spot.isSome then _ else _) = _
      split
      · rfl
      · rw [map_setIf]; rfl
    · rename_i hne
      have hlt := (Array.getElem?_eq_some_iff.1 hb).1
      rw [if_neg (fun e2 => hne (h.inj _ _ (isC_lt hc) hlt e2)), h.cells _ _ _ _ hb]
  · rw [setCell_heap] at hb
    split at hb
    · rename_i e1
      subst e1
      obtain ⟨cs, e, fz, hh⟩ := hc
      rw [hh] at hb
      simp at hb
    · rename_i hne
      have hlt := (Array.getElem?_eq_some_iff.1 hb).1
      rw [setCell_heap]
      show (if f a.block = f b then _ else _) = _
      rw [if_neg (fun e2 => hne (h.inj _ _ (isC_lt hc) hlt e2)), h.nums _ _ _ hb]
  · rw [setCell_heap] at hb
    split at hb
    · obtain ⟨o', ho, h2⟩ := Option.map_eq_some_iff.1 hb
      rcases h.plain _ _ ho with ⟨_, _, _, rfl⟩ | ⟨_, _, rfl⟩ | rfl
      · exact Or.inl ⟨_, _, _, h2.symm⟩
      · exact Or.inr (Or.inl ⟨_, _, h2.symm⟩)
      · exact Or.inr (Or.inr h2.symm)
    · exact h.plain _ _ hb
  · have hd := h.dd b hb
    rw [setCell_heap]
    split
    · rename_i e1
      subst e1
      obtain ⟨cs, e, fz, hh⟩ := hc
      rw [hh] at hd
      cases hd
    · exact hd
  · rw [setCell_heap] at hb
    split at hb
    · rename_i e1
      subst e1
      obtain ⟨cs, e, fz, hh⟩ := hc
      rw [hh] at hb
      cases hb
    · exact h.live _ hb
  · rw [size_set]; exact h.inj
  · rw [size_set, size_set]; exact h.lt
theorem WR.push (h : WR Dd f wl wc) (o o' : Obj) (hn : f wl.heap.size = wc.heap.size)
    (ho : (∃ cs e fz, o = Obj.cells cs e fz ∧ o' = Obj.cells (cs.map (rV f)) e fz) ∨ ∃ a l, o = Obj.number a l ∧ o' = Obj.number (rA f a) l) : WR Dd f { wl with heap := wl.heap.push o } { wc with heap := wc.heap.push o' } := by
  have old : ∀ b, b < wl.heap.size → (wc.heap.push o')[f b]? = wc.heap[f b]? := fun b hb => by
    have := h.lt b hb
    rw [Array.getElem?_push, if_neg (by omega)]
  have new : (wc.heap.push o')[f wl.heap.size]? = some o' := by rw [hn, Array.getElem?_push, if_pos rfl]
  refine ⟨fun b c2 e2 fz2 hb => ?_, fun b a l hb => ?_, fun b x hb => ?_, fun b hb => ?_, fun b hb => ?_, fun b b' hb hb' he => ?_, fun b hb => ?_⟩
  · replace hb : (wl.heap.push o)[b]? = _ := hb
    show (wc.heap.push o')[f b]? = _
    rw [Array.getElem?_push] at hb
    split at hb
    · rename_i e1
      subst e1
      rw [new]
      rcases ho with ⟨cs, e, fz, rfl, rfl⟩ | ⟨a, l, rfl, rfl⟩
      · simp at hb
        obtain ⟨rfl, rfl, rfl⟩ := hb
        rfl
      · simp at hb
    · rw [old b (Array.getElem?_eq_some_iff.1 hb).1]; exact h.cells _ _ _ _ hb
  · replace hb : (wl.heap.push o)[b]? = _ := hb
    show (wc.heap.push o')[f b]? = _
    rw [Array.getElem?_push] at hb
    split at hb
    · rename_i e1
      subst e1
      rw [new]
      rcases ho with ⟨cs, e, fz, rfl, rfl⟩ | ⟨a, l, rfl, rfl⟩
      · simp at hb
      · simp at hb
        obtain ⟨rfl, rfl⟩ := hb
        rfl
    · rw [old b (Array.getElem?_eq_some_iff.1 hb).1]; exact h.nums _ _ _ hb
  · replace hb : (wl.heap.push o)[b]? = _ := hb
    rw [Array.getElem?_push] at hb
    split at hb
    · simp at hb
      subst hb
      rcases ho with ⟨cs, e, fz, rfl, rfl⟩ | ⟨a, l, rfl, rfl⟩
      · exact Or.inl ⟨_, _, _, rfl⟩
      · exact Or.inr (Or.inl ⟨_, _, rfl⟩)
    · exact h.plain _ _ hb
  · have hd := h.dd b hb
    have hlt := (Array.getElem?_eq_some_iff.1 hd).1
    show (wl.heap.push o)[b]? = _
    rw [Array.getElem?_push, if_neg (by omega)]
    exact hd
  · replace hb : (wl.heap.push o)[b]? = _ := hb
    rw [Array.getElem?_push] at hb
    split at hb
    · rcases ho with ⟨cs, e, fz, rfl, rfl⟩ | ⟨a, l, rfl, rfl⟩ <;> cases hb
    · exact h.live _ hb
  · simp only [Array.size_push] at hb hb'
    rcases Nat.lt_or_ge b wl.heap.size with c1 | c1
    · rcases Nat.lt_or_ge b' wl.heap.size with c2 | c2
      · exact h.inj _ _ c1 c2 he
      · obtain rfl : b' = wl.heap.size := by omega
        have := h.lt b c1
        omega
    · obtain rfl : b = wl.heap.size := by omega
      rcases Nat.lt_or_ge b' wl.heap.size with c2 | c2
      · have := h.lt b' c2
        omega
      · omega
  · simp only [Array.size_push] at hb ⊢
    rcases Nat.lt_or_ge b wl.heap.size with c1 | c1
    · have := h.lt b c1; omega
    · obtain rfl : b = wl.heap.size := by omega
      omega
theorem WR.alloc (h : WR Dd f wl wc) (cs : Array Value) (e : TypeId) (fz : Nat × Nat) (hn : f wl.heap.size = wc.heap.size) : WR Dd f { wl with heap := wl.heap.push (Obj.cells cs e fz) } { wc with heap := wc.heap.push (Obj.cells (cs.map (rV f)) e fz) } :=
  h.push _ _ hn (Or.inl ⟨cs, e, fz, rfl, rfl⟩)
theorem WR.free (h : WR Dd f wl wc) (tl tc : Tape) (dl dc : Nat) : WR Dd f { wl with tape := tl, drawn := dl } { wc with tape := tc, drawn := dc } := ⟨h.cells, h.nums, h.plain, h.dd, h.live, h.inj, h.lt⟩
end

/-! ### no run draws back, none unmakes -/
section
variable {P : Program}
theorem ask_mono {α : Type} (x : Ask α) : ∀ w : World, w.drawn ≤ (w.ask x).2.drawn ∧ (w.ask x).2.heap = w.heap := by
  induction x with
  | done a => intro w; exact ⟨Nat.le_refl _, rfl⟩
  | ask what range k ih =>
    intro w
    unfold World.ask
    simp only
    split
    · exact ih _ w
    · have := ih (Question.cut (.extern what range) (w.tape w.drawn (.extern what range))) { w with drawn := w.drawn + 1 }
      exact ⟨Nat.le_trans (Nat.le_succ _) this.1, this.2⟩
theorem sys_mono (c : Sys) (w : World) : w.drawn ≤ (w.sys c).2.drawn ∧ (w.sys c).2.heap = w.heap := by
  unfold World.sys
  have h := ask_mono (Kernel.perform c w.os) w
  generalize w.ask (Kernel.perform c w.os) = r at h
  obtain ⟨⟨r1, os⟩, w1⟩ := r
  cases r1 <;> first | exact ⟨Nat.le_refl _, rfl⟩ | exact h
theorem viewStore_mono {w w' : World} {a : Addr} {u : TypeId} {k : Addr} {v : Value} {at' : Bool} {l : List Addr} (h : w.viewStore P a u k v at' = .ok (w', l)) : w'.drawn = w.drawn ∧ w'.heap.size = w.heap.size := by
  unfold World.viewStore at h
  simp only [bind, Except.bind, pure, Except.pure, throw, throwThe, MonadExceptOf.throw] at h
  repeat' (split at h)
  all_goals first
    | (cases h; done)
    | (simp only [Except.ok.injEq, Prod.mk.injEq] at h; obtain ⟨rfl, -⟩ := h; exact ⟨rfl, by simp⟩)
    | skip
theorem farStore_mono {w w' : World} {a : Addr} {v : Value} {b : Bool} {l : List Addr} (h : w.farStore P a v b = .ok (w', l)) : w'.drawn = w.drawn ∧ w'.heap.size = w.heap.size := by
  unfold World.farStore at h
  split at h
  · split at h
    · rename_i hv
      cases h
      exact viewStore_mono hv
    · cases h
  · cases h
theorem runT_mono {α : Type} (s : Sem α) : ∀ (w : World) (es : Array Event), w.drawn ≤ (resW (s.runT P w es).1).drawn ∧ w.heap.size ≤ (resW (s.runT P w es).1).heap.size := by
  induction s with
  | pure a => intro w es; exact ⟨Nat.le_refl _, Nat.le_refl _⟩
  | load m a k ih =>
    intro w es
    unfold Sem.runT
    split
    · exact ih _ _ _
    · split
      · exact ih _ _ _
      · exact ⟨Nat.le_refl _, Nat.le_refl _⟩
  | store m a v k ih =>
    intro w es
    cases v
    all_goals
      unfold Sem.runT
      first
        | exact ⟨Nat.le_refl _, Nat.le_refl _⟩
        | (split
           · split
             · exact ⟨Nat.le_refl _, Nat.le_refl _⟩
             · refine ⟨?_, ?_⟩
               · exact (ih (w.setCell a _) _).1
               · exact Nat.le_trans (Nat.le_of_eq (size_set w a _).symm) (ih (w.setCell a _) _).2
           · split
             · rename_i hv
               have h1 := farStore_mono hv
               exact ⟨Nat.le_trans (Nat.le_of_eq h1.1.symm) (ih _ _).1, Nat.le_trans (Nat.le_of_eq h1.2.symm) (ih _ _).2⟩
             · exact ⟨Nat.le_refl _, Nat.le_refl _⟩)
  | new o k ih =>
    intro w es
    unfold Sem.runT
    have := ih w.heap.size { w with heap := w.heap.push o } es
    simp only [Array.size_push] at this
    exact ⟨this.1, by have := this.2; omega⟩
  | shape r k ih => intro w es; unfold Sem.runT; exact ih _ _ _
  | freeze a n k ih =>
    intro w es
    unfold Sem.runT
    have h1 : (w.freeze a n).drawn = w.drawn ∧ (w.freeze a n).heap.size = w.heap.size := by unfold World.freeze; split <;> exact ⟨rfl, by simp⟩
    have := ih (w.freeze a n) es
    rw [h1.1, h1.2] at this
    exact this
  | frozen a k ih => intro w es; unfold Sem.runT; exact ih _ _ _
  | getObj r k ih =>
    intro w es
    unfold Sem.runT
    split
    · exact ⟨Nat.le_refl _, Nat.le_refl _⟩
    · exact ih _ _ _
    · exact ⟨Nat.le_refl _, Nat.le_refl _⟩
  | setObj r o k ih =>
    intro w es
    unfold Sem.runT
    split
    · exact ⟨Nat.le_refl _, Nat.le_refl _⟩
    · have := ih { w with heap := w.heap.setIfInBounds r o }
      simp only [Array.size_setIfInBounds] at this
      exact this _
    · exact ⟨Nat.le_refl _, Nat.le_refl _⟩
  | choose q k ih =>
    intro w es
    unfold Sem.runT
    split
    · exact ih _ _ _
    · have := ih (q.cut (w.tape w.drawn q)) { w with drawn := w.drawn + 1 } es
      exact ⟨Nat.le_trans (Nat.le_succ _) this.1, this.2⟩
  | sys c k ih =>
    intro w es
    have h1 := sys_mono c w
    unfold Sem.runT
    have := fun es' => ih (w.sys c).1 (w.sys c).2 es'
    rw [h1.2] at this
    first
      | exact ⟨Nat.le_trans h1.1 (this _).1, (this _).2⟩
      | (split <;> exact ⟨Nat.le_trans h1.1 (this _).1, (this _).2⟩)
  | program k ih => intro w es; unfold Sem.runT; exact ih _ _ _
  | mark m k ih => intro w es; unfold Sem.runT; exact ih _ _
  | halt h => intro w es; exact ⟨Nat.le_refl _, Nat.le_refl _⟩
end
end Go.Proofs.Ytdjnnhdeijnhgab.Rn

/-
  Blocks renamed: one run beside the other; the words that are common.
-/
namespace Go.Proofs.Ytdjnnhdeijnhgab.Rn
open Go
set_option linter.all false

/-- What the one yields, the other yields, renamed. -/
def Sm (P : Program) (Dd : Nat → Prop) (f : Nat → Nat) {α β : Type} (Rr : α → β → Prop) (s : Sem α) (s' : Sem β) : Prop :=
  ∀ wl wc D Z el ec, WR Dd f wl wc → Fits f wl wc D Z → (resW (s'.runT P wc ec).1).drawn ≤ D → (resW (s'.runT P wc ec).1).heap.size ≤ Z → ∀ a wl' el', s.runT P wl el = (.ok a wl', el') →
    ∃ b wc' es, s'.runT P wc ec = (.ok b wc', ec ++ es) ∧ Rr a b ∧ WR Dd f wl' wc' ∧ Later f wl wc wl' wc' es
section
variable {P : Program} {Dd : Nat → Prop} {f : Nat → Nat} {α β γ δ : Type} {Rr : α → β → Prop} {Rs : γ → δ → Prop}
theorem Sm.pure {a : α} {b : β} (h : Rr a b) : Sm P Dd f Rr (Pure.pure a) (Pure.pure b) := by
  intro wl wc D Z el ec hW hF hD hZ a' wl' el' hr
  have e : (Sem.pure a).runT P wl el = (.ok a' wl', el') := hr
  simp only [Sem.runT, Prod.mk.injEq, Result.ok.injEq] at e
  obtain ⟨⟨rfl, rfl⟩, rfl⟩ := e
  exact ⟨b, wc, #[], by show (Sem.pure b).runT P wc ec = _; simp [Sem.runT], h, hW, Later.refl _ _ _⟩
theorem Sm.halt {h : Halt} {s' : Sem β} : Sm P Dd f Rr (Sem.halt h : Sem α) s' := by
  intro wl wc D Z el ec hW hF hD hZ a' wl' el' hr
  simp [Sem.runT] at hr
theorem Sm.stuck {why : String} {s' : Sem β} : Sm P Dd f Rr (Go.stuck why : Sem α) s' := Sm.halt
theorem Sm.unsupported {u : Unsupported} {s' : Sem β} : Sm P Dd f Rr (Go.unsupported u : Sem α) s' := Sm.halt
theorem Sm.mono {s : Sem α} {s' : Sem β} {Rr' : α → β → Prop} (h : Sm P Dd f Rr s s') (k : ∀ a b, Rr a b → Rr' a b) : Sm P Dd f Rr' s s' := by
  intro wl wc D Z el ec hW hF hD hZ a' wl' el' hr
  obtain ⟨b, wc', es, h1, h2, h3, h4⟩ := h wl wc D Z el ec hW hF hD hZ a' wl' el' hr
  exact ⟨b, wc', es, h1, k _ _ h2, h3, h4⟩
theorem Sm.bind {s : Sem α} {s' : Sem β} {k : α → Sem γ} {k' : β → Sem δ} (h : Sm P Dd f Rr s s') (hk : ∀ a b, Rr a b → Sm P Dd f Rs (k a) (k' b)) : Sm P Dd f Rs (s >>= k) (s' >>= k') := by
  intro wl wc D Z el ec hW hF hD hZ a' wl' el' hr
  replace hr : (Sem.bind s k).runT P wl el = (.ok a' wl', el') := hr
  rw [Sem.runT_bind'] at hr
  have eb : (s' >>= k').runT P wc ec = _ := Sem.runT_bind' P s' k' wc ec
  rw [eb] at hD hZ ⊢
  cases hs : s.runT P wl el with
  | mk r el1 =>
    rw [hs] at hr
    cases r with
    | halt x w => simp at hr
    | ok a wl1 =>
      simp only at hr
      have h0 := runT_mono (P := P) s' wc ec
      have hle : (resW (s'.runT P wc ec).1).drawn ≤ D ∧ (resW (s'.runT P wc ec).1).heap.size ≤ Z := by
        generalize s'.runT P wc ec = r' at hD hZ
        obtain ⟨r', el'⟩ := r'
        cases r' with
        | halt x w => exact ⟨hD, hZ⟩
        | ok b w =>
          have := runT_mono (P := P) (k' b) w el'
          exact ⟨Nat.le_trans this.1 hD, Nat.le_trans this.2 hZ⟩
      obtain ⟨b, wc1, es1, h1, h2, h3, h4⟩ := h wl wc D Z el ec hW hF hle.1 hle.2 a wl1 el1 hs
      rw [h1] at hD hZ hle ⊢
      simp only at hD hZ ⊢
      obtain ⟨c, wc2, es2, k1, k2, k3, k4⟩ := hk a b h2 wl1 wc1 D Z el1 (ec ++ es1) h3 (hF.later h4) hD hZ a' wl' el' hr
      exact ⟨c, wc2, es1 ++ es2, by rw [k1, Array.append_assoc], k2, k3, h4.trans k4 hF hle.2⟩
theorem Sm.ite {c : Prop} [Decidable c] {s t : Sem α} {s' t' : Sem β} (h : c → Sm P Dd f Rr s s') (k : ¬ c → Sm P Dd f Rr t t') : Sm P Dd f Rr (if c then s else t) (if c then s' else t') := by
  by_cases q : c
  · rw [if_pos q, if_pos q]; exact h q
  · rw [if_neg q, if_neg q]; exact k q
/-- A word that only asks for the program. -/
theorem Sm.same {s : Sem α} {g : World → Array Event → Option α} (hok : ∀ w es, (∃ x, s.runT P w es = (.ok x w, es) ∧ ∀ w' es', s.runT P w' es' = (.ok x w', es')) ∨ ∃ x, s.runT P w es = (.halt x w, es)) : Sm P Dd f Eq s s := by
  intro wl wc D Z el ec hW hF hD hZ a' wl' el' hr
  rcases hok wl el with ⟨x, h1, h2⟩ | ⟨x, h1⟩
  · rw [h1] at hr
    simp only [Prod.mk.injEq, Result.ok.injEq] at hr
    obtain ⟨⟨rfl, rfl⟩, rfl⟩ := hr
    exact ⟨x, wc, #[], by rw [h2]; simp, rfl, hW, Later.refl _ _ _⟩
  · rw [h1] at hr; simp at hr
theorem Sm.program : Sm P Dd f (fun a b => a = P ∧ b = P) Go.program Go.program := by
  intro wl wc D Z el ec hW hF hD hZ a' wl' el' hr
  simp only [Go.program, Sem.runT, Prod.mk.injEq, Result.ok.injEq] at hr
  obtain ⟨⟨rfl, rfl⟩, rfl⟩ := hr
  exact ⟨P, wc, #[], by rw [Array.append_empty]; rfl, ⟨rfl, rfl⟩, hW, Later.refl _ _ _⟩
theorem Sm.load {a : Addr} : Sm P Dd f (fun v v' => v' = rV f v) (Go.load a) (Go.load (rA f a)) := by
  intro wl wc D Z el ec hW hF hD hZ a' wl' el' hr
  simp only [Go.load, Sem.runT] at hr
  cases hc : wl.cell? a with
  | none =>
    obtain ⟨x, hx⟩ := hW.none_far hc P (Mode.plain == Mode.atomic)
    rw [hc, hx] at hr
    simp at hr
  | some v =>
    rw [hc] at hr
    simp only [Prod.mk.injEq, Result.ok.injEq] at hr
    obtain ⟨⟨rfl, rfl⟩, rfl⟩ := hr
    obtain ⟨h1, h2⟩ := hW.cell hc
    refine ⟨rV f v, wc, #[⟨.cell (rA f a), false, false⟩], ?_, rfl, hW, ?_⟩
    · simp only [Go.load, Sem.runT, h1]
      rfl
    · have k := Later.refl f wl wc
      exact ⟨k.d, k.dle, k.z, k.zle, rfl, rfl, rfl, rfl, rfl, rfl, k.keep, k.back, k.out, fun e he => by
        simp at he
        subst he
        exact Or.inl ⟨a, false, rfl, h2⟩⟩
theorem Sm.store {a : Addr} {v : Value} : Sm P Dd f (fun _ _ => True) (Go.store a v) (Go.store (rA f a) (rV f v)) := by
  intro wl wc D Z el ec hW hF hD hZ a' wl' el' hr
  have hv : (∀ cs, v ≠ .agg cs) ∧ ∀ cs, v ≠ .tuple cs := by
    constructor <;> · rintro cs rfl; have h2 : (Result.halt (.stuck "store: not the value of one cell") wl : Result Unit) = .ok a' wl' := congrArg Prod.fst hr; cases h2
  have e1 : ∀ (x : Addr) (u : Value), (∀ cs, u ≠ .agg cs) → (∀ cs, u ≠ .tuple cs) → ∀ w es, (Go.store x u).runT P w es = (match w.cell? x with
      | some _ => if w.frozen? x then (.halt (.unsupported (.unsafePointer "a write to bytes that a string shares")) w, es) else (.ok () (w.setCell x u), es.push ⟨.cell x, true, false⟩)
      | none => match w.farStore P x u false with
        | .ok (w, touched) => (.ok () w, es ++ touched.toArray.map (⟨.cell ·, true, false⟩))
        | .error h => (.halt h w, es)) := by
    intro x u h1 h2 w es
    cases u <;> first | exact absurd rfl (h1 _) | exact absurd rfl (h2 _) | rfl
  have hv' : (∀ cs, rV f v ≠ .agg cs) ∧ ∀ cs, rV f v ≠ .tuple cs := by
    constructor
    · intro cs e
      cases v with
      | pointer a => cases a <;> simp at e
      | slice a n c => cases a <;> simp at e
      | map a => cases a <;> simp at e
      | chan a => cases a <;> simp at e
      | agg c => exact hv.1 _ rfl
      | _ => simp at e
    · intro cs e
      cases v with
      | pointer a => cases a <;> simp at e
      | slice a n c => cases a <;> simp at e
      | map a => cases a <;> simp at e
      | chan a => cases a <;> simp at e
      | tuple c => exact hv.2 _ rfl
      | _ => simp at e
  rw [e1 a v hv.1 hv.2] at hr
  cases hc : wl.cell? a with
  | none =>
    obtain ⟨x, hx⟩ := hW.none_farS hc P v false
    rw [hc, hx] at hr
    simp at hr
  | some u =>
    rw [hc] at hr
    simp only at hr
    obtain ⟨h1, h2⟩ := hW.cell hc
    split at hr
    · simp at hr
    · rename_i hfz
      simp only [Prod.mk.injEq, Result.ok.injEq] at hr
      obtain ⟨⟨-, rfl⟩, rfl⟩ := hr
      refine ⟨(), wc.setCell (rA f a) (rV f v), #[⟨.cell (rA f a), true, false⟩], ?_, trivial, hW.set a v h2, ?_⟩
      · rw [e1 _ _ hv'.1 hv'.2, h1]
        simp only
        rw [if_neg (by rw [hW.frozen h2]; exact hfz)]
        rfl
      · refine ⟨by show wl.drawn + _ = _; rfl, Nat.le_refl _, by rw [size_set, size_set], by rw [size_set]; exact Nat.le_refl _, rfl, rfl, rfl, rfl, rfl, rfl, fun b hb => setCell_isC.2 hb, fun b _ hb => setCell_isC.1 hb, fun b hb hq => ?_, fun e he => ?_⟩
        · rw [setCell_heap]; exact if_neg (show ¬ (rA f a).block = b from fun e => hq a.block (isC_lt h2) h2 e)
        · simp at he
          subst he
          exact Or.inl ⟨a, true, rfl, setCell_isC.2 h2⟩
theorem push_isC {w : World} {o : Obj} {b : Nat} (h : IsC w b) : IsC { w with heap := w.heap.push o } b := by
  have hl := isC_lt h
  obtain ⟨cs, e, fz, h⟩ := h
  exact ⟨cs, e, fz, by simp only [Array.getElem?_push]; rw [if_neg (by omega)]; exact h⟩
theorem Sm.newRow {e : TypeId} {cs : Array Value} : Sm P Dd f (fun a b => b = rA f a) (Go.newRow e cs) (Go.newRow e (cs.map (rV f))) := by
  intro wl wc D Z el ec hW hF hD hZ a' wl' el' hr
  have e1 : ∀ (cs : Array Value) (w : World) (es : Array Event), (Go.newRow e cs).runT P w es = (.ok ⟨w.heap.size, 0, none⟩ { w with heap := w.heap.push (Obj.cells cs e) }, es) := fun cs w es => rfl
  rw [e1] at hr hD hZ ⊢
  simp only [Prod.mk.injEq, Result.ok.injEq] at hr
  obtain ⟨⟨rfl, rfl⟩, rfl⟩ := hr
  have hn : f wl.heap.size = wc.heap.size := by
    have := hF.new 0 (by simp [resW] at hZ; omega)
    simpa using this
  refine ⟨_, _, #[], by rw [Array.append_empty], by simp [rA, hn], hW.alloc cs e (0, 0) hn, rfl, Nat.le_refl _, by simp; omega, by simp, rfl, rfl, rfl, rfl, rfl, rfl, fun b hb => push_isC hb, fun b hb hc => ?_, fun b hb _ => ?_, fun e he => by simp at he⟩
  · obtain ⟨cs, e, fz, h⟩ := hc
    simp only [Array.getElem?_push] at h
    rw [if_neg (by omega)] at h
    exact ⟨cs, e, fz, h⟩
  · simp only [Array.getElem?_push]
    rw [if_neg (by omega)]
theorem Sm.choose {q : Question} : Sm P Dd f Eq (Go.choose q) (Go.choose q) := by
  intro wl wc D Z el ec hW hF hD hZ a' wl' el' hr
  simp only [Go.choose, Sem.runT] at hr hD hZ ⊢
  split at hr
  · rename_i hq
    simp only [Prod.mk.injEq, Result.ok.injEq] at hr
    obtain ⟨⟨rfl, rfl⟩, rfl⟩ := hr
    rw [if_pos hq]
    exact ⟨0, wc, #[], by simp, rfl, hW, Later.refl _ _ _⟩
  · rename_i hq
    rw [if_neg hq] at hD hZ ⊢
    simp only [Prod.mk.injEq, Result.ok.injEq] at hr
    obtain ⟨⟨rfl, rfl⟩, rfl⟩ := hr
    have ht := hF.tape 0 q (by simp [resW] at hD; omega)
    simp only [Nat.add_zero] at ht
    have k := Later.refl f wl wc
    refine ⟨q.cut (wc.tape wc.drawn q), { wc with drawn := wc.drawn + 1 }, #[], by rw [Array.append_empty], by rw [ht], ⟨hW.cells, hW.nums, hW.plain, hW.dd, hW.live, hW.inj, hW.lt⟩, by show wl.drawn + 1 + wc.drawn = wl.drawn + (wc.drawn + 1); omega, Nat.le_succ _, k.z, k.zle, rfl, rfl, rfl, rfl, rfl, rfl, k.keep, k.back, fun _ _ _ => rfl, fun e he => by simp at he⟩
theorem Sm.noRoom : Sm P Dd f (fun _ _ => True) (Go.mark .noRoom) (Go.mark .noRoom) := by
  intro wl wc D Z el ec hW hF hD hZ a' wl' el' hr
  replace hr : ((Result.ok () wl : Result Unit), el.push ⟨.mark .noRoom, false, true⟩) = (.ok a' wl', el') := hr
  simp only [Prod.mk.injEq, Result.ok.injEq] at hr
  obtain ⟨⟨-, rfl⟩, rfl⟩ := hr
  have k := Later.refl f wl wc
  refine ⟨(), wc, #[⟨.mark .noRoom, false, true⟩], ?_, trivial, hW, k.d, k.dle, k.z, k.zle, rfl, rfl, rfl, rfl, rfl, rfl, k.keep, k.back, k.out, fun e he => ?_⟩
  · rfl
  · simp at he; exact Or.inr (Or.inl he)
theorem Sm.askRoom {n : Nat} : Sm P Dd f (fun _ _ => True) (Go.askRoom n) (Go.askRoom n) := by
  unfold Go.askRoom
  exact Sm.ite (fun _ => Sm.noRoom) (fun _ => Sm.pure trivial)
end
end Go.Proofs.Ytdjnnhdeijnhgab.Rn
