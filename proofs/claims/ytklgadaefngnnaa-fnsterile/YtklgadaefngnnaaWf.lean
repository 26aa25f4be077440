/-
  The room of trays as the program keeps it: an array of states, an array of cycles, each with a map of what it holds.
-/
import Derived.Test.YtklgadaefngnnaaWc
import Derived.Maps.Own
import Derived.Maps.OwnOps
import Derived.Maps.OwnSet
import Derived.Maps.Views
import Derived.Maps.RangeWalk
import Derived.Deep.WholeRow
namespace Go.Proofs.Ytklgadaefngnnaa
open Go.RowKit Va Wa Go.Maps
set_option linter.unusedVariables false

def isI : Value → Bool
  | .int .i64 0 => true
  | _ => false
def isB : Value → Bool
  | .bool false => true
  | _ => false
def isM : Value → Bool
  | .map none => true
  | _ => false
def altZ : List Value → Bool
  | [] => true
  | [_] => false
  | a :: b :: l => isB a && (isM b && altZ l)
def zc (j : Nat) : Value := if j < 2000 then .int .i64 0 else if j % 2 = 0 then .bool false else .map none
theorem isI_eq {v : Value} (h : isI v = true) : v = .int .i64 0 := by unfold isI at h; split at h <;> first | rfl | cases h
theorem isB_eq {v : Value} (h : isB v = true) : v = .bool false := by unfold isB at h; split at h <;> first | rfl | cases h
theorem isM_eq {v : Value} (h : isM v = true) : v = .map none := by unfold isM at h; split at h <;> first | rfl | cases h
theorem altZ_get : ∀ (l : List Value) (i : Nat), altZ l = true → i < l.length → l[i]? = some (if i % 2 = 0 then .bool false else .map none)
  | [], _, _, hi => absurd hi (Nat.not_lt_zero _)
  | [_], _, h, _ => by cases h
  | a :: b :: l, i, h, hi => by
    unfold altZ at h
    simp only [Bool.and_eq_true] at h
    match i, hi with
    | 0, _ => rw [isB_eq h.1]; rfl
    | 1, _ => rw [isM_eq h.2.1]; rfl
    | i + 2, hi =>
      have := altZ_get l i h.2.2 (by simpa using hi)
      rw [show (i + 2) % 2 = i % 2 by omega]
      simpa using this
set_option maxRecDepth 100000 in
theorem zroomA : (Try.prog.info? 97).map (fun i => match i.zero with | some (.agg c) => (c.toList.take 2000).all isI | _ => false) = some true := by kernel_rfl
set_option maxRecDepth 100000 in
theorem zroomB : (Try.prog.info? 97).map (fun i => match i.zero with | some (.agg c) => altZ (c.toList.drop 2000) | _ => false) = some true := by kernel_rfl
set_option maxRecDepth 100000 in
theorem zroomC : (Try.prog.info? 97).map (fun i => match i.zero with | some (.agg c) => Nat.beq c.toList.length 4000 | _ => false) = some true := by kernel_rfl
set_option maxRecDepth 100000 in
theorem zroomD : (Try.prog.info? 97).map (fun i => i.size) = some 4000 := by kernel_rfl
theorem zroom : ∃ Z : Array Value, (Try.prog.info? 97).map (fun i => (i.zero, i.size)) = some (some (.agg Z), 4000) ∧ Z.size = 4000 ∧ Z.all (·.oneCell') = true ∧ ∀ j, j < 4000 → Z[j]? = some (zc j) := by
  obtain ⟨i, h1, hA⟩ := Option.map_eq_some_iff.1 zroomA
  have hB := zroomB
  have hC := zroomC
  have hD := zroomD
  rw [h1] at hB hC hD
  simp only [Option.map_some, Option.some.injEq] at hB hC hD
  split at hA
  · rename_i c hc
    simp only [hc, Nat.beq_eq] at hB hC
    have hsz : c.size = 4000 := by simpa using hC
    have hget : ∀ j, j < 4000 → c[j]? = some (zc j) := fun j hj => by
      unfold zc
      by_cases q : j < 2000
      · rw [if_pos q]
        have hj2 : j < c.toList.length := by rw [hC]; exact hj
        have e : (c.toList.take 2000)[j]? = some c.toList[j] := by rw [List.getElem?_take, if_pos q, List.getElem?_eq_getElem hj2]
        have e2 := isI_eq (List.all_eq_true.1 hA _ (List.mem_of_getElem? e))
        rw [← Array.getElem?_toList, List.getElem?_eq_getElem hj2, e2]
      · rw [if_neg q]
        have e := altZ_get (c.toList.drop 2000) (j - 2000) hB (by rw [List.length_drop, hC]; omega)
        rw [List.getElem?_drop, show 2000 + (j - 2000) = j by omega, Array.getElem?_toList, show (j - 2000) % 2 = j % 2 by omega] at e
        exact e
    refine ⟨c, by rw [h1]; simp [hc, hD], hsz, ?_, hget⟩
    rw [Array.all_eq_true_iff_forall_mem]
    intro v hv
    obtain ⟨j, hj, e⟩ := Array.getElem_of_mem hv
    have e2 := hget j (by omega)
    rw [Array.getElem?_eq_getElem hj, e] at e2
    rw [Option.some.inj e2]
    unfold zc
    split
    · rfl
    · split <;> rfl
  · cases hA
set_option maxRecDepth 100000 in
theorem builtRoom0 : (match Try.prog.underlying 97 with | some (.struct fields) => (fields.toList.mapM (fun f => (Try.prog.info? f.type).map fun i => (f.offset, i.size))).isSome | _ => false) = true := by kernel_rfl
theorem built_room {Z : Array Value} (h : (Try.prog.info? 97).map (fun i => (i.zero, i.size)) = some (some (.agg Z), 4000)) (w : World) : (Instr.build 97 #[]).run Try.prog w = .ok (.agg Z) w := by
  refine run_build w _ #[] Z ?_
  obtain ⟨i, h1, h2⟩ := Option.map_eq_some_iff.1 h
  simp only [Prod.mk.injEq] at h2
  have hb := builtRoom0
  unfold Program.built
  split at hb
  · rename_i fields hf
    obtain ⟨places, hp⟩ := Option.isSome_iff_exists.1 hb
    rw [h1, hf]
    simp only [h2.1, hp]
    rfl
  · cases hb

/-- The cells of the room. -/
structure Rcs (vs : Array Value) (R : Rm) (mp : Nat → Option Nat) : Prop where
  size : vs.size = 4000
  st : ∀ t, t < 1000 → vs[t * 2]? = some (.int .i64 (R.st t))
  cy : ∀ t, t < 1000 → ∃ c, vs[t * 2 + 1]? = some (.int .i64 c) ∧ (R.st t = 2 ∨ R.st t = 3 → c = R.cy t)
  ov : ∀ c, c < 1000 → vs[2000 + c * 2]? = some (.bool (R.ov c))
  mp : ∀ c, c < 1000 → vs[2000 + c * 2 + 1]? = some (.map (mp c))
theorem rcs_zero {Z : Array Value} (hs : Z.size = 4000) (h : ∀ j, j < 4000 → Z[j]? = some (zc j)) : Rcs Z rm0 (fun _ => none) :=
  ⟨hs, fun t ht => by rw [h _ (by omega)]; simp [zc, show t * 2 < 2000 by omega, rm0], fun t ht => ⟨0, by rw [h _ (by omega)]; simp [zc, show t * 2 + 1 < 2000 by omega], fun q => by simp [rm0] at q⟩,
    fun c hc => by rw [h _ (by omega)]; simp [zc, show ¬ 2000 + c * 2 < 2000 by omega, show (2000 + c * 2) % 2 = 0 by omega, rm0], fun c hc => by rw [h _ (by omega)]; simp [zc, show ¬ 2000 + c * 2 + 1 < 2000 by omega, show ¬ (2000 + c * 2 + 1) % 2 = 0 by omega]⟩

def wfI (x : Int) : Prop := (Lit.int .i64 x).wf = true
theorem wfI_of {x : Int} (h0 : -1000000 ≤ x) (h1 : x ≤ 1000000) : wfI x := WalkArith.wf_i64 (by omega)
theorem keyI : Keyed Try.prog 2 := int_keyed Try.underlying2
/-- Block m is a map of just the trays in the cycle. -/
def MapIs (w : World) (m K : Nat) (R : Rm) (c : Nat) : Prop :=
  ∃ D : DataW Unit, w.ownsMap Try.prog 2 unitElem m K D ∧ ∀ x, wfI x → Maps.has D (.int .i64 x) = (decide (0 ≤ x ∧ x ≤ 999) && inC R c x.toNat)
theorem MapIs.keep {w w' : World} {m K : Nat} {R : Rm} {c : Nat} (h : MapIs w m K R c) (hk : w'.heap[m]? = w.heap[m]?) : MapIs w' m K R c := by
  obtain ⟨D, ⟨es, clock, hb, r⟩, hD⟩ := h
  exact ⟨D, ⟨es, clock, hk.trans hb, r⟩, hD⟩
theorem MapIs.mono {w : World} {m K K' : Nat} {R : Rm} {c : Nat} (h : MapIs w m K R c) (hk : K ≤ K') : MapIs w m K' R c := by
  obtain ⟨D, h, hD⟩ := h; exact ⟨D, h.mono hk, hD⟩
theorem MapIs.turn {w : World} {m K : Nat} {R R' : Rm} {c : Nat} (h : MapIs w m K R c) (hk : ∀ t, t < 1000 → inC R' c t = inC R c t) : MapIs w m K R' c := by
  obtain ⟨D, h, hD⟩ := h
  refine ⟨D, h, fun x hx => (hD x hx).trans ?_⟩
  by_cases q : 0 ≤ x ∧ x ≤ 999
  · rw [hk x.toNat (by omega)]
  · simp [q]
theorem MapIs.isMap {w : World} {m K : Nat} {R : Rm} {c : Nat} (h : MapIs w m K R c) : ∃ es clock, w.heap[m]? = some (Obj.map es clock) := by
  obtain ⟨D, ⟨es, clock, hb, -⟩, -⟩ := h; exact ⟨es, clock, hb⟩

/-- The room at block g: its blocks lie from base on. -/
def Room (w : World) (base g K : Nat) (R : Rm) : Prop :=
  ∃ (vs : Array Value) (mp : Nat → Option Nat), w.heap[g]? = some (Obj.cells vs 97 (0, 0)) ∧ Rcs vs R mp ∧ base ≤ g ∧ (∀ c, c < 1000 → mp c = none → ∀ t, t < 1000 → inC R c t = false) ∧
    (∀ c m, c < 1000 → mp c = some m → base ≤ m ∧ MapIs w m K R c) ∧ (∀ c d m, c < 1000 → d < 1000 → mp c = some m → mp d = some m → c = d)
theorem Room.mono {w : World} {base g K K' : Nat} {R : Rm} (h : Room w base g K R) (hk : K ≤ K') : Room w base g K' R := by
  obtain ⟨vs, mp, h1, h2, h3, h4, h5, h6⟩ := h
  exact ⟨vs, mp, h1, h2, h3, h4, fun c m hc hm => ⟨(h5 c m hc hm).1, (h5 c m hc hm).2.mono hk⟩, h6⟩
theorem Room.lt {w : World} {base g K : Nat} {R : Rm} (h : Room w base g K R) : base ≤ g ∧ g < w.heap.size := by
  obtain ⟨vs, mp, h1, h2, h3, h4, h5, h6⟩ := h
  exact ⟨h3, (Array.getElem?_eq_some_iff.1 h1).1⟩
theorem Room.cellSt {w : World} {base g K : Nat} {R : Rm} (h : Room w base g K R) {t : Nat} (ht : t < 1000) : w.cell? ⟨g, t * 2, none⟩ = some (.int .i64 (R.st t)) := by
  obtain ⟨vs, mp, h1, h2, -⟩ := h
  have e := h2.st t ht
  simp [World.cell?, h1, e]
theorem Room.cellCy {w : World} {base g K : Nat} {R : Rm} (h : Room w base g K R) {t : Nat} (ht : t < 1000) : ∃ c, w.cell? ⟨g, t * 2 + 1, none⟩ = some (.int .i64 c) ∧ (R.st t = 2 ∨ R.st t = 3 → c = R.cy t) := by
  obtain ⟨vs, mp, h1, h2, -⟩ := h
  obtain ⟨c, e, e2⟩ := h2.cy t ht
  exact ⟨c, by simp [World.cell?, h1, e], e2⟩
theorem Room.cellOv {w : World} {base g K : Nat} {R : Rm} (h : Room w base g K R) {c : Nat} (hc : c < 1000) : w.cell? ⟨g, 2000 + c * 2, none⟩ = some (.bool (R.ov c)) := by
  obtain ⟨vs, mp, h1, h2, -⟩ := h
  have e := h2.ov c hc
  simp [World.cell?, h1, e]
theorem Room.fro {w : World} {base g K : Nat} {R : Rm} (h : Room w base g K R) (j : Nat) : w.frozen? ⟨g, j, none⟩ = false := by
  obtain ⟨vs, mp, h1, -⟩ := h
  simp [World.frozen?, h1]
/-- Nothing turns but the room's own blocks. -/
structure Tf (base : Nat) (w w' : World) : Prop where
  os : w'.os = w.os
  tape : w'.tape = w.tape
  output : w'.output = w.output
  size : w.heap.size ≤ w'.heap.size
  block : ∀ b : Nat, b < base → w'.heap[b]? = w.heap[b]?
  cells : ∀ (b : Nat) vs t fr, w.heap[b]? = some (Obj.cells vs t fr) → t ≠ 97 → w'.heap[b]? = w.heap[b]?
theorem Tf.refl (base : Nat) (w : World) : Tf base w w := ⟨rfl, rfl, rfl, Nat.le_refl _, fun _ _ => rfl, fun _ _ _ _ _ _ => rfl⟩
theorem Tf.trans {base : Nat} {w w1 w2 : World} (h : Tf base w w1) (h2 : Tf base w1 w2) : Tf base w w2 :=
  ⟨h2.os.trans h.os, h2.tape.trans h.tape, h2.output.trans h.output, Nat.le_trans h.size h2.size, fun b hb => (h2.block b hb).trans (h.block b hb), fun b vs t fr hb ht => (h2.cells b vs t fr ((h.cells b vs t fr hb ht).trans hb) ht).trans (h.cells b vs t fr hb ht)⟩
theorem Tf.below {base : Nat} {w w' : World} (h : Tf base w w') : Below base w w' := ⟨h.os, h.tape, h.output, h.size, h.block⟩
theorem Tf.of_below {base : Nat} {w w' : World} (h : Below w.heap.size w w') (hb : base ≤ w.heap.size) : Tf base w w' :=
  ⟨h.os, h.tape, h.output, h.size, fun b q => h.block b (by omega), fun b vs t fr q _ => h.block b (Array.getElem?_eq_some_iff.1 q).1⟩
theorem Tf.set {base g K : Nat} {R : Rm} {w : World} (h : Room w base g K R) (j : Nat) (v : Value) : Tf base w (w.setCell ⟨g, j, none⟩ v) := by
  have hb := (Below.refl g w).setCell (p := ⟨g, j, none⟩) (Nat.le_refl _) v
  have hl := h.lt
  obtain ⟨vs, mp, h1, -⟩ := h
  refine ⟨hb.os, hb.tape, hb.output, by simp [World.setCell], fun b q => Below.heap_setCell _ _ _ _ (by show b ≠ g; omega), fun b us t fr q ht => Below.heap_setCell _ _ _ _ (fun e => ?_)⟩
  have e2 : b = g := e
  rw [e2, h1] at q
  simp only [Option.some.injEq, Obj.cells.injEq] at q
  exact ht q.2.1.symm
/-- The room stays while other blocks turn. -/
theorem Room.keep {w w' : World} {base g K : Nat} {R : Rm} (h : Room w base g K R) (hg : ∀ b : Nat, (∃ es c, w.heap[b]? = some (Obj.map es c)) ∨ (∃ vs fr, w.heap[b]? = some (Obj.cells vs 97 fr)) → w'.heap[b]? = w.heap[b]?) : Room w' base g K R := by
  obtain ⟨vs, mp, h1, h2, h3, h4, h5, h6⟩ := h
  exact ⟨vs, mp, (hg g (Or.inr ⟨vs, _, h1⟩)).trans h1, h2, h3, h4, fun c m hc hm => ⟨(h5 c m hc hm).1, (h5 c m hc hm).2.keep (hg m (Or.inl (h5 c m hc hm).2.isMap))⟩, h6⟩
theorem Room.below {w w' : World} {base g K : Nat} {R : Rm} (h : Room w base g K R) (hb : Below w.heap.size w w') : Room w' base g K R := h.keep fun b q => by
  rcases q with ⟨es, c, q⟩ | ⟨vs, fr, q⟩
  · exact hb.block b (Array.getElem?_eq_some_iff.1 q).1
  · exact hb.block b (Array.getElem?_eq_some_iff.1 q).1
theorem Room.grown {w w' : World} {base g K b2 e s n : Nat} {R : Rm} {v : Value} {xs : List Value} (h : Room w base g K R) (ho : w.ownsRow b2 e s v n xs) (he : e ≠ 97) (hg : w.grownBy w' v.ownBlock) : Room w' base g K R := h.keep fun b q => by
  have hlt : b < w.heap.size := by rcases q with ⟨es, c, q⟩ | ⟨vs, fr, q⟩ <;> exact (Array.getElem?_eq_some_iff.1 q).1
  refine hg.block b hlt (fun e2 => ?_)
  obtain ⟨q1, ⟨rfl, _⟩ | ⟨k, cap, cur, rfl, hk, hh, _⟩⟩ := ho
  · cases e2
  · have e3 : b = k := by simpa [Value.ownBlock] using e2
    rw [e3, hh] at q
    rcases q with ⟨es, c, q⟩ | ⟨vs, fr, q⟩
    · cases q
    · simp only [Option.some.injEq, Obj.cells.injEq] at q
      exact he q.2.1
theorem room_new {Z : Array Value} (hs : Z.size = 4000) (h : ∀ j, j < 4000 → Z[j]? = some (zc j)) (w : World) (base : Nat) (hb : base ≤ w.heap.size) : Room (w.alloc (.cells Z 97)) base w.heap.size 0 rm0 :=
  ⟨Z, fun _ => none, (MapKept.heap_alloc w _).1, rcs_zero hs h, hb, fun c _ _ t _ => by simp [inC, rm0], fun c m _ hm => (by cases hm), fun c d m _ _ hm => (by cases hm)⟩

theorem sib_ne {vs : Array Value} {i j : Nat} {v : Value} (h : i ≠ j) : (vs.setIfInBounds i v)[j]? = vs[j]? := by rw [Array.getElem?_setIfInBounds, if_neg h]
theorem sib_eq {vs : Array Value} {i : Nat} {v : Value} (h : i < vs.size) : (vs.setIfInBounds i v)[i]? = some v := by rw [Array.getElem?_setIfInBounds, if_pos rfl, if_pos h]
/-- A tray that is in no cycle gets a state that is none. -/
theorem Room.putSt {w : World} {base g K : Nat} {R : Rm} (h : Room w base g K R) {t : Nat} (ht : t < 1000) (hn : R.st t ≠ 2) (v : Int) (hv : v ≠ 2 ∧ v ≠ 3) : Room (w.setCell ⟨g, t * 2, none⟩ (.int .i64 v)) base g K ⟨upd R.st t v, R.cy, R.ov⟩ := by
  have hi : ∀ (c : Int) (s : Nat), inC ⟨upd R.st t v, R.cy, R.ov⟩ c s = inC R c s := fun c s => by
    unfold inC upd
    by_cases q : s = t
    · subst q; simp [hn, hv.1]
    · simp [q]
  obtain ⟨vs, mp, h1, h2, h3, h4, h5, h6⟩ := h
  have hb : (w.setCell ⟨g, t * 2, none⟩ (.int .i64 v)).heap[g]? = some (.cells (vs.setIfInBounds (t * 2) (.int .i64 v)) 97 (0, 0)) := by
    rw [setCell_eq_setRow w g (t * 2) vs _ _ _ h1]
    exact setRow_heap w g vs _ _ _ h1
  refine ⟨_, mp, hb, ⟨by simp [h2.size], fun s hs => ?_, fun s hs => ?_, fun c hc => ?_, fun c hc => ?_⟩, h3, fun c hc hm s hs => by rw [hi]; exact h4 c hc hm s hs, fun c m hc hm => ⟨(h5 c m hc hm).1, ((h5 c m hc hm).2.turn (R' := ⟨upd R.st t v, R.cy, R.ov⟩) (fun s _ => hi c s)).keep (Below.heap_setCell _ _ _ _ ?_)⟩, h6⟩
  · by_cases q : s = t
    · subst q; rw [sib_eq (by rw [h2.size]; omega)]; simp [upd]
    · rw [sib_ne (by omega), h2.st s hs]; simp [upd, q]
  · obtain ⟨c, e1, e2⟩ := h2.cy s hs
    refine ⟨c, ?_, fun q => ?_⟩
    · rw [sib_ne (by omega), e1]
    · simp only [upd] at q
      by_cases q2 : s = t
      · rw [if_pos q2] at q; exact absurd q (by simp [hv.1, hv.2])
      · rw [if_neg q2] at q; exact e2 q
  · rw [sib_ne (by omega), h2.ov c hc]
  · rw [sib_ne (by omega), h2.mp c hc]
  · intro e
    obtain ⟨es, cl, q⟩ := (h5 c m hc hm).2.isMap
    have e2 : m = g := e
    rw [e2, h1] at q; cases q
/-- The cycle of a tray that is neither in one nor sterile says nothing. -/
theorem Room.putCy {w : World} {base g K : Nat} {R : Rm} (h : Room w base g K R) {t : Nat} (ht : t < 1000) (hn : R.st t ≠ 2 ∧ R.st t ≠ 3) (v : Int) : Room (w.setCell ⟨g, t * 2 + 1, none⟩ (.int .i64 v)) base g K R := by
  obtain ⟨vs, mp, h1, h2, h3, h4, h5, h6⟩ := h
  have hb : (w.setCell ⟨g, t * 2 + 1, none⟩ (.int .i64 v)).heap[g]? = some (.cells (vs.setIfInBounds (t * 2 + 1) (.int .i64 v)) 97 (0, 0)) := by
    rw [setCell_eq_setRow w g (t * 2 + 1) vs _ _ _ h1]
    exact setRow_heap w g vs _ _ _ h1
  refine ⟨_, mp, hb, ⟨by simp [h2.size], fun s hs => ?_, fun s hs => ?_, fun c hc => ?_, fun c hc => ?_⟩, h3, h4, fun c m hc hm => ⟨(h5 c m hc hm).1, (h5 c m hc hm).2.keep (Below.heap_setCell _ _ _ _ ?_)⟩, h6⟩
  · rw [sib_ne (by omega), h2.st s hs]
  · by_cases q : s = t
    · subst q
      refine ⟨v, ?_, fun q => ?_⟩
      · rw [sib_eq (by rw [h2.size]; omega)]
      · exact absurd q (by simp [hn.1, hn.2])
    · obtain ⟨c, e1, e2⟩ := h2.cy s hs
      refine ⟨c, ?_, e2⟩
      rw [sib_ne (by omega), e1]
  · rw [sib_ne (by omega), h2.ov c hc]
  · rw [sib_ne (by omega), h2.mp c hc]
  · intro e
    obtain ⟨es, cl, q⟩ := (h5 c m hc hm).2.isMap
    have e2 : m = g := e
    rw [e2, h1] at q; cases q
end Go.Proofs.Ytklgadaefngnnaa
