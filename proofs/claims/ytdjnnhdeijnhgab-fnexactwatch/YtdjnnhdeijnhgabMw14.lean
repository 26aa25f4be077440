/-
  In company: goroutine 0's own view of the world, by the blocks' true numbers; what others do leaves it.
-/
import Derived.Test.YtdjnnhdeijnhgabMw13
import Derived.Test.YtdjnnhdeijnhgabMw11
import Derived.Laws.AppendOwn
namespace Go.Proofs.Ytdjnnhdeijnhgab.Rn
open Go Go.Conc
set_option linter.all false

theorem rV_comp (f g : Nat → Nat) : ∀ v : Value, rV g (rV f v) = rV (fun b => g (f b)) v
  | .pointer (some a) => by rw [rV_p, rV_p, rV_p]; rfl
  | .pointer none => by simp
  | .slice (some a) n c => by rw [rV_s, rV_s, rV_s]; rfl
  | .slice none n c => by simp
  | .map (some r) => by rw [rV_m, rV_m, rV_m]
  | .map none => by simp
  | .chan (some r) => by rw [rV_c, rV_c, rV_c]
  | .chan none => by simp
  | .func h x y => by
    rw [rV_func, rV_func, rV_func]
    congr 1
    · refine Array.ext (by simp) fun i h1 h2 => ?_
      rw [Array.getElem_map, Array.getElem_map, Array.getElem_map]
      exact rV_comp f g _
    · refine Array.ext (by simp) fun i h1 h2 => ?_
      rw [Array.getElem_map, Array.getElem_map, Array.getElem_map]
      exact rV_comp f g _
  | .iface t v => by rw [rV_iface, rV_iface, rV_iface, rV_comp f g v]
  | .agg cs => by
    rw [rV_agg, rV_agg, rV_agg]
    congr 1
    refine Array.ext (by simp) fun i h1 h2 => ?_
    rw [Array.getElem_map, Array.getElem_map, Array.getElem_map]
    exact rV_comp f g _
  | .tuple cs => by
    rw [rV_tuple, rV_tuple, rV_tuple]
    congr 1
    refine Array.ext (by simp) fun i h1 h2 => ?_
    rw [Array.getElem_map, Array.getElem_map, Array.getElem_map]
    exact rV_comp f g _
  | .int k n => by simp
  | .bool b => by simp
  | .string s => by simp
  | .float k n => by simp
  | .complex k n m => by simp
  | .nilFunc => by simp
  | .nilIface => by simp
termination_by v => SizeOf.sizeOf v
decreasing_by
  all_goals simp_wf
  all_goals first
    | (have := Array.sizeOf_lt_of_mem (Array.getElem_mem (xs := x) (i := i) (by simpa using h1)); omega)
    | (have := Array.sizeOf_lt_of_mem (Array.getElem_mem (xs := y) (i := i) (by simpa using h1)); omega)
    | (have := Array.sizeOf_lt_of_mem (Array.getElem_mem (xs := cs) (i := i) (by simpa using h1)); omega)
    | omega
/-- A value that names blocks below z alone. -/
def Low (z : Nat) (v : Value) : Prop := ∀ f g : Nat → Nat, (∀ b, b < z → f b = g b) → rV f v = rV g v
theorem Low.fix {z : Nat} {v : Value} (h : Low z v) {f : Nat → Nat} (hf : ∀ b, b < z → f b = b) : rV f v = v := (h f idF hf).trans (rV_id v)
theorem Low.mono {z z' : Nat} {v : Value} (h : Low z v) (hz : z ≤ z') : Low z' v := fun f g hf => h f g fun b hb => hf b (by omega)
theorem Low.ren {z z' : Nat} {v : Value} (h : Low z v) {f : Nat → Nat} (hf : ∀ b, b < z → f b < z') : Low z' (rV f v) := fun g g' hg => by
  rw [rV_comp, rV_comp]
  exact h _ _ fun b hb => hg _ (hf b hb)
theorem low_fix {z : Nat} {vs : Array Value} (h : ∀ v ∈ vs, Low z v) {f : Nat → Nat} (hf : ∀ b, b < z → f b = b) : vs.map (rV f) = vs := by
  refine Array.ext (by simp) fun i h1 h2 => ?_
  rw [Array.getElem_map]
  exact (h _ (Array.getElem_mem _)).fix hf
/-- Nothing but these blocks can be looked at. -/
def only (D : Nat → Prop) [DecidablePred D] (w : World) : World := { w with heap := w.heap.mapIdx fun b o => if D b then o else Dead }
/-- More blocks that cannot be looked at. -/
def pad (w : World) (z : Nat) : World := { w with heap := w.heap ++ Array.replicate (z - w.heap.size) Dead }
/-- What goroutine 0 may look at, by true numbers. -/
structure View (wl w : World) : Prop where
  cells : ∀ (b : Nat) (o : Obj), wl.heap[b]? = some o → o ≠ Dead → w.heap[b]? = some o ∧ ∃ cs e fz, o = .cells cs e fz ∧ ∀ v ∈ cs, Low wl.heap.size v
  size : wl.heap.size = w.heap.size
theorem View.wr {wl w : World} (h : View wl w) {f : Nat → Nat} (hf : ∀ b, b < w.heap.size → f b = b) : WR (fun b => wl.heap[b]? = some Dead) f wl w := by
  refine ⟨fun b cs e fz hb => ?_, fun b a l hb => ?_, fun b o hb => ?_, fun _ q => q, fun _ q => q, fun b b' hb hb' e => ?_, fun b hb => ?_⟩
  · obtain ⟨h1, cs', e', fz', h2, h3⟩ := h.cells b _ hb (by simp [Dead])
    obtain ⟨rfl, rfl, rfl⟩ := Obj.cells.inj h2
    rw [hf b (Array.getElem?_eq_some_iff.1 h1).1, low_fix h3 (by rw [h.size]; exact hf)]
    exact h1
  · obtain ⟨h1, cs', e', fz', h2, h3⟩ := h.cells b _ hb (by simp [Dead])
    cases h2
  · by_cases ho : o = Dead
    · exact Or.inr (Or.inr ho)
    · obtain ⟨h1, cs', e', fz', h2, h3⟩ := h.cells b _ hb ho
      exact Or.inl ⟨_, _, _, h2⟩
  · rwa [hf b (by rw [← h.size]; exact hb), hf b' (by rw [← h.size]; exact hb')] at e
  · rw [hf b (by rw [← h.size]; exact hb), ← h.size]; exact hb
theorem pad_size {w : World} {z : Nat} (h : w.heap.size ≤ z) : (pad w z).heap.size = z := by
  unfold pad
  simp
  omega
theorem pad_old {w : World} {z b : Nat} (h : b < w.heap.size) : (pad w z).heap[b]? = w.heap[b]? := by
  unfold pad
  exact Array.getElem?_append_left h
theorem pad_alive {w : World} {z b : Nat} {o : Obj} (h : (pad w z).heap[b]? = some o) (ho : o ≠ Dead) : w.heap[b]? = some o := by
  by_cases hb : b < w.heap.size
  · rwa [pad_old hb] at h
  · unfold pad at h
    rw [Array.getElem?_append_right (by omega), Array.getElem?_replicate] at h
    split at h
    · exact absurd (Option.some.inj h).symm ho
    · cases h
theorem only_alive {D : Nat → Prop} [DecidablePred D] {w : World} {b : Nat} {o : Obj} (h : (only D w).heap[b]? = some o) (ho : o ≠ Dead) : w.heap[b]? = some o ∧ D b := by
  unfold only at h
  rw [Array.getElem?_mapIdx] at h
  cases hb : w.heap[b]? with
  | none => rw [hb] at h; cases h
  | some o' =>
    rw [hb] at h
    simp only [Option.map_some, Option.some.injEq] at h
    split at h
    · rename_i hd
      exact ⟨by rw [h], hd⟩
    · exact absurd h.symm ho
theorem only_at {D : Nat → Prop} [DecidablePred D] {w : World} {b : Nat} (h : D b) : (only D w).heap[b]? = w.heap[b]? := by
  unfold only
  rw [Array.getElem?_mapIdx]
  cases hb : w.heap[b]? with
  | none => rfl
  | some o' => simp [h]
theorem only_size (D : Nat → Prop) [DecidablePred D] (w : World) : (only D w).heap.size = w.heap.size := by unfold only; simp
/-- What there was to look at is there, renamed. -/
structure Emb (f : Nat → Nat) (w w' : World) : Prop where
  cells : ∀ (b : Nat) cs e fz, w.heap[b]? = some (Obj.cells cs e fz) → w'.heap[f b]? = some (Obj.cells (cs.map (rV f)) e fz)
  lt : ∀ b, b < w.heap.size → f b < w'.heap.size
theorem Emb.of_view {wl w w' : World} (h : View wl w) (hle : wl.heap.size ≤ w'.heap.size) (hk : ∀ (b : Nat) (o : Obj), wl.heap[b]? = some o → o ≠ Dead → w'.heap[b]? = some o) : Emb idF wl w' := by
  refine ⟨fun b cs e fz hb => ?_, fun b hb => Nat.lt_of_lt_of_le hb hle⟩
  rw [rVs_id]
  exact hk b _ hb (by simp [Dead])
section
variable {P : Program} {I : St → Prop} {R : (Nat → Prop) → World → World → (Nat → Prop) → Prop} {x y z : St} {wl wE wF : World}
structure Vw (I : St → Prop) (x : St) (wl : World) : Prop where
  inv : I x
  view : View wl x.w
  dis : ∀ b, Alive wl b → ¬ x.N b
structure CTo (P : Program) (x : St) (wl : World) (y : St) (wE : World) : Prop where
  to : To P x y
  out : ∀ b, b < x.w.heap.size → ¬ x.N b → ¬ IsC wl b → y.w.heap[b]? = x.w.heap[b]?
  lone : ∀ b, b < x.w.heap.size → IsC wE b → IsC wl b
  old : ∀ b, b < x.w.heap.size → y.N b → x.N b
  more : ∀ b, x.N b → y.N b
  le : x.w.heap.size ≤ y.w.heap.size
  tape : y.w.tape = x.w.tape
  os : y.w.os = x.w.os
  output : y.w.output = x.w.output
theorem CTo.refl : CTo P x wl x wl := ⟨To.refl x, fun _ _ _ _ => rfl, fun _ _ h => h, fun _ _ h => h, fun _ h => h, Nat.le_refl _, rfl, rfl, rfl⟩
theorem CTo.trans (h : CTo P x wl y wE) (k : CTo P y wE z wF) : CTo P x wl z wF :=
  ⟨h.to.trans k.to, fun b hb hN hc => (k.out b (Nat.lt_of_lt_of_le hb h.le) (fun q => hN (h.old b hb q)) fun q => hc (h.lone b hb q)).trans (h.out b hb hN hc), fun b hb q => h.lone b hb (k.lone b (Nat.lt_of_lt_of_le hb h.le) q), fun b hb q => h.old b hb (k.old b (Nat.lt_of_lt_of_le hb h.le) q), fun b q => k.more b (h.more b q), Nat.le_trans h.le k.le, k.tape.trans h.tape, k.os.trans h.os, k.output.trans h.output⟩
/-- Goroutine 0, standing so in company, comes to where Q holds. -/
def Cp (P : Program) (I : St → Prop) (g : Goroutine) (wl : World) (Q : Goroutine → World → Prop) : Prop :=
  ∀ x, Vw I x wl → x.gs[0]? = some g → ∃ y g' wE, Q g' wE ∧ y.gs[0]? = some g' ∧ Vw I y wE ∧ CTo P x wl y wE
variable {Q Q' : Goroutine → World → Prop} {g : Goroutine}
theorem Cp.done (h : Q g wl) : Cp P I g wl Q := fun x hk h0 => ⟨x, g, wl, h, h0, hk, CTo.refl⟩
theorem Cp.bind (h : Cp P I g wl Q') (k : ∀ g' wE, Q' g' wE → Cp P I g' wE Q) : Cp P I g wl Q := by
  intro x hk h0
  obtain ⟨y, g', wE, q, h1, h2, h3⟩ := h x hk h0
  obtain ⟨z, g2, wF, q2, k1, k2, k3⟩ := k g' wE q y h2 h1
  exact ⟨z, g2, wF, q2, k1, k2, h3.trans k3⟩
theorem View.oth {N N' : Nat → Prop} {w w' : World} (h : View wl w) (hd : ∀ b, Alive wl b → ¬ N b) (ho : OthW N w w' N') : View (pad wl w'.heap.size) w' := by
  have hs : (pad wl w'.heap.size).heap.size = w'.heap.size := pad_size (by rw [h.size]; exact ho.size)
  refine ⟨fun b o hb hn => ?_, hs⟩
  have hb' := pad_alive hb hn
  obtain ⟨h1, cs, e, fz, h2, h3⟩ := h.cells b o hb' hn
  refine ⟨(ho.same b (Array.getElem?_eq_some_iff.1 h1).1 (hd b ⟨o, hb', hn⟩)).trans h1, cs, e, fz, h2, fun v hv => (h3 v hv).mono ?_⟩
  rw [hs, h.size]; exact ho.size
/-- What the others do. -/
theorem Vw.oth {I' : St → Prop} (h : Vw I x wl) (hI : I' y) (ho : OthW x.N x.w y.w y.N) : Vw I' y (pad wl y.w.heap.size) := by
  refine ⟨hI, h.view.oth h.dis ho, fun b hb hN => ?_⟩
  obtain ⟨o, hb, hn⟩ := hb
  have hb' := pad_alive hb hn
  exact h.dis b ⟨o, hb', hn⟩ (ho.new b (Array.getElem?_eq_some_iff.1 (h.view.cells b o hb' hn).1).1 hN)
theorem isC_pad {zz b : Nat} (h : IsC (pad wl zz) b) : IsC wl b := by
  obtain ⟨cs, e, fz, h⟩ := h
  exact ⟨cs, e, fz, pad_alive h (by simp [Dead])⟩
theorem CTo.oth (h : Vw I x wl) (ht : To P x y) (ho : OthW x.N x.w y.w y.N) : CTo P x wl y (pad wl y.w.heap.size) :=
  ⟨ht, fun b hb hN _ => ho.same b hb hN, fun b _ q => isC_pad q, fun b hb q => ho.new b hb q, ho.more, ho.size, ho.tape, ho.os, ho.output⟩
/-- More of the world, none of it goroutine 0's. -/
structure Wide (wl wv : World) : Prop where
  le : wl.heap.size ≤ wv.heap.size
  alive : ∀ (b : Nat) (o : Obj), o ≠ Dead → (wv.heap[b]? = some o ↔ wl.heap[b]? = some o)
theorem wide_pad {zz : Nat} (h : wl.heap.size ≤ zz) : Wide wl (pad wl zz) := by
  refine ⟨by rw [pad_size h]; exact h, fun b o ho => ⟨fun q => pad_alive q ho, fun q => ?_⟩⟩
  rw [pad_old (Array.getElem?_eq_some_iff.1 q).1]
  exact q
/-- An own step. -/
theorem Cp.step (hK : Comp P I R) {fr : Frame} {cs : List Frame}
    (h : ∀ wv w, Wide wl wv → View wv w → ∃ fr' cs' w' es wv', stepG P true (G fr cs) w = .go (G fr' cs') w' es ∧ w'.tape = w.tape ∧ w'.os = w.os ∧ w'.output = w.output ∧ w.heap.size ≤ w'.heap.size ∧ (∀ b, b < w.heap.size → ¬ IsC wv b → w'.heap[b]? = w.heap[b]?) ∧ (∀ b, b < w.heap.size → IsC wv' b → IsC wv b) ∧ View wv' w' ∧ (∀ e ∈ es, ∃ a wr, e = ⟨.cell a, wr, false⟩ ∧ IsC wv' a.block) ∧ Cp P I (G fr' cs') wv' Q) : Cp P I (G fr cs) wl Q := by
  intro x hk h0
  obtain ⟨y, d, sl, hI, hgy, hto, hR, hst⟩ := ready hK _ x fr cs (Nat.le_refl _) hk.inv h0
  have ho := hK.oth hR
  have hv := hk.oth hI ho
  have hvd : View (pad wl y.w.heap.size) (y.w.at d) := ⟨hv.view.cells, hv.view.size⟩
  obtain ⟨fr', cs', w', es, wv', hs, ht, hos, hou, hle, hout, hback, hview, hev, hq⟩ := h (pad wl y.w.heap.size) (y.w.at d) (wide_pad (by rw [hk.view.size]; exact ho.size)) hvd
  have hdis' : ∀ b, Alive wv' b → ¬ y.N b := by
    intro b hb hN
    have hbl := hK.low y hI b hN
    obtain ⟨o, hb1, hb2⟩ := hb
    obtain ⟨-, cs0, e0, fz0, rfl, -⟩ := hview.cells b o hb1 hb2
    exact hv.dis b (isC_alive (hback b hbl ⟨_, _, _, hb1⟩)) hN
  have hmine : MineW y.N y.w w' := ⟨ht, hos, hou, hle, fun b hN => hout b (hK.low y hI b hN) fun hc => hv.dis b (isC_alive hc) hN⟩
  have hevc : ∀ e ∈ es, EvC y.N w'.heap.size e := fun e he => by
    obtain ⟨a, wr, rfl, hc⟩ := hev e he
    exact Or.inl ⟨a, wr, rfl, hdis' _ (isC_alive hc), by rw [← hview.size]; exact isC_lt hc⟩
  have hI2 := hK.own y fr cs d sl fr' cs' w' es hI (hgy.trans h0) hs hmine hevc
  have hone : One P y (y.own P sl (G fr cs) (G fr' cs') w' es) := by
    refine ⟨MemOp.ofEvents 0 (G fr cs).frame.fn (G fr cs).frame.place es, ?_, rfl⟩
    rw [hst]
    exact runT_crowd_go (hgy.trans h0) (show stepG P (0 == 0) (G fr cs) (y.w.at d) = _ from hs)
  have hsz : 0 < y.gs.size := (Array.getElem?_eq_some_iff.1 (hgy.trans h0)).1
  have hg2 : (y.own P sl (G fr cs) (G fr' cs') w' es).gs[0]? = some (G fr' cs') := by
    show ((y.gs.map (woken P (G fr cs) (G fr' cs') w')).setIfInBounds 0 (G fr' cs'))[0]? = _
    simp [hsz]
  have hct1 := CTo.oth (P := P) hk hto ho
  have hct2 : CTo P y (pad wl y.w.heap.size) (y.own P sl (G fr cs) (G fr' cs') w' es) wv' :=
    ⟨hone.to, fun b hb _ hc => hout b hb hc, fun b hb q => hback b hb q, fun _ _ q => q, fun _ q => q, hle, ht, hos, hou⟩
  have hvw2 : Vw I (y.own P sl (G fr cs) (G fr' cs') w' es) wv' := ⟨hI2, hview, hdis'⟩
  obtain ⟨z, g2, wF, q2, k1, k2, k3⟩ := hq _ hvw2 hg2
  exact ⟨z, g2, wF, q2, k1, k2, (hct1.trans hct2).trans k3⟩
end
end Go.Proofs.Ytdjnnhdeijnhgab.Rn

/-
  In company: goroutine 0's own steps and calls.
-/
namespace Go.Proofs.Ytdjnnhdeijnhgab.Rn
open Go Go.Conc
set_option linter.all false

theorem Wide.emb {wl wv : World} (h : Wide wl wv) : Emb idF wl wv := by
  refine ⟨fun b cs e fz hb => ?_, fun b hb => Nat.lt_of_lt_of_le hb h.le⟩
  rw [rVs_id]
  exact (h.alive b _ (by simp [Dead])).2 hb
theorem Wide.trans {w1 w2 w3 : World} (h : Wide w1 w2) (k : Wide w2 w3) : Wide w1 w3 := ⟨Nat.le_trans h.le k.le, fun b o ho => (k.alive b o ho).trans (h.alive b o ho)⟩
/-- One more block. -/
structure Plus (wl : World) (r : Nat) (o : Obj) (wv : World) : Prop where
  le : wl.heap.size ≤ r
  size : wv.heap.size = r + 1
  at_ : wv.heap[r]? = some o
  old : ∀ (b : Nat) (o' : Obj), o' ≠ Dead → b ≠ r → (wv.heap[b]? = some o' ↔ wl.heap[b]? = some o')
section
variable {P : Program} {A : Nat → Prop} {I : St → Prop} {R : (Nat → Prop) → World → World → (Nat → Prop) → Prop} {x y z : St} {wl wE wF : World} {Q Q' : Goroutine → World → Prop} {g : Goroutine}
theorem Cp.ctl (hK : Comp P I R) {fr fr' : Frame} {cs cs' : List Frame} (h : ∀ w, stepG P true (G fr cs) w = .go (G fr' cs') w #[]) (k : ∀ wv, Wide wl wv → Cp P I (G fr' cs') wv Q) : Cp P I (G fr cs) wl Q :=
  Cp.step hK fun wv w hw hv => ⟨fr', cs', w, #[], wv, h w, rfl, rfl, rfl, Nat.le_refl _, fun _ _ _ => rfl, fun _ _ q => q, hv, fun e he => by simp at he, k wv hw⟩
theorem Cp.same (hK : Comp P I R) {fr fr' : Frame} {cs cs' : List Frame} (h : ∀ wv w, Wide wl wv → View wv w → ∃ es, stepG P true (G fr cs) w = .go (G fr' cs') w es ∧ ∀ e ∈ es, ∃ a wr, e = ⟨.cell a, wr, false⟩ ∧ IsC wv a.block) (k : ∀ wv, Wide wl wv → Cp P I (G fr' cs') wv Q) : Cp P I (G fr cs) wl Q :=
  Cp.step hK fun wv w hw hv => by
    obtain ⟨es, h1, h2⟩ := h wv w hw hv
    exact ⟨fr', cs', w, es, wv, h1, rfl, rfl, rfl, Nat.le_refl _, fun _ _ _ => rfl, fun _ _ q => q, hv, h2, k wv hw⟩
theorem Cp.new (hK : Comp P I R) {fr : Frame} {fr' : Nat → Frame} {cs cs' : List Frame} {cells : Array Value} {e : TypeId} {fz : Nat × Nat} (hlow : ∀ v ∈ cells, Low 0 v)
    (h : ∀ w, stepG P true (G fr cs) w = .go (G (fr' w.heap.size) cs') { w with heap := w.heap.push (.cells cells e fz) } #[]) (k : ∀ wv r, Plus wl r (.cells cells e fz) wv → Cp P I (G (fr' r) cs') wv Q) : Cp P I (G fr cs) wl Q :=
  Cp.step hK fun wv w hw hv => by
    have hpl : Plus wl w.heap.size (.cells cells e fz) { wv with heap := wv.heap.push (.cells cells e fz) } := by
      have hle := hw.le
      rw [← hv.size]
      refine ⟨hle, by simp, by simp, fun b o' ho hb => ?_⟩
      rw [← hw.alive b o' ho]
      show (wv.heap.push (.cells cells e fz))[b]? = some o' ↔ _
      rw [Array.getElem?_push, if_neg hb]
    refine ⟨_, _, _, _, { wv with heap := wv.heap.push (.cells cells e fz) }, h w, rfl, rfl, rfl, by simp, fun b hb _ => ?_, fun b hb q => ?_, ⟨fun b o hb hn => ?_, by simp [hv.size]⟩, fun e he => by simp at he, k _ _ hpl⟩
    · show (w.heap.push _)[b]? = _
      rw [Array.getElem?_push, if_neg (by omega)]
    · obtain ⟨cs, e', fz', q⟩ := q
      refine ⟨cs, e', fz', ?_⟩
      change (wv.heap.push _)[b]? = _ at q
      rwa [Array.getElem?_push, if_neg (by rw [hv.size]; omega)] at q
    · change (wv.heap.push _)[b]? = _ at hb
      rw [Array.getElem?_push] at hb
      split at hb
      · rename_i hbe
        obtain rfl := Option.some.inj hb
        refine ⟨?_, _, _, _, rfl, fun v hv' => (hlow v hv').mono (Nat.zero_le _)⟩
        show (w.heap.push _)[b]? = _
        rw [Array.getElem?_push, if_pos (by rw [hbe, hv.size])]
      · obtain ⟨h1, cs', e', fz', h2, h3⟩ := hv.cells b o hb hn
        refine ⟨?_, cs', e', fz', h2, fun v hv' => (h3 v hv').mono (by simp)⟩
        show (w.heap.push _)[b]? = _
        rw [Array.getElem?_push, if_neg (by have := (Array.getElem?_eq_some_iff.1 h1).1; omega)]
        exact h1
/-- The block behind a store into it. -/
theorem Cp.put (hK : Comp P I R) {fr fr' : Frame} {cs cs' : List Frame} {r : Nat} {cells cells' : Array Value} {e : TypeId} {fz : Nat × Nat} (hr : wl.heap[r]? = some (.cells cells e fz)) (hlow : ∀ v ∈ cells', Low 0 v)
    (h : ∀ w : World, w.heap[r]? = some (.cells cells e fz) → ∃ w' es, stepG P true (G fr cs) w = .go (G fr' cs') w' es ∧ w' = { w with heap := w.heap.setIfInBounds r (.cells cells' e fz) } ∧ ∀ e ∈ es, ∃ a wr, e = ⟨.cell a, wr, false⟩ ∧ a.block = r)
    (k : ∀ wv : World, wl.heap.size ≤ wv.heap.size → wv.heap[r]? = some (.cells cells' e fz) → (∀ (b : Nat) (o : Obj), o ≠ Dead → b ≠ r → (wv.heap[b]? = some o ↔ wl.heap[b]? = some o)) → Cp P I (G fr' cs') wv Q) : Cp P I (G fr cs) wl Q :=
  Cp.step hK fun wv w hw hv => by
    have hr1 := (hw.alive r _ (by simp [Dead])).2 hr
    obtain ⟨hr2, -⟩ := hv.cells r _ hr1 (by simp [Dead])
    have hlt := (Array.getElem?_eq_some_iff.1 hr2).1
    have hltv : r < wv.heap.size := by rw [hv.size]; exact hlt
    obtain ⟨w', es, h1, rfl, h3⟩ := h w hr2
    have key : ∀ (hp : Array Obj) (b : Nat) (o : Obj), b ≠ r → (hp.setIfInBounds r o)[b]? = hp[b]? := fun hp b o hb => by rw [Array.getElem?_setIfInBounds]; rw [if_neg (fun q => hb q.symm)]
    have keyr : ∀ (hp : Array Obj) (o : Obj), r < hp.size → (hp.setIfInBounds r o)[r]? = some o := fun hp o hl => by rw [Array.getElem?_setIfInBounds]; simp [hl]
    refine ⟨fr', cs', _, es, { wv with heap := wv.heap.setIfInBounds r (.cells cells' e fz) }, h1, rfl, rfl, rfl, by simp, fun b hb hc => ?_, fun b hb q => ?_, ⟨fun b o hb hn => ?_, by simp [hv.size]⟩, fun e' he => ?_, k _ (by simpa using hw.le) (keyr _ _ hltv) fun b o ho hb => ?_⟩
    · refine key _ _ _ ?_
      rintro rfl
      exact hc ⟨_, _, _, hr1⟩
    · by_cases hbr : b = r
      · subst hbr; exact ⟨_, _, _, hr1⟩
      · obtain ⟨cs, e', fz', q⟩ := q
        change (wv.heap.setIfInBounds r _)[b]? = _ at q
        rw [key _ _ _ hbr] at q
        exact ⟨cs, e', fz', q⟩
    · change (wv.heap.setIfInBounds r _)[b]? = _ at hb
      by_cases hbr : b = r
      · subst hbr
        rw [keyr _ _ hltv] at hb
        obtain rfl := Option.some.inj hb
        exact ⟨keyr _ _ hlt, _, _, _, rfl, fun v hv' => (hlow v hv').mono (Nat.zero_le _)⟩
      · rw [key _ _ _ hbr] at hb
        obtain ⟨h1, cs', e', fz', h2, h3⟩ := hv.cells b o hb hn
        refine ⟨?_, cs', e', fz', h2, fun v hv' => (h3 v hv').mono (by simp)⟩
        show (w.heap.setIfInBounds r _)[b]? = _
        rw [key _ _ _ hbr]
        exact h1
    · obtain ⟨a, wr, rfl, ha⟩ := h3 e' he
      refine ⟨a, wr, rfl, ?_⟩
      rw [ha]
      exact ⟨_, _, _, keyr _ _ hltv⟩
    · rw [← hw.alive b o ho]
      show (wv.heap.setIfInBounds r _)[b]? = some o ↔ _
      rw [key _ _ _ hb]
/-- What a view tells, closed under new numbers and with a foot. -/
structure Tells (base : Nat) (J : World → Prop) : Prop where
  emb : ∀ f w w', (∀ b, b < base → f b = b) → (∀ b, base ≤ b → b < w.heap.size → base ≤ f b) → Emb f w w' → J w → J w'
  foot : ∀ w, J w → ∃ D : Nat → Prop, (∀ b, D b → ∃ cs e fz, w.heap[b]? = some (.cells cs e fz) ∧ ∀ v ∈ cs, Low w.heap.size v) ∧ ∀ w' : World, w'.heap.size = w.heap.size → (∀ b, D b → w'.heap[b]? = w.heap[b]?) → J w'
open Classical in
/-- A call. -/
theorem Cp.call (hK : Comp P I R) (hP : Prg P A) (hC : ∀ f, Closed P f) (hX : ∀ Dd f, Fix P Dd f) {g : Nat} (hA : A g) {args : Array Value} (hargs : ∀ v ∈ args, Low wl.heap.size v) {c : Frame} {cc : List Frame} {base : Nat} (hb : base ≤ wl.heap.size) {J : World → Prop} (hJ : Tells base J) {v0 : Value} (hv0 : Low 0 v0)
    (hR : ∀ T, Calls P g args { wl with tape := T, drawn := 0 } fun e w => e = .returned v0 ∧ J w)
    (k : ∀ wv, J wv → wl.heap.size ≤ wv.heap.size → Cp P I (G (c.finish v0) cc) wv Q) : Cp P I (G (Frame.enter P g args .normal) (c :: cc)) wl Q := by
  intro x hk h0
  have hsz := hk.view.size
  obtain ⟨f, v, wE, y, ⟨hr1, hr⟩, hy, ht⟩ := lift_call (Dd := fun b => wl.heap[b]? = some Dead) hK hP hC (hX _) hk.inv hA h0 (fun f hf _ => hk.view.wr hf) (fun f hf _ => low_fix hargs (by rw [hsz]; exact hf)) hsz hk.dis hR (fun e w q => ⟨v0, q.1⟩)
  obtain rfl : v = v0 := by injection hr1
  rw [hv0.fix (fun b hb => absurd hb (Nat.not_lt_zero _))] at hy
  obtain ⟨D, hD, hJD⟩ := hJ.foot wE hr
  have hDJ := hJD (only D wE) (only_size D wE) fun b hb => only_at hb
  have hDlt : ∀ a, D a → a < wE.heap.size := fun a ha => by obtain ⟨cs, e, fz, q, -⟩ := hD a ha; exact (Array.getElem?_eq_some_iff.1 q).1
  have hal : ∀ (b : Nat) (o : Obj), (only (fun b => ∃ a, D a ∧ f a = b) y.w).heap[b]? = some o → o ≠ Dead → ∃ a cs e fz, D a ∧ f a = b ∧ wE.heap[a]? = some (.cells cs e fz) ∧ (∀ v ∈ cs, Low wE.heap.size v) ∧ o = .cells (cs.map (rV f)) e fz ∧ y.w.heap[b]? = some o := by
    intro b o hb hn
    obtain ⟨h1, a, ha, rfl⟩ := only_alive hb hn
    obtain ⟨cs, e, fz, q, ql⟩ := hD a ha
    have := ht.wr.cells a cs e fz q
    rw [h1] at this
    exact ⟨a, cs, e, fz, ha, rfl, q, ql, Option.some.inj this, h1⟩
  have hvw : Vw I y (only (fun b => ∃ a, D a ∧ f a = b) y.w) := by
    refine ⟨ht.inv, ⟨fun b o hb hn => ?_, only_size _ _⟩, fun b hb => ?_⟩
    · obtain ⟨a, cs, e, fz, ha, rfl, q, ql, rfl, h1⟩ := hal b o hb hn
      refine ⟨h1, _, _, _, rfl, fun v hv => ?_⟩
      obtain ⟨v', hv', rfl⟩ := Array.mem_map.1 hv
      rw [only_size]
      exact (ql v' hv').ren fun b hb => ht.wr.lt b hb
    · obtain ⟨o, hb, hn⟩ := hb
      obtain ⟨a, cs, e, fz, ha, rfl, q, ql, rfl, h1⟩ := hal b o hb hn
      exact ht.dis a ⟨_, q, by simp [Dead]⟩
  have hct : CTo P x wl y (only (fun b => ∃ a, D a ∧ f a = b) y.w) := by
    refine ⟨ht.to, ht.out, fun b hb q => ?_, ht.old, ht.more, ht.le, ht.tape, ht.os, ht.output⟩
    obtain ⟨cs, e, fz, q⟩ := q
    obtain ⟨a, cs', e', fz', ha, hab, q', ql, -, -⟩ := hal b _ q (by simp [Dead])
    have hb2 : b < wE.heap.size := Nat.lt_of_lt_of_le hb ht.lel
    have : a = b := ht.wr.inj a b (hDlt a ha) hb2 (by rw [hab, ht.id b hb])
    subst this
    exact ht.lone a hb ⟨_, _, _, q'⟩
  have hbase : ∀ b, base ≤ b → b < wE.heap.size → base ≤ f b := by
    intro b q1 q2
    refine Classical.byContradiction fun hn => ?_
    have h1 : f b < x.w.heap.size := by rw [← hsz]; omega
    have h2 := ht.wr.inj (f b) b (Nat.lt_of_lt_of_le h1 ht.lel) q2 (ht.id _ h1)
    omega
  have hJ2 : J (only (fun b => ∃ a, D a ∧ f a = b) y.w) := by
    refine hJ.emb f (only D wE) _ (fun b q => ht.id b (by rw [← hsz]; omega)) (fun b q1 q2 => hbase b q1 (by rwa [only_size] at q2)) ⟨fun b cs e fz q => ?_, fun b q => ?_⟩ hDJ
    · obtain ⟨q1, q2⟩ := only_alive q (by simp [Dead])
      rw [only_at ⟨b, q2, rfl⟩]
      exact ht.wr.cells b cs e fz q1
    · rw [only_size] at q ⊢
      exact ht.wr.lt b q
  obtain ⟨z, g2, wF, q2, k1, k2, k3⟩ := k _ hJ2 (by rw [only_size, hsz]; exact ht.le) y hvw hy
  exact ⟨z, g2, wF, q2, k1, k2, hct.trans k3⟩
end
end Go.Proofs.Ytdjnnhdeijnhgab.Rn

/-
  Rows that hold plain values alone, and an append to them.
-/
namespace Go.Proofs.Ytdjnnhdeijnhgab.Rn
open Go Go.Conc
set_option linter.all false

theorem low_int (k : IntKind) (i : Int) : Low 0 (.int k i) := fun f g _ => by simp
theorem low_bool (b : Bool) : Low 0 (.bool b) := fun f g _ => by simp
/-- A row of one's own of which no cell names a block. -/
structure RowP (w : World) (base : Nat) (e : TypeId) (size : Nat) (v : Value) (n : Nat) (xs : List Value) : Prop where
  own : w.ownsRow base e size v n xs
  plain : ∀ g cur t fz, v.ownBlock = some g → w.heap[g]? = some (.cells cur t fz) → ∀ u ∈ cur, Low 0 u
theorem RowP.xs {w : World} {base : Nat} {e : TypeId} {size : Nat} {v : Value} {n : Nat} {xs : List Value} (h : RowP w base e size v n xs) : ∀ u ∈ xs, Low 0 u := by
  intro u hu
  rcases h.own.2 with ⟨rfl, rfl⟩ | ⟨g, cap, cur, rfl, hb, hg, hnc, hcm, hcs, ht⟩
  · have := h.own.1
    simp only [Nat.zero_mul] at this
    rw [List.eq_nil_of_length_eq_zero this] at hu
    cases hu
  · rw [← ht] at hu
    exact h.plain g cur e (0, 0) rfl hg u (by simpa using List.mem_of_mem_take hu)
/-- A row renamed. -/
theorem RowP.emb {f : Nat → Nat} {w w' : World} {base : Nat} {e : TypeId} {size : Nat} {v : Value} {n : Nat} {xs : List Value} (h : RowP w base e size v n xs) (he : Emb f w w') (hf : ∀ b, base ≤ b → b < w.heap.size → base ≤ f b) : RowP w' base e size (rV f v) n xs := by
  rcases h.own.2 with ⟨rfl, rfl⟩ | ⟨g, cap, cur, rfl, hb, hg, hnc, hcm, hcs, ht⟩
  · rw [rV_snil]
    exact ⟨⟨h.own.1, .inl ⟨rfl, rfl⟩⟩, fun g cur t fz hg => by simp [Value.ownBlock] at hg⟩
  · rw [rV_s]
    have hpl := h.plain g cur e (0, 0) rfl hg
    have hcur : cur.map (rV f) = cur := low_fix hpl fun b hb => absurd hb (Nat.not_lt_zero _)
    have h2 := he.cells g cur e (0, 0) hg
    rw [hcur] at h2
    refine ⟨⟨h.own.1, .inr ⟨f g, cap, cur, rfl, hf g hb (Array.getElem?_eq_some_iff.1 hg).1, h2, hnc, hcm, hcs, ht⟩⟩, fun g' cur' t fz hg' hc => ?_⟩
    simp only [Value.ownBlock, rA, Option.some.injEq] at hg'
    subst hg'
    rw [h2] at hc
    injection hc with hc
    injection hc with hc1
    subst hc1
    exact hpl
theorem RowP.low {w : World} {base : Nat} {e : TypeId} {size : Nat} {v : Value} {n : Nat} {xs : List Value} (h : RowP w base e size v n xs) : Low w.heap.size v := by
  rcases h.own.2 with ⟨rfl, rfl⟩ | ⟨g, cap, cur, rfl, hb, hg, hnc, hcm, hcs, ht⟩
  · exact fun f g _ => by simp
  · intro f f' hff
    rw [rV_s, rV_s]
    unfold rA
    simp only
    rw [hff g (Array.getElem?_eq_some_iff.1 hg).1]
theorem RowP.same {w w' : World} {base : Nat} {e : TypeId} {size : Nat} {v : Value} {n : Nat} {xs : List Value} (h : RowP w base e size v n xs) (hs : ∀ g, v.ownBlock = some g → w'.heap[g]? = w.heap[g]?) : RowP w' base e size v n xs := by
  refine ⟨⟨h.own.1, ?_⟩, fun g cur t fz hg hc => h.plain g cur t fz hg (by rw [← hs g hg]; exact hc)⟩
  rcases h.own.2 with ⟨rfl, rfl⟩ | ⟨g, cap, cur, rfl, hb, hg, hnc, hcm, hcs, ht⟩
  · exact .inl ⟨rfl, rfl⟩
  · exact .inr ⟨g, cap, cur, rfl, hb, by rw [hs g rfl]; exact hg, hnc, hcm, hcs, ht⟩
section
variable {P : Program} (w : World)
/-- An append. -/
theorem run_append_plain (base : Nat) (t ty e : TypeId) (i : TypeInfo) (z : Value) (size bytes : Nat) (ht : P.underlying t = some (.slice e)) (hi : P.info? e = some i) (hz : i.zero = some z)
    (hsize : i.size = size) (hby : i.bytes = bytes) (hzs : z.cells.size = size) (hsz : 0 < size) (hzp : ∀ u ∈ z.cells, Low 0 u)
    (v : Value) (n : Nat) (xs : List Value) (hown : RowP w base e size v n xs)
    (a : Addr) (m c : Nat) (news : List Value) (hm0 : m ≠ 0) (hl : news.length = m * size) (hnews : ∀ j u, news[j]? = some u → w.cell? (a.add j) = some u) (h1 : ∀ u ∈ news, u.oneCell' = true) (hnp : ∀ u ∈ news, Low 0 u)
    (h63 : n + m ≤ maxLen) (hbytes : (n + m) * bytes ≤ 140737488355328) (hbase : base ≤ w.heap.size) :
    ∃ v' w', (Builtin.append_ #[t, t] ty #[v, .slice (some a) m c]).run P w = .ok v' w' ∧ RowP w' base e size v' (n + m) (xs ++ news) ∧ w.grownBy w' v.ownBlock := by
  obtain ⟨v', w', hr, h2, h3, h4⟩ := run_append_own (P := P) w base t ty e i z size bytes ht hi hz hsize hby hzs hsz v n xs hown.own a m c news hl hnews h1 h63 hbytes hbase
  refine ⟨v', w', hr, ⟨h2, fun g cur t' fz hg hc u hu => ?_⟩, h3⟩
  have hxp := hown.xs
  subst hsize
  subst hby
  have hzc : ∀ k u, u ∈ Builtin.zeroCells z.cells k → Low 0 u := by
    intro k u hu
    unfold Builtin.zeroCells at hu
    obtain ⟨q, hq, rfl⟩ := Array.mem_map.1 hu
    have hlt : q % z.cells.size < z.cells.size := Nat.mod_lt _ (by omega)
    rw [getElem!_pos z.cells (q % z.cells.size) hlt]
    exact hzp _ (Array.getElem_mem _)
  rcases hown.own.2 with ⟨rfl, rfl⟩ | ⟨g0, cap, cur0, rfl, hbg, hg0, hnc, hcm, hcs, htake⟩
  · have hx : xs = [] := List.eq_nil_of_length_eq_zero (by simpa using hown.own.1)
    subst hx
    have hr2 := run_append_nil (P := P) w t ty e i z ht hi hz a m c news hl hnews (by omega) (by simp only [maxLen] at h63; omega) (by have hb := hbytes; simp only [Nat.zero_add] at hb; omega)
    rw [hr] at hr2
    injection hr2 with e1 e2
    subst e1 e2
    simp only [Value.ownBlock, Option.some.injEq] at hg
    subst hg
    have hc2 := heap_alloc_new w.drew (.cells (news.toArray ++ Builtin.zeroCells z.cells (grownCap w m 0 e - m)) e)
    change (w.drew.alloc _).heap[w.heap.size]? = _ at hc2
    rw [hc2] at hc
    injection hc with hc
    injection hc with hc
    subst hc
    rcases Array.mem_append.1 hu with hu | hu
    · exact hnp u (by simpa using hu)
    · exact hzc _ u hu
  · have hpl := hown.plain g0 cur0 e (0, 0) rfl hg0
    by_cases hroom : n + m ≤ cap
    · have hfit : n * i.size + news.length ≤ cur0.size := by rw [hl, hcs, ← Nat.add_mul]; exact Nat.mul_le_mul_right _ hroom
      have hr2 := run_append_room (P := P) w t ty e i ht hi g0 n cap cur0 hg0 a m c news hl hnews h1 hroom hfit
      rw [hr] at hr2
      injection hr2 with e1 e2
      subst e1 e2
      simp only [Value.ownBlock, Option.some.injEq] at hg
      subst hg
      rw [setRow_heap w g0 cur0 _ e _ hg0] at hc
      injection hc with hc
      injection hc with hc
      subst hc
      have hu' : u ∈ cur0.toList.take (n * i.size) ++ news ++ cur0.toList.drop (n * i.size + news.length) := by simpa using hu
      rcases List.mem_append.1 hu' with hu' | hu'
      · rcases List.mem_append.1 hu' with hu' | hu'
        · exact hpl u (by simpa using List.mem_of_mem_take hu')
        · exact hnp u hu'
      · exact hpl u (by simpa using List.mem_of_mem_drop hu')
    · have holds : ∀ j u, xs[j]? = some u → w.cell? ((⟨g0, 0, none⟩ : Addr).add j) = some u := hown.own.cells (g := g0) rfl
      have hr2 := run_append_grow (P := P) w t ty e i z ht hi hz ⟨g0, 0, none⟩ n cap xs hown.own.1 holds a m c news hl hnews (by omega) (by simp only [maxLen] at h63; omega) (growslice_fits (by omega) hbytes)
      rw [hr] at hr2
      injection hr2 with e1 e2
      subst e1 e2
      simp only [Value.ownBlock, Option.some.injEq] at hg
      subst hg
      have hc2 := heap_alloc_new w.drew (.cells (xs.toArray ++ news.toArray ++ Builtin.zeroCells z.cells (grownCap w (n + m) cap e - (n + m))) e)
      change (w.drew.alloc _).heap[w.heap.size]? = _ at hc2
      rw [hc2] at hc
      injection hc with hc
      injection hc with hc
      subst hc
      rcases Array.mem_append.1 hu with hu | hu
      · rcases Array.mem_append.1 hu with hu | hu
        · exact hxp u (by simpa using hu)
        · exact hnp u (by simpa using hu)
      · exact hzc _ u hu
theorem wpList_append_plain {ops : Array Oper} {rest : List Oper} {o : Oper} {ac : Act} {Q : Exit → Act → World → Prop} (hgd : o.guard = none) (s x : Operand) (t : TypeId)
    (ho : o.op = .call { callee := .builtin .append, args := #[s, x], argTypes := #[t, t] })
    (base : Nat) (e : TypeId) (i : TypeInfo) (z : Value) (size bytes : Nat) (ht : P.underlying t = some (.slice e)) (hi : P.info? e = some i) (hz : i.zero = some z)
    (hsize : i.size = size) (hby : i.bytes = bytes) (hzs : z.cells.size = size) (hsz : 0 < size) (hzp : ∀ u ∈ z.cells, Low 0 u)
    (v : Value) (n : Nat) (xs : List Value) (hs : ac.eval s = v) (hown : RowP w base e size v n xs)
    (ad : Addr) (m c : Nat) (news : List Value) (hm0 : m ≠ 0) (hx : ac.eval x = .slice (some ad) m c) (hl : news.length = m * size) (hnews : ∀ j u, news[j]? = some u → w.cell? (ad.add j) = some u) (h1 : ∀ u ∈ news, u.oneCell' = true) (hnp : ∀ u ∈ news, Low 0 u)
    (h63 : n + m ≤ maxLen) (hbytes : (n + m) * bytes ≤ 140737488355328) (hbase : base ≤ w.heap.size)
    (h : ∀ v' w', RowP w' base e size v' (n + m) (xs ++ news) → w.grownBy w' v.ownBlock → wpList P ops Q rest (ac.put o.dst v') w') : wpList P ops Q (o :: rest) ac w :=
  wpList_plain hgd fun K hK => by
    obtain ⟨v', w', hr, h2, h3⟩ := run_append_plain (P := P) w base t o.type e i z size bytes ht hi hz hsize hby hzs hsz hzp v n xs hown ad m c news hm0 hl hnews h1 hnp h63 hbytes hbase
    unfold Oper.wp execOp
    simp only [ho, resolve, invoke, builtin, Sem.run_bind, Sem.run_pure, Result.andThen_ok, List.map_toArray, List.map_cons, List.map_nil, hs, hx, hr]
    exact hK _ _ (h v' w' h2 h3)
end
end Go.Proofs.Ytdjnnhdeijnhgab.Rn
