/-
  Blocks renamed: the company of those that are only leaving.
-/
import Derived.Test.YtdjnnhdeijnhgabMw10
import Derived.Conc.Beside
import Derived.Conc.CrowdTrace
namespace Go.Proofs.Ytdjnnhdeijnhgab.Rn
open Go Go.Conc
open Go.ConcN (sumTo upd sumTo_upd upd_ne upd_same)
set_option linter.all false

/-- Nobody writes to an object that is no row of cells but by words of the library's own. -/
def NoObj (t : Trace) : Prop := ∀ op ∈ t, ∀ a, op.act.touch? = some a → ∀ r, a.loc = .obj r → a.write = false
theorem NoObj.app {t u : Trace} (h : NoObj t) (k : NoObj u) : NoObj (t ++ u) := fun op hop => (Array.mem_append.1 hop).elim (h op) (k op)
def Lv (P : Program) (x : St) : Prop := (∀ b, ¬ x.N b) ∧ NoObj x.t ∧ ∃ q B, Leavers P x.t x.gs q ∧ Past (fun _ => False) B x.t ∧ B ≤ x.w.heap.size ∧ x.μ = sumTo x.gs.size q
def LvR (N : Nat → Prop) (w w' : World) (N' : Nat → Prop) : Prop := N' = N ∧ AtRel w w'
theorem evL_of {N : Nat → Prop} {z : Nat} {e : Event} (h : EvC N z e) : EvL (fun _ => False) z e := by
  rcases h with ⟨a, wr, rfl, h1, h2⟩ | rfl | ⟨r, s, rfl, h1⟩
  · refine ⟨fun x _ hf => hf.elim, by simp, by simp, ?_⟩
    rw [ofEvent_cell0]; exact h2
  · refine ⟨fun x _ hf => hf.elim, by simp, by simp, ?_⟩
    simp [MemAct.ofEvent, MemAct.low]
  · refine ⟨fun x _ hf => hf.elim, by simp, by simp, ?_⟩
    cases s <;> simp [MemAct.ofEvent, MemAct.low, Loc.low, h1]
theorem noObj_mute {g : Nat} {fn : FuncId} {pos : String} {es : Array Event} (hm : ∀ e ∈ es, e.mute = true) : NoObj (MemOp.ofEvents g fn pos es) := fun op hop a ha => by
  obtain ⟨e, he, rfl⟩ := Go.Conc.mem_ofEvents hop
  have := touch_mute (hm e he)
  simp only at ha
  rw [this] at ha
  cases ha
theorem noObj_ev {N : Nat → Prop} {z : Nat} {g : Nat} {fn : FuncId} {pos : String} {es : Array Event} (hm : ∀ e ∈ es, EvC N z e) : NoObj (MemOp.ofEvents g fn pos es) := fun op hop a ha r hr => by
  obtain ⟨e, he, rfl⟩ := Go.Conc.mem_ofEvents hop
  rcases hm e he with ⟨ad, wr, rfl, h1, h2⟩ | rfl | ⟨r', s, rfl, h1⟩
  · simp only [ofEvent_cell0, MemAct.touch?, Option.some.injEq] at ha
    subst ha
    cases hr
  · simp [MemAct.ofEvent, MemAct.touch?] at ha
  · cases s <;> (simp only [MemAct.ofEvent, MemAct.touch?, Option.some.injEq] at ha; subst ha; rfl)
section
variable {P : Program}
theorem lv_comp : Comp P (Lv P) LvR where
  pick := by
    rintro x fr cs ⟨hN, hNo, q, B, hL, hP, hB, hμ⟩ h0
    have hrun : (G fr cs).status = .running := rfl
    have haw : ∀ g ∈ x.gs, awake g := by
      intro g hg
      obtain ⟨i, hi, rfl⟩ := Array.mem_iff_getElem.1 hg
      rcases Nat.eq_zero_or_pos i with rfl | hpos
      · have : x.gs[0] = G fr cs := by simpa [Array.getElem?_eq_getElem hi] using h0
        rw [this]; exact awake_of (.inl hrun)
      · exact awake_of ((hL.old i _ hpos (Array.getElem?_eq_getElem hi)).status.elim .inl fun x => .inr (.inr x))
    obtain ⟨i, g, d, sl', hi, hg, hst⟩ := crowd_pick (P := P) (w := x.w) (sl := x.sl) haw ⟨0, _, h0, hrun⟩
    rcases Nat.eq_zero_or_pos i with rfl | hpos
    · exact Or.inl ⟨d, sl', hst⟩
    · right
      have hq := hL.old i g hpos hi
      have hi0 : (i == 0) = false := by simp; omega
      have hlt : i < x.gs.size := (Array.getElem?_eq_some_iff.1 hi).1
      cases hqi : q i with
      | zero => rw [hqi] at hq; rw [hq.1] at hg; cases hg
      | succ k =>
        rw [hqi] at hq
        rcases hq with ⟨hf, _⟩ | ⟨_, g', es, hm, hstp, hq'⟩
        · rw [hf] at hg; cases hg
        have hrunT := runT_crowd_go (P := P) (sl := sl') (i := i) hi (by rw [hi0]; exact hstp (x.w.at d))
        have hsz : ((x.gs.map (woken P g g' (x.w.at d))).setIfInBounds i g').size = x.gs.size := by simp
        have hsum : sumTo x.gs.size (upd q i k) + (k + 1) = sumTo x.gs.size q + k := by
          have := sumTo_upd q k id hlt
          simpa [hqi] using this
        refine ⟨{ gs := (x.gs.map (woken P g g' (x.w.at d))).setIfInBounds i g', w := x.w.at d, sl := sl', t := x.t ++ MemOp.ofEvents i g.frame.fn g.frame.place es, N := x.N, μ := sumTo x.gs.size (upd q i k) }, ⟨hN, hNo.app (noObj_mute hm), upd q i k, B, ⟨fun j y hj hy => ?_, fun j hj => ?_⟩, hP.mute (by omega) hm, hB, by rw [hsz]⟩, ?_, by simp only; omega, ⟨_, hst.trans hrunT, rfl⟩, rfl, ⟨d, rfl⟩⟩
        · by_cases hji : i = j
          · subst hji
            rw [Array.getElem?_setIfInBounds_self_of_lt (by simpa using hlt)] at hy
            obtain rfl := Option.some.inj hy
            rw [upd_same, Deaf_own]
            exact hq'
          · rw [Array.getElem?_setIfInBounds_ne hji, Array.getElem?_map] at hy
            obtain ⟨z, hz, rfl⟩ := Option.map_eq_some_iff.1 hy
            have hqj := hL.old j z hj hz
            rw [woken_quitsD hqj, upd_ne q k (Ne.symm hji), Deaf_other x.t hji _ (fun op hop => by obtain ⟨e, _, rfl⟩ := Go.Conc.mem_ofEvents hop; rfl)]
            exact hqj
        · rw [Deaf_other x.t (g' := i) (by simp at hj; omega) _ (fun op hop => by obtain ⟨e, _, rfl⟩ := Go.Conc.mem_ofEvents hop; rfl)]
          exact hL.above j (by simpa using hj)
        · have hne : i ≠ 0 := by omega
          rw [Array.getElem?_setIfInBounds_ne hne, Array.getElem?_map, h0]
          simp [woken_run hrun]
  own := by
    rintro x fr cs d sl' fr' cs' w' es ⟨hN, hNo, q, B, hL, hP, hB, hμ⟩ h0 hgo hmine hev
    have hsz : ((x.gs.map (woken P (G fr cs) (G fr' cs') w')).setIfInBounds 0 (G fr' cs')).size = x.gs.size := by simp
    refine ⟨hN, hNo.app (noObj_ev hev), q, w'.heap.size, ⟨fun j y hj hy => ?_, fun j hj => ?_⟩, ?_, Nat.le_refl _, by show x.μ = _; rw [hμ]; show _ = sumTo ((x.gs.map (woken P (G fr cs) (G fr' cs') w')).setIfInBounds 0 (G fr' cs')).size q; rw [hsz]⟩
    · have hne : 0 ≠ j := by omega
      have hy : ((x.gs.map (woken P (G fr cs) (G fr' cs') w')).setIfInBounds 0 (G fr' cs'))[j]? = some y := hy
      rw [Array.getElem?_setIfInBounds_ne hne, Array.getElem?_map] at hy
      obtain ⟨z, hz, rfl⟩ := Option.map_eq_some_iff.1 hy
      have hq := hL.old j z hj hz
      show QuitsD P (q j) (Deaf (x.t ++ MemOp.ofEvents 0 (G fr cs).frame.fn (G fr cs).frame.place es) j) _
      rw [woken_quitsD hq, Deaf_other x.t (by omega) _ (fun op hop => by obtain ⟨e, _, rfl⟩ := Go.Conc.mem_ofEvents hop; rfl)]
      exact hq
    · have hj : ((x.gs.map (woken P (G fr cs) (G fr' cs') w')).setIfInBounds 0 (G fr' cs')).size ≤ j := hj
      have hlt : 0 < x.gs.size := (Array.getElem?_eq_some_iff.1 h0).1
      show Deaf (x.t ++ MemOp.ofEvents 0 (G fr cs).frame.fn (G fr cs).frame.place es) j = 0
      rw [Deaf_other x.t (g' := 0) (by simp at hj; omega) _ (fun op hop => by obtain ⟨e, _, rfl⟩ := Go.Conc.mem_ofEvents hop; rfl)]
      exact hL.above j (by simpa using hj)
    · exact (hP.mono (Nat.le_trans hB hmine.size)).own fun e he => evL_of (hev e he)
  low := fun x h b hb => absurd hb (h.1 b)
  oth := by
    rintro N w w' N' ⟨rfl, d, rfl⟩
    exact ⟨rfl, rfl, rfl, Nat.le_refl _, fun _ _ _ => rfl, fun _ h => h, fun _ _ h => h⟩
  refl := fun N w => ⟨rfl, atRel_refl w⟩
  trans := by
    rintro N w N' w' N'' w'' ⟨rfl, h⟩ ⟨rfl, k⟩
    exact ⟨rfl, atRel_trans _ _ _ h k⟩
theorem lv_still : Still LvR := by
  rintro N w w' N' ⟨rfl, d, rfl⟩
  rfl
end
end Go.Proofs.Ytdjnnhdeijnhgab.Rn

/-
  Goroutine 0 beside leavers: what the lone world says of it.
-/
namespace Go.Proofs.Ytdjnnhdeijnhgab.Rn
open Go Go.Conc
open Go.ConcN (sumTo)
set_option linter.all false

def idF : Nat → Nat := fun b => b
theorem rA_id (a : Addr) : rA idF a = a := rfl
theorem rV_id : ∀ v : Value, rV idF v = v
  | .pointer (some a) => by rw [rV_p]; rfl
  | .pointer none => by simp
  | .slice (some a) n c => by rw [rV_s]; rfl
  | .slice none n c => by simp
  | .map (some r) => by rw [rV_m]; rfl
  | .map none => by simp
  | .chan (some r) => by rw [rV_c]; rfl
  | .chan none => by simp
  | .func g x y => by
    rw [rV_func]
    congr 1
    · refine Array.ext (by simp) fun i h1 h2 => ?_
      rw [Array.getElem_map]
      exact rV_id _
    · refine Array.ext (by simp) fun i h1 h2 => ?_
      rw [Array.getElem_map]
      exact rV_id _
  | .iface t v => by rw [rV_iface, rV_id v]
  | .agg cs => by
    rw [rV_agg]
    congr 1
    refine Array.ext (by simp) fun i h1 h2 => ?_
    rw [Array.getElem_map]
    exact rV_id _
  | .tuple cs => by
    rw [rV_tuple]
    congr 1
    refine Array.ext (by simp) fun i h1 h2 => ?_
    rw [Array.getElem_map]
    exact rV_id _
  | .int k n => by simp
  | .bool b => by simp
  | .string s => by simp
  | .float k n => by simp
  | .complex k n m => by simp
  | .nilFunc => by simp
  | .nilIface => by simp
termination_by v => SizeOf.sizeOf v
decreasing_by
  all_goals simp_wf
  all_goals first
    | (have := Array.sizeOf_getElem x i h2; omega)
    | (have := Array.sizeOf_getElem y i h2; omega)
    | (have := Array.sizeOf_getElem cs i h2; omega)
    | omega
theorem rVs_id (vs : Array Value) : vs.map (rV idF) = vs := by
  refine Array.ext (by simp) fun i h1 h2 => ?_
  rw [Array.getElem_map]
  exact rV_id _
def killO : Obj → Obj
  | .cells cs e fz => .cells cs e fz
  | .number a l => .number a l
  | _ => Dead
/-- The world as a lone goroutine may see it: cells and numbers alone. -/
def kill (w : World) : World := { w with heap := w.heap.map killO }
def KW (P : Program) (wl : World) (x : St) : Prop := WR (fun b => wl.heap[b]? = some Dead) idF wl x.w ∧ wl.heap.size = x.w.heap.size ∧ Lv P x
structure KTo (P : Program) (x : St) (wl : World) (y : St) (wE : World) : Prop where
  to : To P x y
  out : ∀ b, b < x.w.heap.size → ¬ IsC wl b → y.w.heap[b]? = x.w.heap[b]?
  lone : ∀ b, b < x.w.heap.size → IsC wE b → IsC wl b
  le : x.w.heap.size ≤ y.w.heap.size
  tape : y.w.tape = x.w.tape
  os : y.w.os = x.w.os
  output : y.w.output = x.w.output
section
variable {P : Program} {A : Nat → Prop} {x y z : St} {wl wE wF : World}
theorem KTo.refl : KTo P x wl x wl := ⟨To.refl x, fun _ _ _ => rfl, fun _ _ h => h, Nat.le_refl _, rfl, rfl, rfl⟩
theorem KTo.trans (h : KTo P x wl y wE) (k : KTo P y wE z wF) : KTo P x wl z wF :=
  ⟨h.to.trans k.to, fun b hb hc => (k.out b (Nat.lt_of_lt_of_le hb h.le) fun q => hc (h.lone b hb q)).trans (h.out b hb hc), fun b hb hc => h.lone b hb (k.lone b (Nat.lt_of_lt_of_le hb h.le) hc), Nat.le_trans h.le k.le, k.tape.trans h.tape, k.os.trans h.os, k.output.trans h.output⟩
theorem killO_cells {o : Obj} {cs : Array Value} {e : TypeId} {fz : Nat × Nat} (h : killO o = .cells cs e fz) : o = .cells cs e fz := by
  cases o <;> simp [killO, Dead] at h
  obtain ⟨rfl, rfl, rfl⟩ := h
  rfl
theorem killO_number {o : Obj} {a : Addr} {l : Bool} (h : killO o = .number a l) : o = .number a l := by
  cases o <;> simp [killO, Dead] at h
  obtain ⟨rfl, rfl⟩ := h
  rfl
theorem kill_wr (w : World) : WR (fun b => (kill w).heap[b]? = some Dead) idF (kill w) w := by
  refine ⟨fun b cs e fz h => ?_, fun b a l h => ?_, fun b o h => ?_, fun b h => h, fun b h => h, fun b b' _ _ h => h, fun b h => by
    show b < w.heap.size
    simpa [kill] using h⟩
  · simp only [kill, Array.getElem?_map] at h
    obtain ⟨o, ho, h⟩ := Option.map_eq_some_iff.1 h
    rw [rVs_id]
    show w.heap[b]? = _
    rw [ho, killO_cells h]
  · simp only [kill, Array.getElem?_map] at h
    obtain ⟨o, ho, h⟩ := Option.map_eq_some_iff.1 h
    show w.heap[b]? = _
    rw [ho, killO_number h]
    rfl
  · simp only [kill, Array.getElem?_map] at h
    obtain ⟨o', ho, rfl⟩ := Option.map_eq_some_iff.1 h
    cases o' <;> first | exact Or.inl ⟨_, _, _, rfl⟩ | exact Or.inr (Or.inl ⟨_, _, rfl⟩) | exact Or.inr (Or.inr rfl)
/-- From what is told of the company behind a piece. -/
theorem kw_told {f : Nat → Nat} (hk : KW P wl x) (h : Told P (Lv P) LvR (fun b => wl.heap[b]? = some Dead) x f wl y wE) : f = idF ∧ KW P wE y ∧ KTo P x wl y wE := by
  obtain ⟨hid, hsz⟩ := h.still lv_still
  have hf : f = idF := funext hid
  subst hf
  refine ⟨rfl, ⟨⟨h.wr.cells, h.wr.nums, h.wr.plain, fun _ q => q, fun _ q => q, h.wr.inj, h.wr.lt⟩, hsz, h.inv⟩, h.to, fun b hb hc => h.out b hb (hk.2.2.1 b) hc, h.lone, h.le, h.tape, h.os, h.output⟩
/-- Goroutine 0, standing so beside leavers, comes to where Q holds. -/
def Kp (P : Program) (g : Goroutine) (wl : World) (Q : Goroutine → World → Prop) : Prop :=
  ∀ x, KW P wl x → x.gs[0]? = some g → ∃ y g' wE, Q g' wE ∧ y.gs[0]? = some g' ∧ KW P wE y ∧ KTo P x wl y wE
variable {Q Q' : Goroutine → World → Prop} {g : Goroutine}
theorem Kp.done (h : Q g wl) : Kp P g wl Q := fun x hk h0 => ⟨x, g, wl, h, h0, hk, KTo.refl⟩
theorem Kp.bind (h : Kp P g wl Q') (k : ∀ g' wE, Q' g' wE → Kp P g' wE Q) : Kp P g wl Q := by
  intro x hk h0
  obtain ⟨y, g', wE, q, h1, h2, h3⟩ := h x hk h0
  obtain ⟨z, g2, wF, q2, k1, k2, k3⟩ := k g' wE q y h2 h1
  exact ⟨z, g2, wF, q2, k1, k2, h3.trans k3⟩
/-- An own step that turns nothing. -/
theorem Kp.own {fr fr' : Frame} {cs cs' : List Frame} (h : ∀ w, (∀ a v, wl.cell? a = some v → w.cell? a = some v) → ∃ es, stepG P true (G fr cs) w = .go (G fr' cs') w es ∧ ∀ e ∈ es, ∃ a, e = ⟨.cell a, false, false⟩ ∧ IsC wl a.block) (k : Kp P (G fr' cs') wl Q) : Kp P (G fr cs) wl Q := by
  intro x hk h0
  obtain ⟨y, d, sl, h1, h2, h3, h4, h5⟩ := ready (lv_comp (P := P)) _ x fr cs (Nat.le_refl _) hk.2.2 h0
  obtain ⟨hN, d0, hw⟩ := h4
  have hh : (y.w.at d).heap = x.w.heap := by rw [hw]; rfl
  have hcell : ∀ a v, wl.cell? a = some v → (y.w.at d).cell? a = some v := by
    intro a v hv
    have := (hk.1.cell hv).1
    rw [rV_id] at this
    have e : (y.w.at d).cell? a = x.w.cell? a := by
      unfold World.cell?
      rw [hh]
    rw [e]; exact this
  obtain ⟨es, hs, hev⟩ := h (y.w.at d) hcell
  have hI := lv_comp.own y fr cs d sl fr' cs' (y.w.at d) es h1 (h2.trans h0) hs ⟨rfl, rfl, rfl, Nat.le_refl _, fun _ _ => rfl⟩ (fun e he => by
    obtain ⟨a, rfl, hc⟩ := hev e he
    refine Or.inl ⟨a, false, rfl, h1.1 _, ?_⟩
    rw [hh]
    exact hk.1.lt _ (isC_lt hc))
  have hone : One P y (y.own P sl (G fr cs) (G fr' cs') (y.w.at d) es) := by
    refine ⟨MemOp.ofEvents 0 (G fr cs).frame.fn (G fr cs).frame.place es, ?_, rfl⟩
    rw [h5]
    exact runT_crowd_go (h2.trans h0) (show stepG P (0 == 0) (G fr cs) (y.w.at d) = _ from hs)
  have hsz : 0 < y.gs.size := (Array.getElem?_eq_some_iff.1 (h2.trans h0)).1
  have hw2 : (y.own P sl (G fr cs) (G fr' cs') (y.w.at d) es).w = y.w.at d := rfl
  have hg2 : (y.own P sl (G fr cs) (G fr' cs') (y.w.at d) es).gs[0]? = some (G fr' cs') := by
    show ((y.gs.map (woken P (G fr cs) (G fr' cs') (y.w.at d))).setIfInBounds 0 (G fr' cs'))[0]? = _
    simp [hsz]
  have hkt : KTo P x wl (y.own P sl (G fr cs) (G fr' cs') (y.w.at d) es) wl := by
    refine ⟨h3.trans hone.to, fun b _ _ => ?_, fun _ _ q => q, ?_, ?_, ?_, ?_⟩ <;> rw [hw2]
    · rw [hh]
    · rw [hh]; exact Nat.le_refl _
    · rw [hw]; rfl
    · rw [hw]; rfl
    · rw [hw]; rfl
  have hkw : KW P wl (y.own P sl (G fr cs) (G fr' cs') (y.w.at d) es) := by
    refine ⟨?_, ?_, hI⟩
    · rw [hw2]
      exact ⟨fun b cs e fz q => by rw [hh]; exact hk.1.cells b cs e fz q, fun b a l q => by rw [hh]; exact hk.1.nums b a l q, hk.1.plain, hk.1.dd, hk.1.live, hk.1.inj, fun b q => by rw [hh]; exact hk.1.lt b q⟩
    · rw [hw2, hh]; exact hk.2.1
  obtain ⟨z, g2, wF, q2, k1, k2, k3⟩ := k _ hkw hg2
  exact ⟨z, g2, wF, q2, k1, k2, hkt.trans k3⟩
theorem Kp.ctl {fr fr' : Frame} {cs cs' : List Frame} (h : ∀ w, stepG P true (G fr cs) w = .go (G fr' cs') w #[]) (k : Kp P (G fr' cs') wl Q) : Kp P (G fr cs) wl Q :=
  Kp.own (fun w _ => ⟨#[], h w, fun e he => by simp at he⟩) k
/-- A call of a lone function. -/
theorem Kp.call (hP : Prg P A) (hC : ∀ f, Closed P f) (hX : ∀ Dd f, Fix P Dd f) {f : Nat} (hA : A f) {args : Array Value} {c : Frame} {cc : List Frame} {Rr : Ending → World → Prop} (hR : ∀ T, Calls P f args { wl with tape := T, drawn := 0 } Rr) (hRr : ∀ e w, Rr e w → ∃ v, e = .returned v)
    (k : ∀ v wE, Rr (.returned v) wE → Kp P (G (c.finish v) cc) wE Q) : Kp P (G (Frame.enter P f args .normal) (c :: cc)) wl Q := by
  intro x hk h0
  obtain ⟨f', v, wE, y, hr, hy, ht⟩ := lift_call (Dd := fun b => wl.heap[b]? = some Dead) lv_comp hP hC (hX _) hk.2.2 hA h0 (fun f _ hs => by
    have hf : f = idF := funext (hs lv_still)
    subst hf
    exact hk.1) (fun f _ hs => by
    have hf : f = idF := funext (hs lv_still)
    subst hf
    exact rVs_id _) hk.2.1 (fun b _ => hk.2.2.1 b) hR hRr
  obtain ⟨rfl, h2, h3⟩ := kw_told hk ht
  rw [rV_id] at hy
  obtain ⟨z, g2, wF, q2, k1, k2, k3⟩ := k v wE hr y h2 hy
  exact ⟨z, g2, wF, q2, k1, k2, h3.trans k3⟩
/-- A piece of a frame's own doing, as the lone goroutine does it. -/
theorem Kp.steps (hP : Prg P A) (hC : ∀ f, Closed P f) (hX : ∀ Dd f, Fix P Dd f) {fr : Frame} (hfr : FrOk P A fr) (hm : fr.mode = .run) {k : List Item} {cc : List Frame} {Qs : Frame → World → Prop} (hR : ∀ T, ∃ frE wE, Qs frE wE ∧ Steps P (lone fr [trap P] { wl with tape := T, drawn := 0 }) (lone frE [trap P] wE)) (hQ : ∀ frE w, Qs frE w → frE.mode = .run)
    (kk : ∀ frE wE, Qs frE wE → Kp P (G { frE with todo := frE.todo ++ k } cc) wE Q) : Kp P (G { fr with todo := fr.todo ++ k } cc) wl Q := by
  intro x hk h0
  obtain ⟨f', frE, wE, y, hr, hy, ht⟩ := lift_steps (Dd := fun b => wl.heap[b]? = some Dead) lv_comp hP hC (hX _) hk.2.2 hfr hm h0 (fun f _ hs => by
    have hf : f = idF := funext (hs lv_still)
    subst hf
    exact hk.1) (fun f _ hs => by
    have hf : f = idF := funext (hs lv_still)
    subst hf
    exact rVs_id _) hk.2.1 (fun b _ => hk.2.2.1 b) hR hQ
  obtain ⟨rfl, h2, h3⟩ := kw_told hk ht
  have e : top idF k frE = { frE with todo := frE.todo ++ k } := by
    unfold top
    rw [rVs_id]
  rw [e] at hy
  obtain ⟨z, g2, wF, q2, k1, k2, k3⟩ := kk frE wE hr y h2 hy
  exact ⟨z, g2, wF, q2, k1, k2, h3.trans k3⟩
end
end Go.Proofs.Ytdjnnhdeijnhgab.Rn

/-
  A sender beside goroutine 0: what is held of the trace. N: the blocks that goroutine 0 does not touch meanwhile; the sender touches those alone.
-/
namespace Go.Proofs.Ytdjnnhdeijnhgab.Rn
open Go Go.Conc
set_option linter.all false

/-- The block that a place lies in. -/
def locB : Loc → Option Nat
  | .cell a => some a.block
  | .obj r => some r
  | _ => none
theorem locB_mem {l : Loc} (h : l.isMemory = true) : ∃ b, locB l = some b := by
  cases l <;> simp [Loc.isMemory] at h
  · exact ⟨_, rfl⟩
  · exact ⟨_, rfl⟩
structure PT (N : Nat → Prop) (B : Nat) (j : Nat) (t : Trace) : Prop where
  clean : ∀ said, ¬ Race said t
  k0 : ∀ i a, touchAt t i = some a → a.loc.isMemory = true → Knows t 0 i ∨ ∃ b, locB a.loc = some b ∧ N b
  k1 : ∀ i a, touchAt t i = some a → ∀ b, locB a.loc = some b → N b → Knows t j i ∨ ((∃ r, a.loc = .obj r) ∧ Knows t 0 i)
  nobj : NoObj t
  hears0 : Deaf t 0 = 0
  hears1 : Deaf t j = 0
  seen : ∀ op ∈ t, op.act.low B
section
variable {N N' : Nat → Prop} {B B' j : Nat} {t u : Trace}
theorem touch_low {op : MemOp} {a : Touch} {b : Nat} (h : op.act.low B) (ha : op.act.touch? = some a) (hb : locB a.loc = some b) : b < B := by
  obtain ⟨g, fn, pos, act⟩ := op
  cases act with
  | access e =>
    simp only [MemAct.touch?, Option.some.injEq] at ha
    subst ha
    obtain ⟨loc, wr, sy⟩ := e
    cases loc <;> simp [locB] at hb
    · subst hb; exact h
    · subst hb; exact h
  | mark m =>
    cases m <;> simp [MemAct.touch?] at ha
    · subst ha; simp only [locB, Option.some.injEq] at hb; subst hb; exact h
    · subst ha; simp only [locB, Option.some.injEq] at hb; subst hb; exact h
  | _ => simp [MemAct.touch?] at ha
theorem PT.mono (h : PT N B j t) (hB : B ≤ B') (hN : ∀ b, N b → N' b) (hn : ∀ b, N' b → b < B → N b) : PT N' B' j t :=
  ⟨h.clean, fun i a ha hm => (h.k0 i a ha hm).imp id fun ⟨b, h1, h2⟩ => ⟨b, h1, hN b h2⟩, fun i a ha b hb hN' => by
    obtain ⟨op, hop, hoa⟩ := touch_of ha
    exact h.k1 i a ha b hb (hn b hN' (touch_low (h.seen op (mem_of_getElem? hop)) hoa hb)), h.nobj, h.hears0, h.hears1, fun op hop => MemAct.low_mono hB (h.seen op hop)⟩
theorem no_conf {said : Bool} {i : Nat} {a b : Touch} {op : MemOp} {r : Nat} (h : NoObj t) (hu : NoObj u) (ha : touchAt t i = some a) (hop : op ∈ u) (hb : op.act.touch? = some b) (hc : a.conflicts said b) (hr : b.loc = .obj r) : False := by
  obtain ⟨x, hx, hxa⟩ := touch_of ha
  have h1 := h x (mem_of_getElem? hx) a hxa r (hc.1.trans hr)
  have h2 := hu op hop b hb r hr
  rcases hc.2.2.1 with q | q
  · rw [h1] at q; cases q
  · rw [h2] at q; cases q
theorem noObj_none (h : ∀ op ∈ u, op.act.touch? = none) : NoObj u := fun op hop a ha => by rw [h op hop] at ha; cases ha
/-- Goroutine 0's own, outside N. -/
theorem PT.app0 (h : PT N B j t) (hj : j ≠ 0) (hu : ∀ op ∈ u, op.g = 0) (ho : ∀ op ∈ u, ∀ a, op.act.touch? = some a → ∀ b, locB a.loc = some b → N b → ∃ r, a.loc = .obj r) (hob : NoObj u) (hd : Deaf (t ++ u) 0 = Deaf t 0) (hl : ∀ op ∈ u, op.act.low B) : PT N B j (t ++ u) := by
  refine ⟨fun said => noRace_append (h.clean said) hu fun i a ha op hop b hb hc => ?_, fun i a ha hm => ?_, fun i a ha b hb hN => ?_, h.nobj.app hob, hd.trans h.hears0, (Deaf_other t (fun e => hj e.symm) u hu).trans h.hears1, fun op hop => (Array.mem_append.1 hop).elim (h.seen op) (hl op)⟩
  · rcases h.k0 i a ha hc.2.1 with hk | ⟨b', h1, h2⟩
    · exact hk
    · obtain ⟨r, hr⟩ := ho op hop b hb b' (by rw [← hc.1]; exact h1) h2
      exact (no_conf h.nobj hob ha hop hb hc hr).elim
  · obtain ⟨x, hx, hxa⟩ := touch_of ha
    rcases getElem?_append_cases hx with ⟨_, hx'⟩ | ⟨_, hxu⟩
    · exact (h.k0 i a (by rw [touchAt_of hx']; exact hxa) hm).imp (·.app u) id
    · have := knows_own hx
      rw [hu x hxu] at this
      exact .inl this
  · obtain ⟨x, hx, hxa⟩ := touch_of ha
    rcases getElem?_append_cases hx with ⟨_, hx'⟩ | ⟨_, hxu⟩
    · exact (h.k1 i a (by rw [touchAt_of hx']; exact hxa) b hb hN).imp (·.app u) fun k => ⟨k.1, k.2.app u⟩
    · have := knows_own hx
      rw [hu x hxu] at this
      exact .inr ⟨ho x hxu a hxa b hb hN, this⟩
/-- The sender's own, inside N. -/
theorem PT.app1 (h : PT N B j t) (hj : j ≠ 0) (hu : ∀ op ∈ u, op.g = j) (ho : ∀ op ∈ u, ∀ a, op.act.touch? = some a → a.loc.isMemory = true → ∃ b, locB a.loc = some b ∧ N b) (hob : NoObj u) (hd : Deaf (t ++ u) j = Deaf t j) (hl : ∀ op ∈ u, op.act.low B) : PT N B j (t ++ u) := by
  refine ⟨fun said => noRace_append (h.clean said) hu fun i a ha op hop b hb hc => ?_, fun i a ha hm => ?_, fun i a ha b hb hN => ?_, h.nobj.app hob, (Deaf_other t hj u hu).trans h.hears0, hd.trans h.hears1, fun op hop => (Array.mem_append.1 hop).elim (h.seen op) (hl op)⟩
  · obtain ⟨b', h1, h2⟩ := ho op hop b hb (by rw [← hc.1]; exact hc.2.1)
    rcases h.k1 i a ha b' (by rw [hc.1]; exact h1) h2 with k | ⟨⟨r, hr⟩, -⟩
    · exact k
    · exact (no_conf h.nobj hob ha hop hb hc (hc.1 ▸ hr)).elim
  · obtain ⟨x, hx, hxa⟩ := touch_of ha
    rcases getElem?_append_cases hx with ⟨_, hx'⟩ | ⟨_, hxu⟩
    · exact (h.k0 i a (by rw [touchAt_of hx']; exact hxa) hm).imp (·.app u) id
    · exact .inr (ho x hxu a hxa hm)
  · obtain ⟨x, hx, hxa⟩ := touch_of ha
    rcases getElem?_append_cases hx with ⟨_, hx'⟩ | ⟨_, hxu⟩
    · exact (h.k1 i a (by rw [touchAt_of hx']; exact hxa) b hb hN).imp (·.app u) fun k => ⟨k.1, k.2.app u⟩
    · have := knows_own hx
      rw [hu x hxu] at this
      exact .inl this
/-- Operations that touch nothing, whoever's. -/
theorem noRace_mute {said : Bool} (h : ¬ Race said t) (hn : ∀ op ∈ u, op.act.touch? = none) : ¬ Race said (t ++ u) := by
  rintro ⟨i, k, hik, ⟨a, b, ha, hb, hc⟩, n1, n2⟩
  obtain ⟨x, hx, hxa⟩ := touch_of ha
  obtain ⟨y, hy, hyb⟩ := touch_of hb
  rcases getElem?_append_cases hy with ⟨hk, hy'⟩ | ⟨_, hyu⟩
  · rcases getElem?_append_cases hx with ⟨hi, hx'⟩ | ⟨_, hxu⟩
    · exact h ⟨i, k, hik, ⟨a, b, by simp [Trace.act?, hx', hxa], by simp [Trace.act?, hy', hyb], hc⟩, fun e => n1 (hb_app u e), fun e => n2 (hb_app u e)⟩
    · rw [hn x hxu] at hxa; cases hxa
  · rw [hn y hyu] at hyb; cases hyb
theorem PT.mute (h : PT N B j t) (hn : ∀ op ∈ u, op.act.touch? = none) (hd0 : Deaf (t ++ u) 0 = Deaf t 0) (hd1 : Deaf (t ++ u) j = Deaf t j) (hl : ∀ op ∈ u, op.act.low B) : PT N B j (t ++ u) := by
  refine ⟨fun said => noRace_mute (h.clean said) hn, fun i a ha hm => ?_, fun i a ha b hb hN => ?_, h.nobj.app (noObj_none hn), hd0.trans h.hears0, hd1.trans h.hears1, fun op hop => (Array.mem_append.1 hop).elim (h.seen op) (hl op)⟩
  · obtain ⟨x, hx, hxa⟩ := touch_of ha
    rcases getElem?_append_cases hx with ⟨_, hx'⟩ | ⟨_, hxu⟩
    · exact (h.k0 i a (by rw [touchAt_of hx']; exact hxa) hm).imp (·.app u) id
    · rw [hn x hxu] at hxa; cases hxa
  · obtain ⟨x, hx, hxa⟩ := touch_of ha
    rcases getElem?_append_cases hx with ⟨_, hx'⟩ | ⟨_, hxu⟩
    · exact (h.k1 i a (by rw [touchAt_of hx']; exact hxa) b hb hN).imp (·.app u) fun k => ⟨k.1, k.2.app u⟩
    · rw [hn x hxu] at hxa; cases hxa
theorem deaf_keep {g : Nat} : ∀ (u : List MemOp), (∀ op ∈ u, ∀ m, op.act ≠ .mark m) → Deaf (t ++ u.toArray) g = Deaf t g := by
  intro u hu
  rw [Deaf_append]
  have : ∀ (l : List MemOp) (d : Nat), (∀ op ∈ l, ∀ m, op.act ≠ .mark m) → l.foldl (deafStep g) d = d := by
    intro l
    induction l with
    | nil => intro d _; rfl
    | cons x l ih =>
      intro d hl
      have hx : deafStep g d x = d := by
        unfold deafStep
        split
        · rename_i q; exact absurd q (hl x (by simp) _)
        · rename_i q; exact absurd q (hl x (by simp) _)
        · rfl
      rw [List.foldl_cons, hx]
      exact ih d fun op hop => hl op (by simp [hop])
  exact this u _ hu
/-- The go statement: all that goroutine 0 knows the child knows. -/
theorem PT.start {x y : MemOp} (hP : Past (fun _ => False) B t) (hNo : NoObj t) (hj : j ≠ 0) (hx : x.g = 0 ∧ x.act = .go j) (hy : y.g = j ∧ y.act = .start) (hdj : Deaf t j = 0) : PT N B j (t ++ #[x, y]) := by
  have hm : ∀ op ∈ #[x, y], op.act.touch? = none ∧ ∀ m, op.act ≠ .mark m := by
    intro op hop
    simp only [List.mem_toArray, List.mem_cons, List.not_mem_nil, or_false] at hop
    rcases hop with rfl | rfl
    · rw [hx.2]; exact ⟨rfl, by simp⟩
    · rw [hy.2]; exact ⟨rfl, by simp⟩
  have kn : ∀ i a, touchAt (t ++ #[x, y]) i = some a → a.loc.isMemory = true → Knows t 0 i := by
    intro i a ha hmem
    obtain ⟨z, hz, hza⟩ := touch_of ha
    rcases getElem?_append_cases hz with ⟨_, hz'⟩ | ⟨_, hzu⟩
    · rcases hP.known i a (by rw [touchAt_of hz']; exact hza) hmem with k | ⟨f, -⟩
      · exact k
      · exact f.elim
    · rw [(hm z hzu).1] at hza; cases hza
  refine ⟨fun said => noRace_mute (hP.clean said) fun op hop => (hm op hop).1, fun i a ha hmem => .inl ((kn i a ha hmem).app _), fun i a ha b hb hN => .inl ?_, hNo.app (noObj_none fun op hop => (hm op hop).1), ?_, ?_, fun op hop => (Array.mem_append.1 hop).elim (hP.seen op) fun h => ?_⟩
  · refine Go.ConcN.fork_knows hx hy hP.hears hdj (kn i a ha ?_)
    cases h : a.loc <;> simp [locB, h] at hb <;> rfl
  · exact (deaf_keep [x, y] fun op hop => (hm op (by simpa using hop)).2).trans hP.hears
  · exact (deaf_keep [x, y] fun op hop => (hm op (by simpa using hop)).2).trans hdj
  · simp only [List.mem_toArray, List.mem_cons, List.not_mem_nil, or_false] at h
    rcases h with rfl | rfl
    · rw [hx.2]; trivial
    · rw [hy.2]; trivial
/-- The sender has closed the channel, at p, and touches nothing any more. -/
def Shut1 (N : Nat → Prop) (j c p : Nat) (t : Trace) : Prop := (∃ z, t[p]? = some z ∧ z.g = j ∧ z.act = .close c) ∧ t.heard p ∧ ∀ i a, touchAt t i = some a → ∀ b, locB a.loc = some b → N b → Before t i p ∨ Knows t 0 i
theorem Shut1.app {c p : Nat} (h : Shut1 N j c p t) (ho : ∀ op ∈ u, op.act.touch? = none ∨ op.g = 0) : Shut1 N j c p (t ++ u) := by
  obtain ⟨⟨z, h1, h2, h3⟩, h4, h5⟩ := h
  have hlt := lt_size_of_getElem? h1
  refine ⟨⟨z, by rw [getElem?_append_old hlt]; exact h1, h2, h3⟩, (heard_old hlt).2 h4, fun i a ha b hb hN => ?_⟩
  obtain ⟨x, hx, hxa⟩ := touch_of ha
  rcases getElem?_append_cases hx with ⟨_, hx'⟩ | ⟨_, hxu⟩
  · exact (h5 i a (by rw [touchAt_of hx']; exact hxa) b hb hN).imp (·.app u) (·.app u)
  · rcases ho x hxu with q | q
    · rw [q] at hxa; cases hxa
    · have := knows_own hx
      rw [q] at this
      exact .inr this
/-- The close itself. -/
theorem PT.close {c : Nat} {y : MemOp} (h : PT N B j t) (hy : y.g = j ∧ y.act = .close c) : Shut1 N j c t.size (t ++ #[y]) := by
  have hlast : (t ++ #[y])[t.size]? = some y := by rw [Array.getElem?_append_right (Nat.le_refl _)]; simp
  refine ⟨⟨y, hlast, hy.1, hy.2⟩, ⟨j, by simp [Trace.g?, hy.1], by rw [deaf_old (Nat.le_refl _)]; exact h.hears1⟩, fun i a ha b hb hN => ?_⟩
  obtain ⟨x, hx, hxa⟩ := touch_of ha
  rcases getElem?_append_cases hx with ⟨_, hx'⟩ | ⟨_, hxu⟩
  · rcases h.k1 i a (by rw [touchAt_of hx']; exact hxa) b hb hN with k | ⟨-, k⟩
    · exact .inl (.inr (k.hb_new (Nat.le_refl _) hlast hy.1))
    · exact .inr (k.app _)
  · have : x = y := by simpa using hxu
    rw [this, hy.2] at hxa
    simp [MemAct.touch?] at hxa
/-- Goroutine 0 receives the close: it knows all. -/
theorem PT.ended {c p : Nat} {y : MemOp} (h : PT N B j t) (hs : Shut1 N j c p t) (hy : y.g = 0 ∧ y.act = .recvClosed c) (hl : c < B) : Past (fun _ => False) B (t ++ #[y]) := by
  have hlast : (t ++ #[y])[t.size]? = some y := by rw [Array.getElem?_append_right (Nat.le_refl _)]; simp
  obtain ⟨⟨z, h1, h2, h3⟩, h4, h5⟩ := hs
  have hlt := lt_size_of_getElem? h1
  have hz : (t ++ #[y])[p]? = some z := by rw [getElem?_append_old hlt]; exact h1
  have edge : HappensBefore (t ++ #[y]) p t.size := .single (.inr ⟨.closed (c := c) (by rw [act?_of hz, h3]) (by rw [act?_of hlast, hy.2]), (heard_old hlt).2 h4, ⟨0, by simp [Trace.g?, hy.1], by rw [deaf_old (Nat.le_refl _)]; exact h.hears0⟩⟩)
  have known : ∀ i a, touchAt (t ++ #[y]) i = some a → a.loc.isMemory = true → Knows (t ++ #[y]) 0 i := by
    intro i a ha hm
    obtain ⟨x, hx, hxa⟩ := touch_of ha
    rcases getElem?_append_cases hx with ⟨_, hx'⟩ | ⟨_, hxu⟩
    · have ha' : touchAt t i = some a := by rw [touchAt_of hx']; exact hxa
      rcases h.k0 i a ha' hm with k | ⟨b, hb, hN⟩
      · exact k.app _
      · rcases h5 i a ha' b hb hN with k | k
        · exact ⟨t.size, y, hlast, hy.1, .inr ((k.app _).hb edge)⟩
        · exact k.app _
    · have : x = y := by simpa using hxu
      rw [this, hy.2] at hxa
      simp [MemAct.touch?] at hxa
  refine ⟨fun said => noRace_mute (h.clean said) fun op hop => ?_, fun i a ha hm => .inl (known i a ha hm), fun i g hg hne hc => ?_, ?_, fun op hop => (Array.mem_append.1 hop).elim (h.seen op) fun q => ?_⟩
  · have : op = y := by simpa using hop
    rw [this, hy.2]; rfl
  · obtain ⟨x, hx, hm, -⟩ := hc
    obtain ⟨q, z', k1, k2, k3⟩ := known i x hx hm
    refine ⟨q, by unfold Trace.g?; rw [k1]; simp [k2], ?_⟩
    rcases k3 with rfl | k3
    · unfold Trace.g? at hg
      rw [k1] at hg
      simp only [Option.map_some, Option.some.injEq, k2] at hg
      exact absurd hg.symm hne
    · exact k3
  · exact (deaf_keep [y] fun op hop m e => by
      have : op = y := by simpa using hop
      rw [this, hy.2] at e; cases e).trans h.hears0
  · have : op = y := by simpa using q
    rw [this, hy.2]; exact hl
end
end Go.Proofs.Ytdjnnhdeijnhgab.Rn
