/-
  A sender beside goroutine 0: what it is about, and its own steps.
-/
import Derived.Test.YtdjnnhdeijnhgabMw11
import Derived.Conc.CrowdComm
namespace Go.Proofs.Ytdjnnhdeijnhgab.Rn
open Go Go.Conc
open Go.ConcN (sumTo upd sumTo_upd upd_ne upd_same)
set_option linter.all false

/-- A pipe: the sender's number, the channel, how many it sends and what; where goroutine 0's world began; the sender's frames. S: what goroutine 0 keeps of what there was. -/
structure Pi where
  P : Program
  j : Nat
  ch : Nat
  n : Nat
  base : Nat
  Mq : Nat
  v : Nat → Value
  S : Nat → Prop
  w0 : World
  pf : List Frame
  At : Nat → Frame → World → (Nat → Prop) → Prop
structure OthOk (π : Pi) (N : Nat → Prop) (w w₁ : World) : Prop where
  size : w.heap.size ≤ w₁.heap.size
  same : ∀ b, N b → b ≠ π.ch → w₁.heap[b]? = w.heap[b]?
  low : ∀ b, N b → b < w₁.heap.size
structure G1ok (π : Pi) (N : Nat → Prop) (w w' : World) (es : Array Event) (N' : Nat → Prop) : Prop where
  tape : w'.tape = w.tape
  os : w'.os = w.os
  output : w'.output = w.output
  size : w.heap.size ≤ w'.heap.size
  same : ∀ b, b < w.heap.size → ¬ N b → w'.heap[b]? = w.heap[b]?
  chan : w'.heap[π.ch]? = w.heap[π.ch]?
  old : ∀ b, b < π.base → w'.heap[b]? = w.heap[b]?
  more : ∀ b, N b → N' b
  new : ∀ b, b < w.heap.size → N' b → N b
  low : ∀ b, N' b → b < w'.heap.size
  evs : ∀ e ∈ es, ∃ a wr, e = ⟨.cell a, wr, false⟩ ∧ N' a.block
/-- The sender walks to where it sends tick k (or, all sent, closes). -/
def Gz (π : Pi) (k : Nat) : Nat → Goroutine → World → (Nat → Prop) → Prop
  | 0, g, w, N => ∃ fr, g = G fr π.pf ∧ π.At k fr w N
  | m + 1, g, w, N => (∃ fr, g = G fr π.pf ∧ π.At k fr w N) ∨ (∃ fr cs, g = G fr cs) ∧ ∀ w₁, OthOk π N w w₁ → ∃ fr' cs' w' es N', stepG π.P false g w₁ = .go (G fr' cs') w' es ∧ G1ok π N w₁ w' es N' ∧ Gz π k m (G fr' cs') w' N'
def sendC (π : Pi) (k : Nat) : Array CommCase := #[scase π.ch (π.v k) (.tuple #[])]
/-- Where the sender stands: it walks to tick k; it is parked there; it has closed and is leaving. m: what it may still do before it must wait. cl: the channel is closed. -/
def S1 (π : Pi) (k : Nat) (g : Goroutine) (w : World) (N : Nat → Prop) (t : Trace) (m : Nat) (cl : Bool) : Prop :=
  (∃ m', Gz π k m' g w N ∧ m = m' + π.Mq + 1 ∧ k ≤ π.n ∧ cl = false) ∨
  (k < π.n ∧ cl = false ∧ ∃ fr, π.At k fr w N ∧ g = parked (G fr π.pf) (sendC π k) .send) ∨
  (k = π.n ∧ cl = true ∧ QuitsIn π.P m g ∧ ∃ p, Shut1 N π.j π.ch p t)
structure IP (π : Pi) (k : Nat) (x : St) : Prop where
  st : ∃ (q : Nat → Nat) (g : Goroutine) (cl : Bool) (s r : Nat) (tm : Bool), (∀ i h, 0 < i → i ≠ π.j → x.gs[i]? = some h → QuitsD π.P (q i) (Deaf x.t i) h) ∧ x.gs[π.j]? = some g ∧ x.w.heap[π.ch]? = some (.chan 0 #[] cl s r tm) ∧ S1 π k g x.w x.N x.t (q π.j) cl ∧ x.μ = sumTo x.gs.size q
  above : ∀ i, x.gs.size ≤ i → Deaf x.t i = 0
  pt : PT x.N x.w.heap.size π.j x.t
  low : ∀ b, x.N b → b < x.w.heap.size
  nch : x.N π.ch
  nold : ∀ b, b < π.base → ¬ π.S b → x.N b
  nS : ∀ b, b < π.base → x.N b → ¬ π.S b
  old : ∀ b, b < π.base → ¬ π.S b → x.w.heap[b]? = π.w0.heap[b]?
  bl : π.base ≤ x.w.heap.size
  tape : x.w.tape = π.w0.tape
  os : x.w.os = π.w0.os
  output : x.w.output = π.w0.output
structure PiOk (π : Pi) : Prop where
  j0 : π.j ≠ 0
  chb : π.base ≤ π.ch
  rely : ∀ k fr w w₁ N, π.At k fr w N → OthOk π N w w₁ → π.At k fr w₁ N
  send : ∀ k fr w N, k < π.n → π.At k fr w N → stepG π.P false (G fr π.pf) w = .comm (G fr π.pf) (sendC π k) true .send w #[] ∧ ∃ m, Gz π (k + 1) m (G (fr.finish undef) π.pf) w N
  close : ∀ fr w N s r tm, π.At π.n fr w N → w.heap[π.ch]? = some (.chan 0 #[] false s r tm) → mayWake π.P (G fr π.pf) = true ∧ ∃ g', g'.status = .running ∧ stepG π.P false (G fr π.pf) w = .go g' (w.shut π.ch s r tm) #[⟨.obj π.ch, false, true⟩, ⟨.obj π.ch, true, true⟩] ∧ QuitsIn π.P π.Mq g'
section
variable {π : Pi} {k : Nat} {N : Nat → Prop}
theorem OthOk.trans {w w₁ w₂ : World} (h : OthOk π N w w₁) (h' : OthOk π N w₁ w₂) : OthOk π N w w₂ := ⟨Nat.le_trans h.size h'.size, fun b hb hc => (h'.same b hb hc).trans (h.same b hb hc), h'.low⟩
theorem Gz.rely (hπ : PiOk π) : ∀ {m : Nat} {g : Goroutine} {w w₁ : World}, Gz π k m g w N → OthOk π N w w₁ → Gz π k m g w₁ N
  | 0, _, _, _, ⟨fr, h1, h2⟩, ho => ⟨fr, h1, hπ.rely _ _ _ _ _ h2 ho⟩
  | m + 1, _, _, _, .inl ⟨fr, h1, h2⟩, ho => .inl ⟨fr, h1, hπ.rely _ _ _ _ _ h2 ho⟩
  | m + 1, _, _, _, .inr ⟨h1, h2⟩, ho => .inr ⟨h1, fun w₂ h => h2 w₂ (ho.trans h)⟩
theorem Gz.running : ∀ {m : Nat} {g : Goroutine} {w : World}, Gz π k m g w N → ∃ fr cs, g = G fr cs
  | 0, _, _, ⟨fr, h1, _⟩ => ⟨fr, _, h1⟩
  | _ + 1, _, _, .inl ⟨fr, h1, _⟩ => ⟨fr, _, h1⟩
  | _ + 1, _, _, .inr ⟨h1, _⟩ => h1
theorem Gz.more : ∀ {m : Nat} {g : Goroutine} {w : World} {N : Nat → Prop}, Gz π k m g w N → Gz π k (m + 1) g w N
  | 0, _, _, _, h => .inl h
  | _ + 1, _, _, _, .inl h => .inl h
  | m + 1, _, _, _, .inr ⟨h1, h2⟩ => .inr ⟨h1, fun w₁ ho => let ⟨fr', cs', w', es, N', a, b, c⟩ := h2 w₁ ho; ⟨fr', cs', w', es, N', a, b, c.more⟩⟩
/-- What the sender stands at is unmoved by what leaves its blocks alone. -/
theorem S1.rely (hπ : PiOk π) {g : Goroutine} {w w₁ : World} {t u : Trace} {m : Nat} {cl : Bool} (h : S1 π k g w N t m cl) (ho : OthOk π N w w₁) (hu : ∀ op ∈ u, op.act.touch? = none ∨ op.g = 0) : S1 π k g w₁ N (t ++ u) m cl := by
  rcases h with ⟨m', h1, h2⟩ | ⟨h1, h2, fr, h3, h4⟩ | ⟨h1, h2, h3, p, h4⟩
  · exact .inl ⟨m', h1.rely hπ ho, h2⟩
  · exact .inr (.inl ⟨h1, h2, fr, hπ.rely _ _ _ _ _ h3 ho, h4⟩)
  · exact .inr (.inr ⟨h1, h2, h3, p, h4.app hu⟩)
/-- Whoever else's step: the sender is as it was. -/
theorem S1.calm {g a a' : Goroutine} {w w' : World} {t : Trace} {m s r : Nat} {cl tm : Bool} (h : S1 π k g w N t m cl) (hc : w'.heap[π.ch]? = some (.chan 0 #[] cl s r tm)) : woken π.P a a' w' g = g := by
  rcases h with ⟨m', h1, h2⟩ | ⟨h1, h2, fr, h3, h4⟩ | ⟨h1, h2, h3, p, h4⟩
  · obtain ⟨fr, cs, rfl⟩ := h1.running
    exact woken_run rfl
  · subst h4
    rw [h2] at hc
    exact woken_send_open _ _ hc
  · exact woken_quitsD (QuitsD.of_quitsIn h3)
theorem deaf_ev {es : Array Event} (h : ∀ e ∈ es, ∃ a wr, e = ⟨.cell a, wr, false⟩) (d : Nat) : deafBehind d es = d :=
  deafBehind_still (fun e he => by
    obtain ⟨a, wr, rfl⟩ := h e he
    exact ⟨by simp, by simp⟩) d
/-- A leaver slips. -/
theorem ip_slip (hπ : PiOk π) {x : St} (hx : IP π k x) {g0 : Goroutine} (h0 : x.gs[0]? = some g0) (hcalm : ∀ a a' d, woken π.P a a' (x.w.at d) g0 = g0) {i : Nat} (hi0 : i ≠ 0) (hij : i ≠ π.j) {g : Goroutine} (hi : x.gs[i]? = some g) (hg : g.status = .running) (d : Nat) (sl : Option (Nat × Nat)) :
    ∃ y ops, runT π.P (crowd x.gs (x.w.at d) sl) i = (.next y.m, ops) ∧ y.t = x.t ++ ops ∧ IP π k y ∧ y.gs[0]? = some g0 ∧ y.μ < x.μ ∧ OthW x.N x.w y.w y.N ∧ y.w.heap[π.ch]? = x.w.heap[π.ch]? ∧ y.gs[π.j]? = x.gs[π.j]? := by
  obtain ⟨⟨q, g1, cl, s, r, tm, hq, hg1, hch, hs1, hμ⟩, above, pt, low, nch, nold, nS, old, bl, tape, os, output⟩ := hx
  have hpos : 0 < i := by omega
  have hqi0 := hq i g hpos hij hi
  have hib : (i == 0) = false := by simp; omega
  have hlt : i < x.gs.size := (Array.getElem?_eq_some_iff.1 hi).1
  cases hqi : q i with
  | zero => rw [hqi] at hqi0; rw [hqi0.1] at hg; cases hg
  | succ k' =>
    rw [hqi] at hqi0
    rcases hqi0 with ⟨hf, _⟩ | ⟨_, g', es, hm, hstp, hq'⟩
    · rw [hf] at hg; cases hg
    have hrunT := runT_crowd_go (P := π.P) (sl := sl) (i := i) hi (by rw [hib]; exact hstp (x.w.at d))
    have hsum : sumTo x.gs.size (upd q i k') + (k' + 1) = sumTo x.gs.size q + k' := by
      have := sumTo_upd q k' id hlt
      simpa [hqi] using this
    have hopsg : ∀ op ∈ MemOp.ofEvents i g.frame.fn g.frame.place es, op.g = i := fun op hop => by obtain ⟨e, _, rfl⟩ := Go.Conc.mem_ofEvents hop; rfl
    have hopsn : ∀ op ∈ MemOp.ofEvents i g.frame.fn g.frame.place es, op.act.touch? = none := fun op hop => by obtain ⟨e, he, rfl⟩ := Go.Conc.mem_ofEvents hop; exact touch_mute (hm e he)
    have hopsl : ∀ op ∈ MemOp.ofEvents i g.frame.fn g.frame.place es, op.act.low x.w.heap.size := fun op hop => by obtain ⟨e, he, rfl⟩ := Go.Conc.mem_ofEvents hop; exact low_mute (hm e he) _
    have hne : i ≠ 0 := hi0
    refine ⟨{ gs := (x.gs.map (woken π.P g g' (x.w.at d))).setIfInBounds i g', w := x.w.at d, sl := sl, t := x.t ++ MemOp.ofEvents i g.frame.fn g.frame.place es, N := x.N, μ := sumTo x.gs.size (upd q i k') }, _, hrunT, rfl, ⟨⟨upd q i k', g1, cl, s, r, tm, fun m h hm0 hmj hmg => ?_, ?_, hch, ?_, ?_⟩, fun m hm0 => ?_, ?_, low, nch, nold, nS, old, bl, tape, os, output⟩, ?_, by simp only; omega, ⟨rfl, rfl, rfl, Nat.le_refl _, fun _ _ _ => rfl, fun _ h => h, fun _ _ h => h⟩, rfl, ?_⟩
    · by_cases hji : i = m
      · subst hji
        rw [Array.getElem?_setIfInBounds_self_of_lt (by simpa using hlt)] at hmg
        obtain rfl := Option.some.inj hmg
        rw [upd_same, Deaf_own]
        exact hq'
      · rw [Array.getElem?_setIfInBounds_ne hji, Array.getElem?_map] at hmg
        obtain ⟨z, hz, rfl⟩ := Option.map_eq_some_iff.1 hmg
        have hqj := hq m z hm0 hmj hz
        rw [woken_quitsD hqj, upd_ne q k' (Ne.symm hji), Deaf_other x.t hji _ hopsg]
        exact hqj
    · rw [Array.getElem?_setIfInBounds_ne hij, Array.getElem?_map, hg1]
      simp only [Option.map_some]
      rw [hs1.calm (w' := x.w.at d) hch]
    · rw [upd_ne q k' (Ne.symm hij)]
      exact hs1.rely hπ ⟨Nat.le_refl _, fun _ _ _ => rfl, low⟩ fun op hop => .inl (hopsn op hop)
    · simp
    · have hm1 : x.gs.size ≤ m := by simpa using hm0
      show Deaf (x.t ++ MemOp.ofEvents i g.frame.fn g.frame.place es) m = 0
      rw [Deaf_other x.t (g := m) (g' := i) (by omega) _ hopsg]
      exact above m hm1
    · exact pt.mute hopsn (Deaf_other x.t hne _ hopsg) (Deaf_other x.t hij _ hopsg) hopsl
    · rw [Array.getElem?_setIfInBounds_ne hne, Array.getElem?_map, h0]
      simp only [Option.map_some]
      rw [hcalm]
    · show ((x.gs.map (woken π.P g g' (x.w.at d))).setIfInBounds i g')[π.j]? = _
      rw [Array.getElem?_setIfInBounds_ne hij, Array.getElem?_map, hg1]
      simp only [Option.map_some]
      rw [hs1.calm (w' := x.w.at d) hch]
end
end Go.Proofs.Ytdjnnhdeijnhgab.Rn

/-
  A sender beside goroutine 0: the sender's own steps.
-/
namespace Go.Proofs.Ytdjnnhdeijnhgab.Rn
open Go Go.Conc
open Go.ConcN (sumTo upd sumTo_upd upd_ne upd_same)
set_option linter.all false

section
variable {π : Pi} {k : Nat} {N : Nat → Prop}
/-- The sender walks on. -/
theorem ip_walk (hπ : PiOk π) {x : St} (hx : IP π k x) {q : Nat → Nat} {fr : Frame} {cs : List Frame} {s r : Nat} {tm : Bool} {m' : Nat}
    (hq : ∀ i h, 0 < i → i ≠ π.j → x.gs[i]? = some h → QuitsD π.P (q i) (Deaf x.t i) h) (hg1 : x.gs[π.j]? = some (G fr cs)) (hch : x.w.heap[π.ch]? = some (.chan 0 #[] false s r tm)) (hk : k ≤ π.n) (hqj : q π.j = m' + 1 + π.Mq + 1) (hμ : x.μ = sumTo x.gs.size q) (d : Nat) (sl : Option (Nat × Nat))
    (hw : ∃ fr' cs' w' es N', stepG π.P false (G fr cs) (x.w.at d) = .go (G fr' cs') w' es ∧ G1ok π x.N (x.w.at d) w' es N' ∧ Gz π k m' (G fr' cs') w' N')
    {g0 : Goroutine} (h0 : x.gs[0]? = some g0) (hcalm : ∀ a a' w', w'.heap[π.ch]? = x.w.heap[π.ch]? → woken π.P a a' w' g0 = g0) :
    ∃ y ops, runT π.P (crowd x.gs (x.w.at d) sl) π.j = (.next y.m, ops) ∧ y.t = x.t ++ ops ∧ IP π k y ∧ y.gs[0]? = some g0 ∧ y.μ < x.μ ∧ OthW x.N x.w y.w y.N ∧ y.w.heap[π.ch]? = x.w.heap[π.ch]? ∧ ∃ fr cs, y.gs[π.j]? = some (G fr cs) := by
  obtain ⟨-, above, pt, low, nch, nold, nS, old, bl, tape, os, output⟩ := hx
  obtain ⟨fr', cs', w', es, N', hstp, hok, hgz⟩ := hw
  have hj0 := hπ.j0
  have hib : (π.j == 0) = false := by simpa using hj0
  have hlt : π.j < x.gs.size := (Array.getElem?_eq_some_iff.1 hg1).1
  have hrunT := runT_crowd_go (P := π.P) (sl := sl) (i := π.j) hg1 (by rw [hib]; exact hstp)
  have hsum : sumTo x.gs.size (upd q π.j (m' + π.Mq + 1)) + (m' + 1 + π.Mq + 1) = sumTo x.gs.size q + (m' + π.Mq + 1) := by
    have := sumTo_upd q (m' + π.Mq + 1) id hlt
    simpa [hqj] using this
  have hsz := hok.size
  have hsz' : x.w.heap.size ≤ w'.heap.size := hsz
  have hch' : w'.heap[π.ch]? = x.w.heap[π.ch]? := hok.chan
  have hopsg : ∀ op ∈ MemOp.ofEvents π.j (G fr cs).frame.fn (G fr cs).frame.place es, op.g = π.j := fun op hop => by obtain ⟨e, _, rfl⟩ := Go.Conc.mem_ofEvents hop; rfl
  have hopsc : ∀ op ∈ MemOp.ofEvents π.j (G fr cs).frame.fn (G fr cs).frame.place es, ∃ a wr, op.act = .access ⟨.cell a, wr, false⟩ ∧ N' a.block := fun op hop => by
    obtain ⟨e, he, rfl⟩ := Go.Conc.mem_ofEvents hop
    obtain ⟨a, wr, rfl, hn⟩ := hok.evs e he
    exact ⟨a, wr, ofEvent_cell0 _ _ _, hn⟩
  refine ⟨{ gs := (x.gs.map (woken π.P (G fr cs) (G fr' cs') w')).setIfInBounds π.j (G fr' cs'), w := w', sl := sl, t := x.t ++ MemOp.ofEvents π.j (G fr cs).frame.fn (G fr cs).frame.place es, N := N', μ := sumTo x.gs.size (upd q π.j (m' + π.Mq + 1)) }, _, hrunT, rfl, ⟨⟨upd q π.j (m' + π.Mq + 1), G fr' cs', false, s, r, tm, fun i h hi0 hij hih => ?_, ?_, hch'.trans hch, ?_, ?_⟩, fun i hi => ?_, ?_, hok.low, hok.more _ nch, fun b hb hS => hok.more _ (nold b hb hS), fun b hb hn => nS b hb (hok.new b (show b < x.w.heap.size by omega) hn), fun b hb hS => ?_, by show π.base ≤ w'.heap.size; omega, hok.tape.trans tape, hok.os.trans os, hok.output.trans output⟩, ?_, by simp only; omega, ⟨hok.tape, hok.os, hok.output, hsz', hok.same, hok.more, hok.new⟩, hch', fr', cs', ?_⟩
  · rw [Array.getElem?_setIfInBounds_ne (Ne.symm hij), Array.getElem?_map] at hih
    obtain ⟨z, hz, rfl⟩ := Option.map_eq_some_iff.1 hih
    have hqi := hq i z hi0 hij hz
    rw [woken_quitsD hqi, upd_ne q _ hij, Deaf_other x.t (Ne.symm hij) _ hopsg]
    exact hqi
  · rw [Array.getElem?_setIfInBounds_self_of_lt (by simpa using hlt)]
  · rw [upd_same]
    exact .inl ⟨m', hgz, rfl, hk, rfl⟩
  · simp
  · have hi : x.gs.size ≤ i := by simpa using hi
    show Deaf (x.t ++ MemOp.ofEvents π.j (G fr cs).frame.fn (G fr cs).frame.place es) i = 0
    rw [Deaf_other x.t (g := i) (g' := π.j) (by omega) _ hopsg]
    exact above i hi
  · have pt2 : PT N' w'.heap.size π.j x.t := pt.mono hsz' hok.more fun b hn hb => hok.new b hb hn
    refine pt2.app1 hj0 hopsg (fun op hop a ha hm => ?_) ?_ ?_ (fun op hop => ?_)
    · obtain ⟨ad, wr, e, hn⟩ := hopsc op hop
      rw [e] at ha
      simp only [MemAct.touch?, Option.some.injEq] at ha
      subst ha
      exact ⟨ad.block, rfl, hn⟩
    · intro op hop a ha r' hr
      obtain ⟨ad, wr, e, hn⟩ := hopsc op hop
      rw [e] at ha
      simp only [MemAct.touch?, Option.some.injEq] at ha
      subst ha
      cases hr
    · rw [Deaf_own]
      exact deaf_ev (fun e he => by obtain ⟨a, wr, h1, h2⟩ := hok.evs e he; exact ⟨a, wr, h1⟩) _
    · obtain ⟨ad, wr, e, hn⟩ := hopsc op hop
      rw [e]
      exact hok.low _ hn
  · show w'.heap[b]? = _
    rw [hok.old b hb]
    exact old b hb hS
  · rw [Array.getElem?_setIfInBounds_ne hj0, Array.getElem?_map, h0]
    simp only [Option.map_some]
    rw [hcalm _ _ _ hch']
  · show ((x.gs.map (woken π.P (G fr cs) (G fr' cs') w')).setIfInBounds π.j (G fr' cs'))[π.j]? = _
    rw [Array.getElem?_setIfInBounds_self_of_lt (by simpa using hlt)]
/-- The sender, having closed, leaves. -/
theorem ip_gone (hπ : PiOk π) {x : St} (hx : IP π k x) {q : Nat → Nat} {g : Goroutine} {s r p : Nat} {tm : Bool}
    (hq : ∀ i h, 0 < i → i ≠ π.j → x.gs[i]? = some h → QuitsD π.P (q i) (Deaf x.t i) h) (hg1 : x.gs[π.j]? = some g) (hch : x.w.heap[π.ch]? = some (.chan 0 #[] true s r tm)) (hk : k = π.n) (hqi : QuitsIn π.P (q π.j) g) (hsh : Shut1 x.N π.j π.ch p x.t) (hμ : x.μ = sumTo x.gs.size q) (hg : g.status = .running) (d : Nat) (sl : Option (Nat × Nat))
    {g0 : Goroutine} (h0 : x.gs[0]? = some g0) (hcalm : ∀ a a' d, woken π.P a a' (x.w.at d) g0 = g0) :
    ∃ y ops, runT π.P (crowd x.gs (x.w.at d) sl) π.j = (.next y.m, ops) ∧ y.t = x.t ++ ops ∧ IP π k y ∧ y.gs[0]? = some g0 ∧ y.μ < x.μ ∧ OthW x.N x.w y.w y.N ∧ y.w.heap[π.ch]? = x.w.heap[π.ch]? := by
  obtain ⟨-, above, pt, low, nch, nold, nS, old, bl, tape, os, output⟩ := hx
  have hj0 := hπ.j0
  have hib : (π.j == 0) = false := by simpa using hj0
  have hlt : π.j < x.gs.size := (Array.getElem?_eq_some_iff.1 hg1).1
  cases hqj : q π.j with
  | zero => rw [hqj] at hqi; rw [hqi] at hg; cases hg
  | succ k' =>
    rw [hqj] at hqi
    rcases hqi with hf | ⟨_, g', hstp, hq'⟩
    · rw [hf] at hg; cases hg
    have hrunT := runT_crowd_go (P := π.P) (sl := sl) (i := π.j) hg1 (by rw [hib]; exact hstp (x.w.at d))
    have hsum : sumTo x.gs.size (upd q π.j k') + (k' + 1) = sumTo x.gs.size q + k' := by
      have := sumTo_upd q k' id hlt
      simpa [hqj] using this
    have hops : MemOp.ofEvents π.j g.frame.fn g.frame.place #[] = #[] := rfl
    rw [hops] at hrunT
    refine ⟨{ gs := (x.gs.map (woken π.P g g' (x.w.at d))).setIfInBounds π.j g', w := x.w.at d, sl := sl, t := x.t, N := x.N, μ := sumTo x.gs.size (upd q π.j k') }, #[], hrunT, by simp, ⟨⟨upd q π.j k', g', true, s, r, tm, fun i h hi0 hij hih => ?_, ?_, hch, ?_, ?_⟩, fun i hi => above i (by simpa using hi), pt, low, nch, nold, nS, old, bl, tape, os, output⟩, ?_, by simp only; omega, ⟨rfl, rfl, rfl, Nat.le_refl _, fun _ _ _ => rfl, fun _ h => h, fun _ _ h => h⟩, rfl⟩
    · rw [Array.getElem?_setIfInBounds_ne (Ne.symm hij), Array.getElem?_map] at hih
      obtain ⟨z, hz, rfl⟩ := Option.map_eq_some_iff.1 hih
      have hqi := hq i z hi0 hij hz
      rw [woken_quitsD hqi, upd_ne q _ hij]
      exact hqi
    · rw [Array.getElem?_setIfInBounds_self_of_lt (by simpa using hlt)]
    · rw [upd_same]
      exact .inr (.inr ⟨hk, rfl, hq', p, hsh⟩)
    · simp
    · rw [Array.getElem?_setIfInBounds_ne hj0, Array.getElem?_map, h0]
      simp only [Option.map_some]
      rw [hcalm]
/-- The sender closes. -/
theorem ip_close (hπ : PiOk π) {x : St} (hx : IP π π.n x) {q : Nat → Nat} {fr : Frame} {s r : Nat} {tm : Bool} {m' : Nat}
    (hq : ∀ i h, 0 < i → i ≠ π.j → x.gs[i]? = some h → QuitsD π.P (q i) (Deaf x.t i) h) (hg1 : x.gs[π.j]? = some (G fr π.pf)) (hch : x.w.heap[π.ch]? = some (.chan 0 #[] false s r tm)) (hqj : q π.j = m' + π.Mq + 1) (hμ : x.μ = sumTo x.gs.size q) (d : Nat) (sl : Option (Nat × Nat))
    (hat : π.At π.n fr x.w x.N) {g0 : Goroutine} (h0 : x.gs[0]? = some g0) :
    mayWake π.P (G fr π.pf) = true ∧ ∃ y ops a', a'.status = .running ∧ runT π.P (crowd x.gs (x.w.at d) sl) π.j = (.next y.m, ops) ∧ y.t = x.t ++ ops ∧ IP π π.n y ∧ y.gs[0]? = some (woken π.P (G fr π.pf) a' y.w g0) ∧ y.μ < x.μ ∧ OthW x.N x.w y.w y.N ∧ y.w.heap[π.ch]? = some (.chan 0 #[] true s r tm) := by
  obtain ⟨-, above, pt, low, nch, nold, nS, old, bl, tape, os, output⟩ := hx
  have hj0 := hπ.j0
  have hib : (π.j == 0) = false := by simpa using hj0
  have hlt : π.j < x.gs.size := (Array.getElem?_eq_some_iff.1 hg1).1
  have hat' : π.At π.n fr (x.w.at d) x.N := hπ.rely _ _ _ _ _ hat ⟨Nat.le_refl _, fun _ _ _ => rfl, low⟩
  obtain ⟨hmay, g', hrun', hstp, hquit⟩ := hπ.close fr (x.w.at d) x.N s r tm hat' hch
  refine ⟨hmay, ?_⟩
  have hrunT := runT_crowd_go (P := π.P) (sl := sl) (i := π.j) hg1 (by rw [hib]; exact hstp)
  have hsum : sumTo x.gs.size (upd q π.j π.Mq) + (m' + π.Mq + 1) = sumTo x.gs.size q + π.Mq := by
    have := sumTo_upd q π.Mq id hlt
    simpa [hqj] using this
  have hclt : π.ch < x.w.heap.size := low _ nch
  have hw' : ∀ b, b ≠ π.ch → ((x.w.at d).shut π.ch s r tm).heap[b]? = x.w.heap[b]? := fun b hb => by
    simp [World.shut, World.at, Ne.symm hb]
  have hwc : ((x.w.at d).shut π.ch s r tm).heap[π.ch]? = some (.chan 0 #[] true s r tm) := by
    simp [World.shut, World.at, hclt]
  have hws : ((x.w.at d).shut π.ch s r tm).heap.size = x.w.heap.size := by simp [World.shut, World.at]
  have e1 : MemOp.ofEvents π.j (G fr π.pf).frame.fn (G fr π.pf).frame.place #[⟨.obj π.ch, false, true⟩, ⟨.obj π.ch, true, true⟩] = #[{ g := π.j, fn := (G fr π.pf).frame.fn, pos := (G fr π.pf).frame.place, act := .access ⟨.obj π.ch, false, true⟩ }] ++ #[{ g := π.j, fn := (G fr π.pf).frame.fn, pos := (G fr π.pf).frame.place, act := .close π.ch }] := by
    simp [MemOp.ofEvents, MemAct.ofEvent]
  have hopsg : ∀ op ∈ MemOp.ofEvents π.j (G fr π.pf).frame.fn (G fr π.pf).frame.place #[⟨.obj π.ch, false, true⟩, ⟨.obj π.ch, true, true⟩], op.g = π.j := fun op hop => by obtain ⟨e, _, rfl⟩ := Go.Conc.mem_ofEvents hop; rfl
  have pt1 : PT x.N x.w.heap.size π.j (x.t ++ #[{ g := π.j, fn := (G fr π.pf).frame.fn, pos := (G fr π.pf).frame.place, act := .access ⟨.obj π.ch, false, true⟩ }]) := by
    refine pt.app1 hj0 (fun op hop => ?_) (fun op hop a ha hm => ?_) (fun op hop a ha r' hr => ?_) (deaf_keep [_] fun op hop m e => ?_) (fun op hop => ?_)
    · obtain rfl : op = _ := by simpa using hop
      rfl
    · obtain rfl : op = _ := by simpa using hop
      simp only [MemAct.touch?, Option.some.injEq] at ha
      subst ha
      exact ⟨π.ch, rfl, nch⟩
    · obtain rfl : op = _ := by simpa using hop
      simp only [MemAct.touch?, Option.some.injEq] at ha
      subst ha
      rfl
    · obtain rfl : op = _ := by simpa using hop
      cases e
    · obtain rfl : op = _ := by simpa using hop
      exact hclt
  have sh := pt1.close (c := π.ch) (y := { g := π.j, fn := (G fr π.pf).frame.fn, pos := (G fr π.pf).frame.place, act := .close π.ch }) ⟨rfl, rfl⟩
  have pt2 : PT x.N x.w.heap.size π.j (x.t ++ MemOp.ofEvents π.j (G fr π.pf).frame.fn (G fr π.pf).frame.place #[⟨.obj π.ch, false, true⟩, ⟨.obj π.ch, true, true⟩]) := by
    rw [e1, ← Array.append_assoc]
    refine pt1.mute (fun op hop => ?_) (deaf_keep [_] fun op hop m e => ?_) (deaf_keep [_] fun op hop m e => ?_) (fun op hop => ?_)
    · obtain rfl : op = _ := by simpa using hop
      rfl
    · obtain rfl : op = _ := by simpa using hop
      cases e
    · obtain rfl : op = _ := by simpa using hop
      cases e
    · obtain rfl : op = _ := by simpa using hop
      exact hclt
  refine ⟨{ gs := (x.gs.map (woken π.P (G fr π.pf) g' ((x.w.at d).shut π.ch s r tm))).setIfInBounds π.j g', w := (x.w.at d).shut π.ch s r tm, sl := sl, t := x.t ++ MemOp.ofEvents π.j (G fr π.pf).frame.fn (G fr π.pf).frame.place #[⟨.obj π.ch, false, true⟩, ⟨.obj π.ch, true, true⟩], N := x.N, μ := sumTo x.gs.size (upd q π.j π.Mq) }, _, g', hrun', hrunT, rfl, ⟨⟨upd q π.j π.Mq, g', true, s, r, tm, fun i h hi0 hij hih => ?_, ?_, hwc, ?_, ?_⟩, fun i hi => ?_, ?_, ?_, nch, nold, nS, fun b hb hS => ?_, ?_, tape, os, output⟩, ?_, by simp only; omega, ⟨rfl, rfl, rfl, Nat.le_of_eq hws.symm, fun b _ hN => hw' b (fun e => hN (e ▸ nch)), fun _ h => h, fun _ _ h => h⟩, hwc⟩
  · rw [Array.getElem?_setIfInBounds_ne (Ne.symm hij), Array.getElem?_map] at hih
    obtain ⟨z, hz, rfl⟩ := Option.map_eq_some_iff.1 hih
    have hqi := hq i z hi0 hij hz
    rw [woken_quitsD hqi, upd_ne q _ hij, Deaf_other x.t (Ne.symm hij) _ hopsg]
    exact hqi
  · rw [Array.getElem?_setIfInBounds_self_of_lt (by simpa using hlt)]
  · rw [upd_same]
    refine .inr (.inr ⟨rfl, rfl, hquit, ?_⟩)
    rw [e1, ← Array.append_assoc]
    exact ⟨_, sh⟩
  · simp
  · have hi : x.gs.size ≤ i := by simpa using hi
    show Deaf (x.t ++ _) i = 0
    rw [Deaf_other x.t (g := i) (g' := π.j) (by omega) _ hopsg]
    exact above i hi
  · show PT x.N ((x.w.at d).shut π.ch s r tm).heap.size π.j _
    rw [hws]
    exact pt2
  · intro b hb
    show b < ((x.w.at d).shut π.ch s r tm).heap.size
    rw [hws]
    exact low b hb
  · show ((x.w.at d).shut π.ch s r tm).heap[b]? = _
    rw [hw' b (by have := hπ.chb; omega)]
    exact old b hb hS
  · show π.base ≤ ((x.w.at d).shut π.ch s r tm).heap.size
    rw [hws]
    exact bl
  · show ((x.gs.map (woken π.P (G fr π.pf) g' ((x.w.at d).shut π.ch s r tm))).setIfInBounds π.j g')[0]? = _
    rw [Array.getElem?_setIfInBounds_ne hj0, Array.getElem?_map, h0]
    rfl
end
end Go.Proofs.Ytdjnnhdeijnhgab.Rn

/-
  A sender beside goroutine 0: the company.
-/
namespace Go.Proofs.Ytdjnnhdeijnhgab.Rn
open Go Go.Conc
open Go.ConcN (sumTo upd sumTo_upd upd_ne upd_same)
set_option linter.all false

section
variable {π : Pi} {k : Nat} {N : Nat → Prop}
theorem no_offers {x : St} {q : Nat → Nat} (hq : ∀ i h, 0 < i → i ≠ π.j → x.gs[i]? = some h → QuitsD π.P (q i) (Deaf x.t i) h) {g0 : Goroutine} (h0 : x.gs[0]? = some g0) (b : Bool) (hg0 : offersAt g0 π.ch b = []) : ∀ i g, i ≠ π.j → x.gs[i]? = some g → offersAt g π.ch b = [] := by
  intro i g hi hg
  rcases Nat.eq_zero_or_pos i with rfl | hpos
  · rw [h0] at hg
    cases hg
    exact hg0
  · refine offersAt_of_not_blocked (fun e => ?_) _ _
    rcases (hq i g hpos hi hg).status with s | s <;> rw [s] at e <;> cases e
/-- The sender finds nobody to take its tick: it parks. -/
theorem ip_park (hπ : PiOk π) {x : St} (hx : IP π k x) {q : Nat → Nat} {fr : Frame} {s r : Nat} {tm : Bool} {m' : Nat}
    (hq : ∀ i h, 0 < i → i ≠ π.j → x.gs[i]? = some h → QuitsD π.P (q i) (Deaf x.t i) h) (hg1 : x.gs[π.j]? = some (G fr π.pf)) (hch : x.w.heap[π.ch]? = some (.chan 0 #[] false s r tm)) (hk : k < π.n) (hqj : q π.j = m' + π.Mq + 1) (hμ : x.μ = sumTo x.gs.size q) (d : Nat) (sl : Option (Nat × Nat))
    (hat : π.At k fr x.w x.N) {g0 : Goroutine} (h0 : x.gs[0]? = some g0) (hg0 : offersAt g0 π.ch false = []) :
    ∃ y ops, runT π.P (crowd x.gs (x.w.at d) sl) π.j = (.next y.m, ops) ∧ y.t = x.t ++ ops ∧ IP π k y ∧ y.gs[0]? = some g0 ∧ y.μ < x.μ ∧ OthW x.N x.w y.w y.N := by
  obtain ⟨-, above, pt, low, nch, nold, nS, old, bl, tape, os, output⟩ := hx
  have hj0 := hπ.j0
  have hib : (π.j == 0) = false := by simpa using hj0
  have hlt : π.j < x.gs.size := (Array.getElem?_eq_some_iff.1 hg1).1
  have hat' : π.At k fr (x.w.at d) x.N := hπ.rely _ _ _ _ _ hat ⟨Nat.le_refl _, fun _ _ _ => rfl, low⟩
  obtain ⟨hstp, -⟩ := hπ.send k fr (x.w.at d) x.N hk hat'
  have hno := no_offers (π := π) hq h0 false hg0
  have hrunT := crowd_waits (P := π.P) (sl := sl) (i := π.j) hg1 (by rw [hib]; exact hstp) (fun cc hcc => by
    have : cc = scase π.ch (π.v k) (.tuple #[]) := by simpa [sendC] using hcc
    subst this
    refine ways_send_none (cap := 0) (buf := #[]) (s := s) (r := r) (tm := tm) ?_ (by simp) ?_
    · exact hch
    · refine partners_nil fun i g hi => ?_
      rcases getElem?_stand x.gs π.j i g hi with ⟨_, rfl⟩ | ⟨hne, hi'⟩
      · exact offersAt_ph _ _
      · exact hno i g hne hi')
  have hsum : sumTo x.gs.size (upd q π.j 0) + (m' + π.Mq + 1) = sumTo x.gs.size q + 0 := by
    have := sumTo_upd q 0 id hlt
    simpa [hqj] using this
  have hops : MemOp.ofEvents π.j (G fr π.pf).frame.fn (G fr π.pf).frame.place #[] = #[] := rfl
  rw [hops] at hrunT
  refine ⟨{ gs := x.gs.setIfInBounds π.j (parked (G fr π.pf) (sendC π k) .send), w := x.w.at d, sl := sl, t := x.t, N := x.N, μ := sumTo x.gs.size (upd q π.j 0) }, #[], hrunT, by simp, ⟨⟨upd q π.j 0, parked (G fr π.pf) (sendC π k) .send, false, s, r, tm, fun i h hi0 hij hih => ?_, ?_, hch, ?_, ?_⟩, fun i hi => above i (by simpa using hi), pt, low, nch, nold, nS, old, bl, tape, os, output⟩, ?_, by simp only; omega, ⟨rfl, rfl, rfl, Nat.le_refl _, fun _ _ _ => rfl, fun _ h => h, fun _ _ h => h⟩⟩
  · rw [Array.getElem?_setIfInBounds_ne (Ne.symm hij)] at hih
    rw [upd_ne q _ hij]
    exact hq i h hi0 hij hih
  · rw [Array.getElem?_setIfInBounds_self_of_lt hlt]
  · rw [upd_same]
    exact .inr (.inl ⟨hk, rfl, fr, hat', rfl⟩)
  · simp
  · rw [Array.getElem?_setIfInBounds_ne hj0]
    exact h0
theorem awake_ip {x : St} {q : Nat → Nat} (hq : ∀ i h, 0 < i → i ≠ π.j → x.gs[i]? = some h → QuitsD π.P (q i) (Deaf x.t i) h) {g0 g1 : Goroutine} (h0 : x.gs[0]? = some g0) (h0a : awake g0) (h1 : x.gs[π.j]? = some g1) {w : World} {t : Trace} {m : Nat} {cl : Bool} (hs : S1 π k g1 w N t m cl) : ∀ g ∈ x.gs, awake g := by
  intro g hg
  obtain ⟨i, hi, rfl⟩ := Array.mem_iff_getElem.1 hg
  by_cases hij : i = π.j
  · subst hij
    have : x.gs[π.j] = g1 := by simpa [Array.getElem?_eq_getElem hi] using h1
    rw [this]
    rcases hs with ⟨m', k1, k2⟩ | ⟨k1, k2, fr, k3, k4⟩ | ⟨k1, k2, k3, p, k4⟩
    · obtain ⟨fr, cs, rfl⟩ := k1.running
      exact awake_of (.inl rfl)
    · subst k4
      exact awake_of (.inr (.inl rfl))
    · exact awake_of ((QuitsD.of_quitsIn k3).status.elim .inl fun x => .inr (.inr x))
  · rcases Nat.eq_zero_or_pos i with rfl | hpos
    · have : x.gs[0] = g0 := by simpa [Array.getElem?_eq_getElem hi] using h0
      rw [this]
      exact h0a
    · exact awake_of ((hq i _ hpos hij (Array.getElem?_eq_getElem hi)).status.elim .inl fun x => .inr (.inr x))
theorem ip_comp (hπ : PiOk π) (k : Nat) : Comp π.P (IP π k) OthW where
  pick := by
    intro x fr cs hx h0
    obtain ⟨q, g1, cl, s, r, tm, hq, hg1, hch, hs1, hμ⟩ := hx.st
    have hcalm : ∀ a a' w', woken π.P a a' w' (G fr cs) = G fr cs := fun a a' w' => woken_run rfl
    have hoff : ∀ b, offersAt (G fr cs) π.ch b = [] := fun b => offersAt_of_not_blocked (by simp [G]) _ _
    obtain ⟨i, g, d, sl', hi, hg, hst⟩ := crowd_pick (P := π.P) (w := x.w) (sl := x.sl) (awake_ip hq h0 (awake_of (.inl rfl)) hg1 hs1) ⟨0, _, h0, rfl⟩
    have fin : (∃ y ops, runT π.P (crowd x.gs (x.w.at d) sl') i = (.next y.m, ops) ∧ y.t = x.t ++ ops ∧ IP π k y ∧ y.gs[0]? = some (G fr cs) ∧ y.μ < x.μ ∧ OthW x.N x.w y.w y.N) → ∃ y, IP π k y ∧ y.gs[0]? = x.gs[0]? ∧ y.μ < x.μ ∧ One π.P x y ∧ OthW x.N x.w y.w y.N := by
      rintro ⟨y, ops, k1, k2, k3, k4, k5, k6⟩
      exact ⟨y, k3, k4.trans h0.symm, k5, ⟨ops, hst.trans k1, k2⟩, k6⟩
    by_cases hi0 : i = 0
    · subst hi0
      exact .inl ⟨d, sl', hst⟩
    · right
      by_cases hij : i = π.j
      · subst hij
        obtain rfl : g = g1 := by rw [hg1] at hi; exact (Option.some.inj hi).symm
        rcases hs1 with ⟨m', k1, k2, k3, rfl⟩ | ⟨k1, k2, fr1, k3, k4⟩ | ⟨rfl, rfl, k3, p, k4⟩
        · have stop : ∀ fr1, g = G fr1 π.pf → π.At k fr1 x.w x.N → ∃ y, IP π k y ∧ y.gs[0]? = x.gs[0]? ∧ y.μ < x.μ ∧ One π.P x y ∧ OthW x.N x.w y.w y.N := by
            rintro fr1 rfl hat
            rcases Nat.lt_or_ge k π.n with hlt | hge
            · exact fin (ip_park hπ hx hq hg1 hch hlt k2 hμ d sl' hat h0 (hoff false))
            · obtain rfl : k = π.n := by omega
              obtain ⟨-, y, ops, a', -, q1, q2, q3, q4, q5, q6, q7⟩ := ip_close hπ hx hq hg1 hch k2 hμ d sl' hat h0
              rw [hcalm] at q4
              exact fin ⟨y, ops, q1, q2, q3, q4, q5, q6⟩
          cases m' with
          | zero =>
            obtain ⟨fr1, e1, e2⟩ := k1
            exact stop fr1 e1 e2
          | succ m' =>
            rcases k1 with ⟨fr1, e1, e2⟩ | ⟨⟨fr1, cs1, rfl⟩, h2⟩
            · exact stop fr1 e1 e2
            · obtain ⟨y, ops, q1, q2, q3, q4, q5, q6, -⟩ := ip_walk hπ hx hq hg1 hch k3 k2 hμ d sl' (h2 (x.w.at d) ⟨Nat.le_refl _, fun _ _ _ => rfl, hx.low⟩) h0 fun a a' w' _ => hcalm a a' w'
              exact fin ⟨y, ops, q1, q2, q3, q4, q5, q6⟩
        · subst k4
          cases hg
        · obtain ⟨y, ops, q1, q2, q3, q4, q5, q6, -⟩ := ip_gone hπ hx hq hg1 hch rfl k3 k4 hμ hg d sl' h0 fun a a' d => hcalm a a' _
          exact fin ⟨y, ops, q1, q2, q3, q4, q5, q6⟩
      · obtain ⟨y, ops, q1, q2, q3, q4, q5, q6, -⟩ := ip_slip hπ hx h0 (fun a a' d => hcalm a a' _) hi0 hij hi hg d sl'
        exact fin ⟨y, ops, q1, q2, q3, q4, q5, q6⟩
  own := by
    intro x fr cs d sl' fr' cs' w' es hx h0 hgo hmine hev
    obtain ⟨⟨q, g1, cl, s, r, tm, hq, hg1, hch, hs1, hμ⟩, above, pt, low, nch, nold, nS, old, bl, tape, os, output⟩ := hx
    have hj0 := hπ.j0
    have hlt : 0 < x.gs.size := (Array.getElem?_eq_some_iff.1 h0).1
    have hch' : w'.heap[π.ch]? = some (.chan 0 #[] cl s r tm) := (hmine.same _ nch).trans hch
    have hopsg : ∀ op ∈ MemOp.ofEvents 0 (G fr cs).frame.fn (G fr cs).frame.place es, op.g = 0 := fun op hop => by obtain ⟨e, _, rfl⟩ := Go.Conc.mem_ofEvents hop; rfl
    have pt' : PT x.N w'.heap.size π.j x.t := pt.mono hmine.size (fun _ h => h) fun _ h _ => h
    have hopsT : ∀ op ∈ MemOp.ofEvents 0 (G fr cs).frame.fn (G fr cs).frame.place es, ∀ a, op.act.touch? = some a → ∀ b, locB a.loc = some b → x.N b → ∃ r, a.loc = .obj r := by
      intro op hop t ht b hb hN
      obtain ⟨e, he, rfl⟩ := Go.Conc.mem_ofEvents hop
      rcases hev e he with ⟨a, wr, rfl, h1, h2⟩ | rfl | ⟨r', s', rfl, h1⟩
      · simp only [ofEvent_cell0, MemAct.touch?, Option.some.injEq] at ht
        subst ht
        simp only [locB, Option.some.injEq] at hb
        subst hb
        exact absurd hN h1
      · simp [MemAct.ofEvent, MemAct.touch?] at ht
      · cases s' <;> (simp only [MemAct.ofEvent, MemAct.touch?, Option.some.injEq] at ht; subst ht; exact ⟨r', rfl⟩)
    have hopsl : ∀ op ∈ MemOp.ofEvents 0 (G fr cs).frame.fn (G fr cs).frame.place es, op.act.low w'.heap.size := by
      intro op hop
      obtain ⟨e, he, rfl⟩ := Go.Conc.mem_ofEvents hop
      exact (evL_of (hev e he)).2.2.2
    have hdeaf : Deaf (x.t ++ MemOp.ofEvents 0 (G fr cs).frame.fn (G fr cs).frame.place es) 0 = Deaf x.t 0 := by
      rw [Deaf_own]
      exact deafBehind_still (fun e he => ⟨(evL_of (hev e he)).2.1, (evL_of (hev e he)).2.2.1⟩) _
    have hgs : (x.own π.P sl' (G fr cs) (G fr' cs') w' es).gs = (x.gs.map (woken π.P (G fr cs) (G fr' cs') w')).setIfInBounds 0 (G fr' cs') := rfl
    have hsz : (x.own π.P sl' (G fr cs) (G fr' cs') w' es).gs.size = x.gs.size := by rw [hgs]; simp
    refine ⟨⟨q, g1, cl, s, r, tm, fun i h hi0 hij hih => ?_, ?_, hch', ?_, ?_⟩, fun i hi => ?_, ?_, fun b hb => Nat.lt_of_lt_of_le (low b hb) hmine.size, nch, nold, nS, fun b hb hS => (hmine.same b (nold b hb hS)).trans (old b hb hS), Nat.le_trans bl hmine.size, hmine.tape.trans tape, hmine.os.trans os, hmine.output.trans output⟩
    · rw [hgs, Array.getElem?_setIfInBounds_ne (by omega), Array.getElem?_map] at hih
      obtain ⟨z, hz, rfl⟩ := Option.map_eq_some_iff.1 hih
      have hqi := hq i z hi0 hij hz
      show QuitsD π.P (q i) (Deaf (x.t ++ MemOp.ofEvents 0 (G fr cs).frame.fn (G fr cs).frame.place es) i) _
      rw [woken_quitsD hqi, Deaf_other x.t (by omega) _ hopsg]
      exact hqi
    · rw [hgs, Array.getElem?_setIfInBounds_ne (Ne.symm hj0), Array.getElem?_map, hg1]
      simp only [Option.map_some]
      rw [hs1.calm hch']
    · exact hs1.rely hπ ⟨hmine.size, fun b hb _ => hmine.same b hb, fun b hb => Nat.lt_of_lt_of_le (low b hb) hmine.size⟩ fun op hop => .inr (hopsg op hop)
    · rw [hsz]
      exact hμ
    · rw [hsz] at hi
      show Deaf (x.t ++ MemOp.ofEvents 0 (G fr cs).frame.fn (G fr cs).frame.place es) i = 0
      rw [Deaf_other x.t (g := i) (g' := 0) (by omega) _ hopsg]
      exact above i hi
    · exact pt'.app0 hj0 hopsg hopsT (noObj_ev hev) hdeaf hopsl
  low := fun x hx => hx.low
  oth := fun h => h
  refl := fun N w => ⟨rfl, rfl, rfl, Nat.le_refl _, fun _ _ _ => rfl, fun _ h => h, fun _ _ h => h⟩
  trans := by
    intro N w N' w' N'' w'' h k
    exact ⟨k.tape.trans h.tape, k.os.trans h.os, k.output.trans h.output, Nat.le_trans h.size k.size, fun b hb hn => (k.same b (Nat.lt_of_lt_of_le hb h.size) fun q => hn (h.new b hb q)).trans (h.same b hb hn), fun b hb => k.more b (h.more b hb), fun b hb hn => h.new b hb (k.new b (Nat.lt_of_lt_of_le hb h.size) hn)⟩
end
end Go.Proofs.Ytdjnnhdeijnhgab.Rn
