/-
  A sender beside goroutine 0: the sender's own steps.
-/
import Derived.Test.YtdjnnhdeijnhgabMw12
namespace Go.Proofs.Ytdjnnhdeijnhgab.Rn
open Go Go.Conc
open Go.ConcN (sumTo upd sumTo_upd upd_ne upd_same)
set_option linter.all false

section
variable {π : Pi} {k : Nat} {N : Nat → Prop}
/-- The sender walks on. -/
theorem ip_walk (hπ : PiOk π) {x : St} (hx : IP π k x) {q : Nat → Nat} {fr : Frame} {cs : List Frame} {s r : Nat} {tm : Bool} {m' : Nat}
    (hq : ∀ i h, 0 < i → i ≠ π.j → x.gs[i]? = some h → QuitsD π.P (q i) (Deaf x.t i) h) (hg1 : x.gs[π.j]? = some (G fr cs)) (hch : x.w.heap[π.ch]? = some (.chan 0 #[] false s r tm)) (hk : k ≤ π.n) (hqj : q π.j = m' + 1 + π.Mq + 1) (hμ : x.μ = sumTo x.gs.size q) (d : Nat) (sl : Option (Nat × Nat))
    (hw : ∃ fr' cs' w' es N', stepG π.P false (G fr cs) (x.w.at d) = .go (G fr' cs') w' es ∧ G1ok π x.N (x.w.at d) w' es N' ∧ Gz π k m' (G fr' cs') w' N')
    {g0 : Goroutine} (h0 : x.gs[0]? = some g0) (hcalm : ∀ a a' w', w'.heap[π.ch]? = x.w.heap[π.ch]? → woken π.P a a' w' g0 = g0) :
    ∃ y ops, runT π.P (crowd x.gs (x.w.at d) sl) π.j = (.next y.m, ops) ∧ y.t = x.t ++ ops ∧ IP π k y ∧ y.gs[0]? = some g0 ∧ y.μ < x.μ ∧ OthW x.N x.w y.w y.N ∧ y.w.heap[π.ch]? = x.w.heap[π.ch]? ∧ ∃ fr cs, y.gs[π.j]? = some (G fr cs) := by
  obtain ⟨-, above, pt, low, nch, nold, nS, old, bl, tape, os, output⟩ := hx
  obtain ⟨fr', cs', w', es, N', hstp, hok, hgz⟩ := hw
  have hj0 := hπ.j0
  have hib : (π.j == 0) = false := by simpa using hj0
  have hlt : π.j < x.gs.size := (Array.getElem?_eq_some_iff.1 hg1).1
  have hrunT := runT_crowd_go (P := π.P) (sl := sl) (i := π.j) hg1 (by rw [hib]; exact hstp)
  have hsum : sumTo x.gs.size (upd q π.j (m' + π.Mq + 1)) + (m' + 1 + π.Mq + 1) = sumTo x.gs.size q + (m' + π.Mq + 1) := by
    have := sumTo_upd q (m' + π.Mq + 1) id hlt
    simpa [hqj] using this
  have hsz := hok.size
  have hsz' : x.w.heap.size ≤ w'.heap.size := hsz
  have hch' : w'.heap[π.ch]? = x.w.heap[π.ch]? := hok.chan
  have hopsg : ∀ op ∈ MemOp.ofEvents π.j (G fr cs).frame.fn (G fr cs).frame.place es, op.g = π.j := fun op hop => by obtain ⟨e, _, rfl⟩ := Go.Conc.mem_ofEvents hop; rfl
  have hopsc : ∀ op ∈ MemOp.ofEvents π.j (G fr cs).frame.fn (G fr cs).frame.place es, ∃ a wr, op.act = .access ⟨.cell a, wr, false⟩ ∧ N' a.block := fun op hop => by
    obtain ⟨e, he, rfl⟩ := Go.Conc.mem_ofEvents hop
    obtain ⟨a, wr, rfl, hn⟩ := hok.evs e he
    exact ⟨a, wr, ofEvent_cell0 _ _ _, hn⟩
  refine ⟨{ gs := (x.gs.map (woken π.P (G fr cs) (G fr' cs') w')).setIfInBounds π.j (G fr' cs'), w := w', sl := sl, t := x.t ++ MemOp.ofEvents π.j (G fr cs).frame.fn (G fr cs).frame.place es, N := N', μ := sumTo x.gs.size (upd q π.j (m' + π.Mq + 1)) }, _, hrunT, rfl, ⟨⟨upd q π.j (m' + π.Mq + 1), G fr' cs', false, s, r, tm, fun i h hi0 hij hih => ?_, ?_, hch'.trans hch, ?_, ?_⟩, fun i hi => ?_, ?_, hok.low, hok.more _ nch, fun b hb hS => hok.more _ (nold b hb hS), fun b hb hn => nS b hb (hok.new b (show b < x.w.heap.size by omega) hn), fun b hb hS => ?_, by show π.base ≤ w'.heap.size; omega, hok.tape.trans tape, hok.os.trans os, hok.output.trans output⟩, ?_, by simp only; omega, ⟨hok.tape, hok.os, hok.output, hsz', hok.same, hok.more, hok.new⟩, hch', fr', cs', ?_⟩
  · rw [Array.getElem?_setIfInBounds_ne (Ne.symm hij), Array.getElem?_map] at hih
    obtain ⟨z, hz, rfl⟩ := Option.map_eq_some_iff.1 hih
    have hqi := hq i z hi0 hij hz
    rw [woken_quitsD hqi, upd_ne q _ hij, Deaf_other x.t (Ne.symm hij) _ hopsg]
    exact hqi
  · rw [Array.getElem?_setIfInBounds_self_of_lt (by simpa using hlt)]
  · rw [upd_same]
    exact .inl ⟨m', hgz, rfl, hk, rfl⟩
  · simp
  · have hi : x.gs.size ≤ i := by simpa using hi
    show Deaf (x.t ++ MemOp.ofEvents π.j (G fr cs).frame.fn (G fr cs).frame.place es) i = 0
    rw [Deaf_other x.t (g := i) (g' := π.j) (by omega) _ hopsg]
    exact above i hi
  · have pt2 : PT N' w'.heap.size π.j x.t := pt.mono hsz' hok.more fun b hn hb => hok.new b hb hn
    refine pt2.app1 hj0 hopsg (fun op hop a ha hm => ?_) ?_ ?_ (fun op hop => ?_)
    · obtain ⟨ad, wr, e, hn⟩ := hopsc op hop
      rw [e] at ha
      simp only [MemAct.touch?, Option.some.injEq] at ha
      subst ha
      exact ⟨ad.block, rfl, hn⟩
    · intro op hop a ha r' hr
      obtain ⟨ad, wr, e, hn⟩ := hopsc op hop
      rw [e] at ha
      simp only [MemAct.touch?, Option.some.injEq] at ha
      subst ha
      cases hr
    · rw [Deaf_own]
      exact deaf_ev (fun e he => by obtain ⟨a, wr, h1, h2⟩ := hok.evs e he; exact ⟨a, wr, h1⟩) _
    · obtain ⟨ad, wr, e, hn⟩ := hopsc op hop
      rw [e]
      exact hok.low _ hn
  · show w'.heap[b]? = _
    rw [hok.old b hb]
    exact old b hb hS
  · rw [Array.getElem?_setIfInBounds_ne hj0, Array.getElem?_map, h0]
    simp only [Option.map_some]
    rw [hcalm _ _ _ hch']
  · show ((x.gs.map (woken π.P (G fr cs) (G fr' cs') w')).setIfInBounds π.j (G fr' cs'))[π.j]? = _
    rw [Array.getElem?_setIfInBounds_self_of_lt (by simpa using hlt)]
/-- The sender, having closed, leaves. -/
theorem ip_gone (hπ : PiOk π) {x : St} (hx : IP π k x) {q : Nat → Nat} {g : Goroutine} {s r p : Nat} {tm : Bool}
    (hq : ∀ i h, 0 < i → i ≠ π.j → x.gs[i]? = some h → QuitsD π.P (q i) (Deaf x.t i) h) (hg1 : x.gs[π.j]? = some g) (hch : x.w.heap[π.ch]? = some (.chan 0 #[] true s r tm)) (hk : k = π.n) (hqi : QuitsIn π.P (q π.j) g) (hsh : Shut1 x.N π.j π.ch p x.t) (hμ : x.μ = sumTo x.gs.size q) (hg : g.status = .running) (d : Nat) (sl : Option (Nat × Nat))
    {g0 : Goroutine} (h0 : x.gs[0]? = some g0) (hcalm : ∀ a a' d, woken π.P a a' (x.w.at d) g0 = g0) :
    ∃ y ops, runT π.P (crowd x.gs (x.w.at d) sl) π.j = (.next y.m, ops) ∧ y.t = x.t ++ ops ∧ IP π k y ∧ y.gs[0]? = some g0 ∧ y.μ < x.μ ∧ OthW x.N x.w y.w y.N ∧ y.w.heap[π.ch]? = x.w.heap[π.ch]? := by
  obtain ⟨-, above, pt, low, nch, nold, nS, old, bl, tape, os, output⟩ := hx
  have hj0 := hπ.j0
  have hib : (π.j == 0) = false := by simpa using hj0
  have hlt : π.j < x.gs.size := (Array.getElem?_eq_some_iff.1 hg1).1
  cases hqj : q π.j with
  | zero => rw [hqj] at hqi; rw [hqi] at hg; cases hg
  | succ k' =>
    rw [hqj] at hqi
    rcases hqi with hf | ⟨_, g', hstp, hq'⟩
    · rw [hf] at hg; cases hg
    have hrunT := runT_crowd_go (P := π.P) (sl := sl) (i := π.j) hg1 (by rw [hib]; exact hstp (x.w.at d))
    have hsum : sumTo x.gs.size (upd q π.j k') + (k' + 1) = sumTo x.gs.size q + k' := by
      have := sumTo_upd q k' id hlt
      simpa [hqj] using this
    have hops : MemOp.ofEvents π.j g.frame.fn g.frame.place #[] = #[] := rfl
    rw [hops] at hrunT
    refine ⟨{ gs := (x.gs.map (woken π.P g g' (x.w.at d))).setIfInBounds π.j g', w := x.w.at d, sl := sl, t := x.t, N := x.N, μ := sumTo x.gs.size (upd q π.j k') }, #[], hrunT, by simp, ⟨⟨upd q π.j k', g', true, s, r, tm, fun i h hi0 hij hih => ?_, ?_, hch, ?_, ?_⟩, fun i hi => above i (by simpa using hi), pt, low, nch, nold, nS, old, bl, tape, os, output⟩, ?_, by simp only; omega, ⟨rfl, rfl, rfl, Nat.le_refl _, fun _ _ _ => rfl, fun _ h => h, fun _ _ h => h⟩, rfl⟩
    · rw [Array.getElem?_setIfInBounds_ne (Ne.symm hij), Array.getElem?_map] at hih
      obtain ⟨z, hz, rfl⟩ := Option.map_eq_some_iff.1 hih
      have hqi := hq i z hi0 hij hz
      rw [woken_quitsD hqi, upd_ne q _ hij]
      exact hqi
    · rw [Array.getElem?_setIfInBounds_self_of_lt (by simpa using hlt)]
    · rw [upd_same]
      exact .inr (.inr ⟨hk, rfl, hq', p, hsh⟩)
    · simp
    · rw [Array.getElem?_setIfInBounds_ne hj0, Array.getElem?_map, h0]
      simp only [Option.map_some]
      rw [hcalm]
/-- The sender closes. -/
theorem ip_close (hπ : PiOk π) {x : St} (hx : IP π π.n x) {q : Nat → Nat} {fr : Frame} {s r : Nat} {tm : Bool} {m' : Nat}
    (hq : ∀ i h, 0 < i → i ≠ π.j → x.gs[i]? = some h → QuitsD π.P (q i) (Deaf x.t i) h) (hg1 : x.gs[π.j]? = some (G fr π.pf)) (hch : x.w.heap[π.ch]? = some (.chan 0 #[] false s r tm)) (hqj : q π.j = m' + π.Mq + 1) (hμ : x.μ = sumTo x.gs.size q) (d : Nat) (sl : Option (Nat × Nat))
    (hat : π.At π.n fr x.w x.N) {g0 : Goroutine} (h0 : x.gs[0]? = some g0) :
    mayWake π.P (G fr π.pf) = true ∧ ∃ y ops a', a'.status = .running ∧ runT π.P (crowd x.gs (x.w.at d) sl) π.j = (.next y.m, ops) ∧ y.t = x.t ++ ops ∧ IP π π.n y ∧ y.gs[0]? = some (woken π.P (G fr π.pf) a' y.w g0) ∧ y.μ < x.μ ∧ OthW x.N x.w y.w y.N ∧ y.w.heap[π.ch]? = some (.chan 0 #[] true s r tm) := by
  obtain ⟨-, above, pt, low, nch, nold, nS, old, bl, tape, os, output⟩ := hx
  have hj0 := hπ.j0
  have hib : (π.j == 0) = false := by simpa using hj0
  have hlt : π.j < x.gs.size := (Array.getElem?_eq_some_iff.1 hg1).1
  have hat' : π.At π.n fr (x.w.at d) x.N := hπ.rely _ _ _ _ _ hat ⟨Nat.le_refl _, fun _ _ _ => rfl, low⟩
  obtain ⟨hmay, g', hrun', hstp, hquit⟩ := hπ.close fr (x.w.at d) x.N s r tm hat' hch
  refine ⟨hmay, ?_⟩
  have hrunT := runT_crowd_go (P := π.P) (sl := sl) (i := π.j) hg1 (by rw [hib]; exact hstp)
  have hsum : sumTo x.gs.size (upd q π.j π.Mq) + (m' + π.Mq + 1) = sumTo x.gs.size q + π.Mq := by
    have := sumTo_upd q π.Mq id hlt
    simpa [hqj] using this
  have hclt : π.ch < x.w.heap.size := low _ nch
  have hw' : ∀ b, b ≠ π.ch → ((x.w.at d).shut π.ch s r tm).heap[b]? = x.w.heap[b]? := fun b hb => by
    simp [World.shut, World.at, Ne.symm hb]
  have hwc : ((x.w.at d).shut π.ch s r tm).heap[π.ch]? = some (.chan 0 #[] true s r tm) := by
    simp [World.shut, World.at, hclt]
  have hws : ((x.w.at d).shut π.ch s r tm).heap.size = x.w.heap.size := by simp [World.shut, World.at]
  have e1 : MemOp.ofEvents π.j (G fr π.pf).frame.fn (G fr π.pf).frame.place #[⟨.obj π.ch, false, true⟩, ⟨.obj π.ch, true, true⟩] = #[{ g := π.j, fn := (G fr π.pf).frame.fn, pos := (G fr π.pf).frame.place, act := .access ⟨.obj π.ch, false, true⟩ }] ++ #[{ g := π.j, fn := (G fr π.pf).frame.fn, pos := (G fr π.pf).frame.place, act := .close π.ch }] := by
    simp [MemOp.ofEvents, MemAct.ofEvent]
  have hopsg : ∀ op ∈ MemOp.ofEvents π.j (G fr π.pf).frame.fn (G fr π.pf).frame.place #[⟨.obj π.ch, false, true⟩, ⟨.obj π.ch, true, true⟩], op.g = π.j := fun op hop => by obtain ⟨e, _, rfl⟩ := Go.Conc.mem_ofEvents hop; rfl
  have pt1 : PT x.N x.w.heap.size π.j (x.t ++ #[{ g := π.j, fn := (G fr π.pf).frame.fn, pos := (G fr π.pf).frame.place, act := .access ⟨.obj π.ch, false, true⟩ }]) := by
    refine pt.app1 hj0 (fun op hop => ?_) (fun op hop a ha hm => ?_) (fun op hop a ha r' hr => ?_) (deaf_keep [_] fun op hop m e => ?_) (fun op hop => ?_)
    · obtain rfl : op = _ := by simpa using hop
      rfl
    · obtain rfl : op = _ := by simpa using hop
      simp only [MemAct.touch?, Option.some.injEq] at ha
      subst ha
      exact ⟨π.ch, rfl, nch⟩
    · obtain rfl : op = _ := by simpa using hop
      simp only [MemAct.touch?, Option.some.injEq] at ha
      subst ha
      rfl
    · obtain rfl : op = _ := by simpa using hop
      cases e
    · obtain rfl : op = _ := by simpa using hop
      exact hclt
  have sh := pt1.close (c := π.ch) (y := { g := π.j, fn := (G fr π.pf).frame.fn, pos := (G fr π.pf).frame.place, act := .close π.ch }) ⟨rfl, rfl⟩
  have pt2 : PT x.N x.w.heap.size π.j (x.t ++ MemOp.ofEvents π.j (G fr π.pf).frame.fn (G fr π.pf).frame.place #[⟨.obj π.ch, false, true⟩, ⟨.obj π.ch, true, true⟩]) := by
    rw [e1, ← Array.append_assoc]
    refine pt1.mute (fun op hop => ?_) (deaf_keep [_] fun op hop m e => ?_) (deaf_keep [_] fun op hop m e => ?_) (fun op hop => ?_)
    · obtain rfl : op = _ := by simpa using hop
      rfl
    · obtain rfl : op = _ := by simpa using hop
      cases e
    · obtain rfl : op = _ := by simpa using hop
      cases e
    · obtain rfl : op = _ := by simpa using hop
      exact hclt
  refine ⟨{ gs := (x.gs.map (woken π.P (G fr π.pf) g' ((x.w.at d).shut π.ch s r tm))).setIfInBounds π.j g', w := (x.w.at d).shut π.ch s r tm, sl := sl, t := x.t ++ MemOp.ofEvents π.j (G fr π.pf).frame.fn (G fr π.pf).frame.place #[⟨.obj π.ch, false, true⟩, ⟨.obj π.ch, true, true⟩], N := x.N, μ := sumTo x.gs.size (upd q π.j π.Mq) }, _, g', hrun', hrunT, rfl, ⟨⟨upd q π.j π.Mq, g', true, s, r, tm, fun i h hi0 hij hih => ?_, ?_, hwc, ?_, ?_⟩, fun i hi => ?_, ?_, ?_, nch, nold, nS, fun b hb hS => ?_, ?_, tape, os, output⟩, ?_, by simp only; omega, ⟨rfl, rfl, rfl, Nat.le_of_eq hws.symm, fun b _ hN => hw' b (fun e => hN (e ▸ nch)), fun _ h => h, fun _ _ h => h⟩, hwc⟩
  · rw [Array.getElem?_setIfInBounds_ne (Ne.symm hij), Array.getElem?_map] at hih
    obtain ⟨z, hz, rfl⟩ := Option.map_eq_some_iff.1 hih
    have hqi := hq i z hi0 hij hz
    rw [woken_quitsD hqi, upd_ne q _ hij, Deaf_other x.t (Ne.symm hij) _ hopsg]
    exact hqi
  · rw [Array.getElem?_setIfInBounds_self_of_lt (by simpa using hlt)]
  · rw [upd_same]
    refine .inr (.inr ⟨rfl, rfl, hquit, ?_⟩)
    rw [e1, ← Array.append_assoc]
    exact ⟨_, sh⟩
  · simp
  · have hi : x.gs.size ≤ i := by simpa using hi
    show Deaf (x.t ++ _) i = 0
    rw [Deaf_other x.t (g := i) (g' := π.j) (by omega) _ hopsg]
    exact above i hi
  · show PT x.N ((x.w.at d).shut π.ch s r tm).heap.size π.j _
    rw [hws]
    exact pt2
  · intro b hb
    show b < ((x.w.at d).shut π.ch s r tm).heap.size
    rw [hws]
    exact low b hb
  · show ((x.w.at d).shut π.ch s r tm).heap[b]? = _
    rw [hw' b (by have := hπ.chb; omega)]
    exact old b hb hS
  · show π.base ≤ ((x.w.at d).shut π.ch s r tm).heap.size
    rw [hws]
    exact bl
  · show ((x.gs.map (woken π.P (G fr π.pf) g' ((x.w.at d).shut π.ch s r tm))).setIfInBounds π.j g')[0]? = _
    rw [Array.getElem?_setIfInBounds_ne hj0, Array.getElem?_map, h0]
    rfl
end
end Go.Proofs.Ytdjnnhdeijnhgab.Rn

/-
  A sender beside goroutine 0: the company.
-/
namespace Go.Proofs.Ytdjnnhdeijnhgab.Rn
open Go Go.Conc
open Go.ConcN (sumTo upd sumTo_upd upd_ne upd_same)
set_option linter.all false

section
variable {π : Pi} {k : Nat} {N : Nat → Prop}
theorem no_offers {x : St} {q : Nat → Nat} (hq : ∀ i h, 0 < i → i ≠ π.j → x.gs[i]? = some h → QuitsD π.P (q i) (Deaf x.t i) h) {g0 : Goroutine} (h0 : x.gs[0]? = some g0) (b : Bool) (hg0 : offersAt g0 π.ch b = []) : ∀ i g, i ≠ π.j → x.gs[i]? = some g → offersAt g π.ch b = [] := by
  intro i g hi hg
  rcases Nat.eq_zero_or_pos i with rfl | hpos
  · rw [h0] at hg
    cases hg
    exact hg0
  · refine offersAt_of_not_blocked (fun e => ?_) _ _
    rcases (hq i g hpos hi hg).status with s | s <;> rw [s] at e <;> cases e
/-- The sender finds nobody to take its tick: it parks. -/
theorem ip_park (hπ : PiOk π) {x : St} (hx : IP π k x) {q : Nat → Nat} {fr : Frame} {s r : Nat} {tm : Bool} {m' : Nat}
    (hq : ∀ i h, 0 < i → i ≠ π.j → x.gs[i]? = some h → QuitsD π.P (q i) (Deaf x.t i) h) (hg1 : x.gs[π.j]? = some (G fr π.pf)) (hch : x.w.heap[π.ch]? = some (.chan 0 #[] false s r tm)) (hk : k < π.n) (hqj : q π.j = m' + π.Mq + 1) (hμ : x.μ = sumTo x.gs.size q) (d : Nat) (sl : Option (Nat × Nat))
    (hat : π.At k fr x.w x.N) {g0 : Goroutine} (h0 : x.gs[0]? = some g0) (hg0 : offersAt g0 π.ch false = []) :
    ∃ y ops, runT π.P (crowd x.gs (x.w.at d) sl) π.j = (.next y.m, ops) ∧ y.t = x.t ++ ops ∧ IP π k y ∧ y.gs[0]? = some g0 ∧ y.μ < x.μ ∧ OthW x.N x.w y.w y.N := by
  obtain ⟨-, above, pt, low, nch, nold, nS, old, bl, tape, os, output⟩ := hx
  have hj0 := hπ.j0
  have hib : (π.j == 0) = false := by simpa using hj0
  have hlt : π.j < x.gs.size := (Array.getElem?_eq_some_iff.1 hg1).1
  have hat' : π.At k fr (x.w.at d) x.N := hπ.rely _ _ _ _ _ hat ⟨Nat.le_refl _, fun _ _ _ => rfl, low⟩
  obtain ⟨hstp, -⟩ := hπ.send k fr (x.w.at d) x.N hk hat'
  have hno := no_offers (π := π) hq h0 false hg0
  have hrunT := crowd_waits (P := π.P) (sl := sl) (i := π.j) hg1 (by rw [hib]; exact hstp) (fun cc hcc => by
    have : cc = scase π.ch (π.v k) (.tuple #[]) := by simpa [sendC] using hcc
    subst this
    refine ways_send_none (cap := 0) (buf := #[]) (s := s) (r := r) (tm := tm) ?_ (by simp) ?_
    · exact hch
    · refine partners_nil fun i g hi => ?_
      rcases getElem?_stand x.gs π.j i g hi with ⟨_, rfl⟩ | ⟨hne, hi'⟩
      · exact offersAt_ph _ _
      · exact hno i g hne hi')
  have hsum : sumTo x.gs.size (upd q π.j 0) + (m' + π.Mq + 1) = sumTo x.gs.size q + 0 := by
    have := sumTo_upd q 0 id hlt
    simpa [hqj] using this
  have hops : MemOp.ofEvents π.j (G fr π.pf).frame.fn (G fr π.pf).frame.place #[] = #[] := rfl
  rw [hops] at hrunT
  refine ⟨{ gs := x.gs.setIfInBounds π.j (parked (G fr π.pf) (sendC π k) .send), w := x.w.at d, sl := sl, t := x.t, N := x.N, μ := sumTo x.gs.size (upd q π.j 0) }, #[], hrunT, by simp, ⟨⟨upd q π.j 0, parked (G fr π.pf) (sendC π k) .send, false, s, r, tm, fun i h hi0 hij hih => ?_, ?_, hch, ?_, ?_⟩, fun i hi => above i (by simpa using hi), pt, low, nch, nold, nS, old, bl, tape, os, output⟩, ?_, by simp only; omega, ⟨rfl, rfl, rfl, Nat.le_refl _, fun _ _ _ => rfl, fun _ h => h, fun _ _ h => h⟩⟩
  · rw [Array.getElem?_setIfInBounds_ne (Ne.symm hij)] at hih
    rw [upd_ne q _ hij]
    exact hq i h hi0 hij hih
  · rw [Array.getElem?_setIfInBounds_self_of_lt hlt]
  · rw [upd_same]
    exact .inr (.inl ⟨hk, rfl, fr, hat', rfl⟩)
  · simp
  · rw [Array.getElem?_setIfInBounds_ne hj0]
    exact h0
theorem awake_ip {x : St} {q : Nat → Nat} (hq : ∀ i h, 0 < i → i ≠ π.j → x.gs[i]? = some h → QuitsD π.P (q i) (Deaf x.t i) h) {g0 g1 : Goroutine} (h0 : x.gs[0]? = some g0) (h0a : awake g0) (h1 : x.gs[π.j]? = some g1) {w : World} {t : Trace} {m : Nat} {cl : Bool} (hs : S1 π k g1 w N t m cl) : ∀ g ∈ x.gs, awake g := by
  intro g hg
  obtain ⟨i, hi, rfl⟩ := Array.mem_iff_getElem.1 hg
  by_cases hij : i = π.j
  · subst hij
    have : x.gs[π.j] = g1 := by simpa [Array.getElem?_eq_getElem hi] using h1
    rw [this]
    rcases hs with ⟨m', k1, k2⟩ | ⟨k1, k2, fr, k3, k4⟩ | ⟨k1, k2, k3, p, k4⟩
    · obtain ⟨fr, cs, rfl⟩ := k1.running
      exact awake_of (.inl rfl)
    · subst k4
      exact awake_of (.inr (.inl rfl))
    · exact awake_of ((QuitsD.of_quitsIn k3).status.elim .inl fun x => .inr (.inr x))
  · rcases Nat.eq_zero_or_pos i with rfl | hpos
    · have : x.gs[0] = g0 := by simpa [Array.getElem?_eq_getElem hi] using h0
      rw [this]
      exact h0a
    · exact awake_of ((hq i _ hpos hij (Array.getElem?_eq_getElem hi)).status.elim .inl fun x => .inr (.inr x))
theorem ip_comp (hπ : PiOk π) (k : Nat) : Comp π.P (IP π k) OthW where
  pick := by
    intro x fr cs hx h0
    obtain ⟨q, g1, cl, s, r, tm, hq, hg1, hch, hs1, hμ⟩ := hx.st
    have hcalm : ∀ a a' w', woken π.P a a' w' (G fr cs) = G fr cs := fun a a' w' => woken_run rfl
    have hoff : ∀ b, offersAt (G fr cs) π.ch b = [] := fun b => offersAt_of_not_blocked (by simp [G]) _ _
    obtain ⟨i, g, d, sl', hi, hg, hst⟩ := crowd_pick (P := π.P) (w := x.w) (sl := x.sl) (awake_ip hq h0 (awake_of (.inl rfl)) hg1 hs1) ⟨0, _, h0, rfl⟩
    have fin : (∃ y ops, runT π.P (crowd x.gs (x.w.at d) sl') i = (.next y.m, ops) ∧ y.t = x.t ++ ops ∧ IP π k y ∧ y.gs[0]? = some (G fr cs) ∧ y.μ < x.μ ∧ OthW x.N x.w y.w y.N) → ∃ y, IP π k y ∧ y.gs[0]? = x.gs[0]? ∧ y.μ < x.μ ∧ One π.P x y ∧ OthW x.N x.w y.w y.N := by
      rintro ⟨y, ops, k1, k2, k3, k4, k5, k6⟩
      exact ⟨y, k3, k4.trans h0.symm, k5, ⟨ops, hst.trans k1, k2⟩, k6⟩
    by_cases hi0 : i = 0
    · subst hi0
      exact .inl ⟨d, sl', hst⟩
    · right
      by_cases hij : i = π.j
      · subst hij
        obtain rfl : g = g1 := by rw [hg1] at hi; exact (Option.some.inj hi).symm
        rcases hs1 with ⟨m', k1, k2, k3, rfl⟩ | ⟨k1, k2, fr1, k3, k4⟩ | ⟨rfl, rfl, k3, p, k4⟩
        · have stop : ∀ fr1, g = G fr1 π.pf → π.At k fr1 x.w x.N → ∃ y, IP π k y ∧ y.gs[0]? = x.gs[0]? ∧ y.μ < x.μ ∧ One π.P x y ∧ OthW x.N x.w y.w y.N := by
            rintro fr1 rfl hat
            rcases Nat.lt_or_ge k π.n with hlt | hge
            · exact fin (ip_park hπ hx hq hg1 hch hlt k2 hμ d sl' hat h0 (hoff false))
            · obtain rfl : k = π.n := by omega
              obtain ⟨-, y, ops, a', -, q1, q2, q3, q4, q5, q6, q7⟩ := ip_close hπ hx hq hg1 hch k2 hμ d sl' hat h0
              rw [hcalm] at q4
              exact fin ⟨y, ops, q1, q2, q3, q4, q5, q6⟩
          cases m' with
          | zero =>
            obtain ⟨fr1, e1, e2⟩ := k1
            exact stop fr1 e1 e2
          | succ m' =>
            rcases k1 with ⟨fr1, e1, e2⟩ | ⟨⟨fr1, cs1, rfl⟩, h2⟩
            · exact stop fr1 e1 e2
            · obtain ⟨y, ops, q1, q2, q3, q4, q5, q6, -⟩ := ip_walk hπ hx hq hg1 hch k3 k2 hμ d sl' (h2 (x.w.at d) ⟨Nat.le_refl _, fun _ _ _ => rfl, hx.low⟩) h0 fun a a' w' _ => hcalm a a' w'
              exact fin ⟨y, ops, q1, q2, q3, q4, q5, q6⟩
        · subst k4
          cases hg
        · obtain ⟨y, ops, q1, q2, q3, q4, q5, q6, -⟩ := ip_gone hπ hx hq hg1 hch rfl k3 k4 hμ hg d sl' h0 fun a a' d => hcalm a a' _
          exact fin ⟨y, ops, q1, q2, q3, q4, q5, q6⟩
      · obtain ⟨y, ops, q1, q2, q3, q4, q5, q6, -⟩ := ip_slip hπ hx h0 (fun a a' d => hcalm a a' _) hi0 hij hi hg d sl'
        exact fin ⟨y, ops, q1, q2, q3, q4, q5, q6⟩
  own := by
    intro x fr cs d sl' fr' cs' w' es hx h0 hgo hmine hev
    obtain ⟨⟨q, g1, cl, s, r, tm, hq, hg1, hch, hs1, hμ⟩, above, pt, low, nch, nold, nS, old, bl, tape, os, output⟩ := hx
    have hj0 := hπ.j0
    have hlt : 0 < x.gs.size := (Array.getElem?_eq_some_iff.1 h0).1
    have hch' : w'.heap[π.ch]? = some (.chan 0 #[] cl s r tm) := (hmine.same _ nch).trans hch
    have hopsg : ∀ op ∈ MemOp.ofEvents 0 (G fr cs).frame.fn (G fr cs).frame.place es, op.g = 0 := fun op hop => by obtain ⟨e, _, rfl⟩ := Go.Conc.mem_ofEvents hop; rfl
    have pt' : PT x.N w'.heap.size π.j x.t := pt.mono hmine.size (fun _ h => h) fun _ h _ => h
    have hopsT : ∀ op ∈ MemOp.ofEvents 0 (G fr cs).frame.fn (G fr cs).frame.place es, ∀ a, op.act.touch? = some a → ∀ b, locB a.loc = some b → x.N b → ∃ r, a.loc = .obj r := by
      intro op hop t ht b hb hN
      obtain ⟨e, he, rfl⟩ := Go.Conc.mem_ofEvents hop
      rcases hev e he with ⟨a, wr, rfl, h1, h2⟩ | rfl | ⟨r', s', rfl, h1⟩
      · simp only [ofEvent_cell0, MemAct.touch?, Option.some.injEq] at ht
        subst ht
        simp only [locB, Option.some.injEq] at hb
        subst hb
        exact absurd hN h1
      · simp [MemAct.ofEvent, MemAct.touch?] at ht
      · cases s' <;> (simp only [MemAct.ofEvent, MemAct.touch?, Option.some.injEq] at ht; subst ht; exact ⟨r', rfl⟩)
    have hopsl : ∀ op ∈ MemOp.ofEvents 0 (G fr cs).frame.fn (G fr cs).frame.place es, op.act.low w'.heap.size := by
      intro op hop
      obtain ⟨e, he, rfl⟩ := Go.Conc.mem_ofEvents hop
      exact (evL_of (hev e he)).2.2.2
    have hdeaf : Deaf (x.t ++ MemOp.ofEvents 0 (G fr cs).frame.fn (G fr cs).frame.place es) 0 = Deaf x.t 0 := by
      rw [Deaf_own]
      exact deafBehind_still (fun e he => ⟨(evL_of (hev e he)).2.1, (evL_of (hev e he)).2.2.1⟩) _
    have hgs : (x.own π.P sl' (G fr cs) (G fr' cs') w' es).gs = (x.gs.map (woken π.P (G fr cs) (G fr' cs') w')).setIfInBounds 0 (G fr' cs') := rfl
    have hsz : (x.own π.P sl' (G fr cs) (G fr' cs') w' es).gs.size = x.gs.size := by rw [hgs]; simp
    refine ⟨⟨q, g1, cl, s, r, tm, fun i h hi0 hij hih => ?_, ?_, hch', ?_, ?_⟩, fun i hi => ?_, ?_, fun b hb => Nat.lt_of_lt_of_le (low b hb) hmine.size, nch, nold, nS, fun b hb hS => (hmine.same b (nold b hb hS)).trans (old b hb hS), Nat.le_trans bl hmine.size, hmine.tape.trans tape, hmine.os.trans os, hmine.output.trans output⟩
    · rw [hgs, Array.getElem?_setIfInBounds_ne (by omega), Array.getElem?_map] at hih
      obtain ⟨z, hz, rfl⟩ := Option.map_eq_some_iff.1 hih
      have hqi := hq i z hi0 hij hz
      show QuitsD π.P (q i) (Deaf (x.t ++ MemOp.ofEvents 0 (G fr cs).frame.fn (G fr cs).frame.place es) i) _
      rw [woken_quitsD hqi, Deaf_other x.t (by omega) _ hopsg]
      exact hqi
    · rw [hgs, Array.getElem?_setIfInBounds_ne (Ne.symm hj0), Array.getElem?_map, hg1]
      simp only [Option.map_some]
      rw [hs1.calm hch']
    · exact hs1.rely hπ ⟨hmine.size, fun b hb _ => hmine.same b hb, fun b hb => Nat.lt_of_lt_of_le (low b hb) hmine.size⟩ fun op hop => .inr (hopsg op hop)
    · rw [hsz]
      exact hμ
    · rw [hsz] at hi
      show Deaf (x.t ++ MemOp.ofEvents 0 (G fr cs).frame.fn (G fr cs).frame.place es) i = 0
      rw [Deaf_other x.t (g := i) (g' := 0) (by omega) _ hopsg]
      exact above i hi
    · exact pt'.app0 hj0 hopsg hopsT (noObj_ev hev) hdeaf hopsl
  low := fun x hx => hx.low
  oth := fun h => h
  refl := fun N w => ⟨rfl, rfl, rfl, Nat.le_refl _, fun _ _ _ => rfl, fun _ h => h, fun _ _ h => h⟩
  trans := by
    intro N w N' w' N'' w'' h k
    exact ⟨k.tape.trans h.tape, k.os.trans h.os, k.output.trans h.output, Nat.le_trans h.size k.size, fun b hb hn => (k.same b (Nat.lt_of_lt_of_le hb h.size) fun q => hn (h.new b hb q)).trans (h.same b hb hn), fun b hb => k.more b (h.more b hb), fun b hb hn => h.new b hb (k.new b (Nat.lt_of_lt_of_le hb h.size) hn)⟩
end
end Go.Proofs.Ytdjnnhdeijnhgab.Rn
