/-
  A sender beside goroutine 0: goroutine 0 at its select.
-/
import Derived.Test.YtdjnnhdeijnhgabMw12
import Derived.Conc.TokenWalk
import Derived.Deep.MidRow
import Derived.Laws.Entries
import Derived.Laws.Tables
import Derived.Laws.Rows
namespace Go.Proofs.Ytdjnnhdeijnhgab.Rn
open Go Go.Conc
open Go.ConcN (sumTo upd sumTo_upd upd_ne upd_same)
set_option linter.all false

/-- Goroutine 0 stands at a receive of this channel. -/
def AtSel (π : Pi) (z : Value) (g0 : Goroutine) (fr0 : Frame) (cs0 : List Frame) : Prop := g0.status = .running ∧ g0.frame = fr0 ∧ ∀ w, stepG π.P true g0 w = .comm (G fr0 cs0) #[rcase π.ch z] true .select w #[]
/-- What it gets. -/
def got (π : Pi) (z v : Value) (ok : Bool) : Value := commResult #[rcase π.ch z] .select 0 v ok
section
variable {π : Pi} {k : Nat} {N : Nat → Prop} {z : Value} {g0 : Goroutine} {fr0 : Frame} {cs0 : List Frame}
theorem fin_comm (v : Value) (ok : Bool) : (G fr0 cs0).finishComm π.P #[rcase π.ch z] .select 0 v ok = G (fr0.finish (got π z v ok)) cs0 := rfl
theorem oth_at (N : Nat → Prop) (w : World) (d : Nat) : OthW N w (w.at d) N := ⟨rfl, rfl, rfl, Nat.le_refl _, fun _ _ _ => rfl, fun _ h => h, fun _ _ h => h⟩
theorem OthW.trans {N N' N'' : Nat → Prop} {w w' w'' : World} (h : OthW N w w' N') (k : OthW N' w' w'' N'') : OthW N w w'' N'' :=
  ⟨k.tape.trans h.tape, k.os.trans h.os, k.output.trans h.output, Nat.le_trans h.size k.size, fun b hb hn => (k.same b (Nat.lt_of_lt_of_le hb h.size) fun q => hn (h.new b hb q)).trans (h.same b hb hn), fun b hb => k.more b (h.more b hb), fun b hb hn => h.new b hb (k.new b (Nat.lt_of_lt_of_le hb h.size) hn)⟩
/-- All is over: the company is one of leavers. -/
def Over (π : Pi) (x : St) (g : Goroutine) : Prop := ∃ y u, To π.P x y ∧ IP π π.n u ∧ OthW x.N x.w u.w u.N ∧ y.w.heap = u.w.heap ∧ y.w.tape = u.w.tape ∧ y.w.os = u.w.os ∧ y.w.output = u.w.output ∧ Lv π.P y ∧ y.gs[0]? = some g
theorem Over.of {x y : St} {g : Goroutine} (h1 : To π.P x y) (h2 : OthW x.N x.w y.w y.N) (h : Over π y g) : Over π x g := by
  obtain ⟨y', u, k1, k2, k3, k4⟩ := h
  exact ⟨y', u, h1.trans k1, k2, h2.trans k3, k4⟩
/-- The channel is closed: goroutine 0 learns it. -/
theorem sel_closed (hπ : PiOk π) {x : St} (hx : IP π π.n x) (h0 : x.gs[0]? = some g0) (hs : AtSel π z g0 fr0 cs0) {q : Nat → Nat} {g1 : Goroutine} {s r : Nat} {tm : Bool}
    (hq : ∀ i h, 0 < i → i ≠ π.j → x.gs[i]? = some h → QuitsD π.P (q i) (Deaf x.t i) h) (hg1 : x.gs[π.j]? = some g1) (hch : x.w.heap[π.ch]? = some (.chan 0 #[] true s r tm)) (hqi : QuitsIn π.P (q π.j) g1) (hsh : ∃ p, Shut1 x.N π.j π.ch p x.t)
    (d : Nat) (sl : Option (Nat × Nat)) (hst : stepT π.P x.m = runT π.P (crowd x.gs (x.w.at d) sl) 0) : Over π x (G (fr0.finish (got π z z false)) cs0) := by
  have hx0 := hx
  obtain ⟨-, above, pt, low, nch, nold, nS, old, bl, tape, os, output⟩ := hx
  have hlt : 0 < x.gs.size := (Array.getElem?_eq_some_iff.1 h0).1
  have hj0 := hπ.j0
  obtain ⟨hrun, hfr, hstp⟩ := hs
  obtain ⟨p, hsh⟩ := hsh
  have hno : partners (x.gs.setIfInBounds 0 ph) π.ch true = [] := by
    refine partners_nil fun i g hi => ?_
    rcases getElem?_stand x.gs 0 i g hi with ⟨_, rfl⟩ | ⟨hne, hi'⟩
    · exact offersAt_ph _ _
    · refine offersAt_of_not_blocked (fun e => ?_) _ _
      by_cases hij : i = π.j
      · subst hij
        rw [hg1] at hi'
        cases hi'
        rcases (QuitsD.of_quitsIn hqi).status with q | q <;> rw [q] at e <;> cases e
      · rcases (hq i g (by omega) hij hi').status with q | q <;> rw [q] at e <;> cases e
  have hrunT := crowd_recv_closed (P := π.P) (sl := sl) (i := 0) h0 (show stepG π.P (0 == 0) g0 (x.w.at d) = _ from hstp _) (show (x.w.at d).heap[π.ch]? = _ from hch) hno
  rw [fin_comm] at hrunT
  have e0 : MemOp.ofEvents 0 g0.frame.fn g0.frame.place #[] = #[] := rfl
  rw [e0, Array.empty_append] at hrunT
  refine ⟨{ gs := x.gs.setIfInBounds 0 (G (fr0.finish (got π z z false)) cs0), w := x.w.at d, sl := sl, t := x.t ++ #[{ g := 0, fn := (G fr0 cs0).frame.fn, pos := (G fr0 cs0).frame.place, act := .recvClosed π.ch }], N := fun _ => False, μ := sumTo x.gs.size q }, x, One.to ⟨_, hst.trans hrunT, rfl⟩, hx0, ⟨rfl, rfl, rfl, Nat.le_refl _, fun _ _ _ => rfl, fun _ h => h, fun _ _ h => h⟩, rfl, rfl, rfl, rfl, ⟨fun b h => h, ?_, q, x.w.heap.size, ⟨fun i h hi hih => ?_, fun i hi => ?_⟩, ?_, Nat.le_refl _, by simp⟩, by simp [hlt]⟩
  · refine pt.nobj.app (noObj_none fun op hop => ?_)
    obtain rfl : op = _ := by simpa using hop
    rfl
  · have hih : (x.gs.setIfInBounds 0 (G (fr0.finish (got π z z false)) cs0))[i]? = some h := hih
    rw [Array.getElem?_setIfInBounds_ne (by omega)] at hih
    have hd : ∀ g', Deaf (x.t ++ #[{ g := 0, fn := (G fr0 cs0).frame.fn, pos := (G fr0 cs0).frame.place, act := .recvClosed π.ch }]) g' = Deaf x.t g' := fun g' => deaf_keep [_] fun op hop m e => by
      obtain rfl : op = _ := by simpa using hop
      cases e
    show QuitsD π.P (q i) (Deaf (x.t ++ _) i) h
    rw [hd]
    by_cases hij : i = π.j
    · subst hij
      rw [hg1] at hih
      cases hih
      rw [pt.hears1]
      exact QuitsD.of_quitsIn hqi
    · exact hq i h hi hij hih
  · have hi : x.gs.size ≤ i := by simpa using hi
    show Deaf (x.t ++ #[_]) i = 0
    rw [deaf_keep [_] fun op hop m e => by
      obtain rfl : op = _ := by simpa using hop
      cases e]
    exact above i hi
  · exact pt.ended hsh ⟨rfl, rfl⟩ (low _ nch)
/-- Behind the close: goroutine 0 comes to learn it. -/
theorem sel_over (hπ : PiOk π) : ∀ (n : Nat) (x : St) (g0 : Goroutine), x.μ ≤ n → IP π π.n x → x.gs[0]? = some g0 → AtSel π z g0 fr0 cs0 → (∃ s r tm, x.w.heap[π.ch]? = some (.chan 0 #[] true s r tm)) → Over π x (G (fr0.finish (got π z z false)) cs0) := by
  intro n
  induction n using Nat.strongRecOn with
  | _ n ih =>
  intro x g0 hn hx h0 hs hc
  obtain ⟨q, g1, cl, s, r, tm, hq, hg1, hch, hs1, hμ⟩ := hx.st
  obtain ⟨s', r', tm', hc⟩ := hc
  have hcl : cl = true := by
    rw [hc] at hch
    simp only [Option.some.injEq, Obj.chan.injEq] at hch
    exact hch.2.2.1.symm
  subst hcl
  rcases hs1 with ⟨m', k1, k2, k3, k4⟩ | ⟨k1, k2, -⟩ | ⟨-, -, k3, k4⟩
  · cases k4
  · cases k2
  have hcalm : ∀ a a' w', woken π.P a a' w' g0 = g0 := fun a a' w' => woken_run hs.1
  obtain ⟨i, g, d, sl', hi, hg, hst⟩ := crowd_pick (P := π.P) (w := x.w) (sl := x.sl) (awake_ip hq h0 (awake_of (.inl hs.1)) hg1 (N := x.N) (w := x.w) (t := x.t) (k := π.n) (cl := true) (m := q π.j) (.inr (.inr ⟨rfl, rfl, k3, k4⟩))) ⟨0, _, h0, hs.1⟩
  by_cases hi0 : i = 0
  · subst hi0
    exact sel_closed hπ hx h0 hs hq hg1 hch k3 k4 d sl' hst
  · by_cases hij : i = π.j
    · subst hij
      obtain rfl : g = g1 := by rw [hg1] at hi; exact (Option.some.inj hi).symm
      obtain ⟨p, hp⟩ := k4
      obtain ⟨y, ops, q1, q2, q3, q4, q5, q6, q7⟩ := ip_gone hπ hx hq hg1 hch rfl k3 hp hμ hg d sl' h0 fun a a' d => hcalm a a' _
      exact (ih y.μ (by omega) y g0 (Nat.le_refl _) q3 q4 hs ⟨_, _, _, q7.trans hc⟩).of (One.to ⟨ops, hst.trans q1, q2⟩) q6
    · obtain ⟨y, ops, q1, q2, q3, q4, q5, q6, q7, -⟩ := ip_slip hπ hx h0 (fun a a' d => hcalm a a' _) hi0 hij hi hg d sl'
      exact (ih y.μ (by omega) y g0 (Nat.le_refl _) q3 q4 hs ⟨_, _, _, q7.trans hc⟩).of (One.to ⟨ops, hst.trans q1, q2⟩) q6
/-- It has got tick k. -/
def Got (π : Pi) (k : Nat) (x : St) (g : Goroutine) : Prop := ∃ y, To π.P x y ∧ IP π (k + 1) y ∧ OthW x.N x.w y.w y.N ∧ y.gs[0]? = some g
theorem Got.of {x y : St} {g : Goroutine} (h1 : To π.P x y) (h2 : OthW x.N x.w y.w y.N) (h : Got π k y g) : Got π k x g := by
  obtain ⟨y', k1, k2, k3, k4⟩ := h
  exact ⟨y', h1.trans k1, k2, h2.trans k3, k4⟩
def Sel (π : Pi) (k : Nat) (x : St) (z : Value) (fr0 : Frame) (cs0 : List Frame) : Prop := (k < π.n ∧ Got π k x (G (fr0.finish (got π z (π.v k) true)) cs0)) ∨ (k = π.n ∧ Over π x (G (fr0.finish (got π z z false)) cs0))
theorem Sel.of {x y : St} (h1 : To π.P x y) (h2 : OthW x.N x.w y.w y.N) (h : Sel π k y z fr0 cs0) : Sel π k x z fr0 cs0 :=
  h.imp (fun k => ⟨k.1, k.2.of h1 h2⟩) fun k => ⟨k.1, k.2.of h1 h2⟩
theorem set_chan (w : World) (c cap s r : Nat) (buf : Array Value) (cl tm : Bool) (hc : c < w.heap.size) : (w.setChan c cap buf cl s r tm).heap[c]? = some (.chan cap buf cl s r tm) ∧ (∀ b, b ≠ c → (w.setChan c cap buf cl s r tm).heap[b]? = w.heap[b]?) ∧ (w.setChan c cap buf cl s r tm).heap.size = w.heap.size := by
  refine ⟨by simp [World.setChan, hc], fun b hb => by simp [World.setChan, Ne.symm hb], by simp [World.setChan]⟩
/-- Behind a meeting. -/
theorem meet_ip (hπ : PiOk π) {x : St} (hx : IP π k x) (h0 : x.gs[0]? = some g0) {q : Nat → Nat} {g1 : Goroutine} {fr1 : Frame} {s r : Nat} {tm : Bool} (hk : k < π.n)
    (hq : ∀ i h, 0 < i → i ≠ π.j → x.gs[i]? = some h → QuitsD π.P (q i) (Deaf x.t i) h) (hg1 : x.gs[π.j]? = some g1) (hch : x.w.heap[π.ch]? = some (.chan 0 #[] false s r tm)) (hat : π.At k fr1 x.w x.N) (d : Nat) (sl : Option (Nat × Nat)) (gs' : Array Goroutine) (hgs : gs'.size = x.gs.size) (hgj : gs'[π.j]? = some (G (fr1.finish undef) π.pf)) (hgo : ∀ i, i ≠ 0 → i ≠ π.j → gs'[i]? = x.gs[i]?) {g : Goroutine} (hg0 : gs'[0]? = some g)
    (u : Trace) (hu : ∀ op ∈ u, op.act.touch? = none ∧ (∀ m, op.act ≠ .mark m) ∧ op.act.low x.w.heap.size) (hst : stepT π.P x.m = (.next (crowd gs' ((x.w.at d).setChan π.ch 0 #[] false (s + 1) (r + 1) tm) sl), u)) : Got π k x g := by
  obtain ⟨-, above, pt, low, nch, nold, nS, old, bl, tape, os, output⟩ := hx
  have hclt : π.ch < x.w.heap.size := low _ nch
  obtain ⟨hw1, hw2, hw3⟩ := set_chan (x.w.at d) π.ch 0 (s + 1) (r + 1) #[] false tm hclt
  have hd : ∀ g', Deaf (x.t ++ u) g' = Deaf x.t g' := fun g' => by
    have := deaf_keep (t := x.t) (g := g') u.toList fun op hop => (hu op (by simpa using hop)).2.1
    simpa using this
  have hat' : π.At k fr1 ((x.w.at d).setChan π.ch 0 #[] false (s + 1) (r + 1) tm) x.N := hπ.rely _ _ _ _ _ hat ⟨Nat.le_of_eq hw3.symm, fun b _ hb => hw2 b hb, fun b hb => by rw [hw3]; exact low b hb⟩
  obtain ⟨-, m, hgz⟩ := hπ.send k fr1 _ x.N hk hat'
  have hjlt : π.j < x.gs.size := (Array.getElem?_eq_some_iff.1 hg1).1
  refine ⟨{ gs := gs', w := (x.w.at d).setChan π.ch 0 #[] false (s + 1) (r + 1) tm, sl := sl, t := x.t ++ u, N := x.N, μ := sumTo x.gs.size (upd q π.j (m + π.Mq + 1)) }, One.to ⟨u, hst, rfl⟩, ⟨⟨upd q π.j (m + π.Mq + 1), _, false, s + 1, r + 1, tm, fun i h hi hij hih => ?_, hgj, hw1, ?_, by simp only; rw [hgs]⟩, fun i hi => ?_, ?_, fun b hb => ?_, nch, nold, nS, fun b hb hS => ?_, ?_, tape, os, output⟩, ⟨rfl, rfl, rfl, Nat.le_of_eq hw3.symm, fun b _ hN => hw2 b fun e => hN (e ▸ nch), fun _ h => h, fun _ _ h => h⟩, hg0⟩
  · have hih : gs'[i]? = some h := hih
    rw [hgo i (by omega) hij] at hih
    rw [upd_ne q _ hij, hd]
    exact hq i h hi hij hih
  · rw [upd_same]
    exact .inl ⟨m, hgz, rfl, hk, rfl⟩
  · have hi : x.gs.size ≤ i := by rw [← hgs]; exact hi
    show Deaf (x.t ++ u) i = 0
    rw [hd]
    exact above i hi
  · show PT x.N ((x.w.at d).setChan π.ch 0 #[] false (s + 1) (r + 1) tm).heap.size π.j (x.t ++ u)
    rw [hw3]
    exact pt.mute (fun op hop => (hu op hop).1) (hd 0) (hd π.j) fun op hop => (hu op hop).2.2
  · show b < ((x.w.at d).setChan π.ch 0 #[] false (s + 1) (r + 1) tm).heap.size
    rw [hw3]
    exact low b hb
  · have : b ≠ π.ch := by have := hπ.chb; omega
    exact (hw2 b this).trans (old b hb hS)
  · show π.base ≤ ((x.w.at d).setChan π.ch 0 #[] false (s + 1) (r + 1) tm).heap.size
    rw [hw3]
    exact bl
end
end Go.Proofs.Ytdjnnhdeijnhgab.Rn

/-
  A sender beside goroutine 0: goroutine 0 at its select: whatever the sender does.
-/
namespace Go.Proofs.Ytdjnnhdeijnhgab.Rn
open Go Go.Conc
open Go.ConcN (sumTo upd sumTo_upd upd_ne upd_same)
set_option linter.all false

section
variable {π : Pi} {k : Nat} {z : Value} {fr0 : Frame} {cs0 : List Frame}
theorem fin_send (π : Pi) (fr : Frame) (v : Value) : (G fr π.pf).finishComm π.P (sendC π k) .send 0 undef false = G (fr.finish undef) π.pf := rfl
theorem four {i j c s r cap : Nat} {f1 f2 : FuncId} {p1 p2 : String} {B : Nat} (hc : c < B) (op : MemOp) (h : op ∈ #[({ g := i, fn := f1, pos := p1, act := .send c s } : MemOp), { g := j, fn := f2, pos := p2, act := .recv c r cap }, { g := i, fn := f1, pos := p1, act := .sendDone c s }, { g := j, fn := f2, pos := p2, act := .recvDone c r }]) : op.act.touch? = none ∧ (∀ m, op.act ≠ .mark m) ∧ op.act.low B := by
  simp only [List.mem_toArray, List.mem_cons, List.not_mem_nil, or_false] at h
  rcases h with rfl | rfl | rfl | rfl <;> exact ⟨rfl, by simp, hc⟩
/-- Goroutine 0 waits. -/
theorem sel_parked (hπ : PiOk π) (hsel : ∀ w, stepG π.P true (G fr0 cs0) w = .comm (G fr0 cs0) #[rcase π.ch z] true .select w #[]) : ∀ (n : Nat) (x : St), x.μ ≤ n → IP π k x → x.gs[0]? = some (parked (G fr0 cs0) #[rcase π.ch z] .select) → (∃ fr cs, x.gs[π.j]? = some (G fr cs)) → (∃ s r tm, x.w.heap[π.ch]? = some (.chan 0 #[] false s r tm)) → Sel π k x z fr0 cs0 := by
  intro n
  induction n using Nat.strongRecOn with
  | _ n ih =>
  intro x hn hx h0 ⟨frj, csj, hgj⟩ ⟨s', r', tm', hc⟩
  obtain ⟨q, g1, cl, s, r, tm, hq, hg1, hch, hs1, hμ⟩ := hx.st
  have hcl : cl = false := by
    rw [hc] at hch
    simp only [Option.some.injEq, Obj.chan.injEq] at hch
    exact hch.2.2.1.symm
  subst hcl
  rw [hgj] at hg1
  obtain rfl := Option.some.inj hg1
  have hs1' := hs1
  rcases hs1 with ⟨m', k1, k2, k3, -⟩ | ⟨-, -, fr, -, k4⟩ | ⟨-, k2, -⟩
  rotate_left
  · have := congrArg Goroutine.status k4
    cases this
  · cases k2
  have hcalm : ∀ a a' w', w'.heap[π.ch]? = x.w.heap[π.ch]? → woken π.P a a' w' (parked (G fr0 cs0) #[rcase π.ch z] .select) = parked (G fr0 cs0) #[rcase π.ch z] .select := fun a a' w' hw => woken_recv_open _ _ (hw.trans hc)
  have hj0 := hπ.j0
  have hib : (π.j == 0) = false := by simpa using hj0
  obtain ⟨i, g, d, sl', hi, hg, hst⟩ := crowd_pick (P := π.P) (w := x.w) (sl := x.sl) (awake_ip hq h0 (awake_of (.inr (.inl rfl))) hgj hs1') ⟨π.j, _, hgj, rfl⟩
  by_cases hi0 : i = 0
  · subst hi0
    rw [h0] at hi
    cases hi
    cases hg
  by_cases hij : i = π.j
  · subst hij
    obtain rfl : g = G frj csj := by rw [hgj] at hi; exact (Option.some.inj hi).symm
    have stop : ∀ fr1, G frj csj = G fr1 π.pf → π.At k fr1 x.w x.N → Sel π k x z fr0 cs0 := by
      intro fr1 e1 hat
      simp only [G, Goroutine.mk.injEq] at e1
      obtain ⟨rfl, rfl, -⟩ := e1
      rcases Nat.lt_or_ge k π.n with hlt | hge
      · left
        refine ⟨hlt, ?_⟩
        have hat' : π.At k frj (x.w.at d) x.N := hπ.rely _ _ _ _ _ hat ⟨Nat.le_refl _, fun _ _ _ => rfl, hx.low⟩
        obtain ⟨hstp, -⟩ := hπ.send k frj (x.w.at d) x.N hlt hat'
        have hpart : partners (x.gs.setIfInBounds π.j ph) π.ch false = [(0, 0)] := by
          have := partners_one (gs := x.gs.setIfInBounds π.j ph) (r := π.ch) (send := false) (j := 0) (g := parked (G fr0 cs0) #[rcase π.ch z] .select) (stand_get (Ne.symm hj0) h0) fun m y hm hy => by
            rcases getElem?_stand x.gs π.j m y hy with ⟨_, rfl⟩ | ⟨hne, hy'⟩
            · exact offersAt_ph _ _
            · refine offersAt_of_not_blocked (fun e => ?_) _ _
              rcases (hq m y (by omega) hne hy').status with q | q <;> rw [q] at e <;> cases e
          rw [this, offersAt_parked_recv]
          simp
        have hrunT := crowd_send_meets (P := π.P) (sl := sl') (i := π.j) (j := 0) (gj := G fr0 cs0) (zj := z) (shj := .select) hgj (by rw [hib]; exact hstp) (show (x.w.at d).heap[π.ch]? = _ from hch) (Ne.symm hj0) h0 hpart
        rw [fin_comm] at hrunT
        have e2 : (G frj π.pf).finishComm π.P #[scase π.ch (π.v k) (.tuple #[])] .send 0 undef false = G (frj.finish undef) π.pf := rfl
        rw [e2] at hrunT
        have e0 : MemOp.ofEvents π.j (G frj π.pf).frame.fn (G frj π.pf).frame.place #[] = #[] := rfl
        rw [e0, Array.empty_append] at hrunT
        have hlt0 : 0 < x.gs.size := (Array.getElem?_eq_some_iff.1 h0).1
        have hltj : π.j < x.gs.size := (Array.getElem?_eq_some_iff.1 hgj).1
        refine meet_ip hπ hx h0 hlt hq hgj hch hat d sl' _ (by simp) ?_ ?_ ?_ _ (fun op hop => four (hx.low _ hx.nch) op hop) (hst.trans hrunT)
        · simp [hltj]
        · intro m hm0 hmj
          rw [Array.getElem?_setIfInBounds_ne (Ne.symm hmj), Array.getElem?_setIfInBounds_ne (Ne.symm hm0)]
        · rw [Array.getElem?_setIfInBounds_ne hj0]
          simp [hlt0]
      · obtain rfl : k = π.n := by omega
        right
        refine ⟨rfl, ?_⟩
        obtain ⟨hmay, y, ops, a', ha', q1, q2, q3, q4, q5, q6, q7⟩ := ip_close hπ hx hq hgj hch k2 hμ d sl' hat h0
        have hw : woken π.P (G frj π.pf) a' y.w (parked (G fr0 cs0) #[rcase π.ch z] .select) = { parked (G fr0 cs0) #[rcase π.ch z] .select with status := .running } := by
          unfold woken
          rw [hmay, ha', again_recv_closed q7]
          rfl
        rw [hw] at q4
        refine (sel_over hπ y.μ y _ (Nat.le_refl _) q3 q4 ⟨rfl, rfl, fun w => ?_⟩ ⟨_, _, _, q7⟩).of (One.to ⟨ops, hst.trans q1, q2⟩) q6
        rw [stepG_tries]
        exact hsel w
    cases m' with
    | zero =>
      obtain ⟨fr1, e1, e2⟩ := k1
      exact stop fr1 e1 e2
    | succ m' =>
      rcases k1 with ⟨fr1, e1, e2⟩ | ⟨-, h2⟩
      · exact stop fr1 e1 e2
      · obtain ⟨y, ops, q1, q2, q3, q4, q5, q6, q7, fr', cs', q8⟩ := ip_walk hπ hx hq hgj hch k3 k2 hμ d sl' (h2 (x.w.at d) ⟨Nat.le_refl _, fun _ _ _ => rfl, hx.low⟩) h0 hcalm
        exact (ih y.μ (by omega) y (Nat.le_refl _) q3 q4 ⟨fr', cs', q8⟩ ⟨_, _, _, q7.trans hch⟩).of (One.to ⟨ops, hst.trans q1, q2⟩) q6
  · obtain ⟨y, ops, q1, q2, q3, q4, q5, q6, q7, q8⟩ := ip_slip hπ hx h0 (fun a a' d => hcalm a a' _ rfl) hi0 hij hi hg d sl'
    exact (ih y.μ (by omega) y (Nat.le_refl _) q3 q4 ⟨frj, csj, q8.trans hgj⟩ ⟨_, _, _, q7.trans hch⟩).of (One.to ⟨ops, hst.trans q1, q2⟩) q6
/-- Goroutine 0 at its select. -/
theorem sel (hπ : PiOk π) (hsel : ∀ w, stepG π.P true (G fr0 cs0) w = .comm (G fr0 cs0) #[rcase π.ch z] true .select w #[]) : ∀ (n : Nat) (x : St), x.μ ≤ n → IP π k x → x.gs[0]? = some (G fr0 cs0) → Sel π k x z fr0 cs0 := by
  intro n
  induction n using Nat.strongRecOn with
  | _ n ih =>
  intro x hn hx h0
  rcases (ip_comp hπ k).pick x fr0 cs0 hx h0 with ⟨d, sl', hst⟩ | ⟨y, q1, q2, q3, q4, q5⟩
  · obtain ⟨q, g1, cl, s, r, tm, hq, hg1, hch, hs1, hμ⟩ := hx.st
    have hj0 := hπ.j0
    have hlt0 : 0 < x.gs.size := (Array.getElem?_eq_some_iff.1 h0).1
    have hltj : π.j < x.gs.size := (Array.getElem?_eq_some_iff.1 hg1).1
    have e0 : MemOp.ofEvents 0 (G fr0 cs0).frame.fn (G fr0 cs0).frame.place #[] = #[] := rfl
    have hs1' := hs1
    rcases hs1 with ⟨m', k1, k2, k3, rfl⟩ | ⟨hlt, rfl, fr1, hat, rfl⟩ | ⟨rfl, rfl, k3, k4⟩
    · -- the sender is still walking
      obtain ⟨frj, csj, rfl⟩ := k1.running
      have hrunT := crowd_waits (P := π.P) (sl := sl') (i := 0) h0 (show stepG π.P (0 == 0) (G fr0 cs0) (x.w.at d) = _ from hsel _) (fun cc hcc => by
        have : cc = rcase π.ch z := by simpa using hcc
        subst this
        refine ways_recv_none (cap := 0) (s := s) (r := r) (tm := tm) hch ?_
        refine partners_nil fun i g hi => ?_
        rcases getElem?_stand x.gs 0 i g hi with ⟨_, rfl⟩ | ⟨hne, hi'⟩
        · exact offersAt_ph _ _
        · refine offersAt_of_not_blocked (fun e => ?_) _ _
          by_cases hij : i = π.j
          · subst hij
            rw [hg1] at hi'
            cases hi'
            cases e
          · rcases (hq i g (by omega) hij hi').status with q | q <;> rw [q] at e <;> cases e)
      rw [e0] at hrunT
      have hx' : IP π k { gs := x.gs.setIfInBounds 0 (parked (G fr0 cs0) #[rcase π.ch z] .select), w := x.w.at d, sl := sl', t := x.t ++ #[], N := x.N, μ := x.μ } := by
        obtain ⟨-, above, pt, low, nch, nold, nS, old, bl, tape, os, output⟩ := hx
        rw [Array.append_empty]
        refine ⟨⟨q, G frj csj, false, s, r, tm, fun i h hi hij hih => ?_, ?_, hch, ?_, ?_⟩, fun i hi => above i (by simpa using hi), pt, low, nch, nold, nS, old, bl, tape, os, output⟩
        · have hih : (x.gs.setIfInBounds 0 (parked (G fr0 cs0) #[rcase π.ch z] .select))[i]? = some h := hih
          rw [Array.getElem?_setIfInBounds_ne (by omega)] at hih
          exact hq i h hi hij hih
        · show (x.gs.setIfInBounds 0 (parked (G fr0 cs0) #[rcase π.ch z] .select))[π.j]? = _
          rw [Array.getElem?_setIfInBounds_ne (Ne.symm hj0)]
          exact hg1
        · have := hs1'.rely (u := #[]) hπ (w₁ := x.w.at d) ⟨Nat.le_refl _, fun _ _ _ => rfl, low⟩ (fun op hop => by simp at hop)
          rw [Array.append_empty] at this
          exact this
        · simp [hμ]
      have hone : One π.P x { gs := x.gs.setIfInBounds 0 (parked (G fr0 cs0) #[rcase π.ch z] .select), w := x.w.at d, sl := sl', t := x.t ++ #[], N := x.N, μ := x.μ } := ⟨#[], hst.trans hrunT, rfl⟩
      refine Sel.of hone.to (oth_at _ _ _) (sel_parked hπ hsel x.μ _ (show x.μ ≤ x.μ from Nat.le_refl _) hx' ?_ ⟨frj, csj, ?_⟩ ⟨s, r, tm, hch⟩)
      · simp [hlt0]
      · show (x.gs.setIfInBounds 0 (parked (G fr0 cs0) #[rcase π.ch z] .select))[π.j]? = _
        rw [Array.getElem?_setIfInBounds_ne (Ne.symm hj0)]
        exact hg1
    · -- the sender waits with its tick
      left
      refine ⟨hlt, ?_⟩
      have hpart : partners (x.gs.setIfInBounds 0 ph) π.ch true = [(π.j, 0)] := by
        have := partners_one (gs := x.gs.setIfInBounds 0 ph) (r := π.ch) (send := true) (j := π.j) (g := parked (G fr1 π.pf) (sendC π k) .send) (stand_get hj0 hg1) fun m y hm hy => by
          rcases getElem?_stand x.gs 0 m y hy with ⟨_, rfl⟩ | ⟨hne, hy'⟩
          · exact offersAt_ph _ _
          · refine offersAt_of_not_blocked (fun e => ?_) _ _
            rcases (hq m y (by omega) hm hy').status with q | q <;> rw [q] at e <;> cases e
        rw [this]
        unfold sendC
        rw [offersAt_parked_send]
        simp
      have hrunT := crowd_recv_meets (P := π.P) (sl := sl') (i := 0) (j := π.j) (gj := G fr1 π.pf) (v := π.v k) (zj := .tuple #[]) (shj := .send) h0 (show stepG π.P (0 == 0) (G fr0 cs0) (x.w.at d) = _ from hsel _) (show (x.w.at d).heap[π.ch]? = _ from hch) hj0 hg1 hpart
      rw [fin_comm, e0, Array.empty_append] at hrunT
      have e2 : (G fr1 π.pf).finishComm π.P #[scase π.ch (π.v k) (.tuple #[])] .send 0 undef false = G (fr1.finish undef) π.pf := rfl
      rw [e2] at hrunT
      refine meet_ip hπ hx h0 hlt hq hg1 hch hat d sl' _ (by simp) ?_ ?_ ?_ _ (fun op hop => four (hx.low _ hx.nch) op hop) (hst.trans hrunT)
      · rw [Array.getElem?_setIfInBounds_ne (Ne.symm hj0)]
        simp [hltj]
      · intro m hm0 hmj
        rw [Array.getElem?_setIfInBounds_ne (Ne.symm hm0), Array.getElem?_setIfInBounds_ne (Ne.symm hmj)]
      · simp [hlt0]
    · -- the sender has closed
      exact .inr ⟨rfl, sel_closed hπ hx h0 ⟨rfl, rfl, hsel⟩ hq hg1 hch k3 k4 d sl' hst⟩
  · exact (ih y.μ (by omega) y (Nat.le_refl _) q1 (q2.trans h0)).of q4.to q5
end
end Go.Proofs.Ytdjnnhdeijnhgab.Rn

/-
  The sender's walk: its steps, one by one.
-/
namespace Go.Proofs.Ytdjnnhdeijnhgab.Rn
open Go Go.Conc
set_option linter.all false

section
variable {P : Program} {fr : Frame} {cs : List Frame} {w w' : World} {o : Oper} {main : Bool}
structure AtO (fr : Frame) (o : Oper) : Prop where
  mode : fr.mode = .run
  round : fr.roundOf = none
  kind : (fr.kind == CallKind.early) = false
  todo : ∃ ops i rest tl, fr.todo = .inRegion ops (i :: rest) :: tl ∧ ops[i]? = some o ∧ Region.wanted o (yielded ops fr.tmps) = true
theorem stepO (h : AtO fr o) : stepG P main (G fr cs) w = stepG.apply P true fr cs none (execOp fr.eval o) w := by
  obtain ⟨fn, tmps, todo, defers, mode, kind, ro⟩ := fr
  obtain ⟨h1, h2, h3, ops, i, rest, tl, h4, h5, h6⟩ := h
  simp only at h1 h2 h4 h6
  subst h1 h2 h4
  simp [stepG, stepG.exec, stepG.oper, G, Frame.oper?, h5, h6]
theorem stepO_value (h : AtO fr o) {v : Value} {es : Array Event} (hr : (execOp fr.eval o).runT P w #[] = (.ok (.value v) w', es)) : stepG P main (G fr cs) w = .go (G (fr.finish v) cs) w' (seen P fr.fn es) := by
  rw [stepO h]
  unfold stepG.apply
  simp only [hr, if_true, h.kind]
  simp [GStep.after, G]
theorem stepO_skip (h : AtO fr o) {es : Array Event} (hr : (execOp fr.eval o).runT P w #[] = (.ok .skip w', es)) : stepG P main (G fr cs) w = .go (G (fr.finish undef) cs) w' (seen P fr.fn es) := by
  rw [stepO h]
  unfold stepG.apply
  simp only [hr, if_true, h.kind]
  simp [GStep.after, G]
theorem load1_ev {a : Addr} {v : Value} {es : Array Event} (h : w.cell? a = some v) : (Go.load a).runT P w es = (.ok v w, es.push ⟨.cell a, false, false⟩) := by
  simp only [Go.load, Sem.runT, h]
  rfl
theorem loadCells_ev (a : Addr) : ∀ (n i : Nat) (acc : Array Value) (w : World) (es : Array Event), (∀ j, j < n → ∃ v, w.cell? (a.add (i + j)) = some v) → ∀ e ∈ ((loadCellsFrom a i n acc).runT P w es).2, e ∈ es ∨ ∃ b, e = ⟨.cell b, false, false⟩ ∧ b.block = a.block := by
  intro n
  induction n with
  | zero => intro i acc w es _ e he; exact .inl he
  | succ n ih =>
    intro i acc w es h e he
    obtain ⟨v, hv⟩ := h 0 (by omega)
    rw [Nat.add_zero] at hv
    unfold loadCellsFrom at he
    rw [runT_bm, load1_ev hv] at he
    rcases ih (i + 1) (acc.push v) w _ (fun j hj => by
      obtain ⟨u, hu⟩ := h (j + 1) (by omega)
      exact ⟨u, by rw [show i + 1 + j = i + (j + 1) by omega]; exact hu⟩) e he with q | q
    · rcases Array.mem_push.1 q with q | q
      · exact .inl q
      · refine .inr ⟨a.add i, q, ?_⟩
        unfold Addr.add
        split <;> rfl
    · exact .inr q
theorem cell_set {a b : Addr} {v : Value} (h : (w.cell? b).isSome = true) : ((w.setCell a v).cell? b).isSome = true := by
  unfold World.cell? World.setCell at *
  simp only [Array.getElem?_modify] at *
  by_cases e : a.block = b.block
  · rw [e]
    cases hb : w.heap[b.block]? with
    | none => rw [hb] at h; simp at h
    | some o =>
      rw [hb] at h
      cases o <;> simp at h ⊢
      cases hs : b.spot <;> simp [hs] at h ⊢
      split <;> simp_all
  · simp only [e, if_false]
    exact h
theorem store1_ev {a : Addr} {v : Value} {es : Array Event} (h : (w.cell? a).isSome = true) : (∀ e ∈ ((Go.store a v).runT P w es).2, e ∈ es ∨ e = ⟨.cell a, true, false⟩) ∧ ∀ u w' es', (Go.store a v).runT P w es = (.ok u w', es') → w' = w.setCell a v := by
  obtain ⟨c, hc⟩ := Option.isSome_iff_exists.1 h
  by_cases hv : (∃ cs, v = .agg cs) ∨ ∃ cs, v = .tuple cs
  · rcases hv with ⟨cs, rfl⟩ | ⟨cs, rfl⟩
    · have e1 : (Go.store a (.agg cs)).runT P w es = (.halt (.stuck "store: not the value of one cell") w, es) := rfl
      rw [e1]
      exact ⟨fun e he => .inl he, fun u w' es' q => by cases q⟩
    · have e1 : (Go.store a (.tuple cs)).runT P w es = (.halt (.stuck "store: not the value of one cell") w, es) := rfl
      rw [e1]
      exact ⟨fun e he => .inl he, fun u w' es' q => by cases q⟩
  · have e1 : (Go.store a v).runT P w es = (if w.frozen? a then (.halt (.unsupported (.unsafePointer "a write to bytes that a string shares")) w, es) else (.ok () (w.setCell a v), es.push ⟨.cell a, true, false⟩)) := by
      cases v <;> first | exact absurd (.inl ⟨_, rfl⟩) hv | exact absurd (.inr ⟨_, rfl⟩) hv | (simp only [Go.store, Sem.runT, hc]; rfl)
    rw [e1]
    by_cases hf : w.frozen? a = true
    · rw [if_pos hf]
      exact ⟨fun e he => .inl he, fun u w' es' q => by cases q⟩
    · rw [if_neg hf]
      refine ⟨fun e he => (Array.mem_push.1 he).imp id id, fun u w' es' q => ?_⟩
      cases q
      rfl
theorem storeCells_ev (a : Addr) : ∀ (vs : List Value) (i : Nat) (w : World) (es : Array Event), (∀ j, j < vs.length → (w.cell? (a.add (i + j))).isSome = true) → ∀ e ∈ ((storeCells a vs i).runT P w es).2, e ∈ es ∨ ∃ b, e = ⟨.cell b, true, false⟩ ∧ b.block = a.block := by
  intro vs
  induction vs with
  | nil => intro i w es _ e he; exact .inl he
  | cons v vs ih =>
    intro i w es h e he
    have h0 := h 0 (by simp)
    simp only [Nat.add_zero] at h0
    obtain ⟨s1, s2⟩ := store1_ev (P := P) (v := v) (es := es) h0
    have blk : (a.add i).block = a.block := by unfold Addr.add; split <;> rfl
    unfold storeCells at he
    rw [runT_bm] at he
    cases hs : (Go.store (a.add i) v).runT P w es with
    | mk r es1 =>
      rw [hs] at he s1
      cases r with
      | halt x w1 =>
        rcases s1 e he with q | q
        · exact .inl q
        · exact .inr ⟨a.add i, q, blk⟩
      | ok u w1 =>
        have e2 := s2 u w1 es1 hs
        subst e2
        rcases ih (i + 1) _ es1 (fun j hj => cell_set (by
          have := h (j + 1) (by simp; omega)
          rw [show i + 1 + j = i + (j + 1) by omega]
          exact this)) e he with q | q
        · rcases s1 e q with q | q
          · exact .inl q
          · exact .inr ⟨a.add i, q, blk⟩
        · exact .inr q
end
end Go.Proofs.Ytdjnnhdeijnhgab.Rn

/-
  The sender's walk: steps that keep the company's word.
-/
namespace Go.Proofs.Ytdjnnhdeijnhgab.Rn
open Go Go.Conc
set_option linter.all false

def RelyAt (π : Pi) : Prop := ∀ k fr w w₁ N, π.At k fr w N → OthOk π N w w₁ → π.At k fr w₁ N
theorem Gz.relyA {π : Pi} {k : Nat} {N : Nat → Prop} (hπ : RelyAt π) : ∀ {m : Nat} {g : Goroutine} {w w₁ : World}, Gz π k m g w N → OthOk π N w w₁ → Gz π k m g w₁ N
  | 0, _, _, _, ⟨fr, h1, h2⟩, ho => ⟨fr, h1, hπ _ _ _ _ _ h2 ho⟩
  | m + 1, _, _, _, .inl ⟨fr, h1, h2⟩, ho => .inl ⟨fr, h1, hπ _ _ _ _ _ h2 ho⟩
  | m + 1, _, _, _, .inr ⟨h1, h2⟩, ho => .inr ⟨h1, fun w₂ h => h2 w₂ (ho.trans h)⟩
section
variable {π : Pi} {k m : Nat} {N : Nat → Prop} {w : World} {fr fr' : Frame} {cs cs' : List Frame}
theorem G1ok.same0 {w₁ : World} (ho : OthOk π N w w₁) {es : Array Event} (he : ∀ e ∈ es, ∃ a wr, e = ⟨.cell a, wr, false⟩ ∧ N a.block) : G1ok π N w₁ w₁ es N :=
  ⟨rfl, rfl, rfl, Nat.le_refl _, fun _ _ _ => rfl, rfl, fun _ _ => rfl, fun _ h => h, fun _ _ h => h, ho.low, he⟩
theorem gz_ctl (hπ : RelyAt π) (h : ∀ w, stepG π.P false (G fr cs) w = .go (G fr' cs') w #[]) (hz : Gz π k m (G fr' cs') w N) : Gz π k (m + 1) (G fr cs) w N :=
  .inr ⟨⟨_, _, rfl⟩, fun w₁ ho => ⟨fr', cs', w₁, #[], N, h w₁, G1ok.same0 ho (fun e he => by simp at he), hz.relyA hπ ho⟩⟩
variable {b : Frame} {a : Act} {ops : Array Oper} {i : Nat} {rest : List Nat} {kk : List Item} {o : Oper}
theorem at_o (ho : ops[i]? = some o) (hg : o.guard = none) (hb : b.kind ≠ .early) : AtO (b.at a (.inRegion ops (i :: rest) :: kk)) o :=
  ⟨rfl, rfl, by simpa [Frame.at] using hb, ops, i, rest, kk, rfl, ho, by simp [Region.wanted, hg]⟩
theorem fin_at (ho : ops[i]? = some o) (v : Value) : (b.at a (.inRegion ops (i :: rest) :: kk)).finish v = b.at (a.put o.dst v) (.inRegion ops rest :: kk) := by
  rw [Frame.finish_at, ho]
  rfl
/-- An operation that turns nothing. -/
theorem gz_same (hπ : RelyAt π) (ho : ops[i]? = some o) (hg : o.guard = none) (hb : b.kind ≠ .early) {v : Value}
    (hr : ∀ w₁, OthOk π N w w₁ → (execOp a.eval o).run π.P w₁ = .ok (.value v) w₁ ∧ ∀ e ∈ ((execOp a.eval o).runT π.P w₁ #[]).2, ∃ b wr, e = ⟨.cell b, wr, false⟩ ∧ N b.block)
    (hz : Gz π k m (G (b.at (a.put o.dst v) (.inRegion ops rest :: kk)) cs) w N) : Gz π k (m + 1) (G (b.at a (.inRegion ops (i :: rest) :: kk)) cs) w N := by
  refine .inr ⟨⟨_, _, rfl⟩, fun w₁ h1 => ?_⟩
  obtain ⟨q1, q2⟩ := hr w₁ h1
  have e1 : (execOp (b.at a (.inRegion ops (i :: rest) :: kk)).eval o).runT π.P w₁ #[] = (.ok (.value v) w₁, ((execOp a.eval o).runT π.P w₁ #[]).2) := by
    rw [Frame.eval_at']
    rw [← Sem.runT_fst π.P _ w₁ #[]] at q1
    exact Prod.ext q1 rfl
  have := stepO_value (P := π.P) (main := false) (cs := cs) (at_o ho hg hb) e1
  rw [fin_at ho] at this
  exact ⟨_, _, w₁, _, N, this, G1ok.same0 h1 (fun e he => q2 e (seen_mem he)), hz.relyA hπ h1⟩
/-- An operation that makes a row. -/
theorem gz_new (ho : ops[i]? = some o) (hg : o.guard = none) (hb : b.kind ≠ .early) {ob : Obj} (hbl : π.base ≤ w.heap.size) (hn : N π.ch)
    (hr : ∀ w₁, (execOp a.eval o).runT π.P w₁ #[] = (.ok (.value (.pointer (some ⟨w₁.heap.size, 0, none⟩))) { w₁ with heap := w₁.heap.push ob }, #[]))
    (hz : ∀ w₁, OthOk π N w w₁ → OthOk π N w { w₁ with heap := w₁.heap.push ob } → { w₁ with heap := w₁.heap.push ob }.heap[w₁.heap.size]? = some ob → π.base ≤ w₁.heap.size → w₁.heap.size ≠ π.ch → Gz π k m (G (b.at (a.put o.dst (.pointer (some ⟨w₁.heap.size, 0, none⟩))) (.inRegion ops rest :: kk)) cs) { w₁ with heap := w₁.heap.push ob } (fun b => N b ∨ b = w₁.heap.size)) :
    Gz π k (m + 1) (G (b.at a (.inRegion ops (i :: rest) :: kk)) cs) w N := by
  refine .inr ⟨⟨_, _, rfl⟩, fun w₁ h1 => ?_⟩
  have hch := h1.low _ hn
  have hsz := h1.size
  have hz0 := hz w₁ h1 ⟨by simp; omega, fun b hb hc => by
    have := h1.low b hb
    simp only [Array.getElem?_push]
    rw [if_neg (by omega)]
    exact h1.same b hb hc, fun b hb => by have := h1.low b hb; simp; omega⟩ (by simp) (by omega) (by omega)
  have e1 : (execOp (b.at a (.inRegion ops (i :: rest) :: kk)).eval o).runT π.P w₁ #[] = (.ok (.value (.pointer (some ⟨w₁.heap.size, 0, none⟩))) { w₁ with heap := w₁.heap.push ob }, #[]) := by
    rw [Frame.eval_at']
    exact hr w₁
  have := stepO_value (P := π.P) (main := false) (cs := cs) (at_o ho hg hb) e1
  rw [fin_at ho] at this
  have old : ∀ b, b < w₁.heap.size → ({ w₁ with heap := w₁.heap.push ob } : World).heap[b]? = w₁.heap[b]? := fun b hb => by
    simp only [Array.getElem?_push]
    rw [if_neg (by omega)]
  refine ⟨_, _, _, _, fun b => N b ∨ b = w₁.heap.size, this, ⟨rfl, rfl, rfl, by simp, fun b hb _ => old b hb, old _ hch, fun b hb => old b (by omega), fun b h => .inl h, fun b hb h => h.resolve_right (by omega), fun b h => ?_, fun e he => ?_⟩, hz0⟩
  · rcases h with h | rfl
    · have := h1.low b h; simp; omega
    · simp
  · have := seen_mem he
    simp at this
/-- An operation that fills a row of the sender's own. -/
theorem gz_put (ho : ops[i]? = some o) (hg : o.guard = none) (hb : b.kind ≠ .early) {g : Nat} {cells : Array Value} (hgN : N g) (hgb : π.base ≤ g) (hgc : g ≠ π.ch)
    (hr : ∀ w₁, OthOk π N w w₁ → (execOp a.eval o).run π.P w₁ = .ok .skip (w₁.setRow g cells) ∧ ∀ e ∈ ((execOp a.eval o).runT π.P w₁ #[]).2, ∃ b wr, e = ⟨.cell b, wr, false⟩ ∧ b.block = g)
    (hz : ∀ w₁, OthOk π N w w₁ → Gz π k m (G (b.at (a.put o.dst undef) (.inRegion ops rest :: kk)) cs) (w₁.setRow g cells) N) : Gz π k (m + 1) (G (b.at a (.inRegion ops (i :: rest) :: kk)) cs) w N := by
  refine .inr ⟨⟨_, _, rfl⟩, fun w₁ h1 => ?_⟩
  obtain ⟨q1, q2⟩ := hr w₁ h1
  have e1 : (execOp (b.at a (.inRegion ops (i :: rest) :: kk)).eval o).runT π.P w₁ #[] = (.ok .skip (w₁.setRow g cells), ((execOp a.eval o).runT π.P w₁ #[]).2) := by
    rw [Frame.eval_at']
    rw [← Sem.runT_fst π.P _ w₁ #[]] at q1
    exact Prod.ext q1 rfl
  have := stepO_skip (P := π.P) (main := false) (cs := cs) (at_o ho hg hb) e1
  rw [fin_at ho] at this
  have oth : ∀ b, b ≠ g → (w₁.setRow g cells).heap[b]? = w₁.heap[b]? := fun b hb => by
    unfold World.setRow
    simp [Array.getElem?_modify, Ne.symm hb]
  have hs : (w₁.setRow g cells).heap.size = w₁.heap.size := by unfold World.setRow; simp
  refine ⟨_, _, _, _, N, this, ⟨rfl, rfl, rfl, Nat.le_of_eq hs.symm, fun b _ hN => oth b fun e => hN (e ▸ hgN), oth _ (Ne.symm hgc), fun b hb => oth b (by omega), fun _ h => h, fun _ _ h => h, fun b h => by rw [hs]; exact h1.low b h, fun e he => ?_⟩, hz w₁ h1⟩
  obtain ⟨b, wr, h1, h2⟩ := q2 e (seen_mem he)
  exact ⟨b, wr, h1, by rw [h2]; exact hgN⟩
end
end Go.Proofs.Ytdjnnhdeijnhgab.Rn
