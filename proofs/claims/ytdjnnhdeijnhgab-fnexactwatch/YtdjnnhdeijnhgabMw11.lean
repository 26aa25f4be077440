/-
  Blocks renamed: one own step in company.
-/
import Derived.Test.YtdjnnhdeijnhgabMw10
import Derived.Conc.Beside
namespace Go.Proofs.Ytdjnnhdeijnhgab.Rn
open Go Go.Conc
set_option linter.all false

/-- How the company stands beside the lone world, behind i own steps. -/
structure RelW (P : Program) (I : St → Prop) (R : (Nat → Prop) → World → World → (Nat → Prop) → Prop) (Dd : Nat → Prop) (x0 : St) (f : Nat → Nat) (T : Tape) (wl0 : World) (i : Nat) (g : Goroutine) (wl : World) : Prop where
  g0 : (xs P I R x0 i).gs[0]? = some g
  wr : WR Dd f wl (xs P I R x0 i).w
  tape : wl.tape = T
  drawn : wl.drawn = ds0 P I R x0 i
  size : wl.heap.size = cs0 P I R x0 i
  inv : I (xs P I R x0 i)
  to : To P x0 (xs P I R x0 i)
  dis : ∀ b, Alive wl b → ¬ (xs P I R x0 i).N (f b)
  old : ∀ b, b < x0.w.heap.size → (xs P I R x0 i).N b → x0.N b
  more : ∀ b, x0.N b → (xs P I R x0 i).N b
  le : x0.w.heap.size ≤ (xs P I R x0 i).w.heap.size
  lone : ∀ b, b < x0.w.heap.size → IsC wl b → IsC wl0 b
  lel : x0.w.heap.size ≤ wl.heap.size
  out : ∀ b, b < x0.w.heap.size → ¬ x0.N b → ¬ IsC wl0 b → (xs P I R x0 i).w.heap[b]? = x0.w.heap[b]?
  tapec : (xs P I R x0 i).w.tape = x0.w.tape
  os : (xs P I R x0 i).w.os = x0.w.os
  output : (xs P I R x0 i).w.output = x0.w.output
section
variable {P : Program} {I : St → Prop} {R : (Nat → Prop) → World → World → (Nat → Prop) → Prop} {Dd : Nat → Prop} {x0 : St} {f : Nat → Nat} {T : Tape} {wl0 : World}
theorem relW_next (hK : Comp P I R) (hO : Own P I R x0 f T) {i : Nat} {frc : Frame} {csc : List Frame} {wl : World} (h : RelW P I R Dd x0 f T wl0 i (G frc csc) wl) {Q : Frame → List Frame → World → Prop}
    (hs : ∀ wc, WR Dd f wl wc → Fits f wl wc (ownW P frc wc).drawn (ownW P frc wc).heap.size → ∃ fr' cs' wl2 wc2 es2, stepG P true (G frc csc) wc = .go (G fr' cs') wc2 es2 ∧ wc2 = ownW P frc wc ∧ WR Dd f wl2 wc2 ∧ Later f wl wc wl2 wc2 es2 ∧ Q fr' cs' wl2) :
    ∃ fr' cs' wl2, Q fr' cs' wl2 ∧ RelW P I R Dd x0 f T wl0 (i + 1) (G fr' cs') wl2 := by
  have hx : xs P I R x0 (i + 1) = after P I R (xs P I R x0 i) := rfl
  have hOn := hO.new i
  have hOt := hO.tape i
  have hcs : cs0 P I R x0 (i + 1) = cs0 P I R x0 i + made P I R x0 i := rfl
  have hds : ds0 P I R x0 (i + 1) = ds0 P I R x0 i + drew P I R x0 i := rfl
  unfold made ow at hOn hcs
  unfold drew ow at hOt hds
  obtain ⟨g0, wr, tape, drawn, size, inv, to, dis, old, more, le, lone, lel, out, tapec, os, output⟩ := h
  have hg : gOf (xs P I R x0 i) = G frc csc := by unfold gOf; rw [g0]; rfl
  obtain ⟨n, d0, sl0, hr0⟩ := ready hK _ _ frc csc (Nat.le_refl _) inv g0
  have hr := nxt_ready ⟨_, _, _, hr0⟩
  have hwat : wAt P I R (xs P I R x0 i) = (nxt P I R (xs P I R x0 i)).1.w.at (nxt P I R (xs P I R x0 i)).2.1 := rfl
  have haft : after P I R (xs P I R x0 i) = (match stepG P true (G frc csc) (wAt P I R (xs P I R x0 i)) with
    | .go g' _ es => (nxt P I R (xs P I R x0 i)).1.own P (nxt P I R (xs P I R x0 i)).2.2 (G frc csc) g' (ownW P frc (wAt P I R (xs P I R x0 i))) es
    | _ => { (nxt P I R (xs P I R x0 i)).1 with w := ownW P frc (wAt P I R (xs P I R x0 i)) }) := by
    show (match stepG P true (gOf (xs P I R x0 i)) (wAt P I R (xs P I R x0 i)) with
      | .go g' _ es => (nxt P I R (xs P I R x0 i)).1.own P (nxt P I R (xs P I R x0 i)).2.2 (gOf (xs P I R x0 i)) g' (ownW P (gOf (xs P I R x0 i)).frame (wAt P I R (xs P I R x0 i))) es
      | _ => { (nxt P I R (xs P I R x0 i)).1 with w := ownW P (gOf (xs P I R x0 i)).frame (wAt P I R (xs P I R x0 i)) }) = _
    rw [hg]
    rfl
  rw [hg] at hOn hOt hcs hds
  generalize hxi : xs P I R x0 i = x at *
  generalize hci : cs0 P I R x0 i = ci at *
  generalize hdi : ds0 P I R x0 i = di at *
  rw [hwat] at hOn hOt hcs hds haft
  generalize nxt P I R x = q at *
  obtain ⟨y, d, sl⟩ := q
  simp only at hr hOn hOt hcs hds haft
  obtain ⟨hI, hgy, hto, hR, hst⟩ := hr
  have ho := hK.oth hR
  have hWc : WR Dd f wl (y.w.at d) := wr_at (wr_oth wr ho dis) d
  have hmono := ownW_mono (P := P) frc (y.w.at d)
  have hfr2 : (G frc csc).frame = frc := rfl
  rw [hfr2] at hOn hOt hcs hds
  have hF : Fits f wl (y.w.at d) (ownW P frc (y.w.at d)).drawn (ownW P frc (y.w.at d)).heap.size := by
    refine ⟨fun j q hj => ?_, fun j hj => ?_⟩
    · rw [tape, drawn]
      exact hOt j q (by omega)
    · rw [size]
      exact hOn j (by omega)
  obtain ⟨fr', cs', wl2, wc2, es2, h1, h2, h3, h4, h5⟩ := hs _ hWc hF
  refine ⟨fr', cs', wl2, h5, ?_⟩
  rw [h1] at haft
  simp only [← h2] at haft
  have hywl : y.w.heap.size = (y.w.at d).heap.size := rfl
  have disy : ∀ b, Alive wl b → ¬ y.N (f b) := fun b hb hN => dis b hb (ho.new _ (wr.lt b (alive_lt hb)) hN)
  have outw : ∀ b, y.N b → wc2.heap[b]? = y.w.heap[b]? := fun b hb => h4.out b (hK.low y hI b hb) fun b' hb' hc e => disy b' (isC_alive hc) (by rw [e]; exact hb)
  have hmine : MineW y.N y.w wc2 := ⟨h4.tc, h4.os, h4.output, h4.zle, outw⟩
  have hz := h4.z
  have hzle := h4.zle
  have hnewb : ∀ b, wl.heap.size ≤ b → b < wl2.heap.size → y.w.heap.size ≤ f b := by
    intro b hb hb2
    have := hF.new (b - wl.heap.size) (by rw [← h2]; omega)
    rw [show wl.heap.size + (b - wl.heap.size) = b by omega] at this
    rw [this]
    omega
  have dis2 : ∀ b, Alive wl2 b → ¬ y.N (f b) := by
    intro b hb hN
    rcases Nat.lt_or_ge b wl.heap.size with hlt | hge
    · exact disy b (alive_back wr h3 hlt hb) hN
    · have := hnewb b hge (alive_lt hb)
      have := hK.low y hI _ hN
      omega
  have hev : ∀ e ∈ es2, EvC y.N wc2.heap.size e := by
    intro e he
    rcases h4.evs e he with ⟨a, w1, rfl, hc⟩ | rfl | ⟨r, s, rfl, hr⟩
    · exact Or.inl ⟨rA f a, w1, rfl, dis2 a.block (isC_alive hc), h3.lt a.block (isC_lt hc)⟩
    · exact Or.inr (Or.inl rfl)
    · exact Or.inr (Or.inr ⟨f r, s, rfl, h3.lt r hr⟩)
  have hI2 := hK.own y frc csc d sl fr' cs' wc2 es2 hI (hgy.trans g0) h1 hmine hev
  have hsz : 0 < y.gs.size := (Array.getElem?_eq_some_iff.1 (hgy.trans g0)).1
  have hone : One P y (y.own P sl (G frc csc) (G fr' cs') wc2 es2) := by
    refine ⟨MemOp.ofEvents 0 (G frc csc).frame.fn (G frc csc).frame.place es2, ?_, rfl⟩
    rw [hst]
    exact runT_crowd_go (hgy.trans g0) (show stepG P (0 == 0) (G frc csc) (y.w.at d) = _ from h1)
  rw [← h2] at hcs hds
  have hxx := hx.trans haft
  have hN2 : (y.own P sl (G frc csc) (G fr' cs') wc2 es2).N = y.N := rfl
  have hw2 : (y.own P sl (G frc csc) (G fr' cs') wc2 es2).w = wc2 := rfl
  have hgs2 : (y.own P sl (G frc csc) (G fr' cs') wc2 es2).gs = (y.gs.map (woken P (G frc csc) (G fr' cs') wc2)).setIfInBounds 0 (G fr' cs') := rfl
  have oldy : ∀ b, b < x0.w.heap.size → y.N b → x0.N b := fun b hb hN => old b hb (ho.new b (by omega) hN)
  have hdr := h4.d
  have hdle := h4.dle
  have hsy := ho.size
  refine ⟨?_, ?_, ?_, ?_, ?_, ?_, ?_, ?_, ?_, ?_, ?_, ?_, ?_, ?_, ?_, ?_, ?_⟩
  · rw [hxx, hgs2]
    simp [hsz]
  · rw [hxx]; exact h3
  · rw [h4.tl]; exact tape
  · rw [hds]; omega
  · rw [hcs]; omega
  · rw [hxx]; exact hI2
  · rw [hxx]; exact to.trans (hto.trans hone.to)
  · rw [hxx]; exact dis2
  · rw [hxx]; exact oldy
  · rw [hxx]; exact fun b hb => ho.more b (more b hb)
  · rw [hxx, hw2]; omega
  · exact fun b hb hc => lone b hb (h4.back b (by omega) hc)
  · omega
  · intro b hb hN hc
    rw [hxx, hw2]
    refine (h4.out b (by omega) fun b' hb' hc' e => ?_).trans ((ho.same b (by omega) fun hN' => hN (old b hb hN')).trans (out b hb hN hc))
    have hfb := hO.id b hb
    have : b' = b := wr.inj b' b hb' (by omega) (by rw [e, hfb])
    subst this
    exact hc (lone b' hb hc')
  · rw [hxx, hw2]; exact h4.tc.trans (ho.tape.trans tapec)
  · rw [hxx, hw2]; exact h4.os.trans (ho.os.trans os)
  · rw [hxx, hw2]; exact h4.output.trans (ho.output.trans output)
end
end Go.Proofs.Ytdjnnhdeijnhgab.Rn

/-
  Blocks renamed: what is said of a call of a lone goroutine, in company.
-/
namespace Go.Proofs.Ytdjnnhdeijnhgab.Rn
open Go Go.Conc
set_option linter.all false

section
variable {P : Program} {A : Nat → Prop} {I : St → Prop} {R : (Nat → Prop) → World → World → (Nat → Prop) → Prop} {Dd : Nat → Prop} {x0 : St} {f : Nat → Nat} {T : Tape} {wl0 : World} {k : List Item} {cc : List Frame} {Fin : Frame → Prop}
theorem rn_three {n n' : Next} (h : RN f A n n') : Three n := by
  cases n <;> first | exact trivial | (cases n' <;> exact h.elim)
theorem doomed_ret {fr : Frame} {w : World} (hm : fr.mode = .returning) (hfr : FrOk P A fr) (hF : ∀ fr, Fin fr → fr.mode = .run) : Doomed P Fin (lone fr [trap P] w) := by
  intro n fr' w' hf e
  cases n with
  | zero =>
    simp only [runN, Stepped.next.injEq] at e
    have := (oneG_inj (((lone_one _ _ _).symm.trans e).trans (lone_one _ _ _))).1
    simp [G] at this
    have q := hF fr' hf
    rw [← this, hm] at q
    cases q
  | succ n =>
    simp only [runN] at e
    cases hs : step P (lone fr [trap P] w) with
    | ended o w2 => rw [hs] at e; cases e
    | next m1 =>
      rw [hs] at e
      exact doomed_down (Fin := Fin) hm hfr hs n fr' w' hf e
theorem lift_run (hK : Comp P I R) (hO : Own P I R x0 f T) (hP : Prg P A) (hC : Closed P f) (hX : Fix P Dd f) (hF : ∀ fr, Fin fr → fr.mode = .run ∨ fr.mode = .returning) (hk : k = [] ∨ ∀ fr, Fin fr → fr.mode = .run) {frE : Frame} {wE : World} (hE : Fin frE) :
    ∀ (n i : Nat) (fr : Frame) (cs : List Frame) (wl : World), RelW P I R Dd x0 f T wl0 i (renG f k cc fr cs) wl → FrOk P A fr → (∀ x ∈ cs, FrOk P A x ∧ x.mode = .run ∧ x.todo ≠ []) → (fr.mode = .run ∨ fr.mode = .returning) →
      runN P n (lone fr (cs ++ [trap P]) wl) = .next (lone frE [trap P] wE) → ∃ i', RelW P I R Dd x0 f T wl0 i' (renG f k cc frE []) wE ∧ FrOk P A frE := by
  intro n
  induction n with
  | zero =>
    intro i fr cs wl hr hfr hcs hm e
    simp only [runN, Stepped.next.injEq] at e
    have := oneG_inj (((lone_one _ _ _).symm.trans e).trans (lone_one _ _ _))
    simp [G] at this
    obtain ⟨⟨rfl, rfl⟩, rfl⟩ := this
    exact ⟨i, hr, hfr⟩
  | succ n ih =>
    intro i fr cs wl hr hfr hcs hm e
    simp only [runN] at e
    cases hs : step P (lone fr (cs ++ [trap P]) wl) with
    | ended o w2 => rw [hs] at e; cases e
    | next m1 =>
      rw [hs] at e
      simp only at e
      have hnd : ¬ Doomed P Fin m1 := fun hd => hd n frE wE hE e
      have hne : fr.mode = .returning → cs ≠ [] := by
        rintro hm rfl
        exact hnd (doomed_down hm hfr hs)
      have hnf : fr.mode = .run → fr.todo = [] → cs = [] → k = [] := by
        rintro hm ht rfl
        rcases hk with hk | hk
        · exact hk
        · exfalso
          obtain ⟨fn, tmps, todo, defers, mode, kind, ro⟩ := fr
          obtain ⟨h1, h2, h3, h4⟩ := hfr
          simp only at hm ht h2 h3 h4
          subst hm ht h2 h3 h4
          have e1 : stepG P true (G { fn := fn, tmps := tmps, todo := [], defers := [], mode := .run, kind := .normal } [trap P]) wl = .go (G { fn := fn, tmps := tmps, todo := [], defers := [], mode := .returning, kind := .normal } [trap P]) wl #[] := by
            simp [G, stepG, stepG.exec]
          rw [List.nil_append, step_one e1] at hs
          cases hs
          exact hnd (doomed_ret (A := A) rfl ⟨by simp, rfl, rfl, rfl⟩ hk)
      obtain ⟨fr', cs', wl2, ⟨fr2, cs3, q1, q2, q3, q4, q5, q6⟩, hr2⟩ := relW_next hK hO (frc := top f (kk k cs) fr) (csc := renS f k cc cs) hr
        (Q := fun fr' cs' wl2 => ∃ fr2 cs3, fr' = top f (kk k cs3) fr2 ∧ cs' = renS f k cc cs3 ∧ m1 = lone fr2 (cs3 ++ [trap P]) wl2 ∧ FrOk P A fr2 ∧ (∀ x ∈ cs3, FrOk P A x ∧ x.mode = .run ∧ x.todo ≠ []) ∧ (fr2.mode = .run ∨ fr2.mode = .returning)) (by
          intro wc hW hFi
          have hn : ∀ o, AtOp fr o → ∀ n w' es, (execOp fr.eval o).runT P wl #[] = (.ok n w', es) → Three n := by
            intro o ho n w' es hrun
            rw [ownW_at (top_at ho)] at hFi
            obtain ⟨n', wc', es', h1, h2, h3, h4⟩ := sm_exec (P := P) (Dd := Dd) (f := f) (A := A) hC hX (eval_ren fr (kk k cs)) (fun g => rfl) o (op_of ho hfr) wl wc _ _ #[] #[] hW hFi (Nat.le_refl _) (Nat.le_refl _) n w' es hrun
            exact rn_three h2
          obtain ⟨fr2, cs2, wl2, es, h1, h2, h3⟩ := lone_next hF hP hm hfr hcs hne hn hs hnd
          obtain ⟨cs3, rfl, wc2, es2, k1, k2, k3, k4, k5, k6, k7⟩ := sim_step (cc := cc) hC hX hP hm hfr hcs hnf hne h1 h2 hW hFi
          exact ⟨_, _, wl2, wc2, es2, k1, k2, k3, k4, fr2, cs3, rfl, rfl, h3, k5, k6, k7⟩)
      subst q1 q2 q3
      exact ih (i + 1) fr2 cs3 wl2 hr2 q4 q5 q6 e
/-- The return itself. -/
theorem lift_ret (hK : Comp P I R) (hO : Own P I R x0 f T) {c : Frame} {i : Nat} {fr : Frame} {wl : World} {v : Value} (h : RelW P I R Dd x0 f T wl0 i (renG f [] (c :: cc) fr []) wl) (hfr : FrOk P A fr) (hv : fr.leaving P wl (.returned v)) :
    RelW P I R Dd x0 f T wl0 (i + 1) (G (c.finish (rV f v)) cc) wl := by
  obtain ⟨hm, hd, hk, fn, hf, hres⟩ := hv
  obtain ⟨fr', cs', wl2, ⟨rfl, rfl, rfl⟩, hr2⟩ := relW_next hK hO (frc := top f [] fr) (csc := c :: cc) h (Q := fun fr' cs' wl2 => fr' = c.finish (rV f v) ∧ cs' = cc ∧ wl2 = wl) (by
    intro wc hW hFi
    cases hr : (results fn fr.tmps).runT P wl #[] with
    | mk r es0 =>
      have hr1 : (results fn fr.tmps).run P wl = r := by rw [← Sem.runT_fst P _ wl #[], hr]
      rw [hres] at hr1
      subst hr1
      have how0 : ownW P (top f [] fr) wc = resW ((results fn (fr.tmps.map (rV f))).runT P wc #[]).1 := by
        unfold ownW
        have hm' : (top f [] fr).mode = .returning := hm
        rw [hm']
        show (match P.funcs[fr.fn]? with | some fn => resW ((results fn (fr.tmps.map (rV f))).runT P wc #[]).1 | none => wc) = _
        rw [hf]
      rw [how0] at hFi
      obtain ⟨v', wc', es', h1, h2, h3, h4⟩ := sm_results (P := P) (Dd := Dd) (f := f) fn fr.tmps wl wc _ _ #[] #[] hW hFi (Nat.le_refl _) (Nat.le_refl _) v wl es0 hr
      have h2 : v' = rV f v := h2
      subst h2
      rw [Array.empty_append] at h1
      refine ⟨c.finish (rV f v), cc, wl, wc', seen P fr.fn es', step_ret (P := P) (fr := top f [] fr) hm hd hk hf h1, ?_, h3, h4.sub fun e he => seen_mem he, rfl, rfl, rfl⟩
      rw [how0, h1]; rfl)
  exact hr2
end
end Go.Proofs.Ytdjnnhdeijnhgab.Rn

/-
  Blocks renamed: a call, and a piece of code, in company.
-/
namespace Go.Proofs.Ytdjnnhdeijnhgab.Rn
open Go Go.Conc
set_option linter.all false

def Still (R : (Nat → Prop) → World → World → (Nat → Prop) → Prop) : Prop := ∀ N w w' N', R N w w' N' → w'.heap.size = w.heap.size
/-- What is told of the company behind a piece of goroutine 0's own doing: the lone world's blocks are in it, renamed; what was there and was not the lone one's is as it was. -/
structure Told (P : Program) (I : St → Prop) (R : (Nat → Prop) → World → World → (Nat → Prop) → Prop) (Dd : Nat → Prop) (x : St) (f : Nat → Nat) (wl : World) (y : St) (wE : World) : Prop where
  id : ∀ b, b < x.w.heap.size → f b = b
  to : To P x y
  inv : I y
  wr : WR Dd f wE y.w
  dis : ∀ b, Alive wE b → ¬ y.N (f b)
  old : ∀ b, b < x.w.heap.size → y.N b → x.N b
  more : ∀ b, x.N b → y.N b
  le : x.w.heap.size ≤ y.w.heap.size
  lone : ∀ b, b < x.w.heap.size → IsC wE b → IsC wl b
  lel : x.w.heap.size ≤ wE.heap.size
  out : ∀ b, b < x.w.heap.size → ¬ x.N b → ¬ IsC wl b → y.w.heap[b]? = x.w.heap[b]?
  tape : y.w.tape = x.w.tape
  os : y.w.os = x.w.os
  output : y.w.output = x.w.output
  still : Still R → (∀ b, f b = b) ∧ wE.heap.size = y.w.heap.size
section
variable {P : Program} {A : Nat → Prop} {I : St → Prop} {R : (Nat → Prop) → World → World → (Nat → Prop) → Prop} {Dd : Nat → Prop} {x : St} {wl : World}
theorem told_of {f : Nat → Nat} {T : Tape} {i : Nat} {g : Goroutine} {wE : World} (hO : Own P I R x f T) (hS : Still R → (∀ b, f b = b) ∧ ∀ i, cs0 P I R x i = (xs P I R x i).w.heap.size) (h : RelW P I R Dd x f T { wl with tape := T, drawn := 0 } i g wE) : ∃ y, y.gs[0]? = some g ∧ Told P I R Dd x f wl y wE :=
  ⟨xs P I R x i, h.g0, hO.id, h.to, h.inv, h.wr, h.dis, h.old, h.more, h.le, h.lone, h.lel, h.out, h.tapec, h.os, h.output, fun s => ⟨(hS s).1, h.size.trans ((hS s).2 i)⟩⟩
theorem enter_fr (hP : Prg P A) {g : Nat} (hA : A g) (args : Array Value) : FrOk P A (Frame.enter P g args .normal) := by
  refine ⟨?_, rfl, rfl, rfl⟩
  intro it hit
  simp only [Frame.enter, List.mem_singleton] at hit
  subst hit
  cases hf : P.funcs[g]? with
  | none => exact trivial
  | some fn =>
    cases hb : fn.body with
    | none => simp [hb]; exact trivial
    | some c =>
      have hcc := hP.body g hA fn hf c hb
      show CodeP P A _
      simpa [hb] using hcc
theorem start_rel {f : Nat → Nat} {T : Tape} (hI : I x) {g : Goroutine} (h0 : x.gs[0]? = some g) (hW : WR Dd f wl x.w) (hid : ∀ b, b < x.w.heap.size → f b = b) (hsz : wl.heap.size = x.w.heap.size) (hdis : ∀ b, Alive wl b → ¬ x.N b) :
    RelW P I R Dd x f T { wl with tape := T, drawn := 0 } 0 g { wl with tape := T, drawn := 0 } :=
  { g0 := h0
    wr := ⟨hW.cells, hW.nums, hW.plain, hW.dd, hW.live, hW.inj, hW.lt⟩
    tape := rfl
    drawn := rfl
    size := hsz
    inv := hI
    to := To.refl _
    dis := fun b hb => by
      have hb' : Alive wl b := hb
      show ¬ x.N (f b)
      rw [hid b (by rw [← hsz]; exact alive_lt hb')]
      exact hdis b hb'
    old := fun b _ h => h
    more := fun b h => h
    le := Nat.le_refl _
    lone := fun b _ h => h
    lel := Nat.le_of_eq hsz.symm
    out := fun b _ _ _ => rfl
    tapec := rfl
    os := rfl
    output := rfl }
/-- A CALL IN COMPANY. -/
theorem lift_call (hK : Comp P I R) (hP : Prg P A) (hC : ∀ f, Closed P f) (hX : ∀ f, Fix P Dd f) (hI : I x) {g : Nat} (hA : A g) {args : Array Value} {c : Frame} {cc : List Frame} (h0 : x.gs[0]? = some (G (Frame.enter P g args .normal) (c :: cc)))
    (hW : ∀ f : Nat → Nat, (∀ b, b < x.w.heap.size → f b = b) → (Still R → ∀ b, f b = b) → WR Dd f wl x.w) (hargs : ∀ f : Nat → Nat, (∀ b, b < x.w.heap.size → f b = b) → (Still R → ∀ b, f b = b) → args.map (rV f) = args)
    (hsz : wl.heap.size = x.w.heap.size) (hdis : ∀ b, Alive wl b → ¬ x.N b) {Rr : Ending → World → Prop} (hR : ∀ T, Calls P g args { wl with tape := T, drawn := 0 } Rr) (hRr : ∀ e w, Rr e w → ∃ v, e = .returned v) :
    ∃ f v wE y, Rr (.returned v) wE ∧ y.gs[0]? = some (G (c.finish (rV f v)) cc) ∧ Told P I R Dd x f wl y wE := by
  obtain ⟨f, T, hO, hid⟩ := own_some (P := P) (I := I) (R := R) x
  obtain ⟨e, w', fr, hr, hcomes, hfn, hleave⟩ := hR T [trap P]
  obtain ⟨v, rfl⟩ := hRr e w' hr
  obtain ⟨n, hn⟩ := hcomes
  have hst : RelW P I R Dd x f T { wl with tape := T, drawn := 0 } 0 (renG f [] (c :: cc) (Frame.enter P g args .normal) []) { wl with tape := T, drawn := 0 } := by
    refine start_rel hI ?_ (hW f hO.id fun s => (hid s).1) hO.id hsz hdis
    rw [h0]
    have := enter_ren (P := P) (f := f) g args
    rw [hargs f hO.id fun s => (hid s).1] at this
    show some (G (Frame.enter P g args .normal) (c :: cc)) = some (G (top f [] (Frame.enter P g args .normal)) (c :: cc))
    rw [← this]
  obtain ⟨i, h1, h2⟩ := lift_run (Fin := fun fr => fr.mode = .returning) (k := []) hK hO hP (hC f) (hX f) (fun fr h => Or.inr h) (Or.inl rfl) hleave.1 n 0 (Frame.enter P g args .normal) [] { wl with tape := T, drawn := 0 } hst (enter_fr hP hA args) (fun x hx => by cases hx) (Or.inl rfl) hn
  have h3 := lift_ret hK hO h1 h2 hleave
  obtain ⟨y, hy, ht⟩ := told_of hO hid h3
  exact ⟨f, v, w', y, hr, hy, ht⟩
/-- A PIECE OF A FRAME'S DOING IN COMPANY: one that is left in the frame itself. -/
theorem lift_steps (hK : Comp P I R) (hP : Prg P A) (hC : ∀ f, Closed P f) (hX : ∀ f, Fix P Dd f) (hI : I x) {fr : Frame} (hfr : FrOk P A fr) (hm : fr.mode = .run) {k : List Item} {cc : List Frame}
    (h0 : x.gs[0]? = some (G { fr with todo := fr.todo ++ k } cc))
    (hW : ∀ f : Nat → Nat, (∀ b, b < x.w.heap.size → f b = b) → (Still R → ∀ b, f b = b) → WR Dd f wl x.w) (hargs : ∀ f : Nat → Nat, (∀ b, b < x.w.heap.size → f b = b) → (Still R → ∀ b, f b = b) → fr.tmps.map (rV f) = fr.tmps)
    (hsz : wl.heap.size = x.w.heap.size) (hdis : ∀ b, Alive wl b → ¬ x.N b) {Q : Frame → World → Prop} (hR : ∀ T, ∃ frE wE, Q frE wE ∧ Steps P (lone fr [trap P] { wl with tape := T, drawn := 0 }) (lone frE [trap P] wE)) (hQ : ∀ frE w, Q frE w → frE.mode = .run) :
    ∃ f frE wE y, Q frE wE ∧ y.gs[0]? = some (G (top f k frE) cc) ∧ Told P I R Dd x f wl y wE := by
  obtain ⟨f, T, hO, hid⟩ := own_some (P := P) (I := I) (R := R) x
  obtain ⟨frE, w', hq, n, hn⟩ := hR T
  have hst : RelW P I R Dd x f T { wl with tape := T, drawn := 0 } 0 (renG f k cc fr []) { wl with tape := T, drawn := 0 } := by
    refine start_rel hI ?_ (hW f hO.id fun s => (hid s).1) hO.id hsz hdis
    rw [h0]
    show some (G { fr with todo := fr.todo ++ k } cc) = some (G { fr with tmps := fr.tmps.map (rV f), todo := fr.todo ++ k } cc)
    rw [hargs f hO.id fun s => (hid s).1]
  obtain ⟨i, h1, h2⟩ := lift_run (Fin := fun fr => fr.mode = .run) (k := k) hK hO hP (hC f) (hX f) (fun fr h => Or.inl h) (Or.inr fun fr h => h) (frE := frE) (hQ _ _ hq) n 0 fr [] { wl with tape := T, drawn := 0 } hst hfr (fun x hx => by cases hx) (Or.inl hm) hn
  obtain ⟨y, hy, ht⟩ := told_of hO hid h1
  exact ⟨f, frE, w', y, hq, hy, ht⟩
end
end Go.Proofs.Ytdjnnhdeijnhgab.Rn

/-
  Blocks renamed: the company of those that are only leaving.
-/
namespace Go.Proofs.Ytdjnnhdeijnhgab.Rn
open Go Go.Conc
open Go.ConcN (sumTo upd sumTo_upd upd_ne upd_same)
set_option linter.all false

/-- Nobody writes to an object that is no row of cells but by words of the library's own. -/
def NoObj (t : Trace) : Prop := ∀ op ∈ t, ∀ a, op.act.touch? = some a → ∀ r, a.loc = .obj r → a.write = false
theorem NoObj.app {t u : Trace} (h : NoObj t) (k : NoObj u) : NoObj (t ++ u) := fun op hop => (Array.mem_append.1 hop).elim (h op) (k op)
def Lv (P : Program) (x : St) : Prop := (∀ b, ¬ x.N b) ∧ NoObj x.t ∧ ∃ q B, Leavers P x.t x.gs q ∧ Past (fun _ => False) B x.t ∧ B ≤ x.w.heap.size ∧ x.μ = sumTo x.gs.size q
def LvR (N : Nat → Prop) (w w' : World) (N' : Nat → Prop) : Prop := N' = N ∧ AtRel w w'
theorem evL_of {N : Nat → Prop} {z : Nat} {e : Event} (h : EvC N z e) : EvL (fun _ => False) z e := by
  rcases h with ⟨a, wr, rfl, h1, h2⟩ | rfl | ⟨r, s, rfl, h1⟩
  · refine ⟨fun x _ hf => hf.elim, by simp, by simp, ?_⟩
    rw [ofEvent_cell0]; exact h2
  · refine ⟨fun x _ hf => hf.elim, by simp, by simp, ?_⟩
    simp [MemAct.ofEvent, MemAct.low]
  · refine ⟨fun x _ hf => hf.elim, by simp, by simp, ?_⟩
    cases s <;> simp [MemAct.ofEvent, MemAct.low, Loc.low, h1]
theorem noObj_mute {g : Nat} {fn : FuncId} {pos : String} {es : Array Event} (hm : ∀ e ∈ es, e.mute = true) : NoObj (MemOp.ofEvents g fn pos es) := fun op hop a ha => by
  obtain ⟨e, he, rfl⟩ := Go.Conc.mem_ofEvents hop
  have := touch_mute (hm e he)
  simp only at ha
  rw [this] at ha
  cases ha
theorem noObj_ev {N : Nat → Prop} {z : Nat} {g : Nat} {fn : FuncId} {pos : String} {es : Array Event} (hm : ∀ e ∈ es, EvC N z e) : NoObj (MemOp.ofEvents g fn pos es) := fun op hop a ha r hr => by
  obtain ⟨e, he, rfl⟩ := Go.Conc.mem_ofEvents hop
  rcases hm e he with ⟨ad, wr, rfl, h1, h2⟩ | rfl | ⟨r', s, rfl, h1⟩
  · simp only [ofEvent_cell0, MemAct.touch?, Option.some.injEq] at ha
    subst ha
    cases hr
  · simp [MemAct.ofEvent, MemAct.touch?] at ha
  · cases s <;> (simp only [MemAct.ofEvent, MemAct.touch?, Option.some.injEq] at ha; subst ha; rfl)
section
variable {P : Program}
theorem lv_comp : Comp P (Lv P) LvR where
  pick := by
    rintro x fr cs ⟨hN, hNo, q, B, hL, hP, hB, hμ⟩ h0
    have hrun : (G fr cs).status = .running := rfl
    have haw : ∀ g ∈ x.gs, awake g := by
      intro g hg
      obtain ⟨i, hi, rfl⟩ := Array.mem_iff_getElem.1 hg
      rcases Nat.eq_zero_or_pos i with rfl | hpos
      · have : x.gs[0] = G fr cs := by simpa [Array.getElem?_eq_getElem hi] using h0
        rw [this]; exact awake_of (.inl hrun)
      · exact awake_of ((hL.old i _ hpos (Array.getElem?_eq_getElem hi)).status.elim .inl fun x => .inr (.inr x))
    obtain ⟨i, g, d, sl', hi, hg, hst⟩ := crowd_pick (P := P) (w := x.w) (sl := x.sl) haw ⟨0, _, h0, hrun⟩
    rcases Nat.eq_zero_or_pos i with rfl | hpos
    · exact Or.inl ⟨d, sl', hst⟩
    · right
      have hq := hL.old i g hpos hi
      have hi0 : (i == 0) = false := by simp; omega
      have hlt : i < x.gs.size := (Array.getElem?_eq_some_iff.1 hi).1
      cases hqi : q i with
      | zero => rw [hqi] at hq; rw [hq.1] at hg; cases hg
      | succ k =>
        rw [hqi] at hq
        rcases hq with ⟨hf, _⟩ | ⟨_, g', es, hm, hstp, hq'⟩
        · rw [hf] at hg; cases hg
        have hrunT := runT_crowd_go (P := P) (sl := sl') (i := i) hi (by rw [hi0]; exact hstp (x.w.at d))
        have hsz : ((x.gs.map (woken P g g' (x.w.at d))).setIfInBounds i g').size = x.gs.size := by simp
        have hsum : sumTo x.gs.size (upd q i k) + (k + 1) = sumTo x.gs.size q + k := by
          have := sumTo_upd q k id hlt
          simpa [hqi] using this
        refine ⟨{ gs := (x.gs.map (woken P g g' (x.w.at d))).setIfInBounds i g', w := x.w.at d, sl := sl', t := x.t ++ MemOp.ofEvents i g.frame.fn g.frame.place es, N := x.N, μ := sumTo x.gs.size (upd q i k) }, ⟨hN, hNo.app (noObj_mute hm), upd q i k, B, ⟨fun j y hj hy => ?_, fun j hj => ?_⟩, hP.mute (by omega) hm, hB, by rw [hsz]⟩, ?_, by simp only; omega, ⟨_, hst.trans hrunT, rfl⟩, rfl, ⟨d, rfl⟩⟩
        · by_cases hji : i = j
          · subst hji
            rw [Array.getElem?_setIfInBounds_self_of_lt (by simpa using hlt)] at hy
            obtain rfl := Option.some.inj hy
            rw [upd_same, Deaf_own]
            exact hq'
          · rw [Array.getElem?_setIfInBounds_ne hji, Array.getElem?_map] at hy
            obtain ⟨z, hz, rfl⟩ := Option.map_eq_some_iff.1 hy
            have hqj := hL.old j z hj hz
            rw [woken_quitsD hqj, upd_ne q k (Ne.symm hji), Deaf_other x.t hji _ (fun op hop => by obtain ⟨e, _, rfl⟩ := Go.Conc.mem_ofEvents hop; rfl)]
            exact hqj
        · rw [Deaf_other x.t (g' := i) (by simp at hj; omega) _ (fun op hop => by obtain ⟨e, _, rfl⟩ := Go.Conc.mem_ofEvents hop; rfl)]
          exact hL.above j (by simpa using hj)
        · have hne : i ≠ 0 := by omega
          rw [Array.getElem?_setIfInBounds_ne hne, Array.getElem?_map, h0]
          simp [woken_run hrun]
  own := by
    rintro x fr cs d sl' fr' cs' w' es ⟨hN, hNo, q, B, hL, hP, hB, hμ⟩ h0 hgo hmine hev
    have hsz : ((x.gs.map (woken P (G fr cs) (G fr' cs') w')).setIfInBounds 0 (G fr' cs')).size = x.gs.size := by simp
    refine ⟨hN, hNo.app (noObj_ev hev), q, w'.heap.size, ⟨fun j y hj hy => ?_, fun j hj => ?_⟩, ?_, Nat.le_refl _, by show x.μ = _; rw [hμ]; show _ = sumTo ((x.gs.map (woken P (G fr cs) (G fr' cs') w')).setIfInBounds 0 (G fr' cs')).size q; rw [hsz]⟩
    · have hne : 0 ≠ j := by omega
      have hy : ((x.gs.map (woken P (G fr cs) (G fr' cs') w')).setIfInBounds 0 (G fr' cs'))[j]? = some y := hy
      rw [Array.getElem?_setIfInBounds_ne hne, Array.getElem?_map] at hy
      obtain ⟨z, hz, rfl⟩ := Option.map_eq_some_iff.1 hy
      have hq := hL.old j z hj hz
      show QuitsD P (q j) (Deaf (x.t ++ MemOp.ofEvents 0 (G fr cs).frame.fn (G fr cs).frame.place es) j) _
      rw [woken_quitsD hq, Deaf_other x.t (by omega) _ (fun op hop => by obtain ⟨e, _, rfl⟩ := Go.Conc.mem_ofEvents hop; rfl)]
      exact hq
    · have hj : ((x.gs.map (woken P (G fr cs) (G fr' cs') w')).setIfInBounds 0 (G fr' cs')).size ≤ j := hj
      have hlt : 0 < x.gs.size := (Array.getElem?_eq_some_iff.1 h0).1
      show Deaf (x.t ++ MemOp.ofEvents 0 (G fr cs).frame.fn (G fr cs).frame.place es) j = 0
      rw [Deaf_other x.t (g' := 0) (by simp at hj; omega) _ (fun op hop => by obtain ⟨e, _, rfl⟩ := Go.Conc.mem_ofEvents hop; rfl)]
      exact hL.above j (by simpa using hj)
    · exact (hP.mono (Nat.le_trans hB hmine.size)).own fun e he => evL_of (hev e he)
  low := fun x h b hb => absurd hb (h.1 b)
  oth := by
    rintro N w w' N' ⟨rfl, d, rfl⟩
    exact ⟨rfl, rfl, rfl, Nat.le_refl _, fun _ _ _ => rfl, fun _ h => h, fun _ _ h => h⟩
  refl := fun N w => ⟨rfl, atRel_refl w⟩
  trans := by
    rintro N w N' w' N'' w'' ⟨rfl, h⟩ ⟨rfl, k⟩
    exact ⟨rfl, atRel_trans _ _ _ h k⟩
theorem lv_still : Still LvR := by
  rintro N w w' N' ⟨rfl, d, rfl⟩
  rfl
end
end Go.Proofs.Ytdjnnhdeijnhgab.Rn
