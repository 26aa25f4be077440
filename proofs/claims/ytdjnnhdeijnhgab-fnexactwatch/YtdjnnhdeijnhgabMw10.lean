/-
  Blocks renamed: a goroutine in company: its own steps, one after another; what they make and draw, laid end to end.
-/
import Derived.Test.YtdjnnhdeijnhgabMw9
import Derived.Conc.CrowdBase
namespace Go.Proofs.Ytdjnnhdeijnhgab.Rn
open Go Go.Conc
set_option linter.all false

/-- Pieces laid end to end. -/
theorem glue {α : Type} (c s : Nat → Nat) (hc : ∀ i, c (i + 1) = c i + s i) (v : Nat → Nat → α) (v0 : Nat → α) : ∃ F : Nat → α, (∀ b, b < c 0 → F b = v0 b) ∧ (∀ i j, j < s i → F (c i + j) = v i j) ∧ ∀ b, (∀ i j, j < s i → c i + j ≠ b) → F b = v0 b := by
  classical
  have mono : ∀ i k, c i ≤ c (i + k) := by
    intro i k
    induction k with
    | zero => exact Nat.le_refl _
    | succ k ih => rw [← Nat.add_assoc, hc]; omega
  have one : ∀ i j i' j', j < s i → j' < s i' → c i + j = c i' + j' → i = i' := by
    intro i j i' j' h1 h2 e
    rcases Nat.lt_trichotomy i i' with h | h | h
    · have := mono (i + 1) (i' - (i + 1))
      rw [show i + 1 + (i' - (i + 1)) = i' by omega, hc] at this
      omega
    · exact h
    · have := mono (i' + 1) (i - (i' + 1))
      rw [show i' + 1 + (i - (i' + 1)) = i by omega, hc] at this
      omega
  refine ⟨fun b => if h : ∃ p : Nat × Nat, p.2 < s p.1 ∧ c p.1 + p.2 = b then v h.choose.1 h.choose.2 else v0 b, fun b hb => ?_, fun i j hj => ?_, fun b hb => ?_⟩
  · show (if h : ∃ p : Nat × Nat, p.2 < s p.1 ∧ c p.1 + p.2 = b then v h.choose.1 h.choose.2 else v0 b) = _
    rw [dif_neg]
    rintro ⟨⟨i, j⟩, h1, h2⟩
    have := mono 0 i
    rw [Nat.zero_add] at this
    simp only at h2
    omega
  · have hx : ∃ p : Nat × Nat, p.2 < s p.1 ∧ c p.1 + p.2 = c i + j := ⟨(i, j), hj, rfl⟩
    show (if h : ∃ p : Nat × Nat, p.2 < s p.1 ∧ c p.1 + p.2 = c i + j then v h.choose.1 h.choose.2 else v0 (c i + j)) = _
    rw [dif_pos hx]
    have hs := hx.choose_spec
    have e1 : hx.choose.1 = i := one _ _ _ _ hs.1 hj hs.2
    have e2 : hx.choose.2 = j := by have := hs.2; rw [e1] at this; omega
    rw [e1, e2]
  · show (if h : ∃ p : Nat × Nat, p.2 < s p.1 ∧ c p.1 + p.2 = b then v h.choose.1 h.choose.2 else v0 b) = _
    rw [dif_neg]
    rintro ⟨⟨i, j⟩, h1, h2⟩
    exact hb i j h1 h2
/-- A company of goroutines: its machine's parts, its trace; N: the blocks that are not goroutine 0's; what the others may still do. -/
structure St where
  gs : Array Goroutine
  w : World
  sl : Option (Nat × Nat)
  t : Trace
  N : Nat → Prop
  μ : Nat
def St.m (x : St) : Machine := crowd x.gs x.w x.sl
def To (P : Program) (x y : St) : Prop := ∃ n, runNT P n x.m x.t = (.next y.m, y.t)
def One (P : Program) (x y : St) : Prop := ∃ ops, stepT P x.m = (.next y.m, ops) ∧ y.t = x.t ++ ops
/-- What the others may do to the world. -/
structure OthW (N : Nat → Prop) (w w' : World) (N' : Nat → Prop) : Prop where
  tape : w'.tape = w.tape
  os : w'.os = w.os
  output : w'.output = w.output
  size : w.heap.size ≤ w'.heap.size
  same : ∀ b, b < w.heap.size → ¬ N b → w'.heap[b]? = w.heap[b]?
  more : ∀ b, N b → N' b
  new : ∀ b, b < w.heap.size → N' b → N b
/-- What goroutine 0 may do to it. -/
structure MineW (N : Nat → Prop) (w w' : World) : Prop where
  tape : w'.tape = w.tape
  os : w'.os = w.os
  output : w'.output = w.output
  size : w.heap.size ≤ w'.heap.size
  same : ∀ b, N b → w'.heap[b]? = w.heap[b]?
def EvC (N : Nat → Prop) (z : Nat) (e : Event) : Prop := (∃ a wr, e = ⟨.cell a, wr, false⟩ ∧ ¬ N a.block ∧ a.block < z) ∨ e = ⟨.mark .noRoom, false, true⟩ ∨ ∃ r s, e = ⟨.obj r, false, s⟩ ∧ r < z
/-- The company behind goroutine 0's own step. -/
def St.own (P : Program) (x : St) (sl : Option (Nat × Nat)) (g g' : Goroutine) (w' : World) (es : Array Event) : St :=
  { gs := (x.gs.map (woken P g g' w')).setIfInBounds 0 g', w := w', sl := sl, t := x.t ++ MemOp.ofEvents 0 g.frame.fn g.frame.place es, N := x.N, μ := x.μ }
structure Comp (P : Program) (I : St → Prop) (R : (Nat → Prop) → World → World → (Nat → Prop) → Prop) : Prop where
  pick : ∀ x fr cs, I x → x.gs[0]? = some (G fr cs) → (∃ d sl', stepT P x.m = runT P (crowd x.gs (x.w.at d) sl') 0) ∨ ∃ y, I y ∧ y.gs[0]? = x.gs[0]? ∧ y.μ < x.μ ∧ One P x y ∧ R x.N x.w y.w y.N
  own : ∀ x fr cs d sl' fr' cs' w' es, I x → x.gs[0]? = some (G fr cs) → stepG P true (G fr cs) (x.w.at d) = .go (G fr' cs') w' es → MineW x.N x.w w' → (∀ e ∈ es, EvC x.N w'.heap.size e) → I (x.own P sl' (G fr cs) (G fr' cs') w' es)
  low : ∀ x, I x → ∀ b, x.N b → b < x.w.heap.size
  oth : ∀ {N w w' N'}, R N w w' N' → OthW N w w' N'
  refl : ∀ N w, R N w w N
  trans : ∀ {N w N' w' N'' w''}, R N w w' N' → R N' w' w'' N'' → R N w w'' N''
section
variable {P : Program} {I : St → Prop} {R : (Nat → Prop) → World → World → (Nat → Prop) → Prop}
theorem To.refl (x : St) : To P x x := ⟨0, rfl⟩
theorem runNT_plus : ∀ (n k : Nat) (m : Machine) (t : Trace) (m' : Machine) (t' : Trace), runNT P n m t = (.next m', t') → runNT P (n + k) m t = runNT P k m' t' := by
  intro n
  induction n with
  | zero => intro k m t m' t' h; simp [runNT] at h; obtain ⟨rfl, rfl⟩ := h; simp
  | succ n ih =>
    intro k m t m' t' h
    rw [show n + 1 + k = (n + k) + 1 by omega]
    simp only [runNT] at h ⊢
    cases hs : stepT P m with
    | mk s ops =>
      cases s with
      | next m1 => rw [hs] at h; simp only at h ⊢; exact ih k m1 _ m' t' h
      | ended o w => rw [hs] at h; simp at h
theorem To.trans {x y z : St} (h : To P x y) (k : To P y z) : To P x z := by
  obtain ⟨n, h⟩ := h
  obtain ⟨j, k⟩ := k
  exact ⟨n + j, by rw [runNT_plus n j _ _ _ _ h]; exact k⟩
theorem One.to {x y : St} (h : One P x y) : To P x y := by
  obtain ⟨ops, h, e⟩ := h
  exact ⟨1, by simp only [runNT, h, e]⟩
/-- Goroutine 0 comes to its next own step. -/
def Ready (P : Program) (I : St → Prop) (R : (Nat → Prop) → World → World → (Nat → Prop) → Prop) (x y : St) (d : Nat) (sl : Option (Nat × Nat)) : Prop :=
  I y ∧ y.gs[0]? = x.gs[0]? ∧ To P x y ∧ R x.N x.w y.w y.N ∧ stepT P y.m = runT P (crowd y.gs (y.w.at d) sl) 0
theorem ready (hK : Comp P I R) : ∀ (n : Nat) (x : St) (fr : Frame) (cs : List Frame), x.μ ≤ n → I x → x.gs[0]? = some (G fr cs) → ∃ y d sl, Ready P I R x y d sl := by
  intro n
  induction n with
  | zero =>
    intro x fr cs hn hI h0
    rcases hK.pick x fr cs hI h0 with ⟨d, sl, h⟩ | ⟨y, h1, h2, h3, h4, h5⟩
    · exact ⟨x, d, sl, hI, rfl, To.refl x, hK.refl _ _, h⟩
    · omega
  | succ n ih =>
    intro x fr cs hn hI h0
    rcases hK.pick x fr cs hI h0 with ⟨d, sl, h⟩ | ⟨y, h1, h2, h3, h4, h5⟩
    · exact ⟨x, d, sl, hI, rfl, To.refl x, hK.refl _ _, h⟩
    · obtain ⟨z, d, sl, k1, k2, k3, k4, k5⟩ := ih y fr cs (by omega) h1 (h2.trans h0)
      exact ⟨z, d, sl, k1, k2.trans h2, h4.to.trans k3, hK.trans h5 k4, k5⟩
theorem ownW_mono (fr : Frame) (w : World) : w.drawn ≤ (ownW P fr w).drawn ∧ w.heap.size ≤ (ownW P fr w).heap.size := by
  unfold ownW
  split
  · split
    · split
      · exact runT_mono _ w #[]
      · exact ⟨Nat.le_refl _, Nat.le_refl _⟩
    · exact ⟨Nat.le_refl _, Nat.le_refl _⟩
  · exact runT_mono _ w #[]
  · split
    · exact runT_mono _ w #[]
    · exact ⟨Nat.le_refl _, Nat.le_refl _⟩
  · exact ⟨Nat.le_refl _, Nat.le_refl _⟩
end
end Go.Proofs.Ytdjnnhdeijnhgab.Rn

/-
  Blocks renamed: the own steps of a goroutine in company, one beside the other with the lone one's.
-/
namespace Go.Proofs.Ytdjnnhdeijnhgab.Rn
open Go Go.Conc
set_option linter.all false

section
variable (P : Program) (I : St → Prop) (R : (Nat → Prop) → World → World → (Nat → Prop) → Prop)
open Classical in
noncomputable def nxt (x : St) : St × Nat × Option (Nat × Nat) := if h : ∃ q : St × Nat × Option (Nat × Nat), Ready P I R x q.1 q.2.1 q.2.2 then h.choose else (x, x.w.drawn, x.sl)
noncomputable def wAt (x : St) : World := (nxt P I R x).1.w.at (nxt P I R x).2.1
def gOf (x : St) : Goroutine := (x.gs[0]?).getD default
noncomputable def after (x : St) : St :=
  match stepG P true (gOf x) (wAt P I R x) with
  | .go g' _ es => (nxt P I R x).1.own P (nxt P I R x).2.2 (gOf x) g' (ownW P (gOf x).frame (wAt P I R x)) es
  | _ => { (nxt P I R x).1 with w := ownW P (gOf x).frame (wAt P I R x) }
noncomputable def xs (x0 : St) : Nat → St
  | 0 => x0
  | i + 1 => after P I R (xs x0 i)
noncomputable def ow (x0 : St) (i : Nat) : World := ownW P (gOf (xs P I R x0 i)).frame (wAt P I R (xs P I R x0 i))
noncomputable def made (x0 : St) (i : Nat) : Nat := (ow P I R x0 i).heap.size - (wAt P I R (xs P I R x0 i)).heap.size
noncomputable def drew (x0 : St) (i : Nat) : Nat := (ow P I R x0 i).drawn - (wAt P I R (xs P I R x0 i)).drawn
noncomputable def cs0 (x0 : St) : Nat → Nat
  | 0 => x0.w.heap.size
  | i + 1 => cs0 x0 i + made P I R x0 i
noncomputable def ds0 (x0 : St) : Nat → Nat
  | 0 => 0
  | i + 1 => ds0 x0 i + drew P I R x0 i
end
section
variable {P : Program} {I : St → Prop} {R : (Nat → Prop) → World → World → (Nat → Prop) → Prop}
theorem after_w (x : St) : (after P I R x).w = ownW P (gOf x).frame (wAt P I R x) := by
  unfold after
  split <;> rfl
theorem nxt_ready {x : St} (h : ∃ y d sl, Ready P I R x y d sl) : Ready P I R x (nxt P I R x).1 (nxt P I R x).2.1 (nxt P I R x).2.2 := by
  obtain ⟨y, d, sl, h⟩ := h
  have hx : ∃ q : St × Nat × Option (Nat × Nat), Ready P I R x q.1 q.2.1 q.2.2 := ⟨(y, d, sl), h⟩
  unfold nxt
  rw [dif_pos hx]
  exact hx.choose_spec
/-- The blocks' new numbers and the tape that the run draws from: of this company's run. -/
structure Own (P : Program) (I : St → Prop) (R : (Nat → Prop) → World → World → (Nat → Prop) → Prop) (x0 : St) (f : Nat → Nat) (T : Tape) : Prop where
  id : ∀ b, b < x0.w.heap.size → f b = b
  new : ∀ i j, j < made P I R x0 i → f (cs0 P I R x0 i + j) = (wAt P I R (xs P I R x0 i)).heap.size + j
  tape : ∀ i j q, j < drew P I R x0 i → T (ds0 P I R x0 i + j) q = (wAt P I R (xs P I R x0 i)).tape ((wAt P I R (xs P I R x0 i)).drawn + j) q
theorem own_some (x0 : St) : ∃ f T, Own P I R x0 f T ∧ ((∀ N w w' N', R N w w' N' → w'.heap.size = w.heap.size) → (∀ b, f b = b) ∧ ∀ i, cs0 P I R x0 i = (xs P I R x0 i).w.heap.size) := by
  obtain ⟨f, h1, h2, h3⟩ := glue (cs0 P I R x0) (made P I R x0) (fun _ => rfl) (fun i j => (wAt P I R (xs P I R x0 i)).heap.size + j) (fun b => b)
  obtain ⟨T, k1, k2, k3⟩ := glue (ds0 P I R x0) (drew P I R x0) (fun _ => rfl) (fun i j => (wAt P I R (xs P I R x0 i)).tape ((wAt P I R (xs P I R x0 i)).drawn + j)) (fun _ _ => 0)
  refine ⟨f, T, ⟨h1, h2, fun i j q hj => by rw [k2 i j hj]⟩, fun hR => ?_⟩
  have hn : ∀ x : St, (wAt P I R x).heap.size = x.w.heap.size := by
    intro x
    by_cases h : ∃ y d sl, Ready P I R x y d sl
    · have hh := hR _ _ _ _ (nxt_ready h).2.2.2.1
      exact hh
    · unfold wAt nxt
      rw [dif_neg (fun ⟨q, hq⟩ => h ⟨_, _, _, hq⟩)]
      rfl
  have hc : ∀ i, cs0 P I R x0 i = (xs P I R x0 i).w.heap.size := by
    intro i
    induction i with
    | zero => rfl
    | succ i ih =>
      have hm := (ownW_mono (P := P) (gOf (xs P I R x0 i)).frame (wAt P I R (xs P I R x0 i))).2
      show cs0 P I R x0 i + made P I R x0 i = (after P I R (xs P I R x0 i)).w.heap.size
      rw [after_w, ih]
      unfold made ow
      rw [← hn (xs P I R x0 i)]
      omega
  refine ⟨fun b => ?_, hc⟩
  by_cases h : ∃ i j, j < made P I R x0 i ∧ cs0 P I R x0 i + j = b
  · obtain ⟨i, j, hj, rfl⟩ := h
    rw [h2 i j hj, hn, hc]
  · exact h3 b fun i j hj e => h ⟨i, j, hj, e⟩
/-- Blocks that can be looked at. -/
def Alive (w : World) (b : Nat) : Prop := ∃ o, w.heap[b]? = some o ∧ o ≠ Dead
theorem isC_alive {w : World} {b : Nat} (h : IsC w b) : Alive w b := by
  obtain ⟨cs, e, fz, h⟩ := h
  exact ⟨_, h, by simp [Dead]⟩
theorem alive_lt {w : World} {b : Nat} (h : Alive w b) : b < w.heap.size := by
  obtain ⟨o, h, -⟩ := h
  exact (Array.getElem?_eq_some_iff.1 h).1
theorem alive_back {Dd : Nat → Prop} {f f' : Nat → Nat} {wl wc wl2 wc2 : World} (h : WR Dd f wl wc) (h2 : WR Dd f' wl2 wc2) {b : Nat} (hb : b < wl.heap.size) (ha : Alive wl2 b) : Alive wl b := by
  obtain ⟨o, ho, hn⟩ := ha
  refine ⟨wl.heap[b], Array.getElem?_eq_getElem hb, fun e => ?_⟩
  have := h2.dd b (h.live b (by rw [Array.getElem?_eq_getElem hb, e]))
  rw [ho] at this
  exact hn (Option.some.inj this)
theorem wr_oth {Dd : Nat → Prop} {f : Nat → Nat} {wl w w' : World} {N N' : Nat → Prop} (h : WR Dd f wl w) (ho : OthW N w w' N') (hd : ∀ b, Alive wl b → ¬ N (f b)) : WR Dd f wl w' := by
  have key : ∀ b o, wl.heap[b]? = some o → o ≠ Dead → w'.heap[f b]? = w.heap[f b]? := fun b o hb hn => ho.same _ (h.lt b (Array.getElem?_eq_some_iff.1 hb).1) (hd b ⟨o, hb, hn⟩)
  refine ⟨fun b cs e fz hb => ?_, fun b a l hb => ?_, h.plain, h.dd, h.live, h.inj, fun b hb => Nat.lt_of_lt_of_le (h.lt b hb) ho.size⟩
  · rw [key b _ hb (by simp [Dead])]; exact h.cells b cs e fz hb
  · rw [key b _ hb (by simp [Dead])]; exact h.nums b a l hb
theorem wr_at {Dd : Nat → Prop} {f : Nat → Nat} {wl w : World} (h : WR Dd f wl w) (d : Nat) : WR Dd f wl (w.at d) := ⟨h.cells, h.nums, h.plain, h.dd, h.live, h.inj, h.lt⟩
end
end Go.Proofs.Ytdjnnhdeijnhgab.Rn

/-
  Blocks renamed: one own step in company.
-/
namespace Go.Proofs.Ytdjnnhdeijnhgab.Rn
open Go Go.Conc
set_option linter.all false

/-- How the company stands beside the lone world, behind i own steps. -/
structure RelW (P : Program) (I : St → Prop) (R : (Nat → Prop) → World → World → (Nat → Prop) → Prop) (Dd : Nat → Prop) (x0 : St) (f : Nat → Nat) (T : Tape) (wl0 : World) (i : Nat) (g : Goroutine) (wl : World) : Prop where
  g0 : (xs P I R x0 i).gs[0]? = some g
  wr : WR Dd f wl (xs P I R x0 i).w
  tape : wl.tape = T
  drawn : wl.drawn = ds0 P I R x0 i
  size : wl.heap.size = cs0 P I R x0 i
  inv : I (xs P I R x0 i)
  to : To P x0 (xs P I R x0 i)
  dis : ∀ b, Alive wl b → ¬ (xs P I R x0 i).N (f b)
  old : ∀ b, b < x0.w.heap.size → (xs P I R x0 i).N b → x0.N b
  more : ∀ b, x0.N b → (xs P I R x0 i).N b
  le : x0.w.heap.size ≤ (xs P I R x0 i).w.heap.size
  lone : ∀ b, b < x0.w.heap.size → IsC wl b → IsC wl0 b
  lel : x0.w.heap.size ≤ wl.heap.size
  out : ∀ b, b < x0.w.heap.size → ¬ x0.N b → ¬ IsC wl0 b → (xs P I R x0 i).w.heap[b]? = x0.w.heap[b]?
  tapec : (xs P I R x0 i).w.tape = x0.w.tape
  os : (xs P I R x0 i).w.os = x0.w.os
  output : (xs P I R x0 i).w.output = x0.w.output
section
variable {P : Program} {I : St → Prop} {R : (Nat → Prop) → World → World → (Nat → Prop) → Prop} {Dd : Nat → Prop} {x0 : St} {f : Nat → Nat} {T : Tape} {wl0 : World}
theorem relW_next (hK : Comp P I R) (hO : Own P I R x0 f T) {i : Nat} {frc : Frame} {csc : List Frame} {wl : World} (h : RelW P I R Dd x0 f T wl0 i (G frc csc) wl) {Q : Frame → List Frame → World → Prop}
    (hs : ∀ wc, WR Dd f wl wc → Fits f wl wc (ownW P frc wc).drawn (ownW P frc wc).heap.size → ∃ fr' cs' wl2 wc2 es2, stepG P true (G frc csc) wc = .go (G fr' cs') wc2 es2 ∧ wc2 = ownW P frc wc ∧ WR Dd f wl2 wc2 ∧ Later f wl wc wl2 wc2 es2 ∧ Q fr' cs' wl2) :
    ∃ fr' cs' wl2, Q fr' cs' wl2 ∧ RelW P I R Dd x0 f T wl0 (i + 1) (G fr' cs') wl2 := by
  have hx : xs P I R x0 (i + 1) = after P I R (xs P I R x0 i) := rfl
  have hOn := hO.new i
  have hOt := hO.tape i
  have hcs : cs0 P I R x0 (i + 1) = cs0 P I R x0 i + made P I R x0 i := rfl
  have hds : ds0 P I R x0 (i + 1) = ds0 P I R x0 i + drew P I R x0 i := rfl
  unfold made ow at hOn hcs
  unfold drew ow at hOt hds
  obtain ⟨g0, wr, tape, drawn, size, inv, to, dis, old, more, le, lone, lel, out, tapec, os, output⟩ := h
  have hg : gOf (xs P I R x0 i) = G frc csc := by unfold gOf; rw [g0]; rfl
  obtain ⟨n, d0, sl0, hr0⟩ := ready hK _ _ frc csc (Nat.le_refl _) inv g0
  have hr := nxt_ready ⟨_, _, _, hr0⟩
  have hwat : wAt P I R (xs P I R x0 i) = (nxt P I R (xs P I R x0 i)).1.w.at (nxt P I R (xs P I R x0 i)).2.1 := rfl
  have haft : after P I R (xs P I R x0 i) = (match stepG P true (G frc csc) (wAt P I R (xs P I R x0 i)) with
    | .go g' _ es => (nxt P I R (xs P I R x0 i)).1.own P (nxt P I R (xs P I R x0 i)).2.2 (G frc csc) g' (ownW P frc (wAt P I R (xs P I R x0 i))) es
    | _ => { (nxt P I R (xs P I R x0 i)).1 with w := ownW P frc (wAt P I R (xs P I R x0 i)) }) := by
    show (match stepG P true (gOf (xs P I R x0 i)) (wAt P I R (xs P I R x0 i)) with
      | .go g' _ es => (nxt P I R (xs P I R x0 i)).1.own P (nxt P I R (xs P I R x0 i)).2.2 (gOf (xs P I R x0 i)) g' (ownW P (gOf (xs P I R x0 i)).frame (wAt P I R (xs P I R x0 i))) es
      | _ => { (nxt P I R (xs P I R x0 i)).1 with w := ownW P (gOf (xs P I R x0 i)).frame (wAt P I R (xs P I R x0 i)) }) = _
    rw [hg]
    rfl
  rw [hg] at hOn hOt hcs hds
  generalize hxi : xs P I R x0 i = x at *
  generalize hci : cs0 P I R x0 i = ci at *
  generalize hdi : ds0 P I R x0 i = di at *
  rw [hwat] at hOn hOt hcs hds haft
  generalize nxt P I R x = q at *
  obtain ⟨y, d, sl⟩ := q
  simp only at hr hOn hOt hcs hds haft
  obtain ⟨hI, hgy, hto, hR, hst⟩ := hr
  have ho := hK.oth hR
  have hWc : WR Dd f wl (y.w.at d) := wr_at (wr_oth wr ho dis) d
  have hmono := ownW_mono (P := P) frc (y.w.at d)
  have hfr2 : (G frc csc).frame = frc := rfl
  rw [hfr2] at hOn hOt hcs hds
  have hF : Fits f wl (y.w.at d) (ownW P frc (y.w.at d)).drawn (ownW P frc (y.w.at d)).heap.size := by
    refine ⟨fun j q hj => ?_, fun j hj => ?_⟩
    · rw [tape, drawn]
      exact hOt j q (by omega)
    · rw [size]
      exact hOn j (by omega)
  obtain ⟨fr', cs', wl2, wc2, es2, h1, h2, h3, h4, h5⟩ := hs _ hWc hF
  refine ⟨fr', cs', wl2, h5, ?_⟩
  rw [h1] at haft
  simp only [← h2] at haft
  have hywl : y.w.heap.size = (y.w.at d).heap.size := rfl
  have disy : ∀ b, Alive wl b → ¬ y.N (f b) := fun b hb hN => dis b hb (ho.new _ (wr.lt b (alive_lt hb)) hN)
  have outw : ∀ b, y.N b → wc2.heap[b]? = y.w.heap[b]? := fun b hb => h4.out b (hK.low y hI b hb) fun b' hb' hc e => disy b' (isC_alive hc) (by rw [e]; exact hb)
  have hmine : MineW y.N y.w wc2 := ⟨h4.tc, h4.os, h4.output, h4.zle, outw⟩
  have hz := h4.z
  have hzle := h4.zle
  have hnewb : ∀ b, wl.heap.size ≤ b → b < wl2.heap.size → y.w.heap.size ≤ f b := by
    intro b hb hb2
    have := hF.new (b - wl.heap.size) (by rw [← h2]; omega)
    rw [show wl.heap.size + (b - wl.heap.size) = b by omega] at this
    rw [this]
    omega
  have dis2 : ∀ b, Alive wl2 b → ¬ y.N (f b) := by
    intro b hb hN
    rcases Nat.lt_or_ge b wl.heap.size with hlt | hge
    · exact disy b (alive_back wr h3 hlt hb) hN
    · have := hnewb b hge (alive_lt hb)
      have := hK.low y hI _ hN
      omega
  have hev : ∀ e ∈ es2, EvC y.N wc2.heap.size e := by
    intro e he
    rcases h4.evs e he with ⟨a, w1, rfl, hc⟩ | rfl | ⟨r, s, rfl, hr⟩
    · exact Or.inl ⟨rA f a, w1, rfl, dis2 a.block (isC_alive hc), h3.lt a.block (isC_lt hc)⟩
    · exact Or.inr (Or.inl rfl)
    · exact Or.inr (Or.inr ⟨f r, s, rfl, h3.lt r hr⟩)
  have hI2 := hK.own y frc csc d sl fr' cs' wc2 es2 hI (hgy.trans g0) h1 hmine hev
  have hsz : 0 < y.gs.size := (Array.getElem?_eq_some_iff.1 (hgy.trans g0)).1
  have hone : One P y (y.own P sl (G frc csc) (G fr' cs') wc2 es2) := by
    refine ⟨MemOp.ofEvents 0 (G frc csc).frame.fn (G frc csc).frame.place es2, ?_, rfl⟩
    rw [hst]
    exact runT_crowd_go (hgy.trans g0) (show stepG P (0 == 0) (G frc csc) (y.w.at d) = _ from h1)
  rw [← h2] at hcs hds
  have hxx := hx.trans haft
  have hN2 : (y.own P sl (G frc csc) (G fr' cs') wc2 es2).N = y.N := rfl
  have hw2 : (y.own P sl (G frc csc) (G fr' cs') wc2 es2).w = wc2 := rfl
  have hgs2 : (y.own P sl (G frc csc) (G fr' cs') wc2 es2).gs = (y.gs.map (woken P (G frc csc) (G fr' cs') wc2)).setIfInBounds 0 (G fr' cs') := rfl
  have oldy : ∀ b, b < x0.w.heap.size → y.N b → x0.N b := fun b hb hN => old b hb (ho.new b (by omega) hN)
  have hdr := h4.d
  have hdle := h4.dle
  have hsy := ho.size
  refine ⟨?_, ?_, ?_, ?_, ?_, ?_, ?_, ?_, ?_, ?_, ?_, ?_, ?_, ?_, ?_, ?_, ?_⟩
  · rw [hxx, hgs2]
    simp [hsz]
  · rw [hxx]; exact h3
  · rw [h4.tl]; exact tape
  · rw [hds]; omega
  · rw [hcs]; omega
  · rw [hxx]; exact hI2
  · rw [hxx]; exact to.trans (hto.trans hone.to)
  · rw [hxx]; exact dis2
  · rw [hxx]; exact oldy
  · rw [hxx]; exact fun b hb => ho.more b (more b hb)
  · rw [hxx, hw2]; omega
  · exact fun b hb hc => lone b hb (h4.back b (by omega) hc)
  · omega
  · intro b hb hN hc
    rw [hxx, hw2]
    refine (h4.out b (by omega) fun b' hb' hc' e => ?_).trans ((ho.same b (by omega) fun hN' => hN (old b hb hN')).trans (out b hb hN hc))
    have hfb := hO.id b hb
    have : b' = b := wr.inj b' b hb' (by omega) (by rw [e, hfb])
    subst this
    exact hc (lone b' hb hc')
  · rw [hxx, hw2]; exact h4.tc.trans (ho.tape.trans tapec)
  · rw [hxx, hw2]; exact h4.os.trans (ho.os.trans os)
  · rw [hxx, hw2]; exact h4.output.trans (ho.output.trans output)
end
end Go.Proofs.Ytdjnnhdeijnhgab.Rn

/-
  Blocks renamed: what is said of a call of a lone goroutine, in company.
-/
namespace Go.Proofs.Ytdjnnhdeijnhgab.Rn
open Go Go.Conc
set_option linter.all false

section
variable {P : Program} {A : Nat → Prop} {I : St → Prop} {R : (Nat → Prop) → World → World → (Nat → Prop) → Prop} {Dd : Nat → Prop} {x0 : St} {f : Nat → Nat} {T : Tape} {wl0 : World} {k : List Item} {cc : List Frame} {Fin : Frame → Prop}
theorem rn_three {n n' : Next} (h : RN f A n n') : Three n := by
  cases n <;> first | exact trivial | (cases n' <;> exact h.elim)
theorem doomed_ret {fr : Frame} {w : World} (hm : fr.mode = .returning) (hfr : FrOk P A fr) (hF : ∀ fr, Fin fr → fr.mode = .run) : Doomed P Fin (lone fr [trap P] w) := by
  intro n fr' w' hf e
  cases n with
  | zero =>
    simp only [runN, Stepped.next.injEq] at e
    have := (oneG_inj (((lone_one _ _ _).symm.trans e).trans (lone_one _ _ _))).1
    simp [G] at this
    have q := hF fr' hf
    rw [← this, hm] at q
    cases q
  | succ n =>
    simp only [runN] at e
    cases hs : step P (lone fr [trap P] w) with
    | ended o w2 => rw [hs] at e; cases e
    | next m1 =>
      rw [hs] at e
      exact doomed_down (Fin := Fin) hm hfr hs n fr' w' hf e
theorem lift_run (hK : Comp P I R) (hO : Own P I R x0 f T) (hP : Prg P A) (hC : Closed P f) (hX : Fix P Dd f) (hF : ∀ fr, Fin fr → fr.mode = .run ∨ fr.mode = .returning) (hk : k = [] ∨ ∀ fr, Fin fr → fr.mode = .run) {frE : Frame} {wE : World} (hE : Fin frE) :
    ∀ (n i : Nat) (fr : Frame) (cs : List Frame) (wl : World), RelW P I R Dd x0 f T wl0 i (renG f k cc fr cs) wl → FrOk P A fr → (∀ x ∈ cs, FrOk P A x ∧ x.mode = .run ∧ x.todo ≠ []) → (fr.mode = .run ∨ fr.mode = .returning) →
      runN P n (lone fr (cs ++ [trap P]) wl) = .next (lone frE [trap P] wE) → ∃ i', RelW P I R Dd x0 f T wl0 i' (renG f k cc frE []) wE ∧ FrOk P A frE := by
  intro n
  induction n with
  | zero =>
    intro i fr cs wl hr hfr hcs hm e
    simp only [runN, Stepped.next.injEq] at e
    have := oneG_inj (((lone_one _ _ _).symm.trans e).trans (lone_one _ _ _))
    simp [G] at this
    obtain ⟨⟨rfl, rfl⟩, rfl⟩ := this
    exact ⟨i, hr, hfr⟩
  | succ n ih =>
    intro i fr cs wl hr hfr hcs hm e
    simp only [runN] at e
    cases hs : step P (lone fr (cs ++ [trap P]) wl) with
    | ended o w2 => rw [hs] at e; cases e
    | next m1 =>
      rw [hs] at e
      simp only at e
      have hnd : ¬ Doomed P Fin m1 := fun hd => hd n frE wE hE e
      have hne : fr.mode = .returning → cs ≠ [] := by
        rintro hm rfl
        exact hnd (doomed_down hm hfr hs)
      have hnf : fr.mode = .run → fr.todo = [] → cs = [] → k = [] := by
        rintro hm ht rfl
        rcases hk with hk | hk
        · exact hk
        · exfalso
          obtain ⟨fn, tmps, todo, defers, mode, kind, ro⟩ := fr
          obtain ⟨h1, h2, h3, h4⟩ := hfr
          simp only at hm ht h2 h3 h4
          subst hm ht h2 h3 h4
          have e1 : stepG P true (G { fn := fn, tmps := tmps, todo := [], defers := [], mode := .run, kind := .normal } [trap P]) wl = .go (G { fn := fn, tmps := tmps, todo := [], defers := [], mode := .returning, kind := .normal } [trap P]) wl #[] := by
            simp [G, stepG, stepG.exec]
          rw [List.nil_append, step_one e1] at hs
          cases hs
          exact hnd (doomed_ret (A := A) rfl ⟨by simp, rfl, rfl, rfl⟩ hk)
      obtain ⟨fr', cs', wl2, ⟨fr2, cs3, q1, q2, q3, q4, q5, q6⟩, hr2⟩ := relW_next hK hO (frc := top f (kk k cs) fr) (csc := renS f k cc cs) hr
        (Q := fun fr' cs' wl2 => ∃ fr2 cs3, fr' = top f (kk k cs3) fr2 ∧ cs' = renS f k cc cs3 ∧ m1 = lone fr2 (cs3 ++ [trap P]) wl2 ∧ FrOk P A fr2 ∧ (∀ x ∈ cs3, FrOk P A x ∧ x.mode = .run ∧ x.todo ≠ []) ∧ (fr2.mode = .run ∨ fr2.mode = .returning)) (by
          intro wc hW hFi
          have hn : ∀ o, AtOp fr o → ∀ n w' es, (execOp fr.eval o).runT P wl #[] = (.ok n w', es) → Three n := by
            intro o ho n w' es hrun
            rw [ownW_at (top_at ho)] at hFi
            obtain ⟨n', wc', es', h1, h2, h3, h4⟩ := sm_exec (P := P) (Dd := Dd) (f := f) (A := A) hC hX (eval_ren fr (kk k cs)) (fun g => rfl) o (op_of ho hfr) wl wc _ _ #[] #[] hW hFi (Nat.le_refl _) (Nat.le_refl _) n w' es hrun
            exact rn_three h2
          obtain ⟨fr2, cs2, wl2, es, h1, h2, h3⟩ := lone_next hF hP hm hfr hcs hne hn hs hnd
          obtain ⟨cs3, rfl, wc2, es2, k1, k2, k3, k4, k5, k6, k7⟩ := sim_step (cc := cc) hC hX hP hm hfr hcs hnf hne h1 h2 hW hFi
          exact ⟨_, _, wl2, wc2, es2, k1, k2, k3, k4, fr2, cs3, rfl, rfl, h3, k5, k6, k7⟩)
      subst q1 q2 q3
      exact ih (i + 1) fr2 cs3 wl2 hr2 q4 q5 q6 e
/-- The return itself. -/
theorem lift_ret (hK : Comp P I R) (hO : Own P I R x0 f T) {c : Frame} {i : Nat} {fr : Frame} {wl : World} {v : Value} (h : RelW P I R Dd x0 f T wl0 i (renG f [] (c :: cc) fr []) wl) (hfr : FrOk P A fr) (hv : fr.leaving P wl (.returned v)) :
    RelW P I R Dd x0 f T wl0 (i + 1) (G (c.finish (rV f v)) cc) wl := by
  obtain ⟨hm, hd, hk, fn, hf, hres⟩ := hv
  obtain ⟨fr', cs', wl2, ⟨rfl, rfl, rfl⟩, hr2⟩ := relW_next hK hO (frc := top f [] fr) (csc := c :: cc) h (Q := fun fr' cs' wl2 => fr' = c.finish (rV f v) ∧ cs' = cc ∧ wl2 = wl) (by
    intro wc hW hFi
    cases hr : (results fn fr.tmps).runT P wl #[] with
    | mk r es0 =>
      have hr1 : (results fn fr.tmps).run P wl = r := by rw [← Sem.runT_fst P _ wl #[], hr]
      rw [hres] at hr1
      subst hr1
      have how0 : ownW P (top f [] fr) wc = resW ((results fn (fr.tmps.map (rV f))).runT P wc #[]).1 := by
        unfold ownW
        have hm' : (top f [] fr).mode = .returning := hm
        rw [hm']
        show (match P.funcs[fr.fn]? with | some fn => resW ((results fn (fr.tmps.map (rV f))).runT P wc #[]).1 | none => wc) = _
        rw [hf]
      rw [how0] at hFi
      obtain ⟨v', wc', es', h1, h2, h3, h4⟩ := sm_results (P := P) (Dd := Dd) (f := f) fn fr.tmps wl wc _ _ #[] #[] hW hFi (Nat.le_refl _) (Nat.le_refl _) v wl es0 hr
      have h2 : v' = rV f v := h2
      subst h2
      rw [Array.empty_append] at h1
      refine ⟨c.finish (rV f v), cc, wl, wc', seen P fr.fn es', step_ret (P := P) (fr := top f [] fr) hm hd hk hf h1, ?_, h3, h4.sub fun e he => seen_mem he, rfl, rfl, rfl⟩
      rw [how0, h1]; rfl)
  exact hr2
end
end Go.Proofs.Ytdjnnhdeijnhgab.Rn

/-
  Blocks renamed: a call, and a piece of code, in company.
-/
namespace Go.Proofs.Ytdjnnhdeijnhgab.Rn
open Go Go.Conc
set_option linter.all false

def Still (R : (Nat → Prop) → World → World → (Nat → Prop) → Prop) : Prop := ∀ N w w' N', R N w w' N' → w'.heap.size = w.heap.size
/-- What is told of the company behind a piece of goroutine 0's own doing: the lone world's blocks are in it, renamed; what was there and was not the lone one's is as it was. -/
structure Told (P : Program) (I : St → Prop) (R : (Nat → Prop) → World → World → (Nat → Prop) → Prop) (Dd : Nat → Prop) (x : St) (f : Nat → Nat) (wl : World) (y : St) (wE : World) : Prop where
  id : ∀ b, b < x.w.heap.size → f b = b
  to : To P x y
  inv : I y
  wr : WR Dd f wE y.w
  dis : ∀ b, Alive wE b → ¬ y.N (f b)
  old : ∀ b, b < x.w.heap.size → y.N b → x.N b
  more : ∀ b, x.N b → y.N b
  le : x.w.heap.size ≤ y.w.heap.size
  lone : ∀ b, b < x.w.heap.size → IsC wE b → IsC wl b
  lel : x.w.heap.size ≤ wE.heap.size
  out : ∀ b, b < x.w.heap.size → ¬ x.N b → ¬ IsC wl b → y.w.heap[b]? = x.w.heap[b]?
  tape : y.w.tape = x.w.tape
  os : y.w.os = x.w.os
  output : y.w.output = x.w.output
  still : Still R → (∀ b, f b = b) ∧ wE.heap.size = y.w.heap.size
section
variable {P : Program} {A : Nat → Prop} {I : St → Prop} {R : (Nat → Prop) → World → World → (Nat → Prop) → Prop} {Dd : Nat → Prop} {x : St} {wl : World}
theorem told_of {f : Nat → Nat} {T : Tape} {i : Nat} {g : Goroutine} {wE : World} (hO : Own P I R x f T) (hS : Still R → (∀ b, f b = b) ∧ ∀ i, cs0 P I R x i = (xs P I R x i).w.heap.size) (h : RelW P I R Dd x f T { wl with tape := T, drawn := 0 } i g wE) : ∃ y, y.gs[0]? = some g ∧ Told P I R Dd x f wl y wE :=
  ⟨xs P I R x i, h.g0, hO.id, h.to, h.inv, h.wr, h.dis, h.old, h.more, h.le, h.lone, h.lel, h.out, h.tapec, h.os, h.output, fun s => ⟨(hS s).1, h.size.trans ((hS s).2 i)⟩⟩
theorem enter_fr (hP : Prg P A) {g : Nat} (hA : A g) (args : Array Value) : FrOk P A (Frame.enter P g args .normal) := by
  refine ⟨?_, rfl, rfl, rfl⟩
  intro it hit
  simp only [Frame.enter, List.mem_singleton] at hit
  subst hit
  cases hf : P.funcs[g]? with
  | none => exact trivial
  | some fn =>
    cases hb : fn.body with
    | none => simp [hb]; exact trivial
    | some c =>
      have hcc := hP.body g hA fn hf c hb
      show CodeP P A _
      simpa [hb] using hcc
theorem start_rel {f : Nat → Nat} {T : Tape} (hI : I x) {g : Goroutine} (h0 : x.gs[0]? = some g) (hW : WR Dd f wl x.w) (hid : ∀ b, b < x.w.heap.size → f b = b) (hsz : wl.heap.size = x.w.heap.size) (hdis : ∀ b, Alive wl b → ¬ x.N b) :
    RelW P I R Dd x f T { wl with tape := T, drawn := 0 } 0 g { wl with tape := T, drawn := 0 } :=
  { g0 := h0
    wr := ⟨hW.cells, hW.nums, hW.plain, hW.dd, hW.live, hW.inj, hW.lt⟩
    tape := rfl
    drawn := rfl
    size := hsz
    inv := hI
    to := To.refl _
    dis := fun b hb => by
      have hb' : Alive wl b := hb
      show ¬ x.N (f b)
      rw [hid b (by rw [← hsz]; exact alive_lt hb')]
      exact hdis b hb'
    old := fun b _ h => h
    more := fun b h => h
    le := Nat.le_refl _
    lone := fun b _ h => h
    lel := Nat.le_of_eq hsz.symm
    out := fun b _ _ _ => rfl
    tapec := rfl
    os := rfl
    output := rfl }
/-- A CALL IN COMPANY. -/
theorem lift_call (hK : Comp P I R) (hP : Prg P A) (hC : ∀ f, Closed P f) (hX : ∀ f, Fix P Dd f) (hI : I x) {g : Nat} (hA : A g) {args : Array Value} {c : Frame} {cc : List Frame} (h0 : x.gs[0]? = some (G (Frame.enter P g args .normal) (c :: cc)))
    (hW : ∀ f : Nat → Nat, (∀ b, b < x.w.heap.size → f b = b) → (Still R → ∀ b, f b = b) → WR Dd f wl x.w) (hargs : ∀ f : Nat → Nat, (∀ b, b < x.w.heap.size → f b = b) → (Still R → ∀ b, f b = b) → args.map (rV f) = args)
    (hsz : wl.heap.size = x.w.heap.size) (hdis : ∀ b, Alive wl b → ¬ x.N b) {Rr : Ending → World → Prop} (hR : ∀ T, Calls P g args { wl with tape := T, drawn := 0 } Rr) (hRr : ∀ e w, Rr e w → ∃ v, e = .returned v) :
    ∃ f v wE y, Rr (.returned v) wE ∧ y.gs[0]? = some (G (c.finish (rV f v)) cc) ∧ Told P I R Dd x f wl y wE := by
  obtain ⟨f, T, hO, hid⟩ := own_some (P := P) (I := I) (R := R) x
  obtain ⟨e, w', fr, hr, hcomes, hfn, hleave⟩ := hR T [trap P]
  obtain ⟨v, rfl⟩ := hRr e w' hr
  obtain ⟨n, hn⟩ := hcomes
  have hst : RelW P I R Dd x f T { wl with tape := T, drawn := 0 } 0 (renG f [] (c :: cc) (Frame.enter P g args .normal) []) { wl with tape := T, drawn := 0 } := by
    refine start_rel hI ?_ (hW f hO.id fun s => (hid s).1) hO.id hsz hdis
    rw [h0]
    have := enter_ren (P := P) (f := f) g args
    rw [hargs f hO.id fun s => (hid s).1] at this
    show some (G (Frame.enter P g args .normal) (c :: cc)) = some (G (top f [] (Frame.enter P g args .normal)) (c :: cc))
    rw [← this]
  obtain ⟨i, h1, h2⟩ := lift_run (Fin := fun fr => fr.mode = .returning) (k := []) hK hO hP (hC f) (hX f) (fun fr h => Or.inr h) (Or.inl rfl) hleave.1 n 0 (Frame.enter P g args .normal) [] { wl with tape := T, drawn := 0 } hst (enter_fr hP hA args) (fun x hx => by cases hx) (Or.inl rfl) hn
  have h3 := lift_ret hK hO h1 h2 hleave
  obtain ⟨y, hy, ht⟩ := told_of hO hid h3
  exact ⟨f, v, w', y, hr, hy, ht⟩
/-- A PIECE OF A FRAME'S DOING IN COMPANY: one that is left in the frame itself. -/
theorem lift_steps (hK : Comp P I R) (hP : Prg P A) (hC : ∀ f, Closed P f) (hX : ∀ f, Fix P Dd f) (hI : I x) {fr : Frame} (hfr : FrOk P A fr) (hm : fr.mode = .run) {k : List Item} {cc : List Frame}
    (h0 : x.gs[0]? = some (G { fr with todo := fr.todo ++ k } cc))
    (hW : ∀ f : Nat → Nat, (∀ b, b < x.w.heap.size → f b = b) → (Still R → ∀ b, f b = b) → WR Dd f wl x.w) (hargs : ∀ f : Nat → Nat, (∀ b, b < x.w.heap.size → f b = b) → (Still R → ∀ b, f b = b) → fr.tmps.map (rV f) = fr.tmps)
    (hsz : wl.heap.size = x.w.heap.size) (hdis : ∀ b, Alive wl b → ¬ x.N b) {Q : Frame → World → Prop} (hR : ∀ T, ∃ frE wE, Q frE wE ∧ Steps P (lone fr [trap P] { wl with tape := T, drawn := 0 }) (lone frE [trap P] wE)) (hQ : ∀ frE w, Q frE w → frE.mode = .run) :
    ∃ f frE wE y, Q frE wE ∧ y.gs[0]? = some (G (top f k frE) cc) ∧ Told P I R Dd x f wl y wE := by
  obtain ⟨f, T, hO, hid⟩ := own_some (P := P) (I := I) (R := R) x
  obtain ⟨frE, w', hq, n, hn⟩ := hR T
  have hst : RelW P I R Dd x f T { wl with tape := T, drawn := 0 } 0 (renG f k cc fr []) { wl with tape := T, drawn := 0 } := by
    refine start_rel hI ?_ (hW f hO.id fun s => (hid s).1) hO.id hsz hdis
    rw [h0]
    show some (G { fr with todo := fr.todo ++ k } cc) = some (G { fr with tmps := fr.tmps.map (rV f), todo := fr.todo ++ k } cc)
    rw [hargs f hO.id fun s => (hid s).1]
  obtain ⟨i, h1, h2⟩ := lift_run (Fin := fun fr => fr.mode = .run) (k := k) hK hO hP (hC f) (hX f) (fun fr h => Or.inl h) (Or.inr fun fr h => h) (frE := frE) (hQ _ _ hq) n 0 fr [] { wl with tape := T, drawn := 0 } hst hfr (fun x hx => by cases hx) (Or.inl hm) hn
  obtain ⟨y, hy, ht⟩ := told_of hO hid h1
  exact ⟨f, frE, w', y, hq, hy, ht⟩
end
end Go.Proofs.Ytdjnnhdeijnhgab.Rn
