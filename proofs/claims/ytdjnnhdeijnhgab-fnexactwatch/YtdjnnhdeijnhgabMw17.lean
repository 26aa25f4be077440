/-
  In company: goroutine 0's walk, world by what is told of it; a box of a tick of one's own.
-/
import Derived.Test.YtdjnnhdeijnhgabMw16
import Derived.Test.YtdjnnhdeijnhgabMw11
namespace Go.Proofs.Ytdjnnhdeijnhgab.Rn
open Go Go.Conc Va
set_option linter.all false
set_option maxRecDepth 20000

/-- From every world of which this holds. -/
def Cj (P : Program) (I : St → Prop) (g : Goroutine) (J : World → Prop) (Q : Goroutine → World → Prop) : Prop := ∀ wl, J wl → Cp P I g wl Q
/-- What the others do leaves it. -/
def Calm (J : World → Prop) : Prop := ∀ wl wv, Wide wl wv → J wl → J wv
section
variable {P : Program} {I : St → Prop} {R : (Nat → Prop) → World → World → (Nat → Prop) → Prop} {J : World → Prop} {Q : Goroutine → World → Prop}
theorem Cj.ctl (hK : Comp P I R) (hJ : Calm J) {fr fr' : Frame} {cs cs' : List Frame} (h : ∀ w, stepG P true (G fr cs) w = .go (G fr' cs') w #[]) (k : Cj P I (G fr' cs') J Q) : Cj P I (G fr cs) J Q :=
  fun wl hj => Cp.ctl hK h fun wv hw => k wv (hJ wl wv hw hj)
end
section
variable {b : Frame} {a : Act} {ops : Array Oper} {i d : Nat} {rest : List Nat} {kk : List Item} {o : Oper} {cs : List Frame} {main : Bool} {w : World}
theorem st_pure (ho : ops[i]? = some o) (hg : o.guard = none) (hb : b.kind ≠ .early) {v : Value} (hr : (execOp a.eval o).run Try.prog w = .ok (.value v) w) (he : (execOp a.eval o).events Try.prog w #[] = #[]) :
    stepG Try.prog main (G (b.at a (.inRegion ops (i :: rest) :: kk)) cs) w = .go (G (b.at (a.put o.dst v) (.inRegion ops rest :: kk)) cs) w #[] := by
  rw [stepG_value ho (by simp [Region.wanted, hg]) hb hr]
  unfold listed
  rw [he, seen_none]
theorem st_move {x : Operand} {v : Value} (ho : ∃ o, ops[i]? = some o ∧ o.dst = some d ∧ o.guard = none ∧ o.op = .move x) (hb : b.kind ≠ .early) (hv : a.eval x = v) :
    stepG Try.prog main (G (b.at a (.inRegion ops (i :: rest) :: kk)) cs) w = .go (G (b.at (a.put (some d) v) (.inRegion ops rest :: kk)) cs) w #[] := by
  obtain ⟨o, h1, h2, h3, h4⟩ := ho
  subst hv
  rw [st_pure h1 h3 hb ((ex_move h4).1 w) ((ex_move h4).2 w), h2]
theorem st_assign {x : Operand} {v : Value} (ho : ∃ o, ops[i]? = some o ∧ o.dst = some d ∧ o.guard = none ∧ o.op = .assign x) (hb : b.kind ≠ .early) (hv : a.eval x = v) :
    stepG Try.prog main (G (b.at a (.inRegion ops (i :: rest) :: kk)) cs) w = .go (G (b.at (a.put (some d) v) (.inRegion ops rest :: kk)) cs) w #[] := by
  obtain ⟨o, h1, h2, h3, h4⟩ := ho
  subst hv
  rw [st_pure h1 h3 hb (v := a.eval x) (by unfold execOp; simp only [h4]; simp [go_sem]) (by unfold execOp; simp only [h4]; simp [go_sem]), h2]
theorem st_extract {t n : Nat} {vs : Array Value} {v : Value} (ho : ∃ o, ops[i]? = some o ∧ o.dst = some d ∧ o.guard = none ∧ o.op = .extract (.tmp t) n) (hb : b.kind ≠ .early) (ht : a.eval (.tmp t) = .tuple vs) (hv : vs[n]? = some v) :
    stepG Try.prog main (G (b.at a (.inRegion ops (i :: rest) :: kk)) cs) w = .go (G (b.at (a.put (some d) v) (.inRegion ops rest :: kk)) cs) w #[] := by
  obtain ⟨o, h1, h2, h3, h4⟩ := ho
  simp only [Act.eval, Array.getD_eq_getD_getElem?] at ht
  rw [st_pure h1 h3 hb (v := v) (by unfold execOp; simp only [h4]; simp [go_sem, ht, hv]) (by unfold execOp; simp only [h4]; simp [go_sem, ht, hv]), h2]
end
theorem setRow_set {w : World} {g : Nat} {old cells : Array Value} {t : TypeId} {fz : Nat × Nat} (hg : w.heap[g]? = some (.cells old t fz)) : w.setRow g cells = { w with heap := w.heap.setIfInBounds g (.cells cells t fz) } := by
  have hlt : g < w.heap.size := (Array.getElem?_eq_some_iff.1 hg).1
  unfold World.setRow
  congr 1
  refine Array.ext_getElem? fun j => ?_
  rw [Array.getElem?_modify, Array.getElem?_setIfInBounds]
  by_cases h : g = j
  · subst h
    have hv : w.heap[g] = .cells old t fz := (Array.getElem?_eq_some_iff.1 hg).2
    simp [hlt, hv]
  · simp [h]
/-- What is told, from base on. -/
def JW (base : Nat) (J : World → Prop) (wl : World) : Prop := J wl ∧ base ≤ wl.heap.size
theorem calm_JW {base : Nat} {J : World → Prop} (hJ : Tells base J) : Calm (JW base J) := fun wl wv hw h => ⟨hJ.emb idF wl wv (fun _ _ => rfl) (fun _ h _ => h) hw.emb h.1, Nat.le_trans h.2 hw.le⟩
/-- .. with a box of a tick of its own. -/
def JB (base : Nat) (J : World → Prop) (r : Nat) (cells : Array Value) (wv : World) : Prop :=
  wv.heap[r]? = some (.cells cells 42 (0, 0)) ∧ ∃ wj, JW base J wj ∧ wj.heap.size ≤ r ∧ ∀ (b : Nat) (o : Obj), o ≠ Dead → b ≠ r → (wv.heap[b]? = some o ↔ wj.heap[b]? = some o)
theorem calm_JB {base : Nat} {J : World → Prop} {r : Nat} {cells : Array Value} : Calm (JB base J r cells) := fun wl wv hw ⟨h1, wj, h2, h3, h4⟩ =>
  ⟨(hw.alive r _ (by simp [Dead])).2 h1, wj, h2, h3, fun b o ho hb => (hw.alive b o ho).trans (h4 b o ho hb)⟩
theorem JB.told {base : Nat} {J : World → Prop} (hJ : Tells base J) {r : Nat} {cells : Array Value} {wv : World} (h : JB base J r cells wv) : JW base J wv := by
  obtain ⟨h1, wj, h2, h3, h4⟩ := h
  have hlt := (Array.getElem?_eq_some_iff.1 h1).1
  refine ⟨hJ.emb idF wj wv (fun _ _ => rfl) (fun _ h _ => h) ⟨fun b cs e fz q => ?_, fun b q => ?_⟩ h2.1, by have := h2.2; omega⟩
  · rw [rVs_id]
    have hb : b < wj.heap.size := (Array.getElem?_eq_some_iff.1 q).1
    exact (h4 b _ (by simp [Dead]) (by omega)).2 q
  · show b < _
    omega
section
variable {I : St → Prop} {R : (Nat → Prop) → World → World → (Nat → Prop) → Prop} {J : World → Prop} {Q : Goroutine → World → Prop}
variable {b : Frame} {a : Act} {ops : Array Oper} {i d base : Nat} {rest : List Nat} {kk : List Item} {cs : List Frame}
/-- A new box. -/
theorem Cj.box (hK : Comp Try.prog I R) (ho : ∃ o, ops[i]? = some o ∧ o.dst = some d ∧ o.guard = none ∧ o.op = .alloc 42) (hb : b.kind ≠ .early)
    (k : ∀ r, base ≤ r → Cj Try.prog I (G (b.at (a.put (some d) (.pointer (some ⟨r, 0, none⟩))) (.inRegion ops rest :: kk)) cs) (JB base J r #[.int .i64 0, .bool false, .bool false]) Q) :
    Cj Try.prog I (G (b.at a (.inRegion ops (i :: rest) :: kk)) cs) (JW base J) Q := by
  obtain ⟨o, h1, h2, h3, h4⟩ := ho
  intro wl hj
  refine Cp.new (fr' := fun r => b.at (a.put (some d) (.pointer (some ⟨r, 0, none⟩))) (.inRegion ops rest :: kk)) hK (cells := #[.int .i64 0, .bool false, .bool false]) (e := 42) (fz := (0, 0)) (fun v hv => ?_) (fun w => ?_) fun wv r hp => k r (Nat.le_trans hj.2 hp.le) wv ⟨hp.at_, wl, hj, hp.le, hp.old⟩
  · simp only [List.mem_toArray, List.mem_cons, List.not_mem_nil, or_false] at hv
    rcases hv with rfl | rfl | rfl <;> exact fun f g _ => by simp
  · have ha := alloc_tick (a := a) h4 w
    rw [Sem.runT_eq] at ha
    obtain ⟨a1, a2⟩ := Prod.ext_iff.1 ha
    rw [stepG_value h1 (by simp [Region.wanted, h3]) hb a1]
    unfold listed
    simp only at a2
    rw [a2, seen_none, h2]
/-- A tick stored into it. -/
theorem Cj.boxed (hK : Comp Try.prog I R) {r s t : Nat} {old : Array Value} {x : Tk} (hs : old.size = 3) (ho : ∃ o, ops[i]? = some o ∧ o.dst = none ∧ o.guard = none ∧ o.op = .store 42 (.tmp s) (.tmp t)) (hb : b.kind ≠ .early) (hx : a.eval (.tmp s) = .pointer (some ⟨r, 0, none⟩)) (hy : a.eval (.tmp t) = aTk x)
    (k : Cj Try.prog I (G (b.at a (.inRegion ops rest :: kk)) cs) (JB base J r #[.int .i64 x.v, .bool x.k, .bool x.h]) Q) :
    Cj Try.prog I (G (b.at a (.inRegion ops (i :: rest) :: kk)) cs) (JB base J r old) Q := by
  obtain ⟨o, h1, h2, h3, h4⟩ := ho
  intro wl hj
  obtain ⟨q1, wj, q2, q3, q4⟩ := hj
  refine Cp.put hK (r := r) (cells := old) (cells' := #[.int .i64 x.v, .bool x.k, .bool x.h]) (e := 42) (fz := (0, 0)) q1 (fun v hv => ?_) (fun w hw => ?_) fun wv g1 g2 g3 => k wv ⟨g2, wj, q2, q3, fun b o ho hb => (g3 b o ho hb).trans (q4 b o ho hb)⟩
  · simp only [List.mem_toArray, List.mem_cons, List.not_mem_nil, or_false] at hv
    rcases hv with rfl | rfl | rfl <;> exact fun f g _ => by simp
  · obtain ⟨s1, s2⟩ := store_tick (x := x) hw hs hx hy h4
    have hst := stepG_none (P := Try.prog) (main := true) (cs := cs) (k := kk) (rest := rest) h1 (by simp [Region.wanted, h3]) hb s1
    rw [h2, put_none] at hst
    refine ⟨_, _, hst, setRow_set hw, fun e he => ?_⟩
    exact s2 e (seen_mem he)
/-- It is read. -/
theorem Cj.unbox (hK : Comp Try.prog I R) {r t : Nat} {x : Tk} (ho : ∃ o, ops[i]? = some o ∧ o.dst = some d ∧ o.guard = none ∧ o.op = .load 42 (.tmp t)) (hb : b.kind ≠ .early) (hx : a.eval (.tmp t) = .pointer (some ⟨r, 0, none⟩))
    (k : Cj Try.prog I (G (b.at (a.put (some d) (aTk x)) (.inRegion ops rest :: kk)) cs) (JB base J r #[.int .i64 x.v, .bool x.k, .bool x.h]) Q) :
    Cj Try.prog I (G (b.at a (.inRegion ops (i :: rest) :: kk)) cs) (JB base J r #[.int .i64 x.v, .bool x.k, .bool x.h]) Q := by
  obtain ⟨o, h1, h2, h3, h4⟩ := ho
  intro wl hj
  refine Cp.same hK (fun wv w hw hv => ?_) fun wv hw => k wv (calm_JB wl wv hw hj)
  have hj2 := calm_JB wl wv hw hj
  obtain ⟨q1, -⟩ := hv.cells r _ hj2.1 (by simp [Dead])
  obtain ⟨g1, g2⟩ := load_tick (w₁ := w) (bt := r) (off := 0) (x := x) (o := o) (by
    intro i v hi
    unfold World.cell?
    simp only [q1]
    match i, hi with
    | 0, hi => cases hi; rfl
    | 1, hi => cases hi; rfl
    | 2, hi => cases hi; rfl) hx h4
  refine ⟨listed Try.prog b.fn a o w, ?_, fun e he => ?_⟩
  · rw [stepG_value h1 (by simp [Region.wanted, h3]) hb g1, h2]
  · have he2 := seen_mem he
    rw [g2] at he2
    simp only [List.mem_toArray, List.mem_cons, List.not_mem_nil, or_false] at he2
    rcases he2 with rfl | rfl | rfl <;> exact ⟨_, _, rfl, _, _, _, hj2.1⟩
/-- A pure operation. -/
theorem Cj.go1 (hK : Comp Try.prog I R) {J : World → Prop} (hJ : Calm J) {fr fr' : Frame} {cs cs' : List Frame} (h : ∀ w, stepG Try.prog true (G fr cs) w = .go (G fr' cs') w #[]) (k : Cj Try.prog I (G fr' cs') J Q) : Cj Try.prog I (G fr cs) J Q := Cj.ctl hK hJ h k
end
noncomputable def bF : Frame := { (default : Frame) with fn := 26, kind := .normal }
noncomputable def aF (tk dv : Value) (ch : Nat) (t2 t3 t5 t6 t7 t8 t9 t10 t11 t12 t13 t14 t15 t16 t17 t18 t19 t20 : Value) : Act :=
  ⟨#[tk, dv, t2, t3, .chan (some ch), t5, t6, t7, t8, t9, t10, t11, t12, t13, t14, t15, t16, t17, t18, t19, t20], []⟩
section
variable {tk dv v t2 t3 t5 t6 t7 t8 t9 t10 t11 t12 t13 t14 t15 t16 t17 t18 t19 t20 : Value} {ch : Nat}
theorem putF5 : (aF tk dv ch t2 t3 t5 t6 t7 t8 t9 t10 t11 t12 t13 t14 t15 t16 t17 t18 t19 t20).put (some 5) v = aF tk dv ch t2 t3 v t6 t7 t8 t9 t10 t11 t12 t13 t14 t15 t16 t17 t18 t19 t20 := rfl
theorem putF6 : (aF tk dv ch t2 t3 t5 t6 t7 t8 t9 t10 t11 t12 t13 t14 t15 t16 t17 t18 t19 t20).put (some 6) v = aF tk dv ch t2 t3 t5 v t7 t8 t9 t10 t11 t12 t13 t14 t15 t16 t17 t18 t19 t20 := rfl
theorem putF7 : (aF tk dv ch t2 t3 t5 t6 t7 t8 t9 t10 t11 t12 t13 t14 t15 t16 t17 t18 t19 t20).put (some 7) v = aF tk dv ch t2 t3 t5 t6 v t8 t9 t10 t11 t12 t13 t14 t15 t16 t17 t18 t19 t20 := rfl
theorem putF8 : (aF tk dv ch t2 t3 t5 t6 t7 t8 t9 t10 t11 t12 t13 t14 t15 t16 t17 t18 t19 t20).put (some 8) v = aF tk dv ch t2 t3 t5 t6 t7 v t9 t10 t11 t12 t13 t14 t15 t16 t17 t18 t19 t20 := rfl
theorem putF9 : (aF tk dv ch t2 t3 t5 t6 t7 t8 t9 t10 t11 t12 t13 t14 t15 t16 t17 t18 t19 t20).put (some 9) v = aF tk dv ch t2 t3 t5 t6 t7 t8 v t10 t11 t12 t13 t14 t15 t16 t17 t18 t19 t20 := rfl
theorem putF10 : (aF tk dv ch t2 t3 t5 t6 t7 t8 t9 t10 t11 t12 t13 t14 t15 t16 t17 t18 t19 t20).put (some 10) v = aF tk dv ch t2 t3 t5 t6 t7 t8 t9 v t11 t12 t13 t14 t15 t16 t17 t18 t19 t20 := rfl
theorem putF11 : (aF tk dv ch t2 t3 t5 t6 t7 t8 t9 t10 t11 t12 t13 t14 t15 t16 t17 t18 t19 t20).put (some 11) v = aF tk dv ch t2 t3 t5 t6 t7 t8 t9 t10 v t12 t13 t14 t15 t16 t17 t18 t19 t20 := rfl
theorem putF12 : (aF tk dv ch t2 t3 t5 t6 t7 t8 t9 t10 t11 t12 t13 t14 t15 t16 t17 t18 t19 t20).put (some 12) v = aF tk dv ch t2 t3 t5 t6 t7 t8 t9 t10 t11 v t13 t14 t15 t16 t17 t18 t19 t20 := rfl
theorem putF13 : (aF tk dv ch t2 t3 t5 t6 t7 t8 t9 t10 t11 t12 t13 t14 t15 t16 t17 t18 t19 t20).put (some 13) v = aF tk dv ch t2 t3 t5 t6 t7 t8 t9 t10 t11 t12 v t14 t15 t16 t17 t18 t19 t20 := rfl
theorem putF14 : (aF tk dv ch t2 t3 t5 t6 t7 t8 t9 t10 t11 t12 t13 t14 t15 t16 t17 t18 t19 t20).put (some 14) v = aF tk dv ch t2 t3 t5 t6 t7 t8 t9 t10 t11 t12 t13 v t15 t16 t17 t18 t19 t20 := rfl
theorem putF15 : (aF tk dv ch t2 t3 t5 t6 t7 t8 t9 t10 t11 t12 t13 t14 t15 t16 t17 t18 t19 t20).put (some 15) v = aF tk dv ch t2 t3 t5 t6 t7 t8 t9 t10 t11 t12 t13 t14 v t16 t17 t18 t19 t20 := rfl
theorem putF16 : (aF tk dv ch t2 t3 t5 t6 t7 t8 t9 t10 t11 t12 t13 t14 t15 t16 t17 t18 t19 t20).put (some 16) v = aF tk dv ch t2 t3 t5 t6 t7 t8 t9 t10 t11 t12 t13 t14 t15 v t17 t18 t19 t20 := rfl
theorem putF17 : (aF tk dv ch t2 t3 t5 t6 t7 t8 t9 t10 t11 t12 t13 t14 t15 t16 t17 t18 t19 t20).put (some 17) v = aF tk dv ch t2 t3 t5 t6 t7 t8 t9 t10 t11 t12 t13 t14 t15 t16 v t18 t19 t20 := rfl
theorem putF18 : (aF tk dv ch t2 t3 t5 t6 t7 t8 t9 t10 t11 t12 t13 t14 t15 t16 t17 t18 t19 t20).put (some 18) v = aF tk dv ch t2 t3 t5 t6 t7 t8 t9 t10 t11 t12 t13 t14 t15 t16 t17 v t19 t20 := rfl
theorem putF19 : (aF tk dv ch t2 t3 t5 t6 t7 t8 t9 t10 t11 t12 t13 t14 t15 t16 t17 t18 t19 t20).put (some 19) v = aF tk dv ch t2 t3 t5 t6 t7 t8 t9 t10 t11 t12 t13 t14 t15 t16 t17 t18 v t20 := rfl
theorem putF20 : (aF tk dv ch t2 t3 t5 t6 t7 t8 t9 t10 t11 t12 t13 t14 t15 t16 t17 t18 t19 t20).put (some 20) v = aF tk dv ch t2 t3 t5 t6 t7 t8 t9 t10 t11 t12 t13 t14 t15 t16 t17 t18 t19 v := rfl
end
noncomputable def KF : List Item := [.inLoop LcF, .inBlock 0]
noncomputable def K4 : List Item := .inBlock 2 :: .inBlock 1 :: KF
section
variable {I : St → Prop} {R : (Nat → Prop) → World → World → (Nat → Prop) → Prop} {J : World → Prop} {Q : Goroutine → World → Prop}
variable {base ch : Nat} {cs : List Frame} {tk dv : Value}
/-- At the select. -/
theorem atSel {t2 t3 t5 t6 t7 t8 t9 t10 t11 t12 t13 t14 t15 t16 t17 t18 t19 t20 : Value} (hK : Comp Try.prog I R) (hJ : Calm J)
    (k : Cj Try.prog I (G (bF.at (aF tk dv ch t2 t3 t5 t6 t7 t8 t9 (.chan (some ch)) t11 t12 t13 t14 t15 t16 t17 t18 t19 t20) (.inRegion rF3 [0, 1, 2] :: .code (.block 2 (.cond (.tmp 13) XcF .skip)) :: .inBlock 1 :: KF)) cs) J Q) :
    Cj Try.prog I (G (bF.at (aF tk dv ch t2 t3 t5 t6 t7 t8 t9 t10 t11 t12 t13 t14 t15 t16 t17 t18 t19 t20) (.code LcF :: KF)) cs) J Q := by
  have hbe : bF.kind ≠ .early := by unfold bF; simp
  rw [LcF_eq]
  refine Cj.ctl hK hJ (fun w => stepG_block) ?_
  refine Cj.ctl hK hJ (fun w => stepG_seq) ?_
  refine Cj.ctl hK hJ (fun w => stepG_region) ?_
  rw [szF2]
  refine Cj.ctl hK hJ (fun w => st_move oF20 hbe (v := .chan (some ch)) rfl) ?_
  rw [putF10]
  refine Cj.ctl hK hJ (fun w => stepG_region_end) ?_
  refine Cj.ctl hK hJ (fun w => stepG_seq) ?_
  refine Cj.ctl hK hJ (fun w => stepG_region) ?_
  rw [szF3]
  exact k
/-- Behind the select: to the question whether there is more. -/
theorem selected {t2 t3 t5 t6 t7 t8 t9 t12 t13 t14 t15 t16 t17 t18 t19 t20 : Value} (hK : Comp Try.prog I R) (hJ : Tells base J) {x : Tk} {ok : Bool}
    (k : ∀ r t14 t15, base ≤ r → Cj Try.prog I (G (bF.at (aF tk dv ch t2 t3 (.pointer (some ⟨r, 0, none⟩)) (.bool ok) t7 t8 t9 (.chan (some ch)) (.tuple #[.int .i64 0, .bool ok, aTk x]) (.int .i64 0) (.bool true) t14 t15 (.bool ok) (.bool (!ok)) t18 t19 t20) (.code (.cond (.tmp 17) .ret .skip) :: .code (.region 6 rF6 false) :: K4)) cs) (JB base J r #[.int .i64 x.v, .bool x.k, .bool x.h]) Q) :
    Cj Try.prog I (G (bF.at (aF tk dv ch t2 t3 t5 t6 t7 t8 t9 (.chan (some ch)) (.tuple #[.int .i64 0, .bool ok, aTk x]) t12 t13 t14 t15 t16 t17 t18 t19 t20) (.inRegion rF3 [1, 2] :: .code (.block 2 (.cond (.tmp 13) XcF .skip)) :: .inBlock 1 :: KF)) cs) (JW base J) Q := by
  have hbe : bF.kind ≠ .early := by unfold bF; simp
  have hc := calm_JW hJ
  refine Cj.ctl hK hc (fun w => st_extract oF31 hbe (vs := #[.int .i64 0, .bool ok, aTk x]) (v := .int .i64 0) rfl rfl) ?_
  rw [putF12]
  obtain ⟨o, h1, h2, h3, h4⟩ := oF32
  refine Cj.ctl hK hc (fun w => st_pure h1 h3 hbe (v := .bool true) ?_ ?_) ?_
  · unfold execOp
    simp only [h4]
    simp [go_sem, Act.eval, aF, Act.put]
  · unfold execOp
    simp only [h4]
    simp [go_sem, Act.eval, aF, Act.put]
  rw [h2, putF13]
  refine Cj.ctl hK hc (fun w => stepG_region_end) ?_
  refine Cj.ctl hK hc (fun w => stepG_block) ?_
  refine Cj.ctl hK hc (fun w => stepG_cond (t := true) rfl) ?_
  rw [if_pos rfl, XcF_eq]
  refine Cj.ctl hK hc (fun w => stepG_seq) ?_
  refine Cj.ctl hK hc (fun w => stepG_region) ?_
  rw [szF4]
  refine Cj.ctl hK hc (fun w => st_extract oF40 hbe (vs := #[.int .i64 0, .bool ok, aTk x]) (v := aTk x) rfl rfl) ?_
  rw [putF14]
  refine Cj.ctl hK hc (fun w => st_extract oF41 hbe (vs := #[.int .i64 0, .bool ok, aTk x]) (v := .bool ok) rfl rfl) ?_
  rw [putF15]
  refine Cj.box hK oF42 hbe fun r hr => ?_
  rw [putF5]
  refine Cj.boxed (x := x) hK rfl oF43 hbe rfl rfl ?_
  refine Cj.ctl hK calm_JB (fun w => st_assign oF44 hbe (v := .bool ok) rfl) ?_
  rw [putF6]
  refine Cj.ctl hK calm_JB (fun w => stepG_region_end) ?_
  refine Cj.ctl hK calm_JB (fun w => stepG_seq) ?_
  refine Cj.ctl hK calm_JB (fun w => stepG_seq) ?_
  refine Cj.ctl hK calm_JB (fun w => stepG_region) ?_
  rw [szF5]
  refine Cj.ctl hK calm_JB (fun w => st_move oF50 hbe (v := .bool ok) rfl) ?_
  rw [putF16]
  obtain ⟨o, h1, h2, h3, h4⟩ := oF51
  refine Cj.ctl hK calm_JB (fun w => st_pure h1 h3 hbe (v := .bool (!ok)) ?_ ?_) ?_
  · unfold execOp
    simp only [h4]
    simp [go_sem, Act.eval, aF, Act.put]
  · unfold execOp
    simp only [h4]
    simp [go_sem, Act.eval, aF, Act.put]
  rw [h2, putF17]
  refine Cj.ctl hK calm_JB (fun w => stepG_region_end) ?_
  exact k r _ _ hr
end
end Go.Proofs.Ytdjnnhdeijnhgab.Rn

/-
  Goroutine 0's walk beside leavers, operation by operation; what its slots hold.
-/
namespace Go.Proofs.Ytdjnnhdeijnhgab.Rn
open Go Go.Conc Va
set_option linter.all false
set_option maxRecDepth 20000

/-- What some of the slots hold. -/
structure LA (n : Nat) (a : Act) (vs : List (Nat × Value)) : Prop where
  size : a.tmps.size = n
  defers : a.defers = []
  get : ∀ t v, vs.lookup t = some v → a.eval (.tmp t) = v
def evs (vs : List (Nat × Value)) : Operand → Option Value
  | .tmp t => vs.lookup t
  | .const v => some v
  | .func f => some (.func (.func f) #[] #[])
  | _ => none
theorem LA.eval {n : Nat} {a : Act} {vs : List (Nat × Value)} (h : LA n a vs) {x : Operand} {v : Value} (hx : evs vs x = some v) : a.eval x = v := by
  cases x with
  | tmp t => exact h.get t v hx
  | const c => exact Option.some.inj hx
  | func f => exact Option.some.inj hx
  | global g => cases hx
theorem LA.put {n : Nat} {a : Act} {vs : List (Nat × Value)} (h : LA n a vs) {d : Nat} (hd : d < n) (v : Value) : LA n (a.put (some d) v) ((d, v) :: vs) := by
  refine ⟨by simp [Act.put, h.size], h.defers, fun t u hu => ?_⟩
  rw [List.lookup_cons] at hu
  by_cases e : t = d
  · subst e
    simp only [beq_self_eq_true] at hu
    obtain rfl := Option.some.inj hu
    simp [Act.put, Act.eval, Array.getD_eq_getD_getElem?, h.size, hd]
  · have e' : (t == d) = false := by simpa using e
    rw [e'] at hu
    have := h.get t u hu
    rw [← this]
    simp [Act.put, Act.eval, Array.getD_eq_getD_getElem?, Array.getElem?_setIfInBounds, Ne.symm e]
theorem LA.weak {n : Nat} {a : Act} {vs vs' : List (Nat × Value)} (h : LA n a vs) (hv : ∀ p ∈ vs', vs.lookup p.1 = some p.2) : LA n a vs' := by
  refine ⟨h.size, h.defers, fun t u hu => h.get t u ?_⟩
  induction vs' with
  | nil => cases hu
  | cons p vs' ih =>
    rw [List.lookup_cons] at hu
    by_cases e : t = p.1
    · subst e
      simp only [beq_self_eq_true] at hu
      obtain rfl := Option.some.inj hu
      exact hv p (by simp)
    · have e' : (t == p.1) = false := by simpa using e
      rw [e'] at hu
      exact ih (fun q hq => hv q (by simp [hq])) hu
section
variable {A : Nat → Prop} {b : Frame} {a : Act} {ops : Array Oper} {i d n : Nat} {rest : List Nat} {kk : List Item} {cs : List Frame} {wl : World} {Q : Goroutine → World → Prop} {vs : List (Nat × Value)}
theorem st_pureW {o : Oper} {w : World} {main : Bool} (ho : ops[i]? = some o) (hw : Region.wanted o (yielded ops a.tmps) = true) (hb : b.kind ≠ .early) {v : Value} (hr : (execOp a.eval o).run Try.prog w = .ok (.value v) w) (he : (execOp a.eval o).events Try.prog w #[] = #[]) :
    stepG Try.prog main (G (b.at a (.inRegion ops (i :: rest) :: kk)) cs) w = .go (G (b.at (a.put o.dst v) (.inRegion ops rest :: kk)) cs) w #[] := by
  rw [stepG_value ho hw hb hr]
  unfold listed
  rw [he, seen_none]
/-- An operation that looks at the slots alone. -/
theorem K.pure {op : Op} {g : Option (Nat × Bool)} (ho : ∃ o, ops[i]? = some o ∧ o.dst = some d ∧ o.guard = g ∧ o.op = op) (hb : b.kind ≠ .early) (h : LA n a vs) (hd : d < n) (hw : ∀ o : Oper, o.guard = g → Region.wanted o (yielded ops a.tmps) = true) (v : Value)
    (hr : ∀ o : Oper, o.op = op → ∀ w, (execOp a.eval o).run Try.prog w = .ok (.value v) w ∧ (execOp a.eval o).events Try.prog w #[] = #[])
    (k : ∀ a', LA n a' ((d, v) :: vs) → Kp Try.prog (G (b.at a' (.inRegion ops rest :: kk)) cs) wl Q) : Kp Try.prog (G (b.at a (.inRegion ops (i :: rest) :: kk)) cs) wl Q := by
  obtain ⟨o, h1, h2, h3, h4⟩ := ho
  refine Kp.ctl (fr' := b.at (a.put (some d) v) (.inRegion ops rest :: kk)) (cs' := cs) (fun w => ?_) (k _ (h.put hd v))
  rw [st_pureW h1 (hw o h3) hb (hr o h4 w).1 (hr o h4 w).2, h2]
theorem wanted0 : ∀ o : Oper, o.guard = none → Region.wanted o (yielded ops a.tmps) = true := fun o h => by simp [Region.wanted, h]
theorem wanted1 (h : LA n a vs) {j e : Nat} {want : Bool} (hj : ∃ o', ops[j]? = some o' ∧ o'.dst = some e) (hv : vs.lookup e = some (.bool want)) : ∀ o : Oper, o.guard = some (j, want) → Region.wanted o (yielded ops a.tmps) = true := fun o hg => by
  obtain ⟨o', h1, h2⟩ := hj
  have h3 := h.get e _ hv
  simp only [Act.eval, Array.getD_eq_getD_getElem?] at h3
  unfold Region.wanted yielded
  rw [hg]
  simp only [h1, Option.bind_some, h2]
  cases h4 : a.tmps[e]? with
  | none => rw [h4] at h3; simp [undef] at h3
  | some u =>
    rw [h4] at h3
    simp only [Option.getD_some] at h3
    subst h3
    simp
theorem K.move {x : Operand} {v : Value} {g : Option (Nat × Bool)} (ho : ∃ o, ops[i]? = some o ∧ o.dst = some d ∧ o.guard = g ∧ o.op = .move x) (hb : b.kind ≠ .early) (h : LA n a vs) (hd : d < n) (hw : ∀ o : Oper, o.guard = g → Region.wanted o (yielded ops a.tmps) = true) (hx : evs vs x = some v)
    (k : ∀ a', LA n a' ((d, v) :: vs) → Kp Try.prog (G (b.at a' (.inRegion ops rest :: kk)) cs) wl Q) : Kp Try.prog (G (b.at a (.inRegion ops (i :: rest) :: kk)) cs) wl Q :=
  K.pure ho hb h hd hw v (fun o ho w => by
    have := h.eval hx
    subst this
    exact ⟨(ex_move ho).1 w, (ex_move ho).2 w⟩) k
theorem K.assign {x : Operand} {v : Value} {g : Option (Nat × Bool)} (ho : ∃ o, ops[i]? = some o ∧ o.dst = some d ∧ o.guard = g ∧ o.op = .assign x) (hb : b.kind ≠ .early) (h : LA n a vs) (hd : d < n) (hw : ∀ o : Oper, o.guard = g → Region.wanted o (yielded ops a.tmps) = true) (hx : evs vs x = some v)
    (k : ∀ a', LA n a' ((d, v) :: vs) → Kp Try.prog (G (b.at a' (.inRegion ops rest :: kk)) cs) wl Q) : Kp Try.prog (G (b.at a (.inRegion ops (i :: rest) :: kk)) cs) wl Q :=
  K.pure ho hb h hd hw v (fun o ho w => by
    have := h.eval hx
    subst this
    constructor <;> (unfold execOp; simp only [ho]; simp [go_sem])) k
theorem K.lss {x y : Operand} {i1 i2 : Int} {g : Option (Nat × Bool)} (ho : ∃ o, ops[i]? = some o ∧ o.dst = some d ∧ o.guard = g ∧ o.op = .binOp .lss 3 x y 3) (hb : b.kind ≠ .early) (h : LA n a vs) (hd : d < n) (hw : ∀ o : Oper, o.guard = g → Region.wanted o (yielded ops a.tmps) = true) (hx : evs vs x = some (.int .i64 i1)) (hy : evs vs y = some (.int .i64 i2))
    (k : ∀ a', LA n a' ((d, .bool (decide (i1 < i2))) :: vs) → Kp Try.prog (G (b.at a' (.inRegion ops rest :: kk)) cs) wl Q) : Kp Try.prog (G (b.at a (.inRegion ops (i :: rest) :: kk)) cs) wl Q :=
  K.pure ho hb h hd hw _ (fun o ho w => by
    have h1 := h.eval hx
    have h2 := h.eval hy
    constructor <;> (unfold execOp; simp only [ho, h1, h2]; simp [go_sem])) k
theorem K.neq {x y : Operand} {i1 i2 : Int} {g : Option (Nat × Bool)} (ho : ∃ o, ops[i]? = some o ∧ o.dst = some d ∧ o.guard = g ∧ o.op = .binOp .neq 3 x y 3) (hb : b.kind ≠ .early) (h : LA n a vs) (hd : d < n) (hw : ∀ o : Oper, o.guard = g → Region.wanted o (yielded ops a.tmps) = true) (hx : evs vs x = some (.int .i64 i1)) (hy : evs vs y = some (.int .i64 i2))
    (k : ∀ a', LA n a' ((d, .bool (decide (i1 ≠ i2))) :: vs) → Kp Try.prog (G (b.at a' (.inRegion ops rest :: kk)) cs) wl Q) : Kp Try.prog (G (b.at a (.inRegion ops (i :: rest) :: kk)) cs) wl Q :=
  K.pure ho hb h hd hw _ (fun o ho w => by
    have h1 := h.eval hx
    have h2 := h.eval hy
    have e : (i1 != i2) = decide (i1 ≠ i2) := by by_cases q : i1 = i2 <;> simp [q]
    constructor <;> (unfold execOp; simp only [ho, h1, h2]; simp [go_sem, e])) k
theorem K.not {x : Operand} {t : Bool} {g : Option (Nat × Bool)} (ho : ∃ o, ops[i]? = some o ∧ o.dst = some d ∧ o.guard = g ∧ o.op = .unOp .not 4 x) (hb : b.kind ≠ .early) (h : LA n a vs) (hd : d < n) (hw : ∀ o : Oper, o.guard = g → Region.wanted o (yielded ops a.tmps) = true) (hx : evs vs x = some (.bool t))
    (k : ∀ a', LA n a' ((d, .bool (!t)) :: vs) → Kp Try.prog (G (b.at a' (.inRegion ops rest :: kk)) cs) wl Q) : Kp Try.prog (G (b.at a (.inRegion ops (i :: rest) :: kk)) cs) wl Q :=
  K.pure ho hb h hd hw _ (fun o ho w => by
    have h1 := h.eval hx
    constructor <;> (unfold execOp; simp only [ho, h1]; simp [go_sem])) k
theorem K.pick {c x y : Operand} {t : Bool} {v : Value} {g : Option (Nat × Bool)} (ho : ∃ o, ops[i]? = some o ∧ o.dst = some d ∧ o.guard = g ∧ o.op = .pick c x y) (hb : b.kind ≠ .early) (h : LA n a vs) (hd : d < n) (hw : ∀ o : Oper, o.guard = g → Region.wanted o (yielded ops a.tmps) = true) (hc : evs vs c = some (.bool t)) (hx : evs vs (if t then x else y) = some v)
    (k : ∀ a', LA n a' ((d, v) :: vs) → Kp Try.prog (G (b.at a' (.inRegion ops rest :: kk)) cs) wl Q) : Kp Try.prog (G (b.at a (.inRegion ops (i :: rest) :: kk)) cs) wl Q :=
  K.pure ho hb h hd hw v (fun o ho w => by
    have h1 := h.eval hc
    have h2 := h.eval hx
    subst h2
    cases t <;> constructor <;> (unfold execOp; simp only [ho, h1]; simp [go_sem])) k
/-- A function that is entered where it is called. -/
structure Enters (f : Nat) : Prop where
  run : ∀ (args : Array Value) (w : World), (invoke (.fn (.func f) #[]) args).run Try.prog w = .ok (.enter f args) w
  ev : ∀ (args : Array Value) (w : World), (invoke (.fn (.func f) #[]) args).events Try.prog w #[] = #[]
theorem enters_of {f : Nat} {fn : Func} (hf : Try.prog.funcs[f]? = some fn) (hb : fn.body.isSome = true) (hn : ¬ fn.name = "runtime.NumGoroutine") : Enters f :=
  ⟨fun args w => by obtain ⟨c, hc⟩ := Option.isSome_iff_exists.1 hb; simp [invoke, callFunc, hf, hc, hn, go_sem], fun args w => by obtain ⟨c, hc⟩ := Option.isSome_iff_exists.1 hb; simp [invoke, callFunc, hf, hc, hn, go_sem]⟩
/-- To a function's entry. -/
theorem K.enter {f : Nat} {xs : Array Operand} {ts : Array TypeId} {args : Array Value} {g : Option (Nat × Bool)} (ho : ∃ o, ops[i]? = some o ∧ o.dst = some d ∧ o.guard = g ∧ o.op = .call { callee := .value (.func f), args := xs, argTypes := ts }) (hb : b.kind ≠ .early) (hw : ∀ o : Oper, o.guard = g → Region.wanted o (yielded ops a.tmps) = true) (hE : Enters f) (hx : xs.map a.eval = args)
    (k : Kp Try.prog (G (Frame.enter Try.prog f args .normal) (b.at a (.inRegion ops (i :: rest) :: kk) :: cs)) wl Q) : Kp Try.prog (G (b.at a (.inRegion ops (i :: rest) :: kk)) cs) wl Q := by
  obtain ⟨o, h1, h2, h3, h4⟩ := ho
  refine Kp.ctl (fun w => ?_) k
  have hr : (execOp a.eval o).run Try.prog w = .ok (.enter f args) w := by
    unfold execOp
    simp only [h4, resolve, hx]
    have : a.eval (.func f) = .func (.func f) #[] #[] := rfl
    simp [this, Deferred.ofValue, hE.run args w]
  have he : (execOp a.eval o).events Try.prog w #[] = #[] := by
    unfold execOp
    simp only [h4, resolve, hx]
    have : a.eval (.func f) = .func (.func f) #[] #[] := rfl
    simp [this, Deferred.ofValue, hE.ev args w]
  refine (stepG_enter h1 (hw o h3) hb hr).trans ?_
  unfold listed
  rw [he, seen_none]
/-- Back from it. -/
theorem K.back {op : Op} {g : Option (Nat × Bool)} (ho : ∃ o, ops[i]? = some o ∧ o.dst = some d ∧ o.guard = g ∧ o.op = op) (h : LA n a vs) (hd : d < n) (v : Value)
    (k : ∀ a', LA n a' ((d, v) :: vs) → Kp Try.prog (G (b.at a' (.inRegion ops rest :: kk)) cs) wl Q) : Kp Try.prog (G ((b.at a (.inRegion ops (i :: rest) :: kk)).finish v) cs) wl Q := by
  obtain ⟨o, h1, h2, h3, h4⟩ := ho
  rw [fin_at h1, h2]
  exact k _ (h.put hd v)
/-- A call of a lone function. -/
theorem K.call (hP : Prg Try.prog A) (hC : ∀ f, Closed Try.prog f) (hX : ∀ Dd f, Fix Try.prog Dd f) {f : Nat} (hA : A f) {xs : Array Operand} {ts : Array TypeId} {args : Array Value} {g : Option (Nat × Bool)} (ho : ∃ o, ops[i]? = some o ∧ o.dst = some d ∧ o.guard = g ∧ o.op = .call { callee := .value (.func f), args := xs, argTypes := ts }) (hb : b.kind ≠ .early) (h : LA n a vs) (hd : d < n) (hw : ∀ o : Oper, o.guard = g → Region.wanted o (yielded ops a.tmps) = true) (hE : Enters f) (hx : xs.map a.eval = args)
    {Rr : Ending → World → Prop} (hR : ∀ T, Calls Try.prog f args { wl with tape := T, drawn := 0 } Rr) (hRr : ∀ e w, Rr e w → ∃ v, e = .returned v)
    (k : ∀ v wE a', Rr (.returned v) wE → LA n a' ((d, v) :: vs) → Kp Try.prog (G (b.at a' (.inRegion ops rest :: kk)) cs) wE Q) : Kp Try.prog (G (b.at a (.inRegion ops (i :: rest) :: kk)) cs) wl Q :=
  K.enter ho hb hw hE hx (Kp.call hP hC hX hA hR hRr fun v wE hr => K.back ho h hd v fun a' ha => k v wE a' hr ha)
theorem LA.args1 (h : LA n a vs) {x : Operand} {v : Value} (hx : evs vs x = some v) : (#[x] : Array Operand).map a.eval = #[v] := by simp [h.eval hx]
theorem LA.args2 (h : LA n a vs) {x y : Operand} {v u : Value} (hx : evs vs x = some v) (hy : evs vs y = some u) : (#[x, y] : Array Operand).map a.eval = #[v, u] := by simp [h.eval hx, h.eval hy]
end
end Go.Proofs.Ytdjnnhdeijnhgab.Rn
