/-
  The sender sendTicks as a pipe's sender.
-/
import Derived.Test.YtdjnnhdeijnhgabMw15
import Derived.Test.YtdjnnhdeijnhgabMw3
import Derived.Test.YtdjnnhdeijnhgabMw2
import Derived.Deep.MidRow
import Derived.IntWalk
namespace Go.Proofs.Ytdjnnhdeijnhgab.Rn
open Go Go.Conc Va
set_option linter.all false
set_option maxRecDepth 20000

/-- The frame below the sender's: it has nothing left to do. -/
noncomputable def pfr : Frame := { (default : Frame) with fn := Try.prog.funcs.size, defers := [], mode := .panicking [goexitEntry] }
noncomputable def bS : Frame := { (default : Frame) with fn := 36, kind := .deferred }
noncomputable def KS : List Item := [.inLoop LcS, .inBlock 0, .code (.region 5 rS5 false)]
/-- The ticks lie there, and are the sender's. -/
def TkAt (ao : Option Addr) (l : List Tk) (ch : Nat) (w : World) (N : Nat → Prop) : Prop := ∀ k x, l[k]? = some x → ∃ bt off, ao = some ⟨bt, off, none⟩ ∧ N bt ∧ bt ≠ ch ∧ w.rangeAt bt (off + k * 3) [.int .i64 x.v, .bool x.k, .bool x.h]
noncomputable def aS (ao : Option Addr) (n cap ch k : Nat) (t2 t3 t4 t5 t9 t10 t11 t12 t13 t14 t15 : Value) : Act :=
  ⟨#[.slice ao n cap, .chan (some ch), t2, t3, t4, t5, .slice ao n cap, .int .i64 n, .int .i64 k, t9, t10, t11, t12, t13, t14, t15], []⟩
noncomputable def tkV (l : List Tk) (k : Nat) : Value := aTk (l.getD k default)
/-- Where the sender sends tick k, or closes. -/
def AtS (base ch cap : Nat) (ao : Option Addr) (l : List Tk) (k : Nat) (fr : Frame) (w : World) (N : Nat → Prop) : Prop :=
  base ≤ w.heap.size ∧ N ch ∧ TkAt ao l ch w N ∧ ∃ t2 t3 t4 t5 t9 t10 t11 t12 t13 t14 t15,
    (k < l.length ∧ t12 = .chan (some ch) ∧ t13 = tkV l k ∧ fr = bS.at (aS ao l.length cap ch k t2 t3 t4 t5 t9 t10 t11 t12 t13 t14 t15) (.inRegion rS3 [2] :: .inBlock 1 :: .code (.region 4 rS4 false) :: KS)) ∨
    (k = l.length ∧ t15 = .chan (some ch) ∧ fr = bS.at (aS ao l.length cap ch k t2 t3 t4 t5 t9 t10 t11 t12 t13 t14 t15) [.inRegion rS5 [1]])
noncomputable def piS (j ch base cap : Nat) (ao : Option Addr) (l : List Tk) (S : Nat → Prop) (w0 : World) : Pi :=
  { P := Try.prog, j := j, ch := ch, n := l.length, base := base, Mq := 4, v := tkV l, S := S, w0 := w0, pf := [pfr], At := AtS base ch cap ao l }
section
variable {j ch base cap : Nat} {ao : Option Addr} {l : List Tk} {S : Nat → Prop} {w0 : World}
theorem TkAt.rely {w w₁ : World} {N : Nat → Prop} (h : TkAt ao l ch w N) (ho : OthOk (piS j ch base cap ao l S w0) N w w₁) : TkAt ao l ch w₁ N := by
  intro k x hx
  obtain ⟨bt, off, h1, h2, h3, h4⟩ := h k x hx
  refine ⟨bt, off, h1, h2, h3, ?_⟩
  have := ho.same bt h2 h3
  intro i v hi
  have h5 := h4 i v hi
  unfold World.cell? at h5 ⊢
  simp only at h5 ⊢
  rw [this]
  exact h5
theorem TkAt.moreN {w : World} {N N' : Nat → Prop} (h : TkAt ao l ch w N) (hN : ∀ b, N b → N' b) : TkAt ao l ch w N' := fun k x hx => by
  obtain ⟨bt, off, h1, h2, h3, h4⟩ := h k x hx
  exact ⟨bt, off, h1, hN _ h2, h3, h4⟩
theorem relyS : RelyAt (piS j ch base cap ao l S w0) := by
  intro k fr w w₁ N h ho
  obtain ⟨h1, h2, h3, h4⟩ := h
  exact ⟨Nat.le_trans h1 ho.size, h2, h3.rely ho, h4⟩
variable {k m : Nat} {N : Nat → Prop} {w : World} {fr fr' : Frame} {cs cs' : List Frame}
theorem ge_ctl (h : ∀ w, stepG Try.prog false (G fr cs) w = .go (G fr' cs') w #[]) (hz : Gz (piS j ch base cap ao l S w0) k m (G fr' cs') w N) : Gz (piS j ch base cap ao l S w0) k (m + 1) (G fr cs) w N := by
  exact gz_ctl relyS h hz
variable {b : Frame} {a : Act} {ops : Array Oper} {i d : Nat} {rest : List Nat} {kk : List Item} {o : Oper}
/-- A move, and whatever else looks at nothing. -/
theorem ge_pure (ho : ops[i]? = some o) (hg : o.guard = none) (hb : b.kind ≠ .early) {v : Value}
    (hr : ∀ w₁, (execOp a.eval o).run Try.prog w₁ = .ok (.value v) w₁) (he : ∀ w₁, (execOp a.eval o).events Try.prog w₁ #[] = #[])
    (hz : Gz (piS j ch base cap ao l S w0) k m (G (b.at (a.put o.dst v) (.inRegion ops rest :: kk)) cs) w N) : Gz (piS j ch base cap ao l S w0) k (m + 1) (G (b.at a (.inRegion ops (i :: rest) :: kk)) cs) w N := by
  refine gz_same relyS ho hg hb (v := v) (fun w₁ _ => ⟨hr w₁, fun e he' => ?_⟩) hz
  have := he w₁
  change e ∈ (execOp a.eval o).events Try.prog w₁ #[] at he'
  rw [this] at he'
  simp at he'
theorem ge_same (ho : ops[i]? = some o) (hg : o.guard = none) (hb : b.kind ≠ .early) {v : Value}
    (hr : ∀ w₁, OthOk (piS j ch base cap ao l S w0) N w w₁ → (execOp a.eval o).run Try.prog w₁ = .ok (.value v) w₁ ∧ ∀ e ∈ ((execOp a.eval o).runT Try.prog w₁ #[]).2, ∃ b wr, e = ⟨.cell b, wr, false⟩ ∧ N b.block)
    (hz : Gz (piS j ch base cap ao l S w0) k m (G (b.at (a.put o.dst v) (.inRegion ops rest :: kk)) cs) w N) : Gz (piS j ch base cap ao l S w0) k (m + 1) (G (b.at a (.inRegion ops (i :: rest) :: kk)) cs) w N := by
  exact gz_same relyS ho hg hb (v := v) hr hz
theorem ex_move {x : Operand} (h : o.op = .move x) : (∀ w₁ : World, (execOp a.eval o).run Try.prog w₁ = .ok (.value (a.eval x)) w₁) ∧ ∀ w₁ : World, (execOp a.eval o).events Try.prog w₁ #[] = #[] := by
  constructor <;> (intro w₁; unfold execOp; simp only [h]; simp [go_sem])
theorem ge_move {x : Operand} {v : Value} (ho : ∃ o, ops[i]? = some o ∧ o.dst = some d ∧ o.guard = none ∧ o.op = .move x) (hb : b.kind ≠ .early) (hv : a.eval x = v)
    (hz : Gz (piS j ch base cap ao l S w0) k m (G (b.at (a.put (some d) v) (.inRegion ops rest :: kk)) cs) w N) : Gz (piS j ch base cap ao l S w0) k (m + 1) (G (b.at a (.inRegion ops (i :: rest) :: kk)) cs) w N := by
  obtain ⟨o, h1, h2, h3, h4⟩ := ho
  subst hv
  refine ge_pure h1 h3 hb (ex_move h4).1 (ex_move h4).2 ?_
  rw [h2]
  exact hz
theorem put_none {a : Act} {v : Value} : a.put none v = a := rfl
theorem put5 {t2 t3 t4 t5 t9 t10 t11 t12 t13 t14 t15 v : Value} {n : Nat} : (aS ao n cap ch k t2 t3 t4 t5 t9 t10 t11 t12 t13 t14 t15).put (some 5) v = aS ao n cap ch k t2 t3 t4 v t9 t10 t11 t12 t13 t14 t15 := rfl
theorem put9 {t2 t3 t4 t5 t9 t10 t11 t12 t13 t14 t15 v : Value} {n : Nat} : (aS ao n cap ch k t2 t3 t4 t5 t9 t10 t11 t12 t13 t14 t15).put (some 9) v = aS ao n cap ch k t2 t3 t4 t5 v t10 t11 t12 t13 t14 t15 := rfl
theorem put10 {t2 t3 t4 t5 t9 t10 t11 t12 t13 t14 t15 v : Value} {n : Nat} : (aS ao n cap ch k t2 t3 t4 t5 t9 t10 t11 t12 t13 t14 t15).put (some 10) v = aS ao n cap ch k t2 t3 t4 t5 t9 v t11 t12 t13 t14 t15 := rfl
theorem put11 {t2 t3 t4 t5 t9 t10 t11 t12 t13 t14 t15 v : Value} {n : Nat} : (aS ao n cap ch k t2 t3 t4 t5 t9 t10 t11 t12 t13 t14 t15).put (some 11) v = aS ao n cap ch k t2 t3 t4 t5 t9 t10 v t12 t13 t14 t15 := rfl
theorem put12 {t2 t3 t4 t5 t9 t10 t11 t12 t13 t14 t15 v : Value} {n : Nat} : (aS ao n cap ch k t2 t3 t4 t5 t9 t10 t11 t12 t13 t14 t15).put (some 12) v = aS ao n cap ch k t2 t3 t4 t5 t9 t10 t11 v t13 t14 t15 := rfl
theorem put13 {t2 t3 t4 t5 t9 t10 t11 t12 t13 t14 t15 v : Value} {n : Nat} : (aS ao n cap ch k t2 t3 t4 t5 t9 t10 t11 t12 t13 t14 t15).put (some 13) v = aS ao n cap ch k t2 t3 t4 t5 t9 t10 t11 t12 v t14 t15 := rfl
theorem put14 {t2 t3 t4 t5 t9 t10 t11 t12 t13 t14 t15 v : Value} {n : Nat} : (aS ao n cap ch k t2 t3 t4 t5 t9 t10 t11 t12 t13 t14 t15).put (some 14) v = aS ao n cap ch k t2 t3 t4 t5 t9 t10 t11 t12 t13 v t15 := rfl
theorem put15 {t2 t3 t4 t5 t9 t10 t11 t12 t13 t14 t15 v : Value} {n : Nat} : (aS ao n cap ch k t2 t3 t4 t5 t9 t10 t11 t12 t13 t14 t15).put (some 15) v = aS ao n cap ch k t2 t3 t4 t5 t9 t10 t11 t12 t13 t14 v := rfl
theorem put8 {t2 t3 t4 t5 t9 t10 t11 t12 t13 t14 t15 : Value} {n k' : Nat} : (aS ao n cap ch k t2 t3 t4 t5 t9 t10 t11 t12 t13 t14 t15).put (some 8) (.int .i64 k') = aS ao n cap ch k' t2 t3 t4 t5 t9 t10 t11 t12 t13 t14 t15 := rfl

theorem load_tick {w₁ : World} {bt off : Nat} {x : Tk} (h : w₁.rangeAt bt off [.int .i64 x.v, .bool x.k, .bool x.h]) {o : Oper} {a : Act} {t : Nat} (hy : a.eval (.tmp t) = .pointer (some ⟨bt, off, none⟩)) (ho : o.op = .load 42 (.tmp t)) :
    (execOp a.eval o).run Try.prog w₁ = .ok (.value (aTk x)) w₁ ∧ (execOp a.eval o).events Try.prog w₁ #[] = #[⟨.cell ⟨bt, off, none⟩, false, false⟩, ⟨.cell ⟨bt, off + 1, none⟩, false, false⟩, ⟨.cell ⟨bt, off + 2, none⟩, false, false⟩] := by
  have hl := run_loadVar_mid (P := Try.prog) w₁ bt off 42 [.int .i64 x.v, .bool x.k, .bool x.h] _ h Try.underlying42 rfl (by kernel_rfl)
  have c0 : w₁.cell? ⟨bt, off, none⟩ = some (.int .i64 x.v) := h 0 _ rfl
  have c1 : w₁.cell? ⟨bt, off + 1, none⟩ = some (.bool x.k) := h 1 _ rfl
  have c2 : w₁.cell? ⟨bt, off + 2, none⟩ = some (.bool x.h) := h 2 _ rfl
  constructor
  · unfold execOp
    simp only [ho, hy, Instr.loadAt, Instr.sureAddr, Sem.run_bind, Sem.run_pure, Result.andThen_ok, hl]
    rfl
  · simp only [Act.eval, Array.getD_eq_getD_getElem?] at hy
    unfold execOp
    simp only [ho]
    simp [go_sem, hy, c0, c1, c2]
theorem gz_at {fr : Frame} (h : AtS base ch cap ao l k fr w N) : ∀ m, Gz (piS j ch base cap ao l S w0) k m (G fr [pfr]) w N
  | 0 => ⟨fr, rfl, h⟩
  | _ + 1 => .inl ⟨fr, rfl, h⟩
theorem infoTk : (Try.prog.info? 42).map (fun i => (i.zero, i.size, i.bytes)) = some (some (.agg #[.int .i64 0, .bool false, .bool false]), 3, 16) := by kernel_rfl
theorem sizeTk : (Try.prog.info? 42).map (·.size) = some 3 := by kernel_rfl
theorem alloc_tick {o : Oper} {a : Act} (ho : o.op = .alloc 42) (w₁ : World) : (execOp a.eval o).runT Try.prog w₁ #[] = (.ok (.value (.pointer (some ⟨w₁.heap.size, 0, none⟩))) { w₁ with heap := w₁.heap.push (.cells #[.int .i64 0, .bool false, .bool false] 42 (0, 0)) }, #[]) := by
  obtain ⟨i0, hi, hz0, hz1, hz2⟩ := info_parts infoTk
  rw [Sem.runT_eq]
  refine Prod.ext ?_ ?_
  · unfold execOp
    simp only [ho]
    simp [go_sem, Instr.alloc, zeroValue, typeInfo, newVar, hi, hz0, hz1, Value.cells]
  · unfold execOp
    simp only [ho]
    simp [go_sem]
theorem setRow_ne (w : World) (g : Nat) (cells : Array Value) {b : Nat} (hb : b ≠ g) : (w.setRow g cells).heap[b]? = w.heap[b]? := by
  unfold World.setRow
  simp [Array.getElem?_modify, Ne.symm hb]
theorem store_tick {w₁ : World} {g : Nat} {old : Array Value} (hg : w₁.heap[g]? = some (.cells old 42 (0, 0))) (hs : old.size = 3) {x : Tk} {o : Oper} {a : Act} {s t : Nat} (hx : a.eval (.tmp s) = .pointer (some ⟨g, 0, none⟩)) (hy : a.eval (.tmp t) = aTk x) (ho : o.op = .store 42 (.tmp s) (.tmp t)) :
    (execOp a.eval o).run Try.prog w₁ = .ok .skip (w₁.setRow g #[.int .i64 x.v, .bool x.k, .bool x.h]) ∧ ∀ e ∈ ((execOp a.eval o).runT Try.prog w₁ #[]).2, ∃ b wr, e = ⟨.cell b, wr, false⟩ ∧ b.block = g := by
  have hr := run_storeVar_row (P := Try.prog) w₁ g 42 42 old #[.int .i64 x.v, .bool x.k, .bool x.h] hg sizeTk hs (by simp [Value.oneCell'])
  unfold aTk at hy
  constructor
  · unfold execOp
    simp only [ho, hx, hy, Instr.storeAt, Instr.sureAddr, Sem.run_bind, Sem.run_pure, Result.andThen_ok, hr]
  · obtain ⟨i0, hi, hz0, hz1, hz2⟩ := info_parts infoTk
    have e1 : ((execOp a.eval o).runT Try.prog w₁ #[]).2 = ((storeCells ⟨g, 0, none⟩ [.int .i64 x.v, .bool x.k, .bool x.h] 0).runT Try.prog w₁ #[]).2 := by
      show (execOp a.eval o).events Try.prog w₁ #[] = (storeCells ⟨g, 0, none⟩ [.int .i64 x.v, .bool x.k, .bool x.h] 0).events Try.prog w₁ #[]
      unfold execOp
      simp only [ho, hx, hy, Instr.storeAt, Instr.sureAddr, storeVar, sizeOf, typeInfo, hi, hz1, Value.cells]
      simp [hi, hz1]
    rw [e1]
    intro e he
    have hcell : ∀ j, j < [Value.int .i64 x.v, .bool x.k, .bool x.h].length → (w₁.cell? ((⟨g, 0, none⟩ : Addr).add (0 + j))).isSome = true := by
      intro j hj
      simp only [List.length_cons, List.length_nil] at hj
      have hj2 : j < old.size := by omega
      rw [Addr.add_mid]
      unfold World.cell?
      simp only [hg]
      simp [hj2]
    rcases storeCells_ev (P := Try.prog) ⟨g, 0, none⟩ [.int .i64 x.v, .bool x.k, .bool x.h] 0 w₁ #[] hcell e he with q | ⟨b, q, hb⟩
    · simp at q
    · exact ⟨b, true, q, hb⟩
/-- The head of the loop. -/
theorem headS (hl : l.length ≤ 1048576) (hk : k ≤ l.length) (hb0 : base ≤ w.heap.size) (hch : N ch) (ht : TkAt ao l ch w N) {t2 t3 t4 t5 t9 t10 t11 t12 t13 t14 t15 : Value} :
    Gz (piS j ch base cap ao l S w0) k 40 (G (bS.at (aS ao l.length cap ch k t2 t3 t4 t5 t9 t10 t11 t12 t13 t14 t15) (.code LcS :: KS)) [pfr]) w N := by
  have hbe : bS.kind ≠ .early := by unfold bS; simp
  rw [LcS_eq]
  refine ge_ctl (fun w => stepG_seq) ?_
  refine ge_ctl (fun w => stepG_region) ?_
  rw [szS1]
  obtain ⟨o, h1, h2, h3, h4⟩ := oS10
  refine ge_pure (v := .bool (decide ((k : Int) < l.length))) h1 h3 hbe (fun w₁ => ?_) (fun w₁ => ?_) ?_
  · unfold execOp
    simp only [h4]
    simp [go_sem, Act.eval, aS]
  · unfold execOp
    simp only [h4]
    simp [go_sem, Act.eval, aS]
  rw [h2, put9]
  refine ge_ctl (fun w => stepG_region_end) ?_
  refine ge_ctl (fun w => stepG_seq) ?_
  refine ge_ctl (fun w => stepG_cond (t := decide ((k : Int) < l.length)) rfl) ?_
  by_cases hlt : k < l.length
  · have hlti : (k : Int) < l.length := by omega
    rw [decide_eq_true hlti, if_pos rfl]
    refine ge_ctl (fun w => stepG_skip) ?_
    rw [XcS_eq]
    refine ge_ctl (fun w => stepG_seq) ?_
    refine ge_ctl (fun w => stepG_block) ?_
    refine ge_ctl (fun w => stepG_seq) ?_
    refine ge_ctl (fun w => stepG_region) ?_
    rw [szS2]
    obtain ⟨x, hx⟩ : ∃ x, l[k]? = some x := ⟨l[k], by simp [hlt]⟩
    obtain ⟨bt, off, rfl, q1, q2, q3⟩ := ht k x hx
    obtain ⟨o, h1, h2, h3, h4⟩ := oS20
    refine ge_pure (v := .pointer (some ⟨bt, off + k * 3, none⟩)) h1 h3 hbe (fun w₁ => ?_) (fun w₁ => ?_) ?_
    · unfold execOp
      simp only [h4]
      simp [go_sem, Act.eval, aS, Try.underlying30, Addr.add, hlti]
    · unfold execOp
      simp only [h4]
      simp [go_sem, Act.eval, aS, Try.underlying30, Addr.add, hlti]
    rw [h2, put10]
    obtain ⟨o, h1, h2, h3, h4⟩ := oS21
    refine ge_same (v := aTk x) h1 h3 hbe (fun w₁ ho => ?_) ?_
    · have hr1 : w₁.rangeAt bt (off + k * 3) [.int .i64 x.v, .bool x.k, .bool x.h] := by
        obtain ⟨bt', off', e, -, -, q⟩ := ht.rely ho k x hx
        cases e
        exact q
      obtain ⟨g1, g2⟩ := load_tick hr1 (show (aS _ _ _ _ _ _ _ _ _ _ _ _ _ _ _ _).eval (.tmp 10) = _ from rfl) h4
      refine ⟨g1, fun e he => ?_⟩
      change e ∈ (execOp _ _).events Try.prog w₁ #[] at he
      rw [g2] at he
      simp only [List.mem_toArray, List.mem_cons, List.not_mem_nil, or_false] at he
      rcases he with rfl | rfl | rfl <;> exact ⟨_, _, rfl, q1⟩
    rw [h2, put11]
    obtain ⟨o, h1, h2, h3, h4⟩ := oS22
    refine gz_new (π := piS j ch base cap (some ⟨bt, off, none⟩) l S w0) h1 h3 hbe (ob := .cells #[.int .i64 0, .bool false, .bool false] 42 (0, 0)) hb0 hch (fun w₁ => ?_) (fun w₁ ho ho2 hat hb1 hne => ?_)
    · exact alloc_tick h4 w₁
    rw [h2, put5]
    obtain ⟨o, h1, h2, h3, h4⟩ := oS23
    refine gz_put (π := piS j ch base cap (some ⟨bt, off, none⟩) l S w0) (g := w₁.heap.size) (cells := #[.int .i64 x.v, .bool x.k, .bool x.h]) h1 h3 hbe (.inr rfl) hb1 hne (fun w₂ ho3 => ?_) (fun w₂ ho3 => ?_)
    · exact store_tick (x := x) ((ho3.same _ (.inr rfl) hne).trans hat) rfl rfl rfl h4
    have hN2 : ∀ b, N b → N b ∨ b = w₁.heap.size := fun b h => .inl h
    have hr2 : (w₂.setRow w₁.heap.size #[.int .i64 x.v, .bool x.k, .bool x.h]).heap[w₁.heap.size]? = some (.cells #[.int .i64 x.v, .bool x.k, .bool x.h] 42 (0, 0)) := setRow_heap w₂ w₁.heap.size _ _ _ _ ((ho3.same _ (.inr rfl) hne).trans hat)
    have ht2 : TkAt (some ⟨bt, off, none⟩) l ch (w₂.setRow w₁.heap.size #[.int .i64 x.v, .bool x.k, .bool x.h]) (fun b => N b ∨ b = w₁.heap.size) := by
      intro k' x' hx'
      obtain ⟨bt', off', e, r1, r2, r3⟩ := ht.rely ho k' x' hx'
      refine ⟨bt', off', e, .inl r1, r2, ?_⟩
      have hlow : bt' < w₁.heap.size := ho.low bt' r1
      have e2 : (w₂.setRow w₁.heap.size #[.int .i64 x.v, .bool x.k, .bool x.h]).heap[bt']? = w₁.heap[bt']? := by
        rw [setRow_ne _ _ _ (by omega)]
        refine (ho3.same bt' (.inl r1) r2).trans ?_
        show (w₁.heap.push _)[bt']? = _
        rw [Array.getElem?_push, if_neg (by omega)]
      intro i v hi
      have h5 := r3 i v hi
      unfold World.cell? at h5 ⊢
      simp only at h5 ⊢
      rw [e2]
      exact h5
    have hb2 : base ≤ (w₂.setRow w₁.heap.size #[.int .i64 x.v, .bool x.k, .bool x.h]).heap.size := by
      have h8 : base ≤ w₁.heap.size := hb1
      have h9 : w₁.heap.size + 1 ≤ w₂.heap.size := by simpa using ho3.size
      unfold World.setRow
      simp
      omega
    rw [h2, put_none]
    refine ge_ctl (fun w => stepG_region_end) ?_
    refine ge_ctl (fun w => stepG_region) ?_
    rw [szS3]
    refine ge_move oS30 hbe (v := .chan (some ch)) rfl ?_
    rw [put12]
    obtain ⟨o, h1, h2, h3, h4⟩ := oS31
    refine ge_same (v := aTk x) h1 h3 hbe (fun w₃ ho4 => ?_) ?_
    · have hat3 := (ho4.same w₁.heap.size (.inr rfl) hne).trans hr2
      obtain ⟨g1, g2⟩ := load_tick (w₁ := w₃) (bt := w₁.heap.size) (off := 0) (x := x) (a := aS (some ⟨bt, off, none⟩) l.length cap ch k t2 t3 t4 (.pointer (some ⟨w₁.heap.size, 0, none⟩)) (.bool true) (.pointer (some ⟨bt, off + k * 3, none⟩)) (aTk x) (.chan (some ch)) t13 t14 t15) (t := 5) (o := o) (by
        intro i v hi
        unfold World.cell?
        simp only [hat3]
        match i, hi with
        | 0, hi => cases hi; rfl
        | 1, hi => cases hi; rfl
        | 2, hi => cases hi; rfl) rfl h4
      refine ⟨g1, fun e he => ?_⟩
      change e ∈ (execOp _ _).events Try.prog w₃ #[] at he
      rw [g2] at he
      simp only [List.mem_toArray, List.mem_cons, List.not_mem_nil, or_false] at he
      rcases he with rfl | rfl | rfl <;> exact ⟨_, _, rfl, .inr rfl⟩
    rw [h2, put13]
    refine gz_at ⟨hb2, .inl hch, ht2, t2, t3, t4, _, _, _, _, _, _, t14, t15, Or.inl ⟨hlt, rfl, ?_, rfl⟩⟩ _
    unfold tkV
    simp [List.getD_eq_getElem?_getD, hx]
  · have hke : k = l.length := by omega
    subst hke
    rw [decide_eq_false (by omega), if_neg (by simp)]
    refine ge_ctl (fun w => stepG_exit (k' := [.code (.region 5 rS5 false)]) rfl) ?_
    refine ge_ctl (fun w => stepG_region) ?_
    rw [szS5]
    refine ge_move oS50 hbe (v := .chan (some ch)) rfl ?_
    rw [put15]
    exact gz_at ⟨hb0, hch, ht, t2, t3, t4, t5, _, t10, t11, t12, t13, t14, _, Or.inr ⟨rfl, rfl, rfl⟩⟩ _
/-- Behind a send: to the loop's head. -/
theorem nextS (hl : l.length ≤ 1048576) (hk : k < l.length) (hb0 : base ≤ w.heap.size) (hch : N ch) (ht : TkAt ao l ch w N) {t2 t3 t4 t5 t9 t10 t11 t12 t13 t14 t15 : Value} :
    Gz (piS j ch base cap ao l S w0) (k + 1) 47 (G (bS.at (aS ao l.length cap ch k t2 t3 t4 t5 t9 t10 t11 t12 t13 t14 t15) (.inRegion rS3 [] :: .inBlock 1 :: .code (.region 4 rS4 false) :: KS)) [pfr]) w N := by
  have hbe : bS.kind ≠ .early := by unfold bS; simp
  refine ge_ctl (fun w => stepG_region_end) ?_
  refine ge_ctl (fun w => stepG_inBlock) ?_
  refine ge_ctl (fun w => stepG_region) ?_
  rw [szS4]
  obtain ⟨o, h1, h2, h3, h4⟩ := oS40
  have hwrap : IntKind.i64.wrap ((k : Int) + 1) = (k : Int) + 1 := IntWalk.i64_in _ (by omega)
  refine ge_pure (v := .int .i64 ((k + 1 : Nat) : Int)) h1 h3 hbe (fun w₁ => ?_) (fun w₁ => ?_) ?_
  · unfold execOp
    simp only [h4]
    simp [go_sem, Act.eval, aS, hwrap]
  · unfold execOp
    simp only [h4]
    simp [go_sem, Act.eval, aS]
  rw [h2, put14]
  refine ge_move oS41 hbe (v := .int .i64 ((k + 1 : Nat) : Int)) rfl ?_
  rw [put8]
  refine ge_ctl (fun w => stepG_region_end) ?_
  refine ge_ctl (fun w => stepG_inLoop) ?_
  exact headS (k := k + 1) hl (by omega) hb0 hch ht
theorem quits_end {g : Goroutine} (h : g.status = .finished) : QuitsIn Try.prog 0 g := h
theorem pfr_end (w : World) : stepG Try.prog false (G pfr []) w = .go { frame := pfr, callers := [], status := .finished, dying := none } w #[] := by
  have hf : Try.prog.funcs[Try.prog.funcs.size]? = none := by simp
  unfold pfr G
  have ht : (default : Frame).todo = [] := rfl
  simp [stepG, unwind, Frame.catches, goexitEntry, hf, ht]
theorem ret_end {a : Act} (hd : a.defers = []) (w : World) : stepG Try.prog false (G { bS.at a [] with mode := .returning } [pfr]) w = .go (G pfr []) w #[] := by
  have hf : Try.prog.funcs[36]? = some Try.f36 := Try.func36
  have hr : (results Try.f36 a.tmps).runT Try.prog w #[] = (.ok (.tuple #[]) w, #[]) := by
    rw [Sem.runT_eq, results_none (fn := Try.f36) rfl, events_results_none (fn := Try.f36) rfl]
  have hm : (bS.at a []).defers = [] := hd
  simp only [bS, Frame.at] at hm ⊢
  simp only [G, stepG, unwind, hd, hf, hr]
  simp [doReturn, GStep.after, pfr, goexitEntry, seen]
/-- Behind the close: it leaves. -/
theorem goneS {a : Act} (hd : a.defers = []) : QuitsIn Try.prog 4 (G (bS.at a [.inRegion rS5 []]) [pfr]) := by
  refine QuitsIn.ctl rfl (fun w => stepG_region_end) ?_
  refine QuitsIn.ctl rfl (fun w => stepG_end) ?_
  refine QuitsIn.ctl rfl (fun w => ret_end hd w) ?_
  refine QuitsIn.ctl rfl (fun w => pfr_end w) ?_
  exact quits_end rfl
theorem okS (hl : l.length ≤ 1048576) (hj : j ≠ 0) (hc : base ≤ ch) : PiOk (piS j ch base cap ao l S w0) := by
  have hbe : bS.kind ≠ .early := by unfold bS; simp
  refine ⟨hj, hc, relyS, fun k fr w N hk h => ?_, fun fr w N s r tm h hch => ?_⟩
  · obtain ⟨h1, h2, h3, t2, t3, t4, t5, t9, t10, t11, t12, t13, t14, t15, ⟨q1, rfl, rfl, rfl⟩ | ⟨q1, -⟩⟩ := h
    · obtain ⟨o, o1, o2, o3, o4⟩ := oS32
      refine ⟨?_, 47, ?_⟩
      · have hr : (execOp (aS ao l.length cap ch k t2 t3 t4 t5 t9 t10 t11 (.chan (some ch)) (tkV l k) t14 t15).eval o).run Try.prog w = .ok (.comm (sendC (piS j ch base cap ao l S w0) k) true .send) w := by
          unfold execOp
          simp only [o4]
          simp [go_sem, Act.eval, aS, sendC, scase, piS]
        have he : (execOp (aS ao l.length cap ch k t2 t3 t4 t5 t9 t10 t11 (.chan (some ch)) (tkV l k) t14 t15).eval o).events Try.prog w #[] = #[] := by
          unfold execOp
          simp only [o4]
          simp [go_sem, Act.eval, aS]
        have := stepG_comm (P := Try.prog) (main := false) (cs := [pfr]) (b := bS) (k := .inBlock 1 :: .code (.region 4 rS4 false) :: KS) (rest := []) o1 (by simp [Region.wanted, o3]) hbe hr
        refine this.trans ?_
        unfold listed
        rw [he]
        rfl
      · rw [fin_at o1, o2, put_none]
        exact nextS hl q1 h1 h2 h3
    · exact absurd hk (by show ¬ k < l.length; omega)
  · obtain ⟨h1, h2, h3, t2, t3, t4, t5, t9, t10, t11, t12, t13, t14, t15, ⟨q1, -⟩ | ⟨q1, rfl, rfl⟩⟩ := h
    · exact absurd q1 (Nat.lt_irrefl _)
    · obtain ⟨o, o1, o2, o3, o4⟩ := oS51
      refine ⟨?_, G (bS.at (aS ao l.length cap ch l.length t2 t3 t4 t5 t9 t10 t11 t12 t13 t14 (.chan (some ch))) [.inRegion rS5 []]) [pfr], rfl, ?_, goneS rfl⟩
      · simp [mayWake, G, Frame.at, o1, o4]
      · have := stepG_close (P := Try.prog) (main := false) (cs := [pfr]) (b := bS) (a := aS ao l.length cap ch l.length t2 t3 t4 t5 t9 t10 t11 t12 t13 t14 (.chan (some ch))) (kk := []) (rest := []) o1 (by simp [Region.wanted, o3]) hbe o4 (c := ch) rfl hch (by rfl)
        rw [o2, put_none] at this
        exact this
end
end Go.Proofs.Ytdjnnhdeijnhgab.Rn

/-
  The sender sendTicks: from its birth.
-/
namespace Go.Proofs.Ytdjnnhdeijnhgab.Rn
open Go Go.Conc Va
set_option linter.all false
set_option maxRecDepth 20000

noncomputable def dS (ao : Option Addr) (n cap ch : Nat) : Deferred := ⟨.fn (.func 36) #[], #[.slice ao n cap, .chan (some ch)]⟩
noncomputable def a0S (ao : Option Addr) (n cap ch : Nat) : Act := ⟨#[.slice ao n cap, .chan (some ch), undef, undef, undef, undef, undef, undef, undef, undef, undef, undef, undef, undef, undef, undef], []⟩
theorem enterS (ao : Option Addr) (n cap ch : Nat) : Frame.enter Try.prog 36 #[.slice ao n cap, .chan (some ch)] .deferred = bS.at (a0S ao n cap ch) [.code bodyS] := by
  have hf : Try.prog.funcs[36]? = some Try.f36 := Try.func36
  unfold Frame.enter
  simp only [hf, Option.map_some, Option.bind_some, bodyS_some, Option.getD_some]
  rfl
theorem birth (ao : Option Addr) (n cap ch : Nat) (w : World) : stepG Try.prog false (born Try.prog (dS ao n cap ch)) w = .go (G (bS.at (a0S ao n cap ch) [.code bodyS]) [pfr]) w #[] := by
  have hf : Try.prog.funcs[36]? = some Try.f36 := Try.func36
  have hn : ¬ Try.f36.name = "runtime.NumGoroutine" := by
    rw [show Try.f36.name = "loop.example/g00060/impl.sendTicks" from rfl]
    decide
  have hr : (invoke (.fn (.func 36) #[]) #[.slice ao n cap, .chan (some ch)]).run Try.prog w = .ok (.enter 36 #[.slice ao n cap, .chan (some ch)]) w := by
    simp [invoke, callFunc, hf, bodyS_some, hn, go_sem]
  have he : (invoke (.fn (.func 36) #[]) #[.slice ao n cap, .chan (some ch)]).events Try.prog w #[] = #[] := by
    simp [invoke, callFunc, hf, bodyS_some, hn, go_sem]
  rw [← enterS]
  unfold born dS
  simp only [stepG, unwind, callDeferred]
  simp [hr, he, GStep.after, seen, G, pfr]
section
variable {j ch base cap k m : Nat} {ao : Option Addr} {l : List Tk} {S N : Nat → Prop} {w0 w : World}
theorem startS (hl : l.length ≤ 1048576) (hb0 : base ≤ w.heap.size) (hch : N ch) (ht : TkAt ao l ch w N) : Gz (piS j ch base cap ao l S w0) 0 50 (born Try.prog (dS ao l.length cap ch)) w N := by
  have hbe : bS.kind ≠ .early := by unfold bS; simp
  refine ge_ctl (fun w => birth ao l.length cap ch w) ?_
  rw [bodyS_eq]
  refine ge_ctl (fun w => stepG_seq) ?_
  refine ge_ctl (fun w => stepG_seq) ?_
  refine ge_ctl (fun w => stepG_region) ?_
  rw [szS0]
  refine ge_move oS00 hbe (v := .slice ao l.length cap) rfl ?_
  obtain ⟨o, h1, h2, h3, h4⟩ := oS01
  refine ge_pure (v := .int .i64 l.length) h1 h3 hbe (fun w₁ => ?_) (fun w₁ => ?_) ?_
  · unfold execOp
    simp only [h4]
    simp [go_sem, Act.eval, Act.put, a0S, resolve]
  · unfold execOp
    simp only [h4]
    simp [go_sem, Act.eval, Act.put, a0S, resolve]
  rw [h2]
  refine ge_move oS02 hbe (v := .int .i64 ((0 : Nat) : Int)) rfl ?_
  refine ge_ctl (fun w => stepG_region_end) ?_
  refine ge_ctl (fun w => stepG_block) ?_
  refine ge_ctl (fun w => stepG_loop) ?_
  exact headS (k := 0) (t2 := undef) (t3 := undef) (t4 := undef) (t5 := undef) (t9 := undef) (t10 := undef) (t11 := undef) (t12 := undef) (t13 := undef) (t14 := undef) (t15 := undef) hl (by omega) hb0 hch ht
end
end Go.Proofs.Ytdjnnhdeijnhgab.Rn
