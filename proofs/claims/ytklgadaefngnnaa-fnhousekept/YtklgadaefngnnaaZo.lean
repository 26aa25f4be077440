/-
  A house and a move drawn of bytes.
-/
import Derived.Test.YtklgadaefngnnaaZn
import Derived.Test.YtklgadaefngnnaaRg
namespace Go.Proofs.Ytklgadaefngnnaa
open Go.RowKit Hm
set_option linter.all false

theorem six_ofH {w : World} {Y : Nat} {a b c d e f : Value} {t : TypeId} (h : w.heap[Y]? = some (.cells #[a, b, c, d, e, f] t (0, 0))) : (w.cell? ⟨Y, 0, none⟩ = some a ∧ w.cell? ⟨Y, 1, none⟩ = some b ∧ w.cell? ⟨Y, 2, none⟩ = some c ∧ w.cell? ⟨Y, 3, none⟩ = some d ∧ w.cell? ⟨Y, 4, none⟩ = some e ∧ w.cell? ⟨Y, 5, none⟩ = some f) ∧ ∀ j, w.frozen? ⟨Y, j, none⟩ = false := by
  refine ⟨⟨?_, ?_, ?_, ?_, ?_, ?_⟩, fun j => ?_⟩ <;> simp [World.cell?, World.frozen?, h]
/-- What is told: a house in the box R, a move in the box M. -/
theorem told_hm {w0 W : World} {R M : Nat} {vb vs z1 z2 y0 y1 y2 y3 y4 y5 : Value} {B : List Bd} {S : List St} {base : Nat} (m : Mv) (hR : W.heap[R]? = some (.cells #[z1, z2] 27 (0, 0))) (hM : W.heap[M]? = some (.cells #[y0, y1, y2, y3, y4, y5] 29 (0, 0))) (hn : HNew W base vb vs B S) (hb : Below w0.heap.size w0 W) (h1 : w0.heap.size ≤ R) (h2 : w0.heap.size ≤ M)
    (W' : World) (hW : W' = (((((((W.setCell ⟨R, 0, none⟩ vb).setCell ⟨R, 1, none⟩ vs).setCell ⟨M, 0, none⟩ (.int .i64 m.kind)).setCell ⟨M, 1, none⟩ (.int .i64 m.person)).setCell ⟨M, 2, none⟩ (.int .i64 m.sex)).setCell ⟨M, 3, none⟩ (.int .i64 m.need)).setCell ⟨M, 4, none⟩ (.int .i64 m.bed)).setCell ⟨M, 5, none⟩ (.int .i64 m.time)) :
    W'.heap[R]? = some (.cells #[vb, vs] 27 (0, 0)) ∧ W'.heap[M]? = some (.cells #[.int .i64 m.kind, .int .i64 m.person, .int .i64 m.sex, .int .i64 m.need, .int .i64 m.bed, .int .i64 m.time] 29 (0, 0)) ∧ HNew W' base vb vs B S ∧ Below w0.heap.size w0 W' := by
  have hne : M ≠ R := fun e => by
    rw [e, hR] at hM
    have := Option.some.inj hM
    simp only [Obj.cells.injEq] at this
    exact absurd this.2.1 (by decide)
  have e0 := setCell_eq_setRow W R 0 _ _ _ vb hR
  have h0 : (W.setCell ⟨R, 0, none⟩ vb).heap[R]? = some (.cells #[vb, z2] 27 (0, 0)) := by rw [e0]; exact setRow_heap _ _ _ _ _ _ hR
  have e1 := setCell_eq_setRow (W.setCell ⟨R, 0, none⟩ vb) R 1 _ _ _ vs h0
  have hR1 : ((W.setCell ⟨R, 0, none⟩ vb).setCell ⟨R, 1, none⟩ vs).heap[R]? = some (.cells #[vb, vs] 27 (0, 0)) := by rw [e1, setRow_heap _ _ _ _ _ _ h0]; rfl
  have hM1 : ((W.setCell ⟨R, 0, none⟩ vb).setCell ⟨R, 1, none⟩ vs).heap[M]? = some (.cells #[y0, y1, y2, y3, y4, y5] 29 (0, 0)) := by rw [e1, setRow_other _ _ _ _ hne, e0, setRow_other _ _ _ _ hne]; exact hM
  have hX := six_setsM hM1 (.int .i64 m.kind) (.int .i64 m.person) (.int .i64 m.sex) (.int .i64 m.need) (.int .i64 m.bed) (.int .i64 m.time)
  have hT : IsT W R 27 := ⟨_, hR⟩
  have hn1 := (hn.ty (p := ⟨R, 0, none⟩) hT (by decide) (by decide) vb).ty (p := ⟨R, 1, none⟩) (hT.setCell _ _) (by decide) (by decide) vs
  have hTM : IsT ((W.setCell ⟨R, 0, none⟩ vb).setCell ⟨R, 1, none⟩ vs) M 29 := ⟨_, hM1⟩
  have hn2 : ∀ {W : World} (u : Value) (j : Nat), IsT W M 29 → HNew W base vb vs B S → IsT (W.setCell ⟨M, j, none⟩ u) M 29 ∧ HNew (W.setCell ⟨M, j, none⟩ u) base vb vs B S := fun u j ht hn => ⟨ht.setCell _ _, hn.ty (p := ⟨M, j, none⟩) ht (by decide) (by decide) u⟩
  have p0 := hn2 (.int .i64 m.kind) 0 hTM hn1
  have p1 := hn2 (.int .i64 m.person) 1 p0.1 p0.2
  have p2 := hn2 (.int .i64 m.sex) 2 p1.1 p1.2
  have p3 := hn2 (.int .i64 m.need) 3 p2.1 p2.2
  have p4 := hn2 (.int .i64 m.bed) 4 p3.1 p3.2
  have p5 := hn2 (.int .i64 m.time) 5 p4.1 p4.2
  subst hW
  refine ⟨?_, ?_, p5.2, ?_⟩
  · rw [hX, setRow_other _ _ _ _ (fun e => hne e.symm)]; exact hR1
  · rw [hX]; exact setRow_heap _ _ _ _ _ _ hM1
  · exact (((((((hb.setCell (p := ⟨R, 0, none⟩) h1 _).setCell (p := ⟨R, 1, none⟩) h1 _).setCell (p := ⟨M, 0, none⟩) h2 _).setCell (p := ⟨M, 1, none⟩) h2 _).setCell (p := ⟨M, 2, none⟩) h2 _).setCell (p := ⟨M, 3, none⟩) h2 _).setCell (p := ⟨M, 4, none⟩) h2 _).setCell (p := ⟨M, 5, none⟩) h2 _
theorem bytes_up {w w' : World} {ao : Option Addr} {bs : List Int} (h : Bytes w w.heap.size ao bs) (hb : Below w.heap.size w w') : Bytes w' w'.heap.size ao bs := by
  have h2 := h.below hb
  have hs := hb.size
  refine ⟨h2.1, ?_⟩
  rcases h2.2 with q | ⟨b, o, e, hl, hc⟩
  · exact Or.inl q
  · exact Or.inr ⟨b, o, e, by omega, hc⟩

/-- Nothing has turned but the cursor's block and the box R. -/
structure KX (g R : Nat) (w w' : World) : Prop where
  os : w'.os = w.os
  tape : w'.tape = w.tape
  output : w'.output = w.output
  size : w.heap.size ≤ w'.heap.size
  block : ∀ b, b < w.heap.size → b ≠ g → b ≠ R → w'.heap[b]? = w.heap[b]?
  r : ∃ a b, w'.heap[R]? = some (.cells #[a, b] 27 (0, 0))
theorem KX.call {g R : Nat} {w w' w'' : World} (h : KX g R w w') (hk : Keep g w' w'') (hR : R ≠ g) : KX g R w w'' := by
  obtain ⟨a, b, hr⟩ := h.r
  exact ⟨hk.os.trans h.os, hk.tape.trans h.tape, hk.output.trans h.output, Nat.le_trans h.size hk.size, fun c hc h1 h2 => (hk.block c (Nat.lt_of_lt_of_le hc h.size) h1).trans (h.block c hc h1 h2), a, b, (hk.block R (Array.getElem?_eq_some_iff.1 hr).1 hR).trans hr⟩
theorem cur_far {w : World} {g R j cap : Nat} {ao : Option Addr} {bs : List Int} (h : Cur w g ao cap bs) (hb : Bytes w R ao bs) (hR : R < g) (u : Value) : Cur (w.setCell ⟨R, j, none⟩ u) g ao cap bs ∧ Bytes (w.setCell ⟨R, j, none⟩ u) R ao bs := by
  have hb2 : Bytes (w.setCell ⟨R, j, none⟩ u) R ao bs := hb.below ((Below.refl R w).setCell (p := ⟨R, j, none⟩) (Nat.le_refl _) u)
  obtain ⟨hg, hby, hl, i, h, hi, c0, c1, c2, f1, f2⟩ := h
  have hbl := Below.heap_setCell w ⟨R, j, none⟩ u g (show g ≠ R from by omega)
  have hcg : ∀ o, (w.setCell ⟨R, j, none⟩ u).cell? ⟨g, o, none⟩ = w.cell? ⟨g, o, none⟩ := fun o => World.cell?_of_block (w := w) hbl
  have hfg : ∀ o, (w.setCell ⟨R, j, none⟩ u).frozen? ⟨g, o, none⟩ = w.frozen? ⟨g, o, none⟩ := fun o => by simp only [World.frozen?, hbl]
  refine ⟨⟨by simpa [World.setCell] using hg, ⟨hby.1, ?_⟩, hl, i, h, hi, (hcg 0).trans c0, (hcg 1).trans c1, (hcg 2).trans c2, (hfg 1).trans f1, (hfg 2).trans f2⟩, hb2⟩
  rcases hb2.2 with q | ⟨b, off, e, hlt, hc⟩
  · exact Or.inl q
  · exact Or.inr ⟨b, off, e, by omega, hc⟩
def FD (R g : Nat) (vb vs : Value) (t : Int) (k : Nat) (v : Value) (w : World) : Prop :=
  match k with
  | 0 => v = .agg #[vb, vs]
  | 1 => v = .pointer (some ⟨g, 0, none⟩)
  | 2 => v = .int .i64 t
  | 3 => v = .pointer (some ⟨g, 0, none⟩)
  | 4 => ∃ z : Int, v = .int .i64 z ∧ -3 ≤ z ∧ z ≤ 40
  | 5 => ∃ z : Int, v = .int .i64 z
  | 6 => ∃ m : Mv, v = aM m
  | 7 => w.heap[R]? = some (.cells #[vb, vs] 27 (0, 0))
  | _ => True
theorem FD_keep {R g : Nat} {vb vs : Value} {t : Int} {w w' : World} (hk : Keep g w w') (hR : R ≠ g) (k : Nat) (v : Value) (h : FD R g vb vs t k v w) : FD R g vb vs t k v w' := by
  unfold FD at *
  split at h <;> first
    | exact h
    | exact (hk.block R (Array.getElem?_eq_some_iff.1 h).1 hR).trans h
theorem sizesD : (Rg.opsOf Try.f9 3).size = 9 := by kernel_rfl

set_option maxRecDepth 20000 in
set_option maxHeartbeats 4000000 in
theorem regD {Q : Exit → Act → World → Prop} {a : Act} {w3 : World} {g R M X : Nat} {ao : Option Addr} {cap : Nat} {bs : List Int} {t : Int} {a1 a2 : Option Addr} {n1 n2 c1 c2 : Nat} (ha : a.tmps.size = 21)
    (k2 : a.tmps[2]? = some (.pointer (some ⟨R, 0, none⟩))) (k3 : a.tmps[3]? = some (.pointer (some ⟨M, 0, none⟩))) (k4 : a.tmps[4]? = some (.pointer (some ⟨g, 0, none⟩))) (k5 : a.tmps[5]? = some (.pointer (some ⟨X, 0, none⟩))) (k6 : a.tmps[6]? = some (.int .i64 t))
    (hc : Cur w3 g ao cap bs) (hby : Bytes w3 R ao bs) (hRlt : R < g) (ht0 : 0 ≤ t) (ht1 : t ≤ 960) (hRM : M ≠ R) (hXR : X ≠ R) (hXg : X ≠ g) (hRg : R ≠ g) (hMg : M ≠ g) (hR : w3.heap[R]? = some (.cells #[.slice none 0 0, .slice none 0 0] 27 (0, 0))) (hM : w3.heap[M]? = some (.cells #[.int .i64 0, .int .i64 0, .int .i64 0, .int .i64 0, .int .i64 0, .int .i64 0] 29 (0, 0))) (hX : w3.heap[X]? = some (.cells #[.slice a1 n1 c1, .slice a2 n2 c2] 27 (0, 0)))
    (hend : ∀ b' W (m : Mv), Rg.Fr (Rg.opsOf Try.f9 3) a b' → KX g R w3 W → W.heap[R]? = some (.cells #[.slice a1 n1 c1, .slice a2 n2 c2] 27 (0, 0)) → Q .normal b' (W.setRow M #[.int .i64 m.kind, .int .i64 m.person, .int .i64 m.sex, .int .i64 m.need, .int .i64 m.bed, .int .i64 m.time])) :
    (Code.region 3 (Rg.opsOf Try.f9 3) true).wp Try.prog Q a w3 := by
  have hRl := (Array.getElem?_eq_some_iff.1 hR).1
  have hMl := (Array.getElem?_eq_some_iff.1 hM).1
  have hXl := (Array.getElem?_eq_some_iff.1 hX).1
  refine Rg.region_by 8 (by kernel_rfl) (fun w' => (Cur w' g ao cap bs ∧ Bytes w' R ao bs) ∧ KX g R w3 w') (FD R g (.slice a1 n1 c1) (.slice a2 n2 c2) t) (by rw [ha]; kernel_rfl) ⟨⟨hc.drewN 1, hby⟩, ⟨rfl, rfl, rfl, Nat.le_refl _, fun _ _ _ _ => rfl, _, _, hR⟩⟩ ?_ ?_ (fun h => absurd h (by rw [sizesD]; decide))
  case refine_2 =>
    intro _ bb w' hf hI hA
    obtain ⟨m, hm⟩ := hA 6 (by rw [sizesD]; decide) (by decide)
    have h7 : w'.heap[R]? = _ := hA 7 (by rw [sizesD]; decide) (by decide)
    have q6 : bb.tmps[20]? = some _ := hf.tmp (k := 6) rfl (by rw [ha]; decide) hm
    have q3 := hf.kept (s := 3) (by rw [sizesD]; kernel_rfl) k3
    have hM' := (hI.2.block M hMl hMg hRM).trans hM
    obtain ⟨kd, pr, sx, nd, bd, tm⟩ := m
    obtain ⟨⟨m0, m1, m2, m3, m4, m5⟩, mf⟩ := six_ofH hM'
    have f0 := mf 0
    have f1 := mf 1
    have f2 := mf 2
    have f3 := mf 3
    have f4 := mf 4
    have f5 := mf 5
    have hXX := six_setsM hM' (.int .i64 kd) (.int .i64 pr) (.int .i64 sx) (.int .i64 nd) (.int .i64 bd) (.int .i64 tm)
    have hE := hend bb w' ⟨kd, pr, sx, nd, bd, tm⟩ hf hI.2 h7
    unfold aM at q6
    clear hA hend hf hI hm h7 hM' mf
    refine Rg.op_skip (o := ⟨none, Op.store 29 (Operand.tmp 3) (Operand.tmp 20), _, _, _, _⟩) (w' := w'.setRow M #[.int .i64 kd, .int .i64 pr, .int .i64 sx, .int .i64 nd, .int .i64 bd, .int .i64 tm]) rfl rfl ?_ hE
    rw [← hXX]
    clear hXX hE
    simp only [execOp]
    go_simp
  case refine_1 =>
    clear hend
    have HS : ∀ {w w' : World}, Keep g w w' → ∀ k y, FD R g (.slice a1 n1 c1) (.slice a2 n2 c2) t k y w → FD R g (.slice a1 n1 c1) (.slice a2 n2 c2) t k y w' := fun hb k y h => FD_keep hb hRg k y h
    intro i' hi' hne
    rw [sizesD] at hi'
    rcases (show i' = 0 ∨ i' = 1 ∨ i' = 2 ∨ i' = 3 ∨ i' = 4 ∨ i' = 5 ∨ i' = 6 ∨ i' = 7 by omega) with rfl | rfl | rfl | rfl | rfl | rfl | rfl | rfl
    · intro bb w' hf hI hA
      clear hi' hne
      have q5 := hf.kept (s := 5) (by rw [sizesD]; kernel_rfl) k5
      obtain ⟨x0, x1, -, -⟩ := two_ofH ((hI.2.block X hXl hXg hXR).trans hX)
      exact Rg.op_value (o := ⟨some 14, Op.load 27 (Operand.tmp 5), _, _, _, _⟩) (x := .agg #[.slice a1 n1 c1, .slice a2 n2 c2]) rfl rfl (by clear hA HS; simp only [execOp]; go_simp) ⟨_, rfl, (fun h => by cases h), rfl, hI, fun _ _ h => h⟩
    · intro bb w' hf hI hA
      have q0 := hf.kept (s := 4) (by rw [sizesD]; kernel_rfl) k4
      exact Rg.op_value (o := ⟨some 15, Op.move (Operand.tmp 4), _, _, _, _⟩) rfl rfl rfl ⟨_, rfl, (fun h => by cases h), (by show Act.eval bb _ = _; simp [Act.eval, q0]), hI, fun _ _ h => h⟩
    · intro bb w' hf hI hA
      have q0 := hf.kept (s := 6) (by rw [sizesD]; kernel_rfl) k6
      exact Rg.op_value (o := ⟨some 16, Op.move (Operand.tmp 6), _, _, _, _⟩) rfl rfl rfl ⟨_, rfl, (fun h => by cases h), (by show Act.eval bb _ = _; simp [Act.eval, q0]), hI, fun _ _ h => h⟩
    · intro bb w' hf hI hA
      have q0 := hf.kept (s := 4) (by rw [sizesD]; kernel_rfl) k4
      exact Rg.op_value (o := ⟨some 17, Op.move (Operand.tmp 4), _, _, _, _⟩) rfl rfl rfl ⟨_, rfl, (fun h => by cases h), (by show Act.eval bb _ = _; simp [Act.eval, q0]), hI, fun _ _ h => h⟩
    · intro bb w' hf hI hA
      have q3 : bb.tmps[17]? = some _ := hf.tmp (k := 3) rfl (by rw [ha]; decide) (hA 3 (by kernel_rfl))
      refine Rg.op_call (o := ⟨some 18, Op.call { callee := Callee.value (Operand.func 37), args := #[Operand.tmp 17, Operand.const (Value.int .i64 (-3)), Operand.const (Value.int .i64 40)], argTypes := _ }, _, _, _, _⟩) rfl rfl (by clear hA HS; simp only [execOp, resolve]; go_simp) (from_any g ao cap bs (-3) 40 w' hI.1.1 (by omega) (by omega) (by omega)) ?_
      rintro e w2 ⟨z, rfl, z0, z1, hc2, hk2⟩
      exact ⟨_, rfl, _, rfl, (fun h => by cases h), ⟨z, rfl, z0, z1⟩, ⟨⟨hc2, hI.1.2.below (hk2.below (B := R) (by omega) (by have := hI.2.size; omega))⟩, hI.2.call hk2 hRg⟩, HS hk2⟩
    · intro bb w' hf hI hA
      obtain ⟨z, hz, z0, z1⟩ := hA 4 (by kernel_rfl)
      have qz : bb.tmps[18]? = some _ := hf.tmp (k := 4) rfl (by rw [ha]; decide) hz
      have qt : bb.tmps[16]? = some _ := hf.tmp (k := 2) rfl (by rw [ha]; decide) (hA 2 (by kernel_rfl))
      exact Rg.op_value (o := ⟨some 19, Op.binOp BinOp.add 2 (Operand.tmp 16) (Operand.tmp 18) 2, _, _, _, _⟩) (x := .int .i64 (t + z)) rfl rfl (by clear hA HS hz; simp only [execOp]; go_simp; exact wrap_small (by omega) (by omega)) ⟨_, rfl, (fun h => by cases h), ⟨_, rfl⟩, hI, fun _ _ h => h⟩
    · intro bb w' hf hI hA
      obtain ⟨z, hz⟩ := hA 5 (by kernel_rfl)
      have qz : bb.tmps[19]? = some _ := hf.tmp (k := 5) rfl (by rw [ha]; decide) hz
      have q1 : bb.tmps[15]? = some _ := hf.tmp (k := 1) rfl (by rw [ha]; decide) (hA 1 (by kernel_rfl))
      refine Rg.op_call (o := ⟨some 20, Op.call { callee := Callee.value (Operand.func 36), args := #[Operand.tmp 15, Operand.tmp 19], argTypes := _ }, _, _, _, _⟩) rfl rfl (by clear hA HS hz; simp only [execOp, resolve]; go_simp) (dmove_any g ao cap bs z w' hI.1.1) ?_
      rintro e w2 ⟨m, rfl, hc2, hk2⟩
      exact ⟨_, rfl, _, rfl, (fun h => by cases h), ⟨m, rfl⟩, ⟨⟨hc2, hI.1.2.below (hk2.below (B := R) (by omega) (by have := hI.2.size; omega))⟩, hI.2.call hk2 hRg⟩, HS hk2⟩
    · intro bb w' hf hI hA
      have q0 : bb.tmps[14]? = some _ := hf.tmp (k := 0) rfl (by rw [ha]; decide) (hA 0 (by kernel_rfl))
      have q2 := hf.kept (s := 2) (by rw [sizesD]; kernel_rfl) k2
      obtain ⟨u0, u1, hr⟩ := hI.2.r
      obtain ⟨r0, r1, f0, f1⟩ := two_ofH hr
      have e0 := setCell_eq_setRow w' R 0 _ _ _ (.slice a1 n1 c1) hr
      have h0 : (w'.setCell ⟨R, 0, none⟩ (.slice a1 n1 c1)).heap[R]? = some (.cells #[.slice a1 n1 c1, u1] 27 (0, 0)) := by rw [e0]; exact setRow_heap _ _ _ _ _ _ hr
      have e1 := setCell_eq_setRow (w'.setCell ⟨R, 0, none⟩ (.slice a1 n1 c1)) R 1 _ _ _ (.slice a2 n2 c2) h0
      have hR1 : ((w'.setCell ⟨R, 0, none⟩ (.slice a1 n1 c1)).setCell ⟨R, 1, none⟩ (.slice a2 n2 c2)).heap[R]? = some (.cells #[.slice a1 n1 c1, .slice a2 n2 c2] 27 (0, 0)) := by rw [e1, setRow_heap _ _ _ _ _ _ h0]; rfl
      have hoth : ∀ b, b ≠ R → ((w'.setCell ⟨R, 0, none⟩ (.slice a1 n1 c1)).setCell ⟨R, 1, none⟩ (.slice a2 n2 c2)).heap[b]? = w'.heap[b]? := fun b hb => by rw [e1, setRow_other _ _ _ _ hb, e0, setRow_other _ _ _ _ hb]
      have hgR : g ≠ R := fun e => hRg e.symm
      have hcA := cur_far (j := 0) hI.1.1 hI.1.2 hRlt (.slice a1 n1 c1)
      have hcur := cur_far (j := 1) hcA.1 hcA.2 hRlt (.slice a2 n2 c2)
      have hKX : KX g R w3 ((w'.setCell ⟨R, 0, none⟩ (.slice a1 n1 c1)).setCell ⟨R, 1, none⟩ (.slice a2 n2 c2)) := ⟨hI.2.os, hI.2.tape, hI.2.output, by have := hI.2.size; simpa [World.setCell] using this, fun b hb h1 h2 => (hoth b h2).trans (hI.2.block b hb h1 h2), _, _, hR1⟩
      refine Rg.op_skip (o := ⟨none, Op.store 27 (Operand.tmp 2) (Operand.tmp 14), _, _, _, _⟩) (w' := (w'.setCell ⟨R, 0, none⟩ (.slice a1 n1 c1)).setCell ⟨R, 1, none⟩ (.slice a2 n2 c2)) rfl rfl (by clear hA HS hcur hcA hKX hR1 hoth e1 h0 e0 hr; simp only [execOp]; go_simp) ⟨_, rfl, (fun _ => hR1), hR1, ⟨hcur, hKX⟩, fun k y h => ?_⟩
      unfold FD at *
      split at h <;> first | exact h | exact hR1
end Go.Proofs.Ytklgadaefngnnaa
