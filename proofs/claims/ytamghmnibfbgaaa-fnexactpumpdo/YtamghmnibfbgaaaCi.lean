/-
  The law of PumpDo: its two regions, whatever their order.
-/
import Derived.Test.YtamghmnibfbgaaaRi
import Derived.Test.YtamghmnibfbgaaaCb
import Derived.Test.YtamghmnibfbgaaaBs
import Derived.BigQuiet
namespace Go.Proofs.Ytamghmnibfbgaaa
open Go.RowKit Va Ba
set_option linter.all false

def FD1 (n0 : Nat) (p q : Pm) (c : Ac) (co : Int) (k : Nat) (o : Nat → Value) (w : World) : Prop :=
  match k with
  | 0 => o 0 = .agg #[.int .i64 p.lim.sl, .int .i64 p.lim.sh, .int .i64 p.lim.hl, .int .i64 p.lim.hh, .int .i64 p.rate, .int .i64 p.asked, .int .i64 p.st, .bool p.door, .int .i64 p.left, .int .i64 p.given]
  | 1 => o 1 = .agg #[.int .i64 p.lim.sl, .int .i64 p.lim.sh, .int .i64 p.lim.hl, .int .i64 p.lim.hh, .int .i64 p.rate, .int .i64 p.asked, .int .i64 p.st, .bool p.door, .int .i64 p.left, .int .i64 p.given]
  | 2 => o 2 = .agg #[.int .i64 c.kind, .int .i64 c.n]
  | 3 => o 3 = .agg #[.int .i64 c.kind, .int .i64 c.n]
  | 4 => o 4 = .tuple #[.agg #[.int .i64 q.lim.sl, .int .i64 q.lim.sh, .int .i64 q.lim.hl, .int .i64 q.lim.hh, .int .i64 q.rate, .int .i64 q.asked, .int .i64 q.st, .bool q.door, .int .i64 q.left, .int .i64 q.given], .int .i64 co]
  | 5 => o 5 = .tuple #[.agg #[.int .i64 q.lim.sl, .int .i64 q.lim.sh, .int .i64 q.lim.hl, .int .i64 q.lim.hh, .int .i64 q.rate, .int .i64 q.asked, .int .i64 q.st, .bool q.door, .int .i64 q.left, .int .i64 q.given], .int .i64 co]
  | 6 => o 6 = .agg #[.int .i64 q.lim.sl, .int .i64 q.lim.sh, .int .i64 q.lim.hl, .int .i64 q.lim.hh, .int .i64 q.rate, .int .i64 q.asked, .int .i64 q.st, .bool q.door, .int .i64 q.left, .int .i64 q.given]
  | 7 => o 7 = .int .i64 co
  | 8 => ∃ B, o 8 = .pointer (some ⟨B, 0, none⟩) ∧ n0 ≤ B ∧ PB w B #[.int .i64 0, .int .i64 0, .int .i64 0, .int .i64 0, .int .i64 0, .int .i64 0, .int .i64 0, .bool false, .int .i64 0, .int .i64 0] 27
  | 9 => ∃ B, o 8 = .pointer (some ⟨B, 0, none⟩) ∧ n0 ≤ B ∧ PB w B #[.int .i64 q.lim.sl, .int .i64 q.lim.sh, .int .i64 q.lim.hl, .int .i64 q.lim.hh, .int .i64 q.rate, .int .i64 q.asked, .int .i64 q.st, .bool q.door, .int .i64 q.left, .int .i64 q.given] 27
  | 10 => o 10 = .int .i64 co
  | _ => True
theorem sizeD1 : (Rg.opsOf Try.f8 1).size = 11 := by kernel_rfl
theorem stayD1 {n0 : Nat} {p q : Pm} {c : Ac} {co : Int} {i k : Nat} {o o' : Nat → Value} {w w' : World} (hd : Rg.due .any (Rg.opsOf Try.f8 1) (fun k => if k = 8 then some 9 else none) i k = true) (hb : Below w.heap.size w w') (ho : ∀ k, k ≠ i → o' k = o k) (h : FD1 n0 p q c co k o w) : FD1 n0 p q c co k o' w' := by
  have hki := Rg.due_ne hd
  have h98 : k = 9 → i ≠ 8 := fun e1 e2 => by subst e1 e2; exact Rg.due_af hd (by kernel_rfl)
  unfold FD1 at *
  split at h
  · rw [ho _ hki]; exact h
  · rw [ho _ hki]; exact h
  · rw [ho _ hki]; exact h
  · rw [ho _ hki]; exact h
  · rw [ho _ hki]; exact h
  · rw [ho _ hki]; exact h
  · rw [ho _ hki]; exact h
  · rw [ho _ hki]; exact h
  · obtain ⟨B, h1, h2, h3⟩ := h; exact ⟨B, by rw [ho _ hki]; exact h1, h2, h3.below hb⟩
  · obtain ⟨B, h1, h2, h3⟩ := h; exact ⟨B, by rw [ho _ (Ne.symm (h98 rfl))]; exact h1, h2, h3.below hb⟩
  · rw [ho _ hki]; exact h
  · trivial
theorem stasD1 {n0 : Nat} {p q : Pm} {c : Ac} {co : Int} {k : Nat} {o o' : Nat → Value} {w w' : World} (hd : Rg.due .any (Rg.opsOf Try.f8 1) (fun k => if k = 8 then some 9 else none) 9 k = true) (ho : ∀ k, k ≠ 9 → o' k = o k) (h : FD1 n0 p q c co k o w) : FD1 n0 p q c co k o' w' := by
  have hki := Rg.due_ne hd
  have h8 : k ≠ 8 := fun e => by subst e; exact Rg.due_dead hd (by kernel_rfl)
  unfold FD1 at *
  split at h
  · rw [ho _ hki]; exact h
  · rw [ho _ hki]; exact h
  · rw [ho _ hki]; exact h
  · rw [ho _ hki]; exact h
  · rw [ho _ hki]; exact h
  · rw [ho _ hki]; exact h
  · rw [ho _ hki]; exact h
  · rw [ho _ hki]; exact h
  · exact (h8 rfl).elim
  · exact (hki rfl).elim
  · rw [ho _ hki]; exact h
  · trivial

set_option maxRecDepth 20000 in
set_option maxHeartbeats 8000000 in
theorem regD1 {Q : Exit → Act → World → Prop} {a : Act} {w9 : World} {B0 B1 : Nat} {p q : Pm} {c : Ac} {co : Int} (ha : a.tmps.size = 34)
    (k2 : a.tmps[2]? = some (.pointer (some ⟨B0, 0, none⟩))) (k3 : a.tmps[3]? = some (.pointer (some ⟨B1, 0, none⟩))) (hP : PB w9 B0 #[.int .i64 p.lim.sl, .int .i64 p.lim.sh, .int .i64 p.lim.hl, .int .i64 p.lim.hh, .int .i64 p.rate, .int .i64 p.asked, .int .i64 p.st, .bool p.door, .int .i64 p.left, .int .i64 p.given] 47) (hA0 : PB w9 B1 #[.int .i64 c.kind, .int .i64 c.n] 53)
    (cT : ∀ W, Calls Try.prog 20 #[.agg #[.int .i64 p.lim.sl, .int .i64 p.lim.sh, .int .i64 p.lim.hl, .int .i64 p.lim.hh, .int .i64 p.rate, .int .i64 p.asked, .int .i64 p.st, .bool p.door, .int .i64 p.left, .int .i64 p.given]] W fun e W' => e = .returned (.agg #[.int .i64 p.lim.sl, .int .i64 p.lim.sh, .int .i64 p.lim.hl, .int .i64 p.lim.hh, .int .i64 p.rate, .int .i64 p.asked, .int .i64 p.st, .bool p.door, .int .i64 p.left, .int .i64 p.given]) ∧ Below W.heap.size W W') (cU : ∀ W, Calls Try.prog 24 #[.agg #[.int .i64 c.kind, .int .i64 c.n]] W fun e W' => e = .returned (.agg #[.int .i64 c.kind, .int .i64 c.n]) ∧ Below W.heap.size W W')
    (cD : ∀ W, Calls Try.prog 12 #[.agg #[.int .i64 p.lim.sl, .int .i64 p.lim.sh, .int .i64 p.lim.hl, .int .i64 p.lim.hh, .int .i64 p.rate, .int .i64 p.asked, .int .i64 p.st, .bool p.door, .int .i64 p.left, .int .i64 p.given], .agg #[.int .i64 c.kind, .int .i64 c.n]] W fun e W' => e = .returned (.tuple #[.agg #[.int .i64 q.lim.sl, .int .i64 q.lim.sh, .int .i64 q.lim.hl, .int .i64 q.lim.hh, .int .i64 q.rate, .int .i64 q.asked, .int .i64 q.st, .bool q.door, .int .i64 q.left, .int .i64 q.given], .int .i64 co]) ∧ Below W.heap.size W W')
    (hend : ∀ b' w', Rg.Fr (Rg.opsOf Try.f8 1) a b' → Below w9.heap.size w9 w' → (∃ B, Rg.out (Rg.opsOf Try.f8 1) b' 8 = .pointer (some ⟨B, 0, none⟩) ∧ w9.heap.size ≤ B ∧ PB w' B #[.int .i64 q.lim.sl, .int .i64 q.lim.sh, .int .i64 q.lim.hl, .int .i64 q.lim.hh, .int .i64 q.rate, .int .i64 q.asked, .int .i64 q.st, .bool q.door, .int .i64 q.left, .int .i64 q.given] 27) → Rg.out (Rg.opsOf Try.f8 1) b' 10 = .int .i64 co → Q .normal b' w') :
    (Code.region 1 (Rg.opsOf Try.f8 1) true).wp Try.prog Q a w9 := by
  refine Rg.region_out (by kernel_rfl) (fun w' => Below w9.heap.size w9 w') (FD1 w9.heap.size p q c co) (fun k => if k = 8 then some 9 else none) (by rw [ha, sizeD1]; kernel_rfl) (st_drew (Below.refl _ _)) ?_ ?_
  case refine_2 =>
    intro b' w' hf hI hA
    rw [sizeD1] at hA
    exact hend b' w' hf hI (hA 9 (by decide) rfl) (hA 10 (by decide) rfl)
  case refine_1 =>
    clear hend
    intro i' hi'
    rw [sizeD1] at hi'
    rcases (show i' = 0 ∨ i' = 1 ∨ i' = 2 ∨ i' = 3 ∨ i' = 4 ∨ i' = 5 ∨ i' = 6 ∨ i' = 7 ∨ i' = 8 ∨ i' = 9 ∨ i' = 10 by omega) with rfl | rfl | rfl | rfl | rfl | rfl | rfl | rfl | rfl | rfl | rfl
    · intro bb w' hf hI hA
      clear hi'
      have qs := hf.kept (s := 2) (by rw [sizeD1]; kernel_rfl) k2
      obtain ⟨e0, e1, e2, e3, e4, e5, e6, e7, e8, e9⟩ := (hP.below hI).ten
      clear hA hP hA0 cT cU cD
      exact Rg.op_value (o := ⟨some 10, Op.load 47 (Operand.tmp 2), _, _, _, _⟩) (x := .agg #[.int .i64 p.lim.sl, .int .i64 p.lim.sh, .int .i64 p.lim.hl, .int .i64 p.lim.hh, .int .i64 p.rate, .int .i64 p.asked, .int .i64 p.st, .bool p.door, .int .i64 p.left, .int .i64 p.given]) rfl rfl (by simp only [execOp]; go_simp) ⟨_, rfl, hI, fun o' ho hx => ⟨hx (by rw [show Rg.dstAt (Rg.opsOf Try.f8 1) 0 = some 10 by kernel_rfl]; simp), fun k hd h => stayD1 hd (Below.refl _ _) ho h⟩⟩
    · intro bb w' hf hI hA
      clear hi'
      have q0 : bb.tmps[10]? = some _ := hf.tmp (k := 0) rfl (by rw [ha]; decide) (hA 0 (by kernel_rfl) (.inl rfl))
      refine Rg.op_call (o := ⟨some 11, Op.call { callee := Callee.value (Operand.func 20), args := #[(Operand.tmp 10)], argTypes := _ }, _, _, _, _⟩) rfl rfl (by clear hA hP hA0 cT cU cD; simp only [execOp, resolve]; go_simp) (cT w') ?_
      rintro e w2 ⟨rfl, hb2⟩
      exact ⟨_, rfl, _, rfl, onto hI hb2, fun o' ho hx => ⟨hx (by rw [show Rg.dstAt (Rg.opsOf Try.f8 1) 1 = some 11 by kernel_rfl]; simp), fun k hd h => stayD1 hd hb2 ho h⟩⟩
    · intro bb w' hf hI hA
      clear hi'
      have qs := hf.kept (s := 3) (by rw [sizeD1]; kernel_rfl) k3
      obtain ⟨e0, e1⟩ := (hA0.below hI).two
      clear hA hP hA0 cT cU cD
      exact Rg.op_value (o := ⟨some 12, Op.load 53 (Operand.tmp 3), _, _, _, _⟩) (x := .agg #[.int .i64 c.kind, .int .i64 c.n]) rfl rfl (by simp only [execOp]; go_simp) ⟨_, rfl, hI, fun o' ho hx => ⟨hx (by rw [show Rg.dstAt (Rg.opsOf Try.f8 1) 2 = some 12 by kernel_rfl]; simp), fun k hd h => stayD1 hd (Below.refl _ _) ho h⟩⟩
    · intro bb w' hf hI hA
      clear hi'
      have q2 : bb.tmps[12]? = some _ := hf.tmp (k := 2) rfl (by rw [ha]; decide) (hA 2 (by kernel_rfl) (.inl rfl))
      refine Rg.op_call (o := ⟨some 13, Op.call { callee := Callee.value (Operand.func 24), args := #[(Operand.tmp 12)], argTypes := _ }, _, _, _, _⟩) rfl rfl (by clear hA hP hA0 cT cU cD; simp only [execOp, resolve]; go_simp) (cU w') ?_
      rintro e w2 ⟨rfl, hb2⟩
      exact ⟨_, rfl, _, rfl, onto hI hb2, fun o' ho hx => ⟨hx (by rw [show Rg.dstAt (Rg.opsOf Try.f8 1) 3 = some 13 by kernel_rfl]; simp), fun k hd h => stayD1 hd hb2 ho h⟩⟩
    · intro bb w' hf hI hA
      clear hi'
      have q1 : bb.tmps[11]? = some _ := hf.tmp (k := 1) rfl (by rw [ha]; decide) (hA 1 (by kernel_rfl) (.inl rfl))
      have q3 : bb.tmps[13]? = some _ := hf.tmp (k := 3) rfl (by rw [ha]; decide) (hA 3 (by kernel_rfl) (.inl rfl))
      refine Rg.op_call (o := ⟨some 14, Op.call { callee := Callee.value (Operand.func 12), args := #[(Operand.tmp 11), (Operand.tmp 13)], argTypes := _ }, _, _, _, _⟩) rfl rfl (by clear hA hP hA0 cT cU cD; simp only [execOp, resolve]; go_simp) (cD w') ?_
      rintro e w2 ⟨rfl, hb2⟩
      exact ⟨_, rfl, _, rfl, onto hI hb2, fun o' ho hx => ⟨hx (by rw [show Rg.dstAt (Rg.opsOf Try.f8 1) 4 = some 14 by kernel_rfl]; simp), fun k hd h => stayD1 hd hb2 ho h⟩⟩
    · intro bb w' hf hI hA
      clear hi'
      have q4 : bb.tmps[14]? = some _ := hf.tmp (k := 4) rfl (by rw [ha]; decide) (hA 4 (by kernel_rfl) (.inl rfl))
      clear hA hP hA0 cT cU cD
      exact Rg.op_value (o := ⟨some 9, Op.move (Operand.tmp 14), _, _, _, _⟩) (x := .tuple #[.agg #[.int .i64 q.lim.sl, .int .i64 q.lim.sh, .int .i64 q.lim.hl, .int .i64 q.lim.hh, .int .i64 q.rate, .int .i64 q.asked, .int .i64 q.st, .bool q.door, .int .i64 q.left, .int .i64 q.given], .int .i64 co]) rfl rfl (by simp only [execOp]; go_simp) ⟨_, rfl, hI, fun o' ho hx => ⟨hx (by rw [show Rg.dstAt (Rg.opsOf Try.f8 1) 5 = some 9 by kernel_rfl]; simp), fun k hd h => stayD1 hd (Below.refl _ _) ho h⟩⟩
    · intro bb w' hf hI hA
      clear hi'
      have q5 : bb.tmps[9]? = some _ := hf.tmp (k := 5) rfl (by rw [ha]; decide) (hA 5 (by kernel_rfl) (.inl rfl))
      clear hA hP hA0 cT cU cD
      exact Rg.op_value (o := ⟨some 15, Op.extract (Operand.tmp 9) 0, _, _, _, _⟩) (x := .agg #[.int .i64 q.lim.sl, .int .i64 q.lim.sh, .int .i64 q.lim.hl, .int .i64 q.lim.hh, .int .i64 q.rate, .int .i64 q.asked, .int .i64 q.st, .bool q.door, .int .i64 q.left, .int .i64 q.given]) rfl rfl (by simp only [execOp]; go_simp) ⟨_, rfl, hI, fun o' ho hx => ⟨hx (by rw [show Rg.dstAt (Rg.opsOf Try.f8 1) 6 = some 15 by kernel_rfl]; simp), fun k hd h => stayD1 hd (Below.refl _ _) ho h⟩⟩
    · intro bb w' hf hI hA
      clear hi'
      have q5 : bb.tmps[9]? = some _ := hf.tmp (k := 5) rfl (by rw [ha]; decide) (hA 5 (by kernel_rfl) (.inl rfl))
      clear hA hP hA0 cT cU cD
      exact Rg.op_value (o := ⟨some 16, Op.extract (Operand.tmp 9) 1, _, _, _, _⟩) (x := .int .i64 co) rfl rfl (by simp only [execOp]; go_simp) ⟨_, rfl, hI, fun o' ho hx => ⟨hx (by rw [show Rg.dstAt (Rg.opsOf Try.f8 1) 7 = some 16 by kernel_rfl]; simp), fun k hd h => stayD1 hd (Below.refl _ _) ho h⟩⟩
    · intro bb w' hf hI hA
      clear hi'
      clear hA hP hA0 cT cU cD
      have hb2 : Below w'.heap.size w' (w'.alloc (.cells #[.int .i64 0, .int .i64 0, .int .i64 0, .int .i64 0, .int .i64 0, .int .i64 0, .int .i64 0, .bool false, .int .i64 0, .int .i64 0] 27)) := (Below.refl _ _).alloc (Nat.le_refl _) _
      exact Rg.op_value (o := ⟨some 5, Op.alloc 27, _, _, _, _⟩) (x := .pointer (some ⟨w'.heap.size, 0, none⟩)) (w' := w'.alloc (.cells #[.int .i64 0, .int .i64 0, .int .i64 0, .int .i64 0, .int .i64 0, .int .i64 0, .int .i64 0, .bool false, .int .i64 0, .int .i64 0] 27)) rfl rfl (by simp only [execOp]; go_simp) ⟨_, rfl, onto hI hb2, fun o' ho hx => ⟨⟨_, hx (by rw [show Rg.dstAt (Rg.opsOf Try.f8 1) 8 = some 5 by kernel_rfl]; simp), hI.size, PB.new _ _ _⟩, fun k hd h => stayD1 hd hb2 ho h⟩⟩
    · intro bb w' hf hI hA
      clear hi'
      have q6 : bb.tmps[15]? = some _ := hf.tmp (k := 6) rfl (by rw [ha]; decide) (hA 6 (by kernel_rfl) (.inl rfl))
      obtain ⟨B, hv, hB, hZ⟩ := hA 8 (by kernel_rfl) (.inr rfl)
      have qa : bb.tmps[5]? = some _ := hf.tmp (k := 8) rfl (by rw [ha]; decide) hv
      have hfil := PB.fill' q hZ
      have hbw := fill_below hI hB (.int .i64 q.lim.sl) (.int .i64 q.lim.sh) (.int .i64 q.lim.hl) (.int .i64 q.lim.hh) (.int .i64 q.rate) (.int .i64 q.asked) (.int .i64 q.st) (.bool q.door) (.int .i64 q.left) (.int .i64 q.given)
      obtain ⟨z0, z1, z2, z3, z4, z5, z6, z7, z8, z9⟩ := hZ.ten
      obtain ⟨f0, f1, f2, f3, f4, f5, f6, f7, f8, f9⟩ := hZ.cold
      refine Rg.op_skip (o := ⟨none, Op.store 27 (Operand.tmp 5) (Operand.tmp 15), _, _, _, _⟩) (w' := ((((((((((w'.setCell ⟨B, 0, none⟩ (.int .i64 q.lim.sl)).setCell ⟨B, 1, none⟩ (.int .i64 q.lim.sh)).setCell ⟨B, 2, none⟩ (.int .i64 q.lim.hl)).setCell ⟨B, 3, none⟩ (.int .i64 q.lim.hh)).setCell ⟨B, 4, none⟩ (.int .i64 q.rate)).setCell ⟨B, 5, none⟩ (.int .i64 q.asked)).setCell ⟨B, 6, none⟩ (.int .i64 q.st)).setCell ⟨B, 7, none⟩ (.bool q.door)).setCell ⟨B, 8, none⟩ (.int .i64 q.left)).setCell ⟨B, 9, none⟩ (.int .i64 q.given))) rfl rfl (by clear hA hfil hbw hv hZ hP hA0 cT cU cD; simp only [execOp]; go_simp) ?_
      exact ⟨_, rfl, hbw, fun o' ho _ => ⟨⟨B, (ho 8 (by decide)).trans hv, hB, hfil⟩, fun k hd h => stasD1 hd ho h⟩⟩
    · intro bb w' hf hI hA
      clear hi'
      have q7 : bb.tmps[16]? = some _ := hf.tmp (k := 7) rfl (by rw [ha]; decide) (hA 7 (by kernel_rfl) (.inl rfl))
      clear hA hP hA0 cT cU cD
      exact Rg.op_value (o := ⟨some 6, Op.assign (Operand.tmp 16), _, _, _, _⟩) (x := .int .i64 co) rfl rfl (by simp only [execOp]; go_simp) ⟨_, rfl, hI, fun o' ho hx => ⟨hx (by rw [show Rg.dstAt (Rg.opsOf Try.f8 1) 10 = some 6 by kernel_rfl]; simp), fun k hd h => stayD1 hd (Below.refl _ _) ho h⟩⟩

theorem dD1_0 : Rg.dstAt (Rg.opsOf Try.f8 1) 0 = some 10 := by kernel_rfl
theorem dD1_1 : Rg.dstAt (Rg.opsOf Try.f8 1) 1 = some 11 := by kernel_rfl
theorem dD1_2 : Rg.dstAt (Rg.opsOf Try.f8 1) 2 = some 12 := by kernel_rfl
theorem dD1_3 : Rg.dstAt (Rg.opsOf Try.f8 1) 3 = some 13 := by kernel_rfl
theorem dD1_4 : Rg.dstAt (Rg.opsOf Try.f8 1) 4 = some 14 := by kernel_rfl
theorem dD1_5 : Rg.dstAt (Rg.opsOf Try.f8 1) 5 = some 9 := by kernel_rfl
theorem dD1_6 : Rg.dstAt (Rg.opsOf Try.f8 1) 6 = some 15 := by kernel_rfl
theorem dD1_7 : Rg.dstAt (Rg.opsOf Try.f8 1) 7 = some 16 := by kernel_rfl
theorem dD1_8 : Rg.dstAt (Rg.opsOf Try.f8 1) 8 = some 5 := by kernel_rfl
theorem dD1_9 : Rg.dstAt (Rg.opsOf Try.f8 1) 9 = none := by kernel_rfl
theorem dD1_10 : Rg.dstAt (Rg.opsOf Try.f8 1) 10 = some 6 := by kernel_rfl
theorem layD1 {a b : Act} (hf : Rg.Fr (Rg.opsOf Try.f8 1) a b) : b = (((((((((((a.put (some 10) (Rg.out (Rg.opsOf Try.f8 1) b 0)).put (some 11) (Rg.out (Rg.opsOf Try.f8 1) b 1)).put (some 12) (Rg.out (Rg.opsOf Try.f8 1) b 2)).put (some 13) (Rg.out (Rg.opsOf Try.f8 1) b 3)).put (some 14) (Rg.out (Rg.opsOf Try.f8 1) b 4)).put (some 9) (Rg.out (Rg.opsOf Try.f8 1) b 5)).put (some 15) (Rg.out (Rg.opsOf Try.f8 1) b 6)).put (some 16) (Rg.out (Rg.opsOf Try.f8 1) b 7)).put (some 5) (Rg.out (Rg.opsOf Try.f8 1) b 8)).put none (Rg.out (Rg.opsOf Try.f8 1) b 9)).put (some 6) (Rg.out (Rg.opsOf Try.f8 1) b 10)) := by
  have h := hf.chain
  rw [sizeD1, show List.range 11 = [0, 1, 2, 3, 4, 5, 6, 7, 8, 9, 10] from by decide] at h
  simp only [List.foldl_cons, List.foldl_nil, dD1_0, dD1_1, dD1_2, dD1_3, dD1_4, dD1_5, dD1_6, dD1_7, dD1_8, dD1_9, dD1_10] at h
  exact h

def FD2 (n0 : Nat) (p q : Pm) (c : Ac) (co : Int) (k : Nat) (o : Nat → Value) (w : World) : Prop :=
  match k with
  | 0 => o 0 = .agg #[.int .i64 p.lim.sl, .int .i64 p.lim.sh, .int .i64 p.lim.hl, .int .i64 p.lim.hh, .int .i64 p.rate, .int .i64 p.asked, .int .i64 p.st, .bool p.door, .int .i64 p.left, .int .i64 p.given]
  | 1 => o 1 = .agg #[.int .i64 p.lim.sl, .int .i64 p.lim.sh, .int .i64 p.lim.hl, .int .i64 p.lim.hh, .int .i64 p.rate, .int .i64 p.asked, .int .i64 p.st, .bool p.door, .int .i64 p.left, .int .i64 p.given]
  | 2 => o 2 = .agg #[.int .i64 c.kind, .int .i64 c.n]
  | 3 => o 3 = .agg #[.int .i64 c.kind, .int .i64 c.n]
  | 4 => o 4 = .tuple #[.agg #[.int .i64 q.lim.sl, .int .i64 q.lim.sh, .int .i64 q.lim.hl, .int .i64 q.lim.hh, .int .i64 q.rate, .int .i64 q.asked, .int .i64 q.st, .bool q.door, .int .i64 q.left, .int .i64 q.given], .int .i64 co]
  | 5 => o 5 = .tuple #[.agg #[.int .i64 q.lim.sl, .int .i64 q.lim.sh, .int .i64 q.lim.hl, .int .i64 q.lim.hh, .int .i64 q.rate, .int .i64 q.asked, .int .i64 q.st, .bool q.door, .int .i64 q.left, .int .i64 q.given], .int .i64 co]
  | 6 => o 6 = .agg #[.int .i64 q.lim.sl, .int .i64 q.lim.sh, .int .i64 q.lim.hl, .int .i64 q.lim.hh, .int .i64 q.rate, .int .i64 q.asked, .int .i64 q.st, .bool q.door, .int .i64 q.left, .int .i64 q.given]
  | 7 => o 7 = .int .i64 co
  | 8 => ∃ B, o 8 = .pointer (some ⟨B, 0, none⟩) ∧ n0 ≤ B ∧ PB w B #[.int .i64 0, .int .i64 0, .int .i64 0, .int .i64 0, .int .i64 0, .int .i64 0, .int .i64 0, .bool false, .int .i64 0, .int .i64 0] 27
  | 9 => ∃ B, o 8 = .pointer (some ⟨B, 0, none⟩) ∧ n0 ≤ B ∧ PB w B #[.int .i64 q.lim.sl, .int .i64 q.lim.sh, .int .i64 q.lim.hl, .int .i64 q.lim.hh, .int .i64 q.rate, .int .i64 q.asked, .int .i64 q.st, .bool q.door, .int .i64 q.left, .int .i64 q.given] 27
  | 10 => o 10 = .int .i64 co
  | _ => True
theorem sizeD2 : (Rg.opsOf Try.f8 2).size = 11 := by kernel_rfl
theorem stayD2 {n0 : Nat} {p q : Pm} {c : Ac} {co : Int} {i k : Nat} {o o' : Nat → Value} {w w' : World} (hd : Rg.due .any (Rg.opsOf Try.f8 2) (fun k => if k = 8 then some 9 else none) i k = true) (hb : Below w.heap.size w w') (ho : ∀ k, k ≠ i → o' k = o k) (h : FD2 n0 p q c co k o w) : FD2 n0 p q c co k o' w' := by
  have hki := Rg.due_ne hd
  have h98 : k = 9 → i ≠ 8 := fun e1 e2 => by subst e1 e2; exact Rg.due_af hd (by kernel_rfl)
  unfold FD2 at *
  split at h
  · rw [ho _ hki]; exact h
  · rw [ho _ hki]; exact h
  · rw [ho _ hki]; exact h
  · rw [ho _ hki]; exact h
  · rw [ho _ hki]; exact h
  · rw [ho _ hki]; exact h
  · rw [ho _ hki]; exact h
  · rw [ho _ hki]; exact h
  · obtain ⟨B, h1, h2, h3⟩ := h; exact ⟨B, by rw [ho _ hki]; exact h1, h2, h3.below hb⟩
  · obtain ⟨B, h1, h2, h3⟩ := h; exact ⟨B, by rw [ho _ (Ne.symm (h98 rfl))]; exact h1, h2, h3.below hb⟩
  · rw [ho _ hki]; exact h
  · trivial
theorem stasD2 {n0 : Nat} {p q : Pm} {c : Ac} {co : Int} {k : Nat} {o o' : Nat → Value} {w w' : World} (hd : Rg.due .any (Rg.opsOf Try.f8 2) (fun k => if k = 8 then some 9 else none) 9 k = true) (ho : ∀ k, k ≠ 9 → o' k = o k) (h : FD2 n0 p q c co k o w) : FD2 n0 p q c co k o' w' := by
  have hki := Rg.due_ne hd
  have h8 : k ≠ 8 := fun e => by subst e; exact Rg.due_dead hd (by kernel_rfl)
  unfold FD2 at *
  split at h
  · rw [ho _ hki]; exact h
  · rw [ho _ hki]; exact h
  · rw [ho _ hki]; exact h
  · rw [ho _ hki]; exact h
  · rw [ho _ hki]; exact h
  · rw [ho _ hki]; exact h
  · rw [ho _ hki]; exact h
  · rw [ho _ hki]; exact h
  · exact (h8 rfl).elim
  · exact (hki rfl).elim
  · rw [ho _ hki]; exact h
  · trivial

set_option maxRecDepth 20000 in
set_option maxHeartbeats 8000000 in
theorem regD2 {Q : Exit → Act → World → Prop} {a : Act} {w9 : World} {B0 B1 : Nat} {p q : Pm} {c : Ac} {co : Int} (ha : a.tmps.size = 34)
    (k2 : a.tmps[2]? = some (.pointer (some ⟨B0, 0, none⟩))) (k3 : a.tmps[3]? = some (.pointer (some ⟨B1, 0, none⟩))) (hP : PB w9 B0 #[.int .i64 p.lim.sl, .int .i64 p.lim.sh, .int .i64 p.lim.hl, .int .i64 p.lim.hh, .int .i64 p.rate, .int .i64 p.asked, .int .i64 p.st, .bool p.door, .int .i64 p.left, .int .i64 p.given] 47) (hA0 : PB w9 B1 #[.int .i64 c.kind, .int .i64 c.n] 53)
    (cT : ∀ W, Calls Try.prog 20 #[.agg #[.int .i64 p.lim.sl, .int .i64 p.lim.sh, .int .i64 p.lim.hl, .int .i64 p.lim.hh, .int .i64 p.rate, .int .i64 p.asked, .int .i64 p.st, .bool p.door, .int .i64 p.left, .int .i64 p.given]] W fun e W' => e = .returned (.agg #[.int .i64 p.lim.sl, .int .i64 p.lim.sh, .int .i64 p.lim.hl, .int .i64 p.lim.hh, .int .i64 p.rate, .int .i64 p.asked, .int .i64 p.st, .bool p.door, .int .i64 p.left, .int .i64 p.given]) ∧ Below W.heap.size W W') (cU : ∀ W, Calls Try.prog 24 #[.agg #[.int .i64 c.kind, .int .i64 c.n]] W fun e W' => e = .returned (.agg #[.int .i64 c.kind, .int .i64 c.n]) ∧ Below W.heap.size W W')
    (cD : ∀ W, Calls Try.prog 11 #[.agg #[.int .i64 p.lim.sl, .int .i64 p.lim.sh, .int .i64 p.lim.hl, .int .i64 p.lim.hh, .int .i64 p.rate, .int .i64 p.asked, .int .i64 p.st, .bool p.door, .int .i64 p.left, .int .i64 p.given], .agg #[.int .i64 c.kind, .int .i64 c.n]] W fun e W' => e = .returned (.tuple #[.agg #[.int .i64 q.lim.sl, .int .i64 q.lim.sh, .int .i64 q.lim.hl, .int .i64 q.lim.hh, .int .i64 q.rate, .int .i64 q.asked, .int .i64 q.st, .bool q.door, .int .i64 q.left, .int .i64 q.given], .int .i64 co]) ∧ Below W.heap.size W W')
    (hend : ∀ b' w', Rg.Fr (Rg.opsOf Try.f8 2) a b' → Below w9.heap.size w9 w' → (∃ B, Rg.out (Rg.opsOf Try.f8 2) b' 8 = .pointer (some ⟨B, 0, none⟩) ∧ w9.heap.size ≤ B ∧ PB w' B #[.int .i64 q.lim.sl, .int .i64 q.lim.sh, .int .i64 q.lim.hl, .int .i64 q.lim.hh, .int .i64 q.rate, .int .i64 q.asked, .int .i64 q.st, .bool q.door, .int .i64 q.left, .int .i64 q.given] 27) → Rg.out (Rg.opsOf Try.f8 2) b' 10 = .int .i64 co → Q .normal b' w') :
    (Code.region 2 (Rg.opsOf Try.f8 2) true).wp Try.prog Q a w9 := by
  refine Rg.region_out (by kernel_rfl) (fun w' => Below w9.heap.size w9 w') (FD2 w9.heap.size p q c co) (fun k => if k = 8 then some 9 else none) (by rw [ha, sizeD2]; kernel_rfl) (st_drew (Below.refl _ _)) ?_ ?_
  case refine_2 =>
    intro b' w' hf hI hA
    rw [sizeD2] at hA
    exact hend b' w' hf hI (hA 9 (by decide) rfl) (hA 10 (by decide) rfl)
  case refine_1 =>
    clear hend
    intro i' hi'
    rw [sizeD2] at hi'
    rcases (show i' = 0 ∨ i' = 1 ∨ i' = 2 ∨ i' = 3 ∨ i' = 4 ∨ i' = 5 ∨ i' = 6 ∨ i' = 7 ∨ i' = 8 ∨ i' = 9 ∨ i' = 10 by omega) with rfl | rfl | rfl | rfl | rfl | rfl | rfl | rfl | rfl | rfl | rfl
    · intro bb w' hf hI hA
      clear hi'
      have qs := hf.kept (s := 2) (by rw [sizeD2]; kernel_rfl) k2
      obtain ⟨e0, e1, e2, e3, e4, e5, e6, e7, e8, e9⟩ := (hP.below hI).ten
      clear hA hP hA0 cT cU cD
      exact Rg.op_value (o := ⟨some 18, Op.load 47 (Operand.tmp 2), _, _, _, _⟩) (x := .agg #[.int .i64 p.lim.sl, .int .i64 p.lim.sh, .int .i64 p.lim.hl, .int .i64 p.lim.hh, .int .i64 p.rate, .int .i64 p.asked, .int .i64 p.st, .bool p.door, .int .i64 p.left, .int .i64 p.given]) rfl rfl (by simp only [execOp]; go_simp) ⟨_, rfl, hI, fun o' ho hx => ⟨hx (by rw [show Rg.dstAt (Rg.opsOf Try.f8 2) 0 = some 18 by kernel_rfl]; simp), fun k hd h => stayD2 hd (Below.refl _ _) ho h⟩⟩
    · intro bb w' hf hI hA
      clear hi'
      have q0 : bb.tmps[18]? = some _ := hf.tmp (k := 0) rfl (by rw [ha]; decide) (hA 0 (by kernel_rfl) (.inl rfl))
      refine Rg.op_call (o := ⟨some 19, Op.call { callee := Callee.value (Operand.func 20), args := #[(Operand.tmp 18)], argTypes := _ }, _, _, _, _⟩) rfl rfl (by clear hA hP hA0 cT cU cD; simp only [execOp, resolve]; go_simp) (cT w') ?_
      rintro e w2 ⟨rfl, hb2⟩
      exact ⟨_, rfl, _, rfl, onto hI hb2, fun o' ho hx => ⟨hx (by rw [show Rg.dstAt (Rg.opsOf Try.f8 2) 1 = some 19 by kernel_rfl]; simp), fun k hd h => stayD2 hd hb2 ho h⟩⟩
    · intro bb w' hf hI hA
      clear hi'
      have qs := hf.kept (s := 3) (by rw [sizeD2]; kernel_rfl) k3
      obtain ⟨e0, e1⟩ := (hA0.below hI).two
      clear hA hP hA0 cT cU cD
      exact Rg.op_value (o := ⟨some 20, Op.load 53 (Operand.tmp 3), _, _, _, _⟩) (x := .agg #[.int .i64 c.kind, .int .i64 c.n]) rfl rfl (by simp only [execOp]; go_simp) ⟨_, rfl, hI, fun o' ho hx => ⟨hx (by rw [show Rg.dstAt (Rg.opsOf Try.f8 2) 2 = some 20 by kernel_rfl]; simp), fun k hd h => stayD2 hd (Below.refl _ _) ho h⟩⟩
    · intro bb w' hf hI hA
      clear hi'
      have q2 : bb.tmps[20]? = some _ := hf.tmp (k := 2) rfl (by rw [ha]; decide) (hA 2 (by kernel_rfl) (.inl rfl))
      refine Rg.op_call (o := ⟨some 21, Op.call { callee := Callee.value (Operand.func 24), args := #[(Operand.tmp 20)], argTypes := _ }, _, _, _, _⟩) rfl rfl (by clear hA hP hA0 cT cU cD; simp only [execOp, resolve]; go_simp) (cU w') ?_
      rintro e w2 ⟨rfl, hb2⟩
      exact ⟨_, rfl, _, rfl, onto hI hb2, fun o' ho hx => ⟨hx (by rw [show Rg.dstAt (Rg.opsOf Try.f8 2) 3 = some 21 by kernel_rfl]; simp), fun k hd h => stayD2 hd hb2 ho h⟩⟩
    · intro bb w' hf hI hA
      clear hi'
      have q1 : bb.tmps[19]? = some _ := hf.tmp (k := 1) rfl (by rw [ha]; decide) (hA 1 (by kernel_rfl) (.inl rfl))
      have q3 : bb.tmps[21]? = some _ := hf.tmp (k := 3) rfl (by rw [ha]; decide) (hA 3 (by kernel_rfl) (.inl rfl))
      refine Rg.op_call (o := ⟨some 22, Op.call { callee := Callee.value (Operand.func 11), args := #[(Operand.tmp 19), (Operand.tmp 21)], argTypes := _ }, _, _, _, _⟩) rfl rfl (by clear hA hP hA0 cT cU cD; simp only [execOp, resolve]; go_simp) (cD w') ?_
      rintro e w2 ⟨rfl, hb2⟩
      exact ⟨_, rfl, _, rfl, onto hI hb2, fun o' ho hx => ⟨hx (by rw [show Rg.dstAt (Rg.opsOf Try.f8 2) 4 = some 22 by kernel_rfl]; simp), fun k hd h => stayD2 hd hb2 ho h⟩⟩
    · intro bb w' hf hI hA
      clear hi'
      have q4 : bb.tmps[22]? = some _ := hf.tmp (k := 4) rfl (by rw [ha]; decide) (hA 4 (by kernel_rfl) (.inl rfl))
      clear hA hP hA0 cT cU cD
      exact Rg.op_value (o := ⟨some 17, Op.move (Operand.tmp 22), _, _, _, _⟩) (x := .tuple #[.agg #[.int .i64 q.lim.sl, .int .i64 q.lim.sh, .int .i64 q.lim.hl, .int .i64 q.lim.hh, .int .i64 q.rate, .int .i64 q.asked, .int .i64 q.st, .bool q.door, .int .i64 q.left, .int .i64 q.given], .int .i64 co]) rfl rfl (by simp only [execOp]; go_simp) ⟨_, rfl, hI, fun o' ho hx => ⟨hx (by rw [show Rg.dstAt (Rg.opsOf Try.f8 2) 5 = some 17 by kernel_rfl]; simp), fun k hd h => stayD2 hd (Below.refl _ _) ho h⟩⟩
    · intro bb w' hf hI hA
      clear hi'
      have q5 : bb.tmps[17]? = some _ := hf.tmp (k := 5) rfl (by rw [ha]; decide) (hA 5 (by kernel_rfl) (.inl rfl))
      clear hA hP hA0 cT cU cD
      exact Rg.op_value (o := ⟨some 23, Op.extract (Operand.tmp 17) 0, _, _, _, _⟩) (x := .agg #[.int .i64 q.lim.sl, .int .i64 q.lim.sh, .int .i64 q.lim.hl, .int .i64 q.lim.hh, .int .i64 q.rate, .int .i64 q.asked, .int .i64 q.st, .bool q.door, .int .i64 q.left, .int .i64 q.given]) rfl rfl (by simp only [execOp]; go_simp) ⟨_, rfl, hI, fun o' ho hx => ⟨hx (by rw [show Rg.dstAt (Rg.opsOf Try.f8 2) 6 = some 23 by kernel_rfl]; simp), fun k hd h => stayD2 hd (Below.refl _ _) ho h⟩⟩
    · intro bb w' hf hI hA
      clear hi'
      have q5 : bb.tmps[17]? = some _ := hf.tmp (k := 5) rfl (by rw [ha]; decide) (hA 5 (by kernel_rfl) (.inl rfl))
      clear hA hP hA0 cT cU cD
      exact Rg.op_value (o := ⟨some 24, Op.extract (Operand.tmp 17) 1, _, _, _, _⟩) (x := .int .i64 co) rfl rfl (by simp only [execOp]; go_simp) ⟨_, rfl, hI, fun o' ho hx => ⟨hx (by rw [show Rg.dstAt (Rg.opsOf Try.f8 2) 7 = some 24 by kernel_rfl]; simp), fun k hd h => stayD2 hd (Below.refl _ _) ho h⟩⟩
    · intro bb w' hf hI hA
      clear hi'
      clear hA hP hA0 cT cU cD
      have hb2 : Below w'.heap.size w' (w'.alloc (.cells #[.int .i64 0, .int .i64 0, .int .i64 0, .int .i64 0, .int .i64 0, .int .i64 0, .int .i64 0, .bool false, .int .i64 0, .int .i64 0] 27)) := (Below.refl _ _).alloc (Nat.le_refl _) _
      exact Rg.op_value (o := ⟨some 7, Op.alloc 27, _, _, _, _⟩) (x := .pointer (some ⟨w'.heap.size, 0, none⟩)) (w' := w'.alloc (.cells #[.int .i64 0, .int .i64 0, .int .i64 0, .int .i64 0, .int .i64 0, .int .i64 0, .int .i64 0, .bool false, .int .i64 0, .int .i64 0] 27)) rfl rfl (by simp only [execOp]; go_simp) ⟨_, rfl, onto hI hb2, fun o' ho hx => ⟨⟨_, hx (by rw [show Rg.dstAt (Rg.opsOf Try.f8 2) 8 = some 7 by kernel_rfl]; simp), hI.size, PB.new _ _ _⟩, fun k hd h => stayD2 hd hb2 ho h⟩⟩
    · intro bb w' hf hI hA
      clear hi'
      have q6 : bb.tmps[23]? = some _ := hf.tmp (k := 6) rfl (by rw [ha]; decide) (hA 6 (by kernel_rfl) (.inl rfl))
      obtain ⟨B, hv, hB, hZ⟩ := hA 8 (by kernel_rfl) (.inr rfl)
      have qa : bb.tmps[7]? = some _ := hf.tmp (k := 8) rfl (by rw [ha]; decide) hv
      have hfil := PB.fill' q hZ
      have hbw := fill_below hI hB (.int .i64 q.lim.sl) (.int .i64 q.lim.sh) (.int .i64 q.lim.hl) (.int .i64 q.lim.hh) (.int .i64 q.rate) (.int .i64 q.asked) (.int .i64 q.st) (.bool q.door) (.int .i64 q.left) (.int .i64 q.given)
      obtain ⟨z0, z1, z2, z3, z4, z5, z6, z7, z8, z9⟩ := hZ.ten
      obtain ⟨f0, f1, f2, f3, f4, f5, f6, f7, f8, f9⟩ := hZ.cold
      refine Rg.op_skip (o := ⟨none, Op.store 27 (Operand.tmp 7) (Operand.tmp 23), _, _, _, _⟩) (w' := ((((((((((w'.setCell ⟨B, 0, none⟩ (.int .i64 q.lim.sl)).setCell ⟨B, 1, none⟩ (.int .i64 q.lim.sh)).setCell ⟨B, 2, none⟩ (.int .i64 q.lim.hl)).setCell ⟨B, 3, none⟩ (.int .i64 q.lim.hh)).setCell ⟨B, 4, none⟩ (.int .i64 q.rate)).setCell ⟨B, 5, none⟩ (.int .i64 q.asked)).setCell ⟨B, 6, none⟩ (.int .i64 q.st)).setCell ⟨B, 7, none⟩ (.bool q.door)).setCell ⟨B, 8, none⟩ (.int .i64 q.left)).setCell ⟨B, 9, none⟩ (.int .i64 q.given))) rfl rfl (by clear hA hfil hbw hv hZ hP hA0 cT cU cD; simp only [execOp]; go_simp) ?_
      exact ⟨_, rfl, hbw, fun o' ho _ => ⟨⟨B, (ho 8 (by decide)).trans hv, hB, hfil⟩, fun k hd h => stasD2 hd ho h⟩⟩
    · intro bb w' hf hI hA
      clear hi'
      have q7 : bb.tmps[24]? = some _ := hf.tmp (k := 7) rfl (by rw [ha]; decide) (hA 7 (by kernel_rfl) (.inl rfl))
      clear hA hP hA0 cT cU cD
      exact Rg.op_value (o := ⟨some 8, Op.assign (Operand.tmp 24), _, _, _, _⟩) (x := .int .i64 co) rfl rfl (by simp only [execOp]; go_simp) ⟨_, rfl, hI, fun o' ho hx => ⟨hx (by rw [show Rg.dstAt (Rg.opsOf Try.f8 2) 10 = some 8 by kernel_rfl]; simp), fun k hd h => stayD2 hd (Below.refl _ _) ho h⟩⟩

theorem dD2_0 : Rg.dstAt (Rg.opsOf Try.f8 2) 0 = some 18 := by kernel_rfl
theorem dD2_1 : Rg.dstAt (Rg.opsOf Try.f8 2) 1 = some 19 := by kernel_rfl
theorem dD2_2 : Rg.dstAt (Rg.opsOf Try.f8 2) 2 = some 20 := by kernel_rfl
theorem dD2_3 : Rg.dstAt (Rg.opsOf Try.f8 2) 3 = some 21 := by kernel_rfl
theorem dD2_4 : Rg.dstAt (Rg.opsOf Try.f8 2) 4 = some 22 := by kernel_rfl
theorem dD2_5 : Rg.dstAt (Rg.opsOf Try.f8 2) 5 = some 17 := by kernel_rfl
theorem dD2_6 : Rg.dstAt (Rg.opsOf Try.f8 2) 6 = some 23 := by kernel_rfl
theorem dD2_7 : Rg.dstAt (Rg.opsOf Try.f8 2) 7 = some 24 := by kernel_rfl
theorem dD2_8 : Rg.dstAt (Rg.opsOf Try.f8 2) 8 = some 7 := by kernel_rfl
theorem dD2_9 : Rg.dstAt (Rg.opsOf Try.f8 2) 9 = none := by kernel_rfl
theorem dD2_10 : Rg.dstAt (Rg.opsOf Try.f8 2) 10 = some 8 := by kernel_rfl
theorem layD2 {a b : Act} (hf : Rg.Fr (Rg.opsOf Try.f8 2) a b) : b = (((((((((((a.put (some 18) (Rg.out (Rg.opsOf Try.f8 2) b 0)).put (some 19) (Rg.out (Rg.opsOf Try.f8 2) b 1)).put (some 20) (Rg.out (Rg.opsOf Try.f8 2) b 2)).put (some 21) (Rg.out (Rg.opsOf Try.f8 2) b 3)).put (some 22) (Rg.out (Rg.opsOf Try.f8 2) b 4)).put (some 17) (Rg.out (Rg.opsOf Try.f8 2) b 5)).put (some 23) (Rg.out (Rg.opsOf Try.f8 2) b 6)).put (some 24) (Rg.out (Rg.opsOf Try.f8 2) b 7)).put (some 7) (Rg.out (Rg.opsOf Try.f8 2) b 8)).put none (Rg.out (Rg.opsOf Try.f8 2) b 9)).put (some 8) (Rg.out (Rg.opsOf Try.f8 2) b 10)) := by
  have h := hf.chain
  rw [sizeD2, show List.range 11 = [0, 1, 2, 3, 4, 5, 6, 7, 8, 9, 10] from by decide] at h
  simp only [List.foldl_cons, List.foldl_nil, dD2_0, dD2_1, dD2_2, dD2_3, dD2_4, dD2_5, dD2_6, dD2_7, dD2_8, dD2_9, dD2_10] at h
  exact h
end Go.Proofs.Ytamghmnibfbgaaa
