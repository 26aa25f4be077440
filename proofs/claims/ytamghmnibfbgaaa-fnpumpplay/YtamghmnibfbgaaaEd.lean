/-
  Acts in a row: what the specification's PumpPlay answers.
-/
import Derived.Test.YtamghmnibfbgaaaEc
import Derived.Test.YtamghmnibfbgaaaRi
import Derived.BigQuiet
namespace Go.Proofs.Ytamghmnibfbgaaa
open Go.RowKit Va Ba Go.Maps
set_option linter.all false

def FP8 (n0 g off j0 len cap : Nat) (p q : Pm) (x : Ac) (co : Int) (k : Nat) (o : Nat → Value) (w : World) : Prop :=
  match k with
  | 0 => o 0 = .agg #[.int .i64 p.lim.sl, .int .i64 p.lim.sh, .int .i64 p.lim.hl, .int .i64 p.lim.hh, .int .i64 p.rate, .int .i64 p.asked, .int .i64 p.st, .bool p.door, .int .i64 p.left, .int .i64 p.given]
  | 1 => o 1 = .slice (some ⟨g, off, none⟩) len cap
  | 2 => o 2 = .int .i64 (j0 : Nat)
  | 3 => o 3 = .pointer (some ⟨g, off + j0 * 2, none⟩)
  | 4 => o 4 = .agg #[.int .i64 x.kind, .int .i64 x.n]
  | 5 => o 5 = .tuple #[.agg #[.int .i64 q.lim.sl, .int .i64 q.lim.sh, .int .i64 q.lim.hl, .int .i64 q.lim.hh, .int .i64 q.rate, .int .i64 q.asked, .int .i64 q.st, .bool q.door, .int .i64 q.left, .int .i64 q.given], .int .i64 co]
  | 6 => o 6 = .tuple #[.agg #[.int .i64 q.lim.sl, .int .i64 q.lim.sh, .int .i64 q.lim.hl, .int .i64 q.lim.hh, .int .i64 q.rate, .int .i64 q.asked, .int .i64 q.st, .bool q.door, .int .i64 q.left, .int .i64 q.given], .int .i64 co]
  | 7 => o 7 = .agg #[.int .i64 q.lim.sl, .int .i64 q.lim.sh, .int .i64 q.lim.hl, .int .i64 q.lim.hh, .int .i64 q.rate, .int .i64 q.asked, .int .i64 q.st, .bool q.door, .int .i64 q.left, .int .i64 q.given]
  | 8 => o 8 = .int .i64 co
  | 9 => ∃ B, o 9 = .pointer (some ⟨B, 0, none⟩) ∧ n0 ≤ B ∧ PB w B #[.int .i64 0, .int .i64 0, .int .i64 0, .int .i64 0, .int .i64 0, .int .i64 0, .int .i64 0, .bool false, .int .i64 0, .int .i64 0] 27
  | 10 => ∃ B, o 9 = .pointer (some ⟨B, 0, none⟩) ∧ n0 ≤ B ∧ PB w B #[.int .i64 q.lim.sl, .int .i64 q.lim.sh, .int .i64 q.lim.hl, .int .i64 q.lim.hh, .int .i64 q.rate, .int .i64 q.asked, .int .i64 q.st, .bool q.door, .int .i64 q.left, .int .i64 q.given] 27
  | 11 => o 11 = .int .i64 co
  | _ => True
theorem sizeP8 : (Rg.opsOf Try.f19 8).size = 12 := by kernel_rfl
theorem stayP8 {n0 g off j0 len cap : Nat} {p q : Pm} {x : Ac} {co : Int} {i k : Nat} {o o' : Nat → Value} {w w' : World} (hd : Rg.due .any (Rg.opsOf Try.f19 8) (fun k => if k = 9 then some 10 else none) i k = true) (hb : Below w.heap.size w w') (ho : ∀ k, k ≠ i → o' k = o k) (h : FP8 n0 g off j0 len cap p q x co k o w) : FP8 n0 g off j0 len cap p q x co k o' w' := by
  have hki := Rg.due_ne hd
  have h98 : k = 10 → i ≠ 9 := fun e1 e2 => by subst e1 e2; exact Rg.due_af hd (by kernel_rfl)
  unfold FP8 at *
  split at h
  · rw [ho _ hki]; exact h
  · rw [ho _ hki]; exact h
  · rw [ho _ hki]; exact h
  · rw [ho _ hki]; exact h
  · rw [ho _ hki]; exact h
  · rw [ho _ hki]; exact h
  · rw [ho _ hki]; exact h
  · rw [ho _ hki]; exact h
  · rw [ho _ hki]; exact h
  · obtain ⟨B, h1, h2, h3⟩ := h; exact ⟨B, by rw [ho _ hki]; exact h1, h2, h3.below hb⟩
  · obtain ⟨B, h1, h2, h3⟩ := h; exact ⟨B, by rw [ho _ (Ne.symm (h98 rfl))]; exact h1, h2, h3.below hb⟩
  · rw [ho _ hki]; exact h
  · trivial
theorem stasP8 {n0 g off j0 len cap : Nat} {p q : Pm} {x : Ac} {co : Int} {k : Nat} {o o' : Nat → Value} {w w' : World} (hd : Rg.due .any (Rg.opsOf Try.f19 8) (fun k => if k = 9 then some 10 else none) 10 k = true) (ho : ∀ k, k ≠ 10 → o' k = o k) (h : FP8 n0 g off j0 len cap p q x co k o w) : FP8 n0 g off j0 len cap p q x co k o' w' := by
  have hki := Rg.due_ne hd
  have h8 : k ≠ 9 := fun e => by subst e; exact Rg.due_dead hd (by kernel_rfl)
  unfold FP8 at *
  split at h
  · rw [ho _ hki]; exact h
  · rw [ho _ hki]; exact h
  · rw [ho _ hki]; exact h
  · rw [ho _ hki]; exact h
  · rw [ho _ hki]; exact h
  · rw [ho _ hki]; exact h
  · rw [ho _ hki]; exact h
  · rw [ho _ hki]; exact h
  · rw [ho _ hki]; exact h
  · exact (h8 rfl).elim
  · exact (hki rfl).elim
  · rw [ho _ hki]; exact h
  · trivial

set_option maxRecDepth 20000 in
set_option maxHeartbeats 8000000 in
theorem regP8 {Q : Exit → Act → World → Prop} {a : Act} {w9 : World} {P g off j0 len cap : Nat} {p q : Pm} {x : Ac} {co : Int} (ha : a.tmps.size = 52)
    (k8 : a.tmps[8]? = some (.pointer (some ⟨P, 0, none⟩))) (k2 : a.tmps[2]? = some (.slice (some ⟨g, off, none⟩) len cap)) (k11 : a.tmps[11]? = some (.int .i64 (j0 : Nat))) (hP : PB w9 P #[.int .i64 p.lim.sl, .int .i64 p.lim.sh, .int .i64 p.lim.hl, .int .i64 p.lim.hh, .int .i64 p.rate, .int .i64 p.asked, .int .i64 p.st, .bool p.door, .int .i64 p.left, .int .i64 p.given] 27) (hg : g < w9.heap.size) (x0 : w9.cell? ⟨g, off + j0 * 2, none⟩ = some (.int .i64 x.kind)) (x1 : w9.cell? ⟨g, off + j0 * 2 + 1, none⟩ = some (.int .i64 x.n)) (hlt : j0 < len) (hlti : (j0 : Int) < (len : Int))
    (cD : ∀ W, Calls Try.prog 33 #[.agg #[.int .i64 p.lim.sl, .int .i64 p.lim.sh, .int .i64 p.lim.hl, .int .i64 p.lim.hh, .int .i64 p.rate, .int .i64 p.asked, .int .i64 p.st, .bool p.door, .int .i64 p.left, .int .i64 p.given], .agg #[.int .i64 x.kind, .int .i64 x.n]] W fun e W' => e = .returned (.tuple #[.agg #[.int .i64 q.lim.sl, .int .i64 q.lim.sh, .int .i64 q.lim.hl, .int .i64 q.lim.hh, .int .i64 q.rate, .int .i64 q.asked, .int .i64 q.st, .bool q.door, .int .i64 q.left, .int .i64 q.given], .int .i64 co]) ∧ Below W.heap.size W W')
    (hend : ∀ b' w', Rg.Fr (Rg.opsOf Try.f19 8) a b' → Below w9.heap.size w9 w' → (∃ B, Rg.out (Rg.opsOf Try.f19 8) b' 9 = .pointer (some ⟨B, 0, none⟩) ∧ w9.heap.size ≤ B ∧ PB w' B #[.int .i64 q.lim.sl, .int .i64 q.lim.sh, .int .i64 q.lim.hl, .int .i64 q.lim.hh, .int .i64 q.rate, .int .i64 q.asked, .int .i64 q.st, .bool q.door, .int .i64 q.left, .int .i64 q.given] 27) → Rg.out (Rg.opsOf Try.f19 8) b' 11 = .int .i64 co → Q .normal b' w') :
    (Code.region 8 (Rg.opsOf Try.f19 8) true).wp Try.prog Q a w9 := by
  refine Rg.region_out (by kernel_rfl) (fun w' => Below w9.heap.size w9 w') (FP8 w9.heap.size g off j0 len cap p q x co) (fun k => if k = 9 then some 10 else none) (by rw [ha, sizeP8]; kernel_rfl) (st_drew (Below.refl _ _)) ?_ ?_
  case refine_2 =>
    intro b' w' hf hI hA
    rw [sizeP8] at hA
    exact hend b' w' hf hI (hA 10 (by decide) rfl) (hA 11 (by decide) rfl)
  case refine_1 =>
    clear hend
    intro i' hi'
    rw [sizeP8] at hi'
    rcases (show i' = 0 ∨ i' = 1 ∨ i' = 2 ∨ i' = 3 ∨ i' = 4 ∨ i' = 5 ∨ i' = 6 ∨ i' = 7 ∨ i' = 8 ∨ i' = 9 ∨ i' = 10 ∨ i' = 11 by omega) with rfl | rfl | rfl | rfl | rfl | rfl | rfl | rfl | rfl | rfl | rfl | rfl
    · intro bb w' hf hI hA
      clear hi'
      have qs := hf.kept (s := 8) (by rw [sizeP8]; kernel_rfl) k8
      obtain ⟨e0, e1, e2, e3, e4, e5, e6, e7, e8, e9⟩ := (hP.below hI).ten
      clear hA hP cD
      exact Rg.op_value (o := ⟨some 37, Op.load 27 (Operand.tmp 8), _, _, _, _⟩) (x := .agg #[.int .i64 p.lim.sl, .int .i64 p.lim.sh, .int .i64 p.lim.hl, .int .i64 p.lim.hh, .int .i64 p.rate, .int .i64 p.asked, .int .i64 p.st, .bool p.door, .int .i64 p.left, .int .i64 p.given]) rfl rfl (by simp only [execOp]; go_simp) ⟨_, rfl, hI, fun o' ho hx => ⟨hx (by rw [show Rg.dstAt (Rg.opsOf Try.f19 8) 0 = some 37 by kernel_rfl]; simp), fun k hd h => stayP8 hd (Below.refl _ _) ho h⟩⟩
    · intro bb w' hf hI hA
      clear hi'
      have qs := hf.kept (s := 2) (by rw [sizeP8]; kernel_rfl) k2
      clear hA
      exact Rg.op_value (o := ⟨some 38, Op.move (Operand.tmp 2), _, _, _, _⟩) (x := .slice (some ⟨g, off, none⟩) len cap) rfl rfl (by simp only [execOp]; go_simp) ⟨_, rfl, hI, fun o' ho hx => ⟨hx (by rw [show Rg.dstAt (Rg.opsOf Try.f19 8) 1 = some 38 by kernel_rfl]; simp), fun k hd h => stayP8 hd (Below.refl _ _) ho h⟩⟩
    · intro bb w' hf hI hA
      clear hi'
      have qs := hf.kept (s := 11) (by rw [sizeP8]; kernel_rfl) k11
      clear hA
      exact Rg.op_value (o := ⟨some 39, Op.move (Operand.tmp 11), _, _, _, _⟩) (x := .int .i64 (j0 : Nat)) rfl rfl (by simp only [execOp]; go_simp) ⟨_, rfl, hI, fun o' ho hx => ⟨hx (by rw [show Rg.dstAt (Rg.opsOf Try.f19 8) 2 = some 39 by kernel_rfl]; simp), fun k hd h => stayP8 hd (Below.refl _ _) ho h⟩⟩
    · intro bb w' hf hI hA
      clear hi'
      have q1 : bb.tmps[38]? = some _ := hf.tmp (k := 1) rfl (by rw [ha]; decide) (hA 1 (by kernel_rfl) (.inl rfl))
      have q2 : bb.tmps[39]? = some _ := hf.tmp (k := 2) rfl (by rw [ha]; decide) (hA 2 (by kernel_rfl) (.inl rfl))
      clear hA hP cD
      exact Rg.op_value (o := ⟨some 40, Op.indexAddr 39 (Operand.tmp 38) (Operand.tmp 39), _, _, _, _⟩) (x := .pointer (some ⟨g, off + j0 * 2, none⟩)) rfl rfl (by simp only [execOp]; go_simp) ⟨_, rfl, hI, fun o' ho hx => ⟨hx (by rw [show Rg.dstAt (Rg.opsOf Try.f19 8) 3 = some 40 by kernel_rfl]; simp), fun k hd h => stayP8 hd (Below.refl _ _) ho h⟩⟩
    · intro bb w' hf hI hA
      clear hi'
      have q3 : bb.tmps[40]? = some _ := hf.tmp (k := 3) rfl (by rw [ha]; decide) (hA 3 (by kernel_rfl) (.inl rfl))
      have e0 := (hI.cell (p := ⟨g, off + j0 * 2, none⟩) hg).trans x0
      have e1 := (hI.cell (p := ⟨g, off + j0 * 2 + 1, none⟩) hg).trans x1
      clear hA hP cD
      exact Rg.op_value (o := ⟨some 41, Op.load 29 (Operand.tmp 40), _, _, _, _⟩) (x := .agg #[.int .i64 x.kind, .int .i64 x.n]) rfl rfl (by simp only [execOp]; go_simp) ⟨_, rfl, hI, fun o' ho hx => ⟨hx (by rw [show Rg.dstAt (Rg.opsOf Try.f19 8) 4 = some 41 by kernel_rfl]; simp), fun k hd h => stayP8 hd (Below.refl _ _) ho h⟩⟩
    · intro bb w' hf hI hA
      clear hi'
      have q0 : bb.tmps[37]? = some _ := hf.tmp (k := 0) rfl (by rw [ha]; decide) (hA 0 (by kernel_rfl) (.inl rfl))
      have q4 : bb.tmps[41]? = some _ := hf.tmp (k := 4) rfl (by rw [ha]; decide) (hA 4 (by kernel_rfl) (.inl rfl))
      refine Rg.op_call (o := ⟨some 42, Op.call { callee := Callee.value (Operand.func 33), args := #[(Operand.tmp 37), (Operand.tmp 41)], argTypes := _ }, _, _, _, _⟩) rfl rfl (by clear hA hP cD; simp only [execOp, resolve]; go_simp) (cD w') ?_
      rintro e w2 ⟨rfl, hb2⟩
      exact ⟨_, rfl, _, rfl, onto hI hb2, fun o' ho hx => ⟨hx (by rw [show Rg.dstAt (Rg.opsOf Try.f19 8) 5 = some 42 by kernel_rfl]; simp), fun k hd h => stayP8 hd hb2 ho h⟩⟩
    · intro bb w' hf hI hA
      clear hi'
      have q5 : bb.tmps[42]? = some _ := hf.tmp (k := 5) rfl (by rw [ha]; decide) (hA 5 (by kernel_rfl) (.inl rfl))
      clear hA hP cD
      exact Rg.op_value (o := ⟨some 36, Op.move (Operand.tmp 42), _, _, _, _⟩) (x := .tuple #[.agg #[.int .i64 q.lim.sl, .int .i64 q.lim.sh, .int .i64 q.lim.hl, .int .i64 q.lim.hh, .int .i64 q.rate, .int .i64 q.asked, .int .i64 q.st, .bool q.door, .int .i64 q.left, .int .i64 q.given], .int .i64 co]) rfl rfl (by simp only [execOp]; go_simp) ⟨_, rfl, hI, fun o' ho hx => ⟨hx (by rw [show Rg.dstAt (Rg.opsOf Try.f19 8) 6 = some 36 by kernel_rfl]; simp), fun k hd h => stayP8 hd (Below.refl _ _) ho h⟩⟩
    · intro bb w' hf hI hA
      clear hi'
      have q6 : bb.tmps[36]? = some _ := hf.tmp (k := 6) rfl (by rw [ha]; decide) (hA 6 (by kernel_rfl) (.inl rfl))
      clear hA hP cD
      exact Rg.op_value (o := ⟨some 43, Op.extract (Operand.tmp 36) 0, _, _, _, _⟩) (x := .agg #[.int .i64 q.lim.sl, .int .i64 q.lim.sh, .int .i64 q.lim.hl, .int .i64 q.lim.hh, .int .i64 q.rate, .int .i64 q.asked, .int .i64 q.st, .bool q.door, .int .i64 q.left, .int .i64 q.given]) rfl rfl (by simp only [execOp]; go_simp) ⟨_, rfl, hI, fun o' ho hx => ⟨hx (by rw [show Rg.dstAt (Rg.opsOf Try.f19 8) 7 = some 43 by kernel_rfl]; simp), fun k hd h => stayP8 hd (Below.refl _ _) ho h⟩⟩
    · intro bb w' hf hI hA
      clear hi'
      have q6 : bb.tmps[36]? = some _ := hf.tmp (k := 6) rfl (by rw [ha]; decide) (hA 6 (by kernel_rfl) (.inl rfl))
      clear hA hP cD
      exact Rg.op_value (o := ⟨some 44, Op.extract (Operand.tmp 36) 1, _, _, _, _⟩) (x := .int .i64 co) rfl rfl (by simp only [execOp]; go_simp) ⟨_, rfl, hI, fun o' ho hx => ⟨hx (by rw [show Rg.dstAt (Rg.opsOf Try.f19 8) 8 = some 44 by kernel_rfl]; simp), fun k hd h => stayP8 hd (Below.refl _ _) ho h⟩⟩
    · intro bb w' hf hI hA
      clear hi'
      clear hA hP cD
      have hb2 : Below w'.heap.size w' (w'.alloc (.cells #[.int .i64 0, .int .i64 0, .int .i64 0, .int .i64 0, .int .i64 0, .int .i64 0, .int .i64 0, .bool false, .int .i64 0, .int .i64 0] 27)) := (Below.refl _ _).alloc (Nat.le_refl _) _
      exact Rg.op_value (o := ⟨some 12, Op.alloc 27, _, _, _, _⟩) (x := .pointer (some ⟨w'.heap.size, 0, none⟩)) (w' := w'.alloc (.cells #[.int .i64 0, .int .i64 0, .int .i64 0, .int .i64 0, .int .i64 0, .int .i64 0, .int .i64 0, .bool false, .int .i64 0, .int .i64 0] 27)) rfl rfl (by simp only [execOp]; go_simp) ⟨_, rfl, onto hI hb2, fun o' ho hx => ⟨⟨_, hx (by rw [show Rg.dstAt (Rg.opsOf Try.f19 8) 9 = some 12 by kernel_rfl]; simp), hI.size, PB.new _ _ _⟩, fun k hd h => stayP8 hd hb2 ho h⟩⟩
    · intro bb w' hf hI hA
      clear hi'
      have q7 : bb.tmps[43]? = some _ := hf.tmp (k := 7) rfl (by rw [ha]; decide) (hA 7 (by kernel_rfl) (.inl rfl))
      obtain ⟨B, hv, hB, hZ⟩ := hA 9 (by kernel_rfl) (.inr rfl)
      have qa : bb.tmps[12]? = some _ := hf.tmp (k := 9) rfl (by rw [ha]; decide) hv
      have hfil := PB.fill' q hZ
      have hbw := fill_below hI hB (.int .i64 q.lim.sl) (.int .i64 q.lim.sh) (.int .i64 q.lim.hl) (.int .i64 q.lim.hh) (.int .i64 q.rate) (.int .i64 q.asked) (.int .i64 q.st) (.bool q.door) (.int .i64 q.left) (.int .i64 q.given)
      obtain ⟨z0, z1, z2, z3, z4, z5, z6, z7, z8, z9⟩ := hZ.ten
      obtain ⟨f0, f1, f2, f3, f4, f5, f6, f7, f8, f9⟩ := hZ.cold
      refine Rg.op_skip (o := ⟨none, Op.store 27 (Operand.tmp 12) (Operand.tmp 43), _, _, _, _⟩) (w' := ((((((((((w'.setCell ⟨B, 0, none⟩ (.int .i64 q.lim.sl)).setCell ⟨B, 1, none⟩ (.int .i64 q.lim.sh)).setCell ⟨B, 2, none⟩ (.int .i64 q.lim.hl)).setCell ⟨B, 3, none⟩ (.int .i64 q.lim.hh)).setCell ⟨B, 4, none⟩ (.int .i64 q.rate)).setCell ⟨B, 5, none⟩ (.int .i64 q.asked)).setCell ⟨B, 6, none⟩ (.int .i64 q.st)).setCell ⟨B, 7, none⟩ (.bool q.door)).setCell ⟨B, 8, none⟩ (.int .i64 q.left)).setCell ⟨B, 9, none⟩ (.int .i64 q.given))) rfl rfl (by clear hA hfil hbw hv hZ hP cD; simp only [execOp]; go_simp) ?_
      exact ⟨_, rfl, hbw, fun o' ho _ => ⟨⟨B, (ho 9 (by decide)).trans hv, hB, hfil⟩, fun k hd h => stasP8 hd ho h⟩⟩
    · intro bb w' hf hI hA
      clear hi'
      have q8 : bb.tmps[44]? = some _ := hf.tmp (k := 8) rfl (by rw [ha]; decide) (hA 8 (by kernel_rfl) (.inl rfl))
      clear hA hP cD
      exact Rg.op_value (o := ⟨some 13, Op.assign (Operand.tmp 44), _, _, _, _⟩) (x := .int .i64 co) rfl rfl (by simp only [execOp]; go_simp) ⟨_, rfl, hI, fun o' ho hx => ⟨hx (by rw [show Rg.dstAt (Rg.opsOf Try.f19 8) 11 = some 13 by kernel_rfl]; simp), fun k hd h => stayP8 hd (Below.refl _ _) ho h⟩⟩

theorem dP8_0 : Rg.dstAt (Rg.opsOf Try.f19 8) 0 = some 37 := by kernel_rfl
theorem dP8_1 : Rg.dstAt (Rg.opsOf Try.f19 8) 1 = some 38 := by kernel_rfl
theorem dP8_2 : Rg.dstAt (Rg.opsOf Try.f19 8) 2 = some 39 := by kernel_rfl
theorem dP8_3 : Rg.dstAt (Rg.opsOf Try.f19 8) 3 = some 40 := by kernel_rfl
theorem dP8_4 : Rg.dstAt (Rg.opsOf Try.f19 8) 4 = some 41 := by kernel_rfl
theorem dP8_5 : Rg.dstAt (Rg.opsOf Try.f19 8) 5 = some 42 := by kernel_rfl
theorem dP8_6 : Rg.dstAt (Rg.opsOf Try.f19 8) 6 = some 36 := by kernel_rfl
theorem dP8_7 : Rg.dstAt (Rg.opsOf Try.f19 8) 7 = some 43 := by kernel_rfl
theorem dP8_8 : Rg.dstAt (Rg.opsOf Try.f19 8) 8 = some 44 := by kernel_rfl
theorem dP8_9 : Rg.dstAt (Rg.opsOf Try.f19 8) 9 = some 12 := by kernel_rfl
theorem dP8_10 : Rg.dstAt (Rg.opsOf Try.f19 8) 10 = none := by kernel_rfl
theorem dP8_11 : Rg.dstAt (Rg.opsOf Try.f19 8) 11 = some 13 := by kernel_rfl
theorem layP8 {a b : Act} (hf : Rg.Fr (Rg.opsOf Try.f19 8) a b) : b = ((((((((((((a.put (some 37) (Rg.out (Rg.opsOf Try.f19 8) b 0)).put (some 38) (Rg.out (Rg.opsOf Try.f19 8) b 1)).put (some 39) (Rg.out (Rg.opsOf Try.f19 8) b 2)).put (some 40) (Rg.out (Rg.opsOf Try.f19 8) b 3)).put (some 41) (Rg.out (Rg.opsOf Try.f19 8) b 4)).put (some 42) (Rg.out (Rg.opsOf Try.f19 8) b 5)).put (some 36) (Rg.out (Rg.opsOf Try.f19 8) b 6)).put (some 43) (Rg.out (Rg.opsOf Try.f19 8) b 7)).put (some 44) (Rg.out (Rg.opsOf Try.f19 8) b 8)).put (some 12) (Rg.out (Rg.opsOf Try.f19 8) b 9)).put none (Rg.out (Rg.opsOf Try.f19 8) b 10)).put (some 13) (Rg.out (Rg.opsOf Try.f19 8) b 11)) := by
  have h := hf.chain
  rw [sizeP8, show List.range 12 = [0, 1, 2, 3, 4, 5, 6, 7, 8, 9, 10, 11] from by decide] at h
  simp only [List.foldl_cons, List.foldl_nil, dP8_0, dP8_1, dP8_2, dP8_3, dP8_4, dP8_5, dP8_6, dP8_7, dP8_8, dP8_9, dP8_10, dP8_11] at h
  exact h

set_option maxRecDepth 20000 in
set_option maxHeartbeats 8000000 in
theorem splay_any (l : Lm) (lf : Int) (ao : Option Addr) (n cap : Nat) (acs : List Ac) (w : World) (h : Rw 2 csA w (.slice ao n cap) acs) (hn : acs.length ≤ 1048576) :
    Calls Try.prog 19 #[aL l, .int .i64 lf, .slice ao n cap] w fun e w' => ∃ v, e = .returned (.tuple #[aPm (pplay l lf acs).1, v]) ∧ w'.ownsRow w.heap.size 2 1 v (pplay l lf acs).2.length ((pplay l lf acs).2.map fun z => Value.int .i64 z) ∧ Below w.heap.size w w' := by
  obtain rfl := h.len
  have hN := snew_any l lf
  have HW := hidden (fun W (hW : Below w.heap.size w W) => h.below hW)
  obtain ⟨i0, hi0, hv0, hv1, hv2⟩ := info_partsW infoW64
  have HV : Hid (pplay l lf acs = if (Ba.new l lf).2 = true ∧ acs.length ≤ 1000 then (play (newP l lf) acs, codes (newP l lf) acs) else (zeroP, [])) := rfl
  have HNT : Hid ((Ba.new l lf).2 = true → (Ba.new l lf).1 = newP l lf ∧ Right (newP l lf)) := new_true
  clear h
  generalize newP l lf = p0 at *
  generalize pplay l lf acs = R at *
  generalize Ba.new l lf = N at *
  obtain ⟨p1, b⟩ := N
  dsimp only at hN HV HNT
  unfold aPm at hN
  unfold aL at *
  go_enter Try.func19, Try.ntmps19
  go_upto_region 1 with fail
  have hL := (PB.new w #[.int .i64 l.sl, .int .i64 l.sh, .int .i64 l.hl, .int .i64 l.hh] 25).alloc (.cells #[.int .i64 0, .int .i64 0, .int .i64 0, .int .i64 0, .int .i64 0, .int .i64 0, .int .i64 0, .bool false, .int .i64 0, .int .i64 0] 27)
  have hZ := PB.new (w.alloc (.cells #[.int .i64 l.sl, .int .i64 l.sh, .int .i64 l.hl, .int .i64 l.hh] 25)) #[.int .i64 0, .int .i64 0, .int .i64 0, .int .i64 0, .int .i64 0, .int .i64 0, .int .i64 0, .bool false, .int .i64 0, .int .i64 0] 27
  have hb0 : Below w.heap.size w ((w.alloc (.cells #[.int .i64 l.sl, .int .i64 l.sh, .int .i64 l.hl, .int .i64 l.hh] 25)).alloc (.cells #[.int .i64 0, .int .i64 0, .int .i64 0, .int .i64 0, .int .i64 0, .int .i64 0, .int .i64 0, .bool false, .int .i64 0, .int .i64 0] 27)) := by repeat (first | exact Below.refl _ _ | assumption | refine st_drew ?_ | refine st_drewN ?_ _ | refine Below.setCell ?_ (by first | omega | (simp; done) | (simp; omega)) _ | refine Below.alloc ?_ (by first | omega | (simp; done) | (simp; omega)) _)
  simp only [World.size_alloc] at hL hZ
  generalize (w.alloc (.cells #[.int .i64 l.sl, .int .i64 l.sh, .int .i64 l.hl, .int .i64 l.hh] 25)).alloc (.cells #[.int .i64 0, .int .i64 0, .int .i64 0, .int .i64 0, .int .i64 0, .int .i64 0, .int .i64 0, .bool false, .int .i64 0, .int .i64 0] 27) = wA at *
  generalize Value.agg #[.int .i64 l.sl, .int .i64 l.sh, .int .i64 l.hl, .int .i64 l.hh] = av
  have hle : w.heap.size ≤ w.heap.size + 1 := by omega
  generalize w.heap.size + 1 = B1 at *
  obtain ⟨c0, c1, c2, c3⟩ := hL.four
  have HZ := hidden hZ
  have HB := hidden hb0
  clear hL hZ hb0
  go_upto_region 2 with (with_reducible refine (hN _).mono ?_; rintro e w1 ⟨rfl, hb1⟩)
  have hP := PB.new w1 #[.int .i64 p1.lim.sl, .int .i64 p1.lim.sh, .int .i64 p1.lim.hl, .int .i64 p1.lim.hh, .int .i64 p1.rate, .int .i64 p1.asked, .int .i64 p1.st, .bool p1.door, .int .i64 p1.left, .int .i64 p1.given] 27
  have hZ := (HZ.out.below hb1).alloc (.cells #[.int .i64 p1.lim.sl, .int .i64 p1.lim.sh, .int .i64 p1.lim.hl, .int .i64 p1.lim.hh, .int .i64 p1.rate, .int .i64 p1.asked, .int .i64 p1.st, .bool p1.door, .int .i64 p1.left, .int .i64 p1.given] 27)
  have hb2 : Below w.heap.size w (w1.alloc (.cells #[.int .i64 p1.lim.sl, .int .i64 p1.lim.sh, .int .i64 p1.lim.hl, .int .i64 p1.lim.hh, .int .i64 p1.rate, .int .i64 p1.asked, .int .i64 p1.st, .bool p1.door, .int .i64 p1.left, .int .i64 p1.given] 27)) := (onto HB.out hb1).alloc (onto HB.out hb1).size _
  have hPl : w.heap.size ≤ w1.heap.size := (onto HB.out hb1).size
  have hPZ : w1.heap.size ≠ B1 := Nat.ne_of_gt (HZ.out.below hb1).lt
  generalize w1.alloc (.cells #[.int .i64 p1.lim.sl, .int .i64 p1.lim.sh, .int .i64 p1.lim.hl, .int .i64 p1.lim.hh, .int .i64 p1.rate, .int .i64 p1.asked, .int .i64 p1.st, .bool p1.door, .int .i64 p1.left, .int .i64 p1.given] 27) = wC at *
  generalize w1.heap.size = P at *
  clear c0 c1 c2 c3 HZ HB hb1 hN
  have hO := ownW_base (ownW_new wC 2 1) hb2.size
  have hb3 : Below w.heap.size w (wC.alloc (.cells #[] 2)) := hb2.alloc hb2.size _
  by_cases hbt : b = true ∧ acs.length ≤ 1000
  · obtain ⟨rfl, hln⟩ := hbt
    have HR : Hid (R = (play p0 acs, codes p0 acs)) := by rw [Hid, HV.out, if_pos ⟨rfl, hln⟩]
    obtain ⟨rfl, hRt⟩ := HNT.out rfl
    have HRt := hidden hRt
    clear HV HNT hRt
    have hl1 : ¬ (1000 : Int) < (acs.length : Int) := by omega
    have HP := hidden (hP.alloc (.cells #[] 2))
    have HO := hidden hO
    have HZ := hidden (hZ.alloc (.cells #[] 2))
    have HB := hidden hb3
    clear hP hO hZ hb2 hb3
    go_wp2_with fail
    generalize wC.alloc (.cells #[] 2) = wK at *
    generalize wC.heap.size = G at *
    go_loopw [10, 11] (fun sv iv wr => ∃ i : Nat, i ≤ acs.length ∧ iv = .int .i64 i ∧ (∃ ad c, sv = .slice ad i c ∧ wr.ownsRow w.heap.size 2 1 (.slice ad i c) i ((codes p1 (acs.take i)).map fun z => Value.int .i64 z)) ∧ PB wr P (cP (play p1 (acs.take i))) 27 ∧ PB wr B1 #[.int .i64 0, .int .i64 0, .int .i64 0, .int .i64 0, .int .i64 0, .int .i64 0, .int .i64 0, .bool false, .int .i64 0, .int .i64 0] 27 ∧ Below w.heap.size w wr) (fun _ iv _ => acs.length - (intOf iv).toNat)
    case atStart => exact ⟨0, Nat.zero_le _, rfl, ⟨_, _, rfl, HO.out⟩, HP.out, HZ.out, HB.out⟩
    case round =>
      clear HP HO HZ HB
      obtain ⟨i, hi, rfl, ⟨ad, c, rfl, ho⟩, hP, hZ, hb⟩ := hrel
      have hszr := hb.size
      by_cases hlt : i < acs.length
      · have hlti : (i : Int) < (acs.length : Int) := by omega
        obtain ⟨x, hx⟩ := some_of acs i hlt
        obtain ⟨g, off, rfl, hg, x0, x1⟩ := act_cell (HW.out _ hb) hx
        have HC := hidden (codes_take p1 hx)
        have HM := hidden (play_take p1 hx)
        have k2 := sdo_any (play p1 (acs.take i)) x (right_play HRt.out (acs.take i))
        generalize Ba.step (play p1 (acs.take i)) x = S at *
        obtain ⟨q, co⟩ := S
        dsimp only at HC HM k2
        generalize play p1 (acs.take i) = p at *
        unfold aPm aAc at k2
        unfold cP at hP
        clear hx
        go_upto_region 8 with fail
        go_cut [12, 13] from 30 to 49 (fun pv cv wx => ∃ B, pv = .pointer (some ⟨B, 0, none⟩) ∧ cv = .int .i64 co ∧ PB wx B #[.int .i64 q.lim.sl, .int .i64 q.lim.sh, .int .i64 q.lim.hl, .int .i64 q.lim.hh, .int .i64 q.rate, .int .i64 q.asked, .int .i64 q.st, .bool q.door, .int .i64 q.left, .int .i64 q.given] 27 ∧ Below wr.heap.size wr wx)
        case first =>
          refine regP8 (P := P) (g := g) (off := off) (j0 := i) (len := acs.length) (cap := cap) (p := p) (q := q) (x := x) (co := co) rfl rfl rfl rfl hP hg x0 x1 hlt hlti k2 ?_
          rintro b' w7 hf hb7 ⟨B, h9, hB, hPB⟩ h11
          rw [layP8 hf, h9, h11]
          clear k2 x0 x1 hP hZ ho hb
          generalize Rg.out (Rg.opsOf Try.f19 8) b' 0 = y0
          generalize Rg.out (Rg.opsOf Try.f19 8) b' 1 = y1
          generalize Rg.out (Rg.opsOf Try.f19 8) b' 2 = y2
          generalize Rg.out (Rg.opsOf Try.f19 8) b' 3 = y3
          generalize Rg.out (Rg.opsOf Try.f19 8) b' 4 = y4
          generalize Rg.out (Rg.opsOf Try.f19 8) b' 5 = y5
          generalize Rg.out (Rg.opsOf Try.f19 8) b' 6 = y6
          generalize Rg.out (Rg.opsOf Try.f19 8) b' 7 = y7
          generalize Rg.out (Rg.opsOf Try.f19 8) b' 8 = y8
          generalize Rg.out (Rg.opsOf Try.f19 8) b' 10 = y10
          go_frame
          go_wp2_with fail
          go_meet
          case rel => exact ⟨B, rfl, rfl, hPB, hb7⟩
        case rest =>
        obtain ⟨B, rfl, rfl, hQ, hb2⟩ := hcut
        obtain ⟨w2, hw2⟩ : ∃ y, y = wc := ⟨_, rfl⟩
        subst hw2
        have HP := hidden (hP.below hb2)
        have HZ2 := hidden (hZ.below hb2)
        have HO2 := hidden (ownW_below ho hb2)
        have HB2 := hidden (hb.trans (hb2.mono hszr))
        clear hP hZ ho hb hb2 k2 x0 x1 hg
        obtain ⟨c0, c1, c2, c3, c4, c5, c6, c7, c8, c9⟩ := hQ.ten
        obtain ⟨d0, d1, d2, d3, d4, d5, d6, d7, d8, d9⟩ := HP.out.ten
        obtain ⟨f0, f1, f2, f3, f4, f5, f6, f7, f8, f9⟩ := HP.out.cold
        clear hQ
        have hOP := HP.out.ne HO2.out (by decide)
        have HP2 := hidden (PB.fill' q HP.out)
        have HZ3 : Hid (PB ((((((((((w2.setCell ⟨P, 0, none⟩ (.int .i64 q.lim.sl)).setCell ⟨P, 1, none⟩ (.int .i64 q.lim.sh)).setCell ⟨P, 2, none⟩ (.int .i64 q.lim.hl)).setCell ⟨P, 3, none⟩ (.int .i64 q.lim.hh)).setCell ⟨P, 4, none⟩ (.int .i64 q.rate)).setCell ⟨P, 5, none⟩ (.int .i64 q.asked)).setCell ⟨P, 6, none⟩ (.int .i64 q.st)).setCell ⟨P, 7, none⟩ (.bool q.door)).setCell ⟨P, 8, none⟩ (.int .i64 q.left)).setCell ⟨P, 9, none⟩ (.int .i64 q.given)) B1 #[.int .i64 0, .int .i64 0, .int .i64 0, .int .i64 0, .int .i64 0, .int .i64 0, .int .i64 0, .bool false, .int .i64 0, .int .i64 0] 27) := ((((((((((HZ2.out.far hPZ 0 (.int .i64 q.lim.sl)).far hPZ 1 (.int .i64 q.lim.sh)).far hPZ 2 (.int .i64 q.lim.hl)).far hPZ 3 (.int .i64 q.lim.hh)).far hPZ 4 (.int .i64 q.rate)).far hPZ 5 (.int .i64 q.asked)).far hPZ 6 (.int .i64 q.st)).far hPZ 7 (.bool q.door)).far hPZ 8 (.int .i64 q.left)).far hPZ 9 (.int .i64 q.given))
        have HO3 : Hid (((((((((((w2.setCell ⟨P, 0, none⟩ (.int .i64 q.lim.sl)).setCell ⟨P, 1, none⟩ (.int .i64 q.lim.sh)).setCell ⟨P, 2, none⟩ (.int .i64 q.lim.hl)).setCell ⟨P, 3, none⟩ (.int .i64 q.lim.hh)).setCell ⟨P, 4, none⟩ (.int .i64 q.rate)).setCell ⟨P, 5, none⟩ (.int .i64 q.asked)).setCell ⟨P, 6, none⟩ (.int .i64 q.st)).setCell ⟨P, 7, none⟩ (.bool q.door)).setCell ⟨P, 8, none⟩ (.int .i64 q.left)).setCell ⟨P, 9, none⟩ (.int .i64 q.given)).ownsRow w.heap.size 2 1 (.slice ad i c) i ((codes p1 (acs.take i)).map fun z => Value.int .i64 z)) := (ownE_far (ownE_far (ownE_far (ownE_far (ownE_far (ownE_far (ownE_far (ownE_far (ownE_far (ownE_far HO2.out hOP 0 (.int .i64 q.lim.sl)) hOP 1 (.int .i64 q.lim.sh)) hOP 2 (.int .i64 q.lim.hl)) hOP 3 (.int .i64 q.lim.hh)) hOP 4 (.int .i64 q.rate)) hOP 5 (.int .i64 q.asked)) hOP 6 (.int .i64 q.st)) hOP 7 (.bool q.door)) hOP 8 (.int .i64 q.left)) hOP 9 (.int .i64 q.given))
        have HB3 : Hid (Below w.heap.size w ((((((((((w2.setCell ⟨P, 0, none⟩ (.int .i64 q.lim.sl)).setCell ⟨P, 1, none⟩ (.int .i64 q.lim.sh)).setCell ⟨P, 2, none⟩ (.int .i64 q.lim.hl)).setCell ⟨P, 3, none⟩ (.int .i64 q.lim.hh)).setCell ⟨P, 4, none⟩ (.int .i64 q.rate)).setCell ⟨P, 5, none⟩ (.int .i64 q.asked)).setCell ⟨P, 6, none⟩ (.int .i64 q.st)).setCell ⟨P, 7, none⟩ (.bool q.door)).setCell ⟨P, 8, none⟩ (.int .i64 q.left)).setCell ⟨P, 9, none⟩ (.int .i64 q.given))) := ((((((((((HB2.out.setCell (p := ⟨P, 0, none⟩) hPl (.int .i64 q.lim.sl)).setCell (p := ⟨P, 1, none⟩) hPl (.int .i64 q.lim.sh)).setCell (p := ⟨P, 2, none⟩) hPl (.int .i64 q.lim.hl)).setCell (p := ⟨P, 3, none⟩) hPl (.int .i64 q.lim.hh)).setCell (p := ⟨P, 4, none⟩) hPl (.int .i64 q.rate)).setCell (p := ⟨P, 5, none⟩) hPl (.int .i64 q.asked)).setCell (p := ⟨P, 6, none⟩) hPl (.int .i64 q.st)).setCell (p := ⟨P, 7, none⟩) hPl (.bool q.door)).setCell (p := ⟨P, 8, none⟩) hPl (.int .i64 q.left)).setCell (p := ⟨P, 9, none⟩) hPl (.int .i64 q.given))
        go_upto_region 10 with fail
        generalize ((((((((((w2.setCell ⟨P, 0, none⟩ (.int .i64 q.lim.sl)).setCell ⟨P, 1, none⟩ (.int .i64 q.lim.sh)).setCell ⟨P, 2, none⟩ (.int .i64 q.lim.hl)).setCell ⟨P, 3, none⟩ (.int .i64 q.lim.hh)).setCell ⟨P, 4, none⟩ (.int .i64 q.rate)).setCell ⟨P, 5, none⟩ (.int .i64 q.asked)).setCell ⟨P, 6, none⟩ (.int .i64 q.st)).setCell ⟨P, 7, none⟩ (.bool q.door)).setCell ⟨P, 8, none⟩ (.int .i64 q.left)).setCell ⟨P, 9, none⟩ (.int .i64 q.given)) = w3 at *
        clear c0 c1 c2 c3 c4 c5 c6 c7 c8 c9 d0 d1 d2 d3 d4 d5 d6 d7 d8 d9 f0 f1 f2 f3 f4 f5 f6 f7 f8 f9 HP HZ2 HO2 HB2 hOP
        have hs3 := HB3.out.size
        go_wp2_with (at_builtin; refine wpList_append_own _ rfl (.tmp 46) (.tmp 48) 42 rfl w.heap.size 2 i0 (.int .i64 0) 1 8 Try.underlying42 hi0 hv0 hv1 hv2 rfl (by decide) _ i ((codes p1 (acs.take i)).map fun z => Value.int .i64 z) rfl (HO3.out.alloc _) ⟨w3.heap.size, 0, none⟩ 1 1 [.int .i64 co] rfl rfl (cell_oneW _ _ _) (by simp [Value.oneCell']) (by unfold maxLen; omega) (by omega) (by simp; omega) ?_; intro v5 w5 ho5 hg5 hn5; obtain ⟨ad5, c5, rfl⟩ := ownW_slice ho5)
        have hP5 := (HP2.out.alloc (.cells #[.int .i64 co] 2)).grown hg5 ((HP2.out).ne HO3.out (by decide))
        have hZ5 := (HZ3.out.alloc (.cells #[.int .i64 co] 2)).grown hg5 ((HZ3.out).ne HO3.out (by decide))
        have b5 := (HB3.out.alloc hs3 (.cells #[.int .i64 co] 2)).grown hg5 (by simp; omega) (fun k hk => (ownW_lt HO3.out k hk).1)
        go_roundw
        case rel => exact ⟨i + 1, by omega, rfl, ⟨_, _, rfl, by rw [HC.out, List.map_append]; exact ho5⟩, by rw [HM.out]; exact hP5, hZ5, b5⟩
        case measure => simp [intOf]; omega
      · have hlti : ¬ (i : Int) < (acs.length : Int) := by omega
        have hin : i = acs.length := by omega
        subst hin
        rw [List.take_length] at ho hP
        unfold cP at hP
        obtain ⟨c0, c1, c2, c3, c4, c5, c6, c7, c8, c9⟩ := hP.ten
        obtain ⟨z0, z1, z2, z3, z4, z5, z6, z7, z8, z9⟩ := hZ.ten
        obtain ⟨f0, f1, f2, f3, f4, f5, f6, f7, f8, f9⟩ := hZ.cold
        have HP := hidden hP
        have HZ := hidden hZ
        have HO := hidden ho
        have HB := hidden hb
        clear hP hZ ho hb
        have HLN : Hid ((codes p1 acs).length = acs.length) := codes_len acs p1
        generalize codes p1 acs = CS at *
        generalize play p1 acs = q at *
        go_wp2_with fail
        try simp only [Exit.inBlock, Exit.then]
        refine play_end (q' := q) (v := .slice ad acs.length c) Try.results19 (PB.fill' q HZ.out) rfl rfl ⟨.slice ad acs.length c, ?_, ?_, fill_below HB.out hle _ _ _ _ _ _ _ _ _ _⟩
        · rw [HR.out]
        · rw [HR.out]
          have hOZ := HZ.out.ne HO.out (by decide)
          rw [HLN.out]
          exact ownE_far (ownE_far (ownE_far (ownE_far (ownE_far (ownE_far (ownE_far (ownE_far (ownE_far (ownE_far HO.out hOZ _ _) hOZ _ _) hOZ _ _) hOZ _ _) hOZ _ _) hOZ _ _) hOZ _ _) hOZ _ _) hOZ _ _) hOZ _ _
  · have HR : Hid (R = (zeroP, [])) := by rw [Hid, HV.out, if_neg hbt]
    have hx : b = false ∨ (1000 : Int) < (acs.length : Int) := by
      cases b with
      | false => exact .inl rfl
      | true => right; have : ¬ acs.length ≤ 1000 := fun z => hbt ⟨rfl, z⟩; omega
    clear HV HNT hbt
    have hZ1 := hZ.alloc (.cells #[] 2)
    have HZ := hidden hZ1
    have HO := hidden hO
    have HB := hidden hb3
    have hZf := hidden (PB.fill' zeroP HZ.out)
    have hOZ := hidden (HZ.out.ne HO.out (by decide))
    obtain ⟨z0, z1, z2, z3, z4, z5, z6, z7, z8, z9⟩ := hZ1.ten
    obtain ⟨f0, f1, f2, f3, f4, f5, f6, f7, f8, f9⟩ := hZ1.cold
    clear hP hZ hZ1 hO hb2 hb3
    generalize hwK : wC.alloc (.cells #[] 2) = wK at *
    rcases hx with rfl | hx
    · go_wp2_with fail
      try simp only [Exit.inBlock, Exit.then]
      refine play_end (q' := zeroP) (v := .slice (some ⟨wC.heap.size, 0, none⟩) 0 0) Try.results19 hZf.out rfl rfl ⟨.slice (some ⟨wC.heap.size, 0, none⟩) 0 0, ?_, ?_, fill_below HB.out hle _ _ _ _ _ _ _ _ _ _⟩
      · rw [HR.out]
      · rw [HR.out]
        exact ownE_far (ownE_far (ownE_far (ownE_far (ownE_far (ownE_far (ownE_far (ownE_far (ownE_far (ownE_far HO.out hOZ.out _ _) hOZ.out _ _) hOZ.out _ _) hOZ.out _ _) hOZ.out _ _) hOZ.out _ _) hOZ.out _ _) hOZ.out _ _) hOZ.out _ _) hOZ.out _ _
    · cases b <;> go_wp2_with fail
      all_goals (try simp only [Exit.inBlock, Exit.then])
      all_goals refine play_end (q' := zeroP) (v := .slice (some ⟨wC.heap.size, 0, none⟩) 0 0) Try.results19 hZf.out rfl rfl ⟨.slice (some ⟨wC.heap.size, 0, none⟩) 0 0, ?_, ?_, fill_below HB.out hle _ _ _ _ _ _ _ _ _ _⟩
      all_goals rw [HR.out]
      all_goals exact ownE_far (ownE_far (ownE_far (ownE_far (ownE_far (ownE_far (ownE_far (ownE_far (ownE_far (ownE_far HO.out hOZ.out _ _) hOZ.out _ _) hOZ.out _ _) hOZ.out _ _) hOZ.out _ _) hOZ.out _ _) hOZ.out _ _) hOZ.out _ _) hOZ.out _ _) hOZ.out _ _
end Go.Proofs.Ytamghmnibfbgaaa
