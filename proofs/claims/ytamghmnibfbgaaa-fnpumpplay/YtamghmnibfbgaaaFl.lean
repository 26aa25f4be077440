/-
  Acts together are the acts one by one: the walk of the law.
-/
import Derived.Test.YtamghmnibfbgaaaFk
import Derived.Test.YtamghmnibfbgaaaEd
import Derived.BigQuiet
namespace Go.Proofs.Ytamghmnibfbgaaa
open Go.RowKit Va Ba Go.Maps
set_option linter.all false

theorem ownW_some {w : World} {b e n cc : Nat} {ca : Option Addr} {xs : List Value} (h : w.ownsRow b e 1 (.slice ca n cc) n xs) (hn : 0 < n) : ∃ g, ca = some ⟨g, 0, none⟩ ∧ g < w.heap.size ∧ ∀ (j : Nat) (u : Value), xs[j]? = some u → w.cell? ((⟨g, 0, none⟩ : Addr).add j) = some u := by
  obtain ⟨hl, ⟨q1, q2⟩ | ⟨g, cap, cur, q1, hg, hh, h5, h6, h7, h8⟩⟩ := h
  · omega
  · simp only [Value.slice.injEq] at q1
    refine ⟨g, q1.1, (Array.getElem?_eq_some_iff.1 hh).1, fun j u hu => ?_⟩
    rw [Addr.add_lit, Nat.zero_add]
    have hj : j < xs.length := (List.getElem?_eq_some_iff.1 hu).1
    rw [← h8, List.getElem?_take] at hu
    split at hu
    · simp only [World.cell?, hh]
      rw [← Array.getElem?_toList]; exact hu
    · cases hu
theorem codes_get : ∀ (l : List Ac) (p : Pm) (i : Nat) (x : Ac), l[i]? = some x → (codes p l)[i]? = some (Ba.step (play p (l.take i)) x).2
  | [], _, _, _, h => by cases h
  | a :: l, p, 0, x, h => by
    obtain rfl : a = x := by simpa using h
    rfl
  | a :: l, p, i + 1, x, h => codes_get l (Ba.step p a).1 i x (by simpa using h)

def FY4 (n0 g off j0 len cap : Nat) (p q : Pm) (x : Ac) (co : Int) (k : Nat) (o : Nat → Value) (w : World) : Prop :=
  match k with
  | 0 => o 0 = .agg #[.int .i64 p.lim.sl, .int .i64 p.lim.sh, .int .i64 p.lim.hl, .int .i64 p.lim.hh, .int .i64 p.rate, .int .i64 p.asked, .int .i64 p.st, .bool p.door, .int .i64 p.left, .int .i64 p.given]
  | 1 => o 1 = .slice (some ⟨g, off, none⟩) len cap
  | 2 => o 2 = .int .i64 (j0 : Nat)
  | 3 => o 3 = .pointer (some ⟨g, off + j0 * 2, none⟩)
  | 4 => o 4 = .agg #[.int .i64 x.kind, .int .i64 x.n]
  | 5 => o 5 = .tuple #[.agg #[.int .i64 q.lim.sl, .int .i64 q.lim.sh, .int .i64 q.lim.hl, .int .i64 q.lim.hh, .int .i64 q.rate, .int .i64 q.asked, .int .i64 q.st, .bool q.door, .int .i64 q.left, .int .i64 q.given], .int .i64 co]
  | 6 => o 6 = .tuple #[.agg #[.int .i64 q.lim.sl, .int .i64 q.lim.sh, .int .i64 q.lim.hl, .int .i64 q.lim.hh, .int .i64 q.rate, .int .i64 q.asked, .int .i64 q.st, .bool q.door, .int .i64 q.left, .int .i64 q.given], .int .i64 co]
  | 7 => o 7 = .agg #[.int .i64 q.lim.sl, .int .i64 q.lim.sh, .int .i64 q.lim.hl, .int .i64 q.lim.hh, .int .i64 q.rate, .int .i64 q.asked, .int .i64 q.st, .bool q.door, .int .i64 q.left, .int .i64 q.given]
  | 8 => o 8 = .int .i64 co
  | 9 => ∃ B, o 9 = .pointer (some ⟨B, 0, none⟩) ∧ n0 ≤ B ∧ PB w B #[.int .i64 0, .int .i64 0, .int .i64 0, .int .i64 0, .int .i64 0, .int .i64 0, .int .i64 0, .bool false, .int .i64 0, .int .i64 0] 27
  | 10 => ∃ B, o 9 = .pointer (some ⟨B, 0, none⟩) ∧ n0 ≤ B ∧ PB w B #[.int .i64 q.lim.sl, .int .i64 q.lim.sh, .int .i64 q.lim.hl, .int .i64 q.lim.hh, .int .i64 q.rate, .int .i64 q.asked, .int .i64 q.st, .bool q.door, .int .i64 q.left, .int .i64 q.given] 27
  | 11 => o 11 = .int .i64 co
  | _ => True
theorem sizeY4 : (Rg.opsOf Try.f5 14).size = 12 := by kernel_rfl
theorem stayY4 {n0 g off j0 len cap : Nat} {p q : Pm} {x : Ac} {co : Int} {i k : Nat} {o o' : Nat → Value} {w w' : World} (hd : Rg.due .any (Rg.opsOf Try.f5 14) (fun k => if k = 9 then some 10 else none) i k = true) (hb : Below w.heap.size w w') (ho : ∀ k, k ≠ i → o' k = o k) (h : FY4 n0 g off j0 len cap p q x co k o w) : FY4 n0 g off j0 len cap p q x co k o' w' := by
  have hki := Rg.due_ne hd
  have h98 : k = 10 → i ≠ 9 := fun e1 e2 => by subst e1 e2; exact Rg.due_af hd (by kernel_rfl)
  unfold FY4 at *
  split at h
  · rw [ho _ hki]; exact h
  · rw [ho _ hki]; exact h
  · rw [ho _ hki]; exact h
  · rw [ho _ hki]; exact h
  · rw [ho _ hki]; exact h
  · rw [ho _ hki]; exact h
  · rw [ho _ hki]; exact h
  · rw [ho _ hki]; exact h
  · rw [ho _ hki]; exact h
  · obtain ⟨B, h1, h2, h3⟩ := h; exact ⟨B, by rw [ho _ hki]; exact h1, h2, h3.below hb⟩
  · obtain ⟨B, h1, h2, h3⟩ := h; exact ⟨B, by rw [ho _ (Ne.symm (h98 rfl))]; exact h1, h2, h3.below hb⟩
  · rw [ho _ hki]; exact h
  · trivial
theorem stasY4 {n0 g off j0 len cap : Nat} {p q : Pm} {x : Ac} {co : Int} {k : Nat} {o o' : Nat → Value} {w w' : World} (hd : Rg.due .any (Rg.opsOf Try.f5 14) (fun k => if k = 9 then some 10 else none) 10 k = true) (ho : ∀ k, k ≠ 10 → o' k = o k) (h : FY4 n0 g off j0 len cap p q x co k o w) : FY4 n0 g off j0 len cap p q x co k o' w' := by
  have hki := Rg.due_ne hd
  have h8 : k ≠ 9 := fun e => by subst e; exact Rg.due_dead hd (by kernel_rfl)
  unfold FY4 at *
  split at h
  · rw [ho _ hki]; exact h
  · rw [ho _ hki]; exact h
  · rw [ho _ hki]; exact h
  · rw [ho _ hki]; exact h
  · rw [ho _ hki]; exact h
  · rw [ho _ hki]; exact h
  · rw [ho _ hki]; exact h
  · rw [ho _ hki]; exact h
  · rw [ho _ hki]; exact h
  · exact (h8 rfl).elim
  · exact (hki rfl).elim
  · rw [ho _ hki]; exact h
  · trivial

set_option maxRecDepth 20000 in
set_option maxHeartbeats 8000000 in
theorem regY4 {Q : Exit → Act → World → Prop} {a : Act} {w9 : World} {P g off j0 len cap : Nat} {p q : Pm} {x : Ac} {co : Int} (ha : a.tmps.size = 88)
    (k10 : a.tmps[10]? = some (.pointer (some ⟨P, 0, none⟩))) (k5 : a.tmps[5]? = some (.slice (some ⟨g, off, none⟩) len cap)) (k12 : a.tmps[12]? = some (.int .i64 (j0 : Nat))) (hP : PB w9 P #[.int .i64 p.lim.sl, .int .i64 p.lim.sh, .int .i64 p.lim.hl, .int .i64 p.lim.hh, .int .i64 p.rate, .int .i64 p.asked, .int .i64 p.st, .bool p.door, .int .i64 p.left, .int .i64 p.given] 27) (hg : g < w9.heap.size) (x0 : w9.cell? ⟨g, off + j0 * 2, none⟩ = some (.int .i64 x.kind)) (x1 : w9.cell? ⟨g, off + j0 * 2 + 1, none⟩ = some (.int .i64 x.n)) (hlt : j0 < len) (hlti : (j0 : Int) < (len : Int))
    (cD : ∀ W, Calls Try.prog 11 #[.agg #[.int .i64 p.lim.sl, .int .i64 p.lim.sh, .int .i64 p.lim.hl, .int .i64 p.lim.hh, .int .i64 p.rate, .int .i64 p.asked, .int .i64 p.st, .bool p.door, .int .i64 p.left, .int .i64 p.given], .agg #[.int .i64 x.kind, .int .i64 x.n]] W fun e W' => e = .returned (.tuple #[.agg #[.int .i64 q.lim.sl, .int .i64 q.lim.sh, .int .i64 q.lim.hl, .int .i64 q.lim.hh, .int .i64 q.rate, .int .i64 q.asked, .int .i64 q.st, .bool q.door, .int .i64 q.left, .int .i64 q.given], .int .i64 co]) ∧ Below W.heap.size W W')
    (hend : ∀ b' w', Rg.Fr (Rg.opsOf Try.f5 14) a b' → Below w9.heap.size w9 w' → (∃ B, Rg.out (Rg.opsOf Try.f5 14) b' 9 = .pointer (some ⟨B, 0, none⟩) ∧ w9.heap.size ≤ B ∧ PB w' B #[.int .i64 q.lim.sl, .int .i64 q.lim.sh, .int .i64 q.lim.hl, .int .i64 q.lim.hh, .int .i64 q.rate, .int .i64 q.asked, .int .i64 q.st, .bool q.door, .int .i64 q.left, .int .i64 q.given] 27) → Rg.out (Rg.opsOf Try.f5 14) b' 11 = .int .i64 co → Q .normal b' w') :
    (Code.region 14 (Rg.opsOf Try.f5 14) true).wp Try.prog Q a w9 := by
  refine Rg.region_out (by kernel_rfl) (fun w' => Below w9.heap.size w9 w') (FY4 w9.heap.size g off j0 len cap p q x co) (fun k => if k = 9 then some 10 else none) (by rw [ha, sizeY4]; kernel_rfl) (st_drew (Below.refl _ _)) ?_ ?_
  case refine_2 =>
    intro b' w' hf hI hA
    rw [sizeY4] at hA
    exact hend b' w' hf hI (hA 10 (by decide) rfl) (hA 11 (by decide) rfl)
  case refine_1 =>
    clear hend
    intro i' hi'
    rw [sizeY4] at hi'
    rcases (show i' = 0 ∨ i' = 1 ∨ i' = 2 ∨ i' = 3 ∨ i' = 4 ∨ i' = 5 ∨ i' = 6 ∨ i' = 7 ∨ i' = 8 ∨ i' = 9 ∨ i' = 10 ∨ i' = 11 by omega) with rfl | rfl | rfl | rfl | rfl | rfl | rfl | rfl | rfl | rfl | rfl | rfl
    · intro bb w' hf hI hA
      clear hi'
      have qs := hf.kept (s := 10) (by rw [sizeY4]; kernel_rfl) k10
      obtain ⟨e0, e1, e2, e3, e4, e5, e6, e7, e8, e9⟩ := (hP.below hI).ten
      clear hA hP cD
      exact Rg.op_value (o := ⟨some 70, Op.load 27 (Operand.tmp 10), _, _, _, _⟩) (x := .agg #[.int .i64 p.lim.sl, .int .i64 p.lim.sh, .int .i64 p.lim.hl, .int .i64 p.lim.hh, .int .i64 p.rate, .int .i64 p.asked, .int .i64 p.st, .bool p.door, .int .i64 p.left, .int .i64 p.given]) rfl rfl (by simp only [execOp]; go_simp) ⟨_, rfl, hI, fun o' ho hx => ⟨hx (by rw [show Rg.dstAt (Rg.opsOf Try.f5 14) 0 = some 70 by kernel_rfl]; simp), fun k hd h => stayY4 hd (Below.refl _ _) ho h⟩⟩
    · intro bb w' hf hI hA
      clear hi'
      have qs := hf.kept (s := 5) (by rw [sizeY4]; kernel_rfl) k5
      clear hA
      exact Rg.op_value (o := ⟨some 71, Op.move (Operand.tmp 5), _, _, _, _⟩) (x := .slice (some ⟨g, off, none⟩) len cap) rfl rfl (by simp only [execOp]; go_simp) ⟨_, rfl, hI, fun o' ho hx => ⟨hx (by rw [show Rg.dstAt (Rg.opsOf Try.f5 14) 1 = some 71 by kernel_rfl]; simp), fun k hd h => stayY4 hd (Below.refl _ _) ho h⟩⟩
    · intro bb w' hf hI hA
      clear hi'
      have qs := hf.kept (s := 12) (by rw [sizeY4]; kernel_rfl) k12
      clear hA
      exact Rg.op_value (o := ⟨some 72, Op.move (Operand.tmp 12), _, _, _, _⟩) (x := .int .i64 (j0 : Nat)) rfl rfl (by simp only [execOp]; go_simp) ⟨_, rfl, hI, fun o' ho hx => ⟨hx (by rw [show Rg.dstAt (Rg.opsOf Try.f5 14) 2 = some 72 by kernel_rfl]; simp), fun k hd h => stayY4 hd (Below.refl _ _) ho h⟩⟩
    · intro bb w' hf hI hA
      clear hi'
      have q1 : bb.tmps[71]? = some _ := hf.tmp (k := 1) rfl (by rw [ha]; decide) (hA 1 (by kernel_rfl) (.inl rfl))
      have q2 : bb.tmps[72]? = some _ := hf.tmp (k := 2) rfl (by rw [ha]; decide) (hA 2 (by kernel_rfl) (.inl rfl))
      clear hA hP cD
      exact Rg.op_value (o := ⟨some 73, Op.indexAddr 39 (Operand.tmp 71) (Operand.tmp 72), _, _, _, _⟩) (x := .pointer (some ⟨g, off + j0 * 2, none⟩)) rfl rfl (by simp only [execOp]; go_simp) ⟨_, rfl, hI, fun o' ho hx => ⟨hx (by rw [show Rg.dstAt (Rg.opsOf Try.f5 14) 3 = some 73 by kernel_rfl]; simp), fun k hd h => stayY4 hd (Below.refl _ _) ho h⟩⟩
    · intro bb w' hf hI hA
      clear hi'
      have q3 : bb.tmps[73]? = some _ := hf.tmp (k := 3) rfl (by rw [ha]; decide) (hA 3 (by kernel_rfl) (.inl rfl))
      have e0 := (hI.cell (p := ⟨g, off + j0 * 2, none⟩) hg).trans x0
      have e1 := (hI.cell (p := ⟨g, off + j0 * 2 + 1, none⟩) hg).trans x1
      clear hA hP cD
      exact Rg.op_value (o := ⟨some 74, Op.load 29 (Operand.tmp 73), _, _, _, _⟩) (x := .agg #[.int .i64 x.kind, .int .i64 x.n]) rfl rfl (by simp only [execOp]; go_simp) ⟨_, rfl, hI, fun o' ho hx => ⟨hx (by rw [show Rg.dstAt (Rg.opsOf Try.f5 14) 4 = some 74 by kernel_rfl]; simp), fun k hd h => stayY4 hd (Below.refl _ _) ho h⟩⟩
    · intro bb w' hf hI hA
      clear hi'
      have q0 : bb.tmps[70]? = some _ := hf.tmp (k := 0) rfl (by rw [ha]; decide) (hA 0 (by kernel_rfl) (.inl rfl))
      have q4 : bb.tmps[74]? = some _ := hf.tmp (k := 4) rfl (by rw [ha]; decide) (hA 4 (by kernel_rfl) (.inl rfl))
      refine Rg.op_call (o := ⟨some 75, Op.call { callee := Callee.value (Operand.func 11), args := #[(Operand.tmp 70), (Operand.tmp 74)], argTypes := _ }, _, _, _, _⟩) rfl rfl (by clear hA hP cD; simp only [execOp, resolve]; go_simp) (cD w') ?_
      rintro e w2 ⟨rfl, hb2⟩
      exact ⟨_, rfl, _, rfl, onto hI hb2, fun o' ho hx => ⟨hx (by rw [show Rg.dstAt (Rg.opsOf Try.f5 14) 5 = some 75 by kernel_rfl]; simp), fun k hd h => stayY4 hd hb2 ho h⟩⟩
    · intro bb w' hf hI hA
      clear hi'
      have q5 : bb.tmps[75]? = some _ := hf.tmp (k := 5) rfl (by rw [ha]; decide) (hA 5 (by kernel_rfl) (.inl rfl))
      clear hA hP cD
      exact Rg.op_value (o := ⟨some 69, Op.move (Operand.tmp 75), _, _, _, _⟩) (x := .tuple #[.agg #[.int .i64 q.lim.sl, .int .i64 q.lim.sh, .int .i64 q.lim.hl, .int .i64 q.lim.hh, .int .i64 q.rate, .int .i64 q.asked, .int .i64 q.st, .bool q.door, .int .i64 q.left, .int .i64 q.given], .int .i64 co]) rfl rfl (by simp only [execOp]; go_simp) ⟨_, rfl, hI, fun o' ho hx => ⟨hx (by rw [show Rg.dstAt (Rg.opsOf Try.f5 14) 6 = some 69 by kernel_rfl]; simp), fun k hd h => stayY4 hd (Below.refl _ _) ho h⟩⟩
    · intro bb w' hf hI hA
      clear hi'
      have q6 : bb.tmps[69]? = some _ := hf.tmp (k := 6) rfl (by rw [ha]; decide) (hA 6 (by kernel_rfl) (.inl rfl))
      clear hA hP cD
      exact Rg.op_value (o := ⟨some 76, Op.extract (Operand.tmp 69) 0, _, _, _, _⟩) (x := .agg #[.int .i64 q.lim.sl, .int .i64 q.lim.sh, .int .i64 q.lim.hl, .int .i64 q.lim.hh, .int .i64 q.rate, .int .i64 q.asked, .int .i64 q.st, .bool q.door, .int .i64 q.left, .int .i64 q.given]) rfl rfl (by simp only [execOp]; go_simp) ⟨_, rfl, hI, fun o' ho hx => ⟨hx (by rw [show Rg.dstAt (Rg.opsOf Try.f5 14) 7 = some 76 by kernel_rfl]; simp), fun k hd h => stayY4 hd (Below.refl _ _) ho h⟩⟩
    · intro bb w' hf hI hA
      clear hi'
      have q6 : bb.tmps[69]? = some _ := hf.tmp (k := 6) rfl (by rw [ha]; decide) (hA 6 (by kernel_rfl) (.inl rfl))
      clear hA hP cD
      exact Rg.op_value (o := ⟨some 77, Op.extract (Operand.tmp 69) 1, _, _, _, _⟩) (x := .int .i64 co) rfl rfl (by simp only [execOp]; go_simp) ⟨_, rfl, hI, fun o' ho hx => ⟨hx (by rw [show Rg.dstAt (Rg.opsOf Try.f5 14) 8 = some 77 by kernel_rfl]; simp), fun k hd h => stayY4 hd (Below.refl _ _) ho h⟩⟩
    · intro bb w' hf hI hA
      clear hi'
      clear hA hP cD
      have hb2 : Below w'.heap.size w' (w'.alloc (.cells #[.int .i64 0, .int .i64 0, .int .i64 0, .int .i64 0, .int .i64 0, .int .i64 0, .int .i64 0, .bool false, .int .i64 0, .int .i64 0] 27)) := (Below.refl _ _).alloc (Nat.le_refl _) _
      exact Rg.op_value (o := ⟨some 13, Op.alloc 27, _, _, _, _⟩) (x := .pointer (some ⟨w'.heap.size, 0, none⟩)) (w' := w'.alloc (.cells #[.int .i64 0, .int .i64 0, .int .i64 0, .int .i64 0, .int .i64 0, .int .i64 0, .int .i64 0, .bool false, .int .i64 0, .int .i64 0] 27)) rfl rfl (by simp only [execOp]; go_simp) ⟨_, rfl, onto hI hb2, fun o' ho hx => ⟨⟨_, hx (by rw [show Rg.dstAt (Rg.opsOf Try.f5 14) 9 = some 13 by kernel_rfl]; simp), hI.size, PB.new _ _ _⟩, fun k hd h => stayY4 hd hb2 ho h⟩⟩
    · intro bb w' hf hI hA
      clear hi'
      have q7 : bb.tmps[76]? = some _ := hf.tmp (k := 7) rfl (by rw [ha]; decide) (hA 7 (by kernel_rfl) (.inl rfl))
      obtain ⟨B, hv, hB, hZ⟩ := hA 9 (by kernel_rfl) (.inr rfl)
      have qa : bb.tmps[13]? = some _ := hf.tmp (k := 9) rfl (by rw [ha]; decide) hv
      have hfil := PB.fill' q hZ
      have hbw := fill_below hI hB (.int .i64 q.lim.sl) (.int .i64 q.lim.sh) (.int .i64 q.lim.hl) (.int .i64 q.lim.hh) (.int .i64 q.rate) (.int .i64 q.asked) (.int .i64 q.st) (.bool q.door) (.int .i64 q.left) (.int .i64 q.given)
      obtain ⟨z0, z1, z2, z3, z4, z5, z6, z7, z8, z9⟩ := hZ.ten
      obtain ⟨f0, f1, f2, f3, f4, f5, f6, f7, f8, f9⟩ := hZ.cold
      refine Rg.op_skip (o := ⟨none, Op.store 27 (Operand.tmp 13) (Operand.tmp 76), _, _, _, _⟩) (w' := ((((((((((w'.setCell ⟨B, 0, none⟩ (.int .i64 q.lim.sl)).setCell ⟨B, 1, none⟩ (.int .i64 q.lim.sh)).setCell ⟨B, 2, none⟩ (.int .i64 q.lim.hl)).setCell ⟨B, 3, none⟩ (.int .i64 q.lim.hh)).setCell ⟨B, 4, none⟩ (.int .i64 q.rate)).setCell ⟨B, 5, none⟩ (.int .i64 q.asked)).setCell ⟨B, 6, none⟩ (.int .i64 q.st)).setCell ⟨B, 7, none⟩ (.bool q.door)).setCell ⟨B, 8, none⟩ (.int .i64 q.left)).setCell ⟨B, 9, none⟩ (.int .i64 q.given))) rfl rfl (by clear hA hfil hbw hv hZ hP cD; simp only [execOp]; go_simp) ?_
      exact ⟨_, rfl, hbw, fun o' ho _ => ⟨⟨B, (ho 9 (by decide)).trans hv, hB, hfil⟩, fun k hd h => stasY4 hd ho h⟩⟩
    · intro bb w' hf hI hA
      clear hi'
      have q8 : bb.tmps[77]? = some _ := hf.tmp (k := 8) rfl (by rw [ha]; decide) (hA 8 (by kernel_rfl) (.inl rfl))
      clear hA hP cD
      exact Rg.op_value (o := ⟨some 14, Op.assign (Operand.tmp 77), _, _, _, _⟩) (x := .int .i64 co) rfl rfl (by simp only [execOp]; go_simp) ⟨_, rfl, hI, fun o' ho hx => ⟨hx (by rw [show Rg.dstAt (Rg.opsOf Try.f5 14) 11 = some 14 by kernel_rfl]; simp), fun k hd h => stayY4 hd (Below.refl _ _) ho h⟩⟩

theorem dY4_0 : Rg.dstAt (Rg.opsOf Try.f5 14) 0 = some 70 := by kernel_rfl
theorem dY4_1 : Rg.dstAt (Rg.opsOf Try.f5 14) 1 = some 71 := by kernel_rfl
theorem dY4_2 : Rg.dstAt (Rg.opsOf Try.f5 14) 2 = some 72 := by kernel_rfl
theorem dY4_3 : Rg.dstAt (Rg.opsOf Try.f5 14) 3 = some 73 := by kernel_rfl
theorem dY4_4 : Rg.dstAt (Rg.opsOf Try.f5 14) 4 = some 74 := by kernel_rfl
theorem dY4_5 : Rg.dstAt (Rg.opsOf Try.f5 14) 5 = some 75 := by kernel_rfl
theorem dY4_6 : Rg.dstAt (Rg.opsOf Try.f5 14) 6 = some 69 := by kernel_rfl
theorem dY4_7 : Rg.dstAt (Rg.opsOf Try.f5 14) 7 = some 76 := by kernel_rfl
theorem dY4_8 : Rg.dstAt (Rg.opsOf Try.f5 14) 8 = some 77 := by kernel_rfl
theorem dY4_9 : Rg.dstAt (Rg.opsOf Try.f5 14) 9 = some 13 := by kernel_rfl
theorem dY4_10 : Rg.dstAt (Rg.opsOf Try.f5 14) 10 = none := by kernel_rfl
theorem dY4_11 : Rg.dstAt (Rg.opsOf Try.f5 14) 11 = some 14 := by kernel_rfl
theorem layY4 {a b : Act} (hf : Rg.Fr (Rg.opsOf Try.f5 14) a b) : b = ((((((((((((a.put (some 70) (Rg.out (Rg.opsOf Try.f5 14) b 0)).put (some 71) (Rg.out (Rg.opsOf Try.f5 14) b 1)).put (some 72) (Rg.out (Rg.opsOf Try.f5 14) b 2)).put (some 73) (Rg.out (Rg.opsOf Try.f5 14) b 3)).put (some 74) (Rg.out (Rg.opsOf Try.f5 14) b 4)).put (some 75) (Rg.out (Rg.opsOf Try.f5 14) b 5)).put (some 69) (Rg.out (Rg.opsOf Try.f5 14) b 6)).put (some 76) (Rg.out (Rg.opsOf Try.f5 14) b 7)).put (some 77) (Rg.out (Rg.opsOf Try.f5 14) b 8)).put (some 13) (Rg.out (Rg.opsOf Try.f5 14) b 9)).put none (Rg.out (Rg.opsOf Try.f5 14) b 10)).put (some 14) (Rg.out (Rg.opsOf Try.f5 14) b 11)) := by
  have h := hf.chain
  rw [sizeY4, show List.range 12 = [0, 1, 2, 3, 4, 5, 6, 7, 8, 9, 10, 11] from by decide] at h
  simp only [List.foldl_cons, List.foldl_nil, dY4_0, dY4_1, dY4_2, dY4_3, dY4_4, dY4_5, dY4_6, dY4_7, dY4_8, dY4_9, dY4_10, dY4_11] at h
  exact h

set_option maxRecDepth 20000 in
set_option maxHeartbeats 8000000 in
theorem fpp_walk (ao : Option Addr) (cap : Nat) (bs : List Int) (w : World) (hb : Bytes w w.heap.size ao bs) :
    Calls Try.prog 5 #[.slice ao bs.length cap] w fun e w' => e = .returned (.bool true) ∧ Below w.heap.size w w' := by
  have hB := big_any ao cap bs.length
  have HBY := hidden hb
  clear hb
  by_cases hbig : (4096 : Int) < (bs.length : Int)
  · rw [decide_eq_true hbig] at hB
    go_enter Try.func5, Try.ntmps5
    go_wp2_with fail
    refine (hB _).mono ?_
    rintro e w1 ⟨rfl, rfl⟩
    go_wp2_with fail
    go_ret
    exact ⟨rfl, Below.refl _ _⟩
  rw [decide_eq_false hbig] at hB
  have hl : bs.length ≤ 4096 := by omega
  have hD := dplay_any ao cap bs w HBY.out (by omega)
  unfold aL at hD
  go_enter Try.func5, Try.ntmps5
  go_wp2_with fail
  refine (hB _).mono ?_
  rintro e w1 ⟨rfl, hw1⟩
  have hw2 := hw1.symm
  clear hw1
  subst hw2
  go_wp2_with fail
  refine hD.mono ?_
  rintro e w1 ⟨l, lf, aa, an, ak, acs, rfl, hrow, hlen, hb1⟩
  clear hB hD
  obtain rfl := hrow.len
  go_upto_region 4 with fail
  have HL := hidden (PB.new w1 #[.int .i64 l.sl, .int .i64 l.sh, .int .i64 l.hl, .int .i64 l.hh] 25)
  have bx : Below w1.heap.size w1 (w1.alloc (.cells #[.int .i64 l.sl, .int .i64 l.sh, .int .i64 l.hl, .int .i64 l.hh] 25)) := (Below.refl _ _).alloc (Nat.le_refl _) _
  have HJ := hidden (hrow.below bx)
  have HB : Hid (Below w.heap.size w (w1.alloc (.cells #[.int .i64 l.sl, .int .i64 l.sh, .int .i64 l.hl, .int .i64 l.hh] 25))) := hb1.alloc hb1.size _
  generalize w1.alloc (.cells #[.int .i64 l.sl, .int .i64 l.sh, .int .i64 l.hl, .int .i64 l.hh] 25) = w2 at *
  generalize w1.heap.size = LB at *
  clear hb1 bx hrow
  have hll : acs.length ≤ 1048576 := by omega
  have HIM := hidden (fun W hW => iplay_any l lf aa acs.length ak acs W hW hll)
  have HSM := hidden (fun W hW => splay_any l lf aa acs.length ak acs W hW hll)
  have hIN := inew_any l lf
  have HV : Hid (pplay l lf acs = if (Ba.new l lf).2 = true ∧ acs.length ≤ 1000 then (play (newP l lf) acs, codes (newP l lf) acs) else (zeroP, [])) := rfl
  have HNT : Hid ((Ba.new l lf).2 = true → (Ba.new l lf).1 = newP l lf ∧ Right (newP l lf)) := new_true
  generalize newP l lf = p0 at *
  generalize pplay l lf acs = R at *
  generalize Ba.new l lf = N at *
  obtain ⟨p1, b⟩ := N
  obtain ⟨q, L⟩ := R
  dsimp only at hIN HV HNT HIM HSM
  unfold aPm at HIM HSM hIN
  unfold aL at HIM HSM hIN
  obtain ⟨c0, c1, c2, c3⟩ := HL.out.four
  go_wp2_with fail
  refine (HIM.out _ HJ.out).mono ?_
  rintro e w3 ⟨v3, rfl, ho3, hb3⟩
  obtain ⟨ad3, k3, rfl⟩ := ownW_slice ho3
  go_upto_region 5 with fail
  have bx : Below w3.heap.size w3 (w3.alloc (.cells #[.int .i64 q.lim.sl, .int .i64 q.lim.sh, .int .i64 q.lim.hl, .int .i64 q.lim.hh, .int .i64 q.rate, .int .i64 q.asked, .int .i64 q.st, .bool q.door, .int .i64 q.left, .int .i64 q.given] 27)) := (Below.refl _ _).alloc (Nat.le_refl _) _
  have HQ := hidden (PB.new w3 #[.int .i64 q.lim.sl, .int .i64 q.lim.sh, .int .i64 q.lim.hl, .int .i64 q.lim.hh, .int .i64 q.rate, .int .i64 q.asked, .int .i64 q.st, .bool q.door, .int .i64 q.left, .int .i64 q.given] 27)
  have HO := hidden (ownW_below ho3 bx)
  have HL2 := hidden ((HL.out.below hb3).below bx)
  have HJ2 := hidden ((HJ.out.below hb3).below bx)
  have HB2 := hidden (onto (onto HB.out hb3) bx)
  generalize w3.alloc (.cells #[.int .i64 q.lim.sl, .int .i64 q.lim.sh, .int .i64 q.lim.hl, .int .i64 q.lim.hh, .int .i64 q.rate, .int .i64 q.asked, .int .i64 q.st, .bool q.door, .int .i64 q.left, .int .i64 q.given] 27) = w4 at *
  generalize w3.heap.size = QB at *
  clear bx hb3 ho3 HL HJ HB c0 c1 c2 c3 HIM
  obtain ⟨c0, c1, c2, c3⟩ := HL2.out.four
  go_wp2_with fail
  refine (HSM.out _ HJ2.out).mono ?_
  rintro e w5 ⟨v5, rfl, ho5, hb5⟩
  obtain ⟨ad5, k5, rfl⟩ := ownW_slice ho5
  go_upto_region 6 with fail
  have bx : Below w5.heap.size w5 (w5.alloc (.cells #[.int .i64 q.lim.sl, .int .i64 q.lim.sh, .int .i64 q.lim.hl, .int .i64 q.lim.hh, .int .i64 q.rate, .int .i64 q.asked, .int .i64 q.st, .bool q.door, .int .i64 q.left, .int .i64 q.given] 27)) := (Below.refl _ _).alloc (Nat.le_refl _) _
  have HQ6 := hidden ((HQ.out.below hb5).below bx)
  have HO6 := hidden (ownW_below (ownW_below HO.out hb5) bx)
  have HL6 := hidden ((HL2.out.below hb5).below bx)
  have HJ6 := hidden ((HJ2.out.below hb5).below bx)
  have HB6 := hidden (onto (onto HB2.out hb5) bx)
  generalize w5.alloc (.cells #[.int .i64 q.lim.sl, .int .i64 q.lim.sh, .int .i64 q.lim.hl, .int .i64 q.lim.hh, .int .i64 q.rate, .int .i64 q.asked, .int .i64 q.st, .bool q.door, .int .i64 q.left, .int .i64 q.given] 27) = w6 at *
  clear bx hb5 ho5 HL2 HJ2 HB2 HQ HO c0 c1 c2 c3 HSM
  obtain ⟨c0, c1, c2, c3⟩ := HL6.out.four
  go_upto_region 9 with (with_reducible refine (hIN _).mono ?_; rintro e w7 ⟨rfl, hb7⟩)
  have bx : Below w7.heap.size w7 (w7.alloc (.cells #[.int .i64 p1.lim.sl, .int .i64 p1.lim.sh, .int .i64 p1.lim.hl, .int .i64 p1.lim.hh, .int .i64 p1.rate, .int .i64 p1.asked, .int .i64 p1.st, .bool p1.door, .int .i64 p1.left, .int .i64 p1.given] 27)) := (Below.refl _ _).alloc (Nat.le_refl _) _
  have HNB := hidden (PB.new w7 #[.int .i64 p1.lim.sl, .int .i64 p1.lim.sh, .int .i64 p1.lim.hl, .int .i64 p1.lim.hh, .int .i64 p1.rate, .int .i64 p1.asked, .int .i64 p1.st, .bool p1.door, .int .i64 p1.left, .int .i64 p1.given] 27)
  have hO7 := ownW_below HO6.out hb7
  have HQ7 := hidden (HQ6.out.below hb7)
  have HJ7 := hidden (HJ6.out.below hb7)
  have HB7 := hidden (onto HB6.out hb7)
  have HK8 : Hid (Below w7.heap.size w7 (w7.alloc (.cells #[.int .i64 p1.lim.sl, .int .i64 p1.lim.sh, .int .i64 p1.lim.hl, .int .i64 p1.lim.hh, .int .i64 p1.rate, .int .i64 p1.asked, .int .i64 p1.st, .bool p1.door, .int .i64 p1.left, .int .i64 p1.given] 27))) := bx
  generalize w7.alloc (.cells #[.int .i64 p1.lim.sl, .int .i64 p1.lim.sh, .int .i64 p1.lim.hl, .int .i64 p1.lim.hh, .int .i64 p1.rate, .int .i64 p1.asked, .int .i64 p1.st, .bool p1.door, .int .i64 p1.left, .int .i64 p1.given] 27) = w8 at *
  have hNBl : w7.heap.size ≤ w7.heap.size := Nat.le_refl _
  generalize hNB : w7.heap.size = NB at *
  clear bx hb7 HO6 HQ6 HJ6 HL6 HB6 c0 c1 c2 c3 hIN
  by_cases hbt : b = true ∧ acs.length ≤ 1000
  · obtain ⟨rfl, hln⟩ := hbt
    rw [if_pos ⟨rfl, hln⟩] at HV
    obtain ⟨rfl, rfl⟩ := Prod.mk.inj HV.out
    obtain ⟨rfl, hRt⟩ := HNT.out rfl
    have HRt := hidden hRt
    have HCL : Hid ((codes p1 acs).length = acs.length) := codes_len acs p1
    clear HV HNT hRt
    have hl1 : ¬ (1000 : Int) < (acs.length : Int) := by omega
    have HO7 := hidden hO7
    clear hO7
    generalize (codes p1 acs).length = CLn at *
    go_wp2_with fail
    go_loopw [2, 12] (fun rv iv wr => ∃ i : Nat, i ≤ acs.length ∧ rv = .bool false ∧ iv = .int .i64 i ∧ PB wr NB (cP (play p1 (acs.take i))) 27 ∧ Below NB w7 wr) (fun _ iv _ => acs.length - (intOf iv).toNat)
    case atStart => exact ⟨0, Nat.zero_le _, rfl, rfl, HNB.out, HK8.out⟩
    case round =>
      clear HNB HK8
      obtain ⟨i, hi, rfl, rfl, hP, hb⟩ := hrel
      have HBb := hidden hb
      by_cases hlt : i < acs.length
      · have hlti : (i : Int) < (acs.length : Int) := by omega
        obtain ⟨x, hx⟩ := some_of acs i hlt
        obtain ⟨g, off, rfl, hg, x0, x1⟩ := act_cell (HJ7.out.below (by rw [hNB]; exact hb)) hx
        have hcd := codes_get acs p1 i x hx
        have HM := hidden (play_take p1 hx)
        have hRi := right_play HRt.out (acs.take i)
        have k2 : ∀ w, Calls Try.prog 11 #[aPm (play p1 (acs.take i)), aAc x] w fun e w' => e = .returned (.tuple #[aPm (Ba.step (play p1 (acs.take i)) x).1, .int .i64 (Ba.step (play p1 (acs.take i)) x).2]) ∧ Below w.heap.size w w' := fun w => by
          have h := ipdo_any (play p1 (acs.take i)) x w
          rw [pdo, if_pos (right_iff.2 hRi)] at h
          exact h
        generalize Ba.step (play p1 (acs.take i)) x = S at *
        obtain ⟨q2, co⟩ := S
        dsimp only at hcd HM k2
        generalize play p1 (acs.take i) = p at *
        unfold aPm aAc at k2
        unfold cP at hP
        obtain ⟨gc, hgc, hgl, hcell⟩ := ownW_some HO7.out (by have := HCL.out; omega)
        have hcc := hcell i (.int .i64 co) (by rw [List.getElem?_map, hcd]; rfl)
        have hcr : wr.cell? ⟨gc, i, none⟩ = some (.int .i64 co) := by
          rw [Addr.add_lit, Nat.zero_add] at hcc
          exact (hb.cell (p := ⟨gc, i, none⟩) (by rw [← hNB]; exact hgl)).trans hcc
        subst hgc
        clear hx hRi hcd hcc hcell
        have HCR := hidden hcr
        clear hcr
        have hgcl : gc < wr.heap.size := by have := hb.size; omega
        go_upto_region 14 with fail
        go_cut [13, 14] from 63 to 84 (fun pv cv wx => ∃ B, pv = .pointer (some ⟨B, 0, none⟩) ∧ cv = .int .i64 co ∧ PB wx B #[.int .i64 q2.lim.sl, .int .i64 q2.lim.sh, .int .i64 q2.lim.hl, .int .i64 q2.lim.hh, .int .i64 q2.rate, .int .i64 q2.asked, .int .i64 q2.st, .bool q2.door, .int .i64 q2.left, .int .i64 q2.given] 27 ∧ Below wr.heap.size wr wx)
        case first =>
          refine regY4 (P := NB) (g := g) (off := off) (j0 := i) (len := acs.length) (cap := ak) (p := p) (q := q2) (x := x) (co := co) rfl rfl rfl rfl hP hg x0 x1 hlt hlti k2 ?_
          rintro b' w9 hf hb9 ⟨B, h9, hB, hPB⟩ h11
          rw [layY4 hf, h9, h11]
          clear k2 x0 x1 hP hb
          generalize Rg.out (Rg.opsOf Try.f5 14) b' 0 = y0
          generalize Rg.out (Rg.opsOf Try.f5 14) b' 1 = y1
          generalize Rg.out (Rg.opsOf Try.f5 14) b' 2 = y2
          generalize Rg.out (Rg.opsOf Try.f5 14) b' 3 = y3
          generalize Rg.out (Rg.opsOf Try.f5 14) b' 4 = y4
          generalize Rg.out (Rg.opsOf Try.f5 14) b' 5 = y5
          generalize Rg.out (Rg.opsOf Try.f5 14) b' 6 = y6
          generalize Rg.out (Rg.opsOf Try.f5 14) b' 7 = y7
          generalize Rg.out (Rg.opsOf Try.f5 14) b' 8 = y8
          generalize Rg.out (Rg.opsOf Try.f5 14) b' 10 = y10
          go_frame
          go_wp2_with fail
          go_meet
          case rel => exact ⟨B, rfl, rfl, hPB, hb9⟩
        case rest =>
        obtain ⟨B, rfl, rfl, hQ, hb9⟩ := hcut
        obtain ⟨w9, hw9⟩ : ∃ y, y = wc := ⟨_, rfl⟩
        subst hw9
        have hNl := hP.lt
        have HP9 := hidden (hP.below hb9)
        have HB9 := hidden (hb.trans (hb9.mono (Nat.le_of_lt hNl)))
        have hcr : w9.cell? ⟨gc, i, none⟩ = some (.int .i64 co) := (hb9.cell (p := ⟨gc, i, none⟩) hgcl).trans HCR.out
        have hlc : (i : Int) < (CLn : Int) := by rw [HCL.out]; exact hlti
        have hlc2 : i < CLn := by rw [HCL.out]; exact hlt
        clear hP hb hb9 k2 x0 x1 hg HCR
        obtain ⟨c0, c1, c2, c3, c4, c5, c6, c7, c8, c9⟩ := hQ.ten
        obtain ⟨d0, d1, d2, d3, d4, d5, d6, d7, d8, d9⟩ := HP9.out.ten
        obtain ⟨f0, f1, f2, f3, f4, f5, f6, f7, f8, f9⟩ := HP9.out.cold
        clear hQ
        have HP2 := hidden (PB.fill' q2 HP9.out)
        have HB3 : Hid (Below NB w7 ((((((((((w9.setCell ⟨NB, 0, none⟩ (.int .i64 q2.lim.sl)).setCell ⟨NB, 1, none⟩ (.int .i64 q2.lim.sh)).setCell ⟨NB, 2, none⟩ (.int .i64 q2.lim.hl)).setCell ⟨NB, 3, none⟩ (.int .i64 q2.lim.hh)).setCell ⟨NB, 4, none⟩ (.int .i64 q2.rate)).setCell ⟨NB, 5, none⟩ (.int .i64 q2.asked)).setCell ⟨NB, 6, none⟩ (.int .i64 q2.st)).setCell ⟨NB, 7, none⟩ (.bool q2.door)).setCell ⟨NB, 8, none⟩ (.int .i64 q2.left)).setCell ⟨NB, 9, none⟩ (.int .i64 q2.given))) := ((((((((((HB9.out.setCell (p := ⟨NB, 0, none⟩) hNBl (.int .i64 q2.lim.sl)).setCell (p := ⟨NB, 1, none⟩) hNBl (.int .i64 q2.lim.sh)).setCell (p := ⟨NB, 2, none⟩) hNBl (.int .i64 q2.lim.hl)).setCell (p := ⟨NB, 3, none⟩) hNBl (.int .i64 q2.lim.hh)).setCell (p := ⟨NB, 4, none⟩) hNBl (.int .i64 q2.rate)).setCell (p := ⟨NB, 5, none⟩) hNBl (.int .i64 q2.asked)).setCell (p := ⟨NB, 6, none⟩) hNBl (.int .i64 q2.st)).setCell (p := ⟨NB, 7, none⟩) hNBl (.bool q2.door)).setCell (p := ⟨NB, 8, none⟩) hNBl (.int .i64 q2.left)).setCell (p := ⟨NB, 9, none⟩) hNBl (.int .i64 q2.given))
        go_wp2_with fail
        go_roundw
        case rel => exact ⟨i + 1, by omega, rfl, rfl, by rw [HM.out]; exact HP2.out, HB3.out⟩
        case measure => simp [intOf]; omega
      · have hlti : ¬ (i : Int) < (acs.length : Int) := by omega
        have hin : i = acs.length := by omega
        subst hin
        rw [List.take_length] at hP
        unfold cP at hP
        have hQr := HQ7.out.below (by rw [hNB]; exact hb)
        generalize play p1 acs = q at *
        obtain ⟨c0, c1, c2, c3, c4, c5, c6, c7, c8, c9⟩ := hP.ten
        obtain ⟨d0, d1, d2, d3, d4, d5, d6, d7, d8, d9⟩ := hQr.ten
        have HBF := hidden (onto (by rw [← hNB] at hb; exact HB7.out) (by rw [hNB]; exact hb))
        clear hP hQr hb
        go_wp2_with fail
        go_ret
        exact ⟨ret_bool (by first | rfl | (simp; done)), HBF.out⟩
  · rw [if_neg hbt] at HV
    obtain ⟨rfl, rfl⟩ := Prod.mk.inj HV.out
    have hx : b = false ∨ (1000 : Int) < (acs.length : Int) := by
      cases b with
      | false => exact .inl rfl
      | true => right; have : ¬ acs.length ≤ 1000 := fun z => hbt ⟨rfl, z⟩; omega
    clear HV HNT hbt
    have hQr := HQ7.out.below (by rw [hNB]; exact HK8.out)
    unfold zeroP at hQr
    dsimp only at hQr
    obtain ⟨d0, d1, d2, d3, d4, d5, d6, d7, d8, d9⟩ := hQr.ten
    have HBF := hidden (onto HB7.out (by rw [hNB]; exact HK8.out))
    clear hQr HNB HK8 hO7
    rcases hx with rfl | hx
    · go_wp2_with fail
      go_ret
      exact ⟨ret_bool (by first | rfl | (simp; done)), HBF.out⟩
    · cases b <;> go_wp2_with fail
      all_goals go_ret
      all_goals exact ⟨ret_bool (by first | rfl | (simp; done)), HBF.out⟩
end Go.Proofs.Ytamghmnibfbgaaa
