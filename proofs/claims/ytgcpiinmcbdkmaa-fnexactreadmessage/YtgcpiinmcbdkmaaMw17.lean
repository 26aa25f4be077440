/-
  Merged: Rm6.
-/
import Derived.Test.YtgcpiinmcbdkmaaMw15
import Derived.Test.YtgcpiinmcbdkmaaMw8
import Derived.Test.YtgcpiinmcbdkmaaMw16
import Derived.Laws.IdiomStrings
import Derived.Lib.BufferRead
import Derived.Deep.RegionWith
namespace Go.Proofs.Ytgcpiinmcbdkmaa
open Go.RowKit Va Ms
set_option linter.all false
structure Two (R : Nat) (r : Option Nat) (w w' : World) : Prop where
  os : w'.os = w.os
  tape : w'.tape = w.tape
  output : w'.output = w.output
  size : w.heap.size ≤ w'.heap.size
  block : ∀ j, j < w.heap.size → j ≠ R → r ≠ some j → w'.heap[j]? = w.heap[j]?
section
variable {R : Nat} {r : Option Nat} {a b c : World}
theorem Two.refl (R : Nat) (r : Option Nat) (w : World) : Two R r w w := ⟨rfl, rfl, rfl, Nat.le_refl _, fun _ _ _ _ => rfl⟩
theorem Two.start (R : Nat) (r : Option Nat) (w : World) : Two R r w w.drew := ⟨rfl, rfl, rfl, Nat.le_refl _, fun _ _ _ _ => rfl⟩
theorem Two.drew (h : Two R r a b) : Two R r a b.drew := ⟨h.os, h.tape, h.output, h.size, h.block⟩
theorem Two.alloc (h : Two R r a b) (o : Obj) : Two R r a (b.alloc o) :=
  ⟨h.os, h.tape, h.output, by have := h.size; simp; omega, fun i hi hg hr => (Below.heap_alloc b o i (Nat.lt_of_lt_of_le hi h.size)).trans (h.block i hi hg hr)⟩
theorem Two.set (h : Two R r a b) (j : Nat) (u : Value) : Two R r a (b.setCell ⟨R, j, none⟩ u) :=
  ⟨h.os, h.tape, h.output, by simpa [World.setCell] using h.size, fun i hi hg hr => (heap_setCell_other b ⟨R, j, none⟩ i u (fun e => hg e)).trans (h.block i hi hg hr)⟩
theorem Two.grown (h : Two R r a b) (g : b.grownBy c r) : Two R r a c :=
  ⟨g.os.trans h.os, g.tape.trans h.tape, g.output.trans h.output, Nat.le_trans h.size g.size, fun i hi hg hr => (g.block i (Nat.lt_of_lt_of_le hi h.size) (fun e => hr e.symm)).trans (h.block i hi hg hr)⟩
theorem Two.below (h : Two R r a b) (k : Below b.heap.size b c) : Two R r a c :=
  ⟨k.os.trans h.os, k.tape.trans h.tape, k.output.trans h.output, Nat.le_trans h.size k.size, fun i hi hg hr => (k.block i (Nat.lt_of_lt_of_le hi h.size)).trans (h.block i hi hg hr)⟩
theorem Two.keep (h : Two R r a b) (k : Keep R b c) : Two R r a c :=
  ⟨k.os.trans h.os, k.tape.trans h.tape, k.output.trans h.output, Nat.le_trans h.size k.size, fun i hi hg hr => (k.block i (Nat.lt_of_lt_of_le hi h.size) hg).trans (h.block i hi hg hr)⟩
theorem Two.of_keep (k : Keep R a b) : Two R r a b := (Two.refl R r a).keep k
theorem Two.own {e s n bs : Nat} {v : Value} {xs : List Value} (h : Two R r a b) (ho : a.ownsRow bs e s v n xs) (hR : v.ownBlock ≠ some R) (hr : ∀ k, v.ownBlock = some k → r ≠ some k) : b.ownsRow bs e s v n xs := by
  obtain ⟨q, ⟨q1, q2⟩ | ⟨g, c, cur, rfl, hg, hh, r'⟩⟩ := ho
  · exact ⟨q, Or.inl ⟨q1, q2⟩⟩
  · exact ⟨q, Or.inr ⟨g, c, cur, rfl, hg, (h.block g (Array.getElem?_eq_some_iff.1 hh).1 (fun e => hR (by rw [← e]; rfl)) (hr g rfl)).trans hh, r'⟩⟩
theorem Two.bel {B : Nat} (h : Two R r a b) (hR : B ≤ R) (hr : ∀ k, r = some k → B ≤ k) (hB : B ≤ a.heap.size) : Below B a b :=
  ⟨h.os, h.tape, h.output, h.size, fun k hk => h.block k (by omega) (by omega) (fun e => by have := hr k e; omega)⟩
end
theorem ownB_lt {w : World} {b e s n : Nat} {v : Value} {xs : List Value} (h : w.ownsRow b e s v n xs) : ∀ k, v.ownBlock = some k → b ≤ k := fun k hk => (ownW_lt h k hk).1
theorem ownB_far {w : World} {b e s n B : Nat} {v : Value} {xs : List Value} (h : w.ownsRow b e s v n xs) (hne : v.ownBlock ≠ some B) (j : Nat) (u : Value) : (w.setCell ⟨B, j, none⟩ u).ownsRow b e s v n xs := by
  obtain ⟨q, ⟨q1, q2⟩ | ⟨g, c, cur, rfl, hg, hh, r⟩⟩ := h
  · exact ⟨q, Or.inl ⟨q1, q2⟩⟩
  · refine ⟨q, Or.inr ⟨g, c, cur, rfl, hg, ?_, r⟩⟩
    rw [Below.heap_setCell _ _ _ _ (by show g ≠ B; intro e; exact hne (by rw [← e]; rfl))]
    exact hh
theorem ownU_ty {w : World} {base t s n B tb : Nat} {v : Value} {xs : List Value} {vs : Array Value} (h : w.ownsRow base t s v n xs) (hp : PB w B vs tb) (hne : tb ≠ t) : v.ownBlock ≠ some B := by
  obtain ⟨h1, ⟨rfl, _⟩ | ⟨g, cap, cur, rfl, hb, hg, hc, hm, hs, ht⟩⟩ := h
  · intro e; cases e
  · intro e
    obtain rfl : g = B := by simpa [Value.ownBlock] using e
    unfold PB at hp
    rw [hp] at hg
    simp at hg
    exact hne hg.2
theorem PB.kept {w w' : World} {B tb : Nat} {vs : Array Value} {r : Option Nat} (h : PB w B vs tb) (hg : w.grownBy w' r) (hr : r ≠ some B) : PB w' B vs tb := (hg.block B h.lt (fun e => hr e.symm)).trans h
theorem own_apartB {w : World} {b1 e1 s1 n1 b2 e2 s2 n2 : Nat} {v1 v2 : Value} {x1 x2 : List Value} (h1 : w.ownsRow b1 e1 s1 v1 n1 x1) (h2 : w.ownsRow b2 e2 s2 v2 n2 x2) (hne : e1 ≠ e2) : ∀ k, v1.ownBlock = some k → v2.ownBlock ≠ some k := by
  intro k hk hk2
  obtain ⟨_, ⟨rfl, _⟩ | ⟨g, c, cur, rfl, _, hh, _⟩⟩ := h1
  · cases hk
  · obtain ⟨_, ⟨rfl, _⟩ | ⟨g2, c2, cur2, rfl, _, hh2, _⟩⟩ := h2
    · cases hk2
    · have e1 : g = k := by simpa [Value.ownBlock] using hk
      have e2 : g2 = k := by simpa [Value.ownBlock] using hk2
      subst e1
      subst e2
      rw [hh] at hh2
      simp at hh2
      exact hne hh2.2
def bytV (l : List Nat) : List Value := l.map fun b : Nat => Value.int .u8 (b : Int)
def strV (l : List ByteArray) : List Value := l.map Value.string
theorem conv_own {w : World} {bs : Nat} {dv : Value} {fd : List Nat} (h : w.ownsRow bs 5 1 dv fd.length (bytV fd)) (hf : ∀ x ∈ fd, x < 256) : (convert 22 9 dv).run Try.prog w = .ok (.string (bsOf fd)) w := by
  obtain ⟨_, ⟨rfl, hz⟩ | ⟨g, cap, cur, rfl, hb, hg, hc, hm, hs, ht⟩⟩ := h
  · have : fd = [] := List.eq_nil_of_length_eq_zero hz
    subst this
    exact Lib.run_convert_nil_bytes w 22 9 5 0 Try.underlying22 Try.underlying5 Try.underlying9
  · have hl : (fd.map Nat.toUInt8).length = fd.length := by simp
    have hcl : ∀ j (hj : j < (fd.map Nat.toUInt8).length), w.cell? ((⟨g, 0, none⟩ : Addr).add j) = some (.int .u8 ((fd.map Nat.toUInt8)[j].toNat : Int)) := fun j hj => by
      have hj' : j < fd.length := by simpa using hj
      have e1 : (cur.toList.take (fd.length * 1))[j]? = (bytV fd)[j]? := by rw [ht]
      rw [List.getElem?_take, if_pos (by omega), Array.getElem?_toList] at e1
      have e2 : (bytV fd)[j]? = some (.int .u8 (fd[j] : Int)) := by simp [bytV, List.getElem?_eq_getElem hj']
      have e3 : ((fd.map Nat.toUInt8)[j].toNat : Int) = (fd[j] : Int) := by
        have h256 := hf fd[j] (List.getElem_mem hj')
        simp [Nat.toUInt8, UInt8.toNat_ofNat']
        omega
      rw [e3, Addr.add_lit, Nat.zero_add]
      simp only [World.cell?, hg]
      rw [e1, e2]
      rfl
    have := Go.run_convert_bytes_back w 22 9 5 ⟨g, 0, none⟩ cap (fd.map Nat.toUInt8) Try.underlying22 Try.underlying5 Try.underlying9 hcl
    rw [hl] at this
    exact this
def IEf0 (w9 : World) (base : Nat) (vs : Value) (nn : Nat) (xs : List Value) (R i9 b9 c9 a9 : Nat) (s nm x9 : ByteArray) (dv pv : Value) (l : Array Bool) (w : World) : Prop :=
  Two R vs.ownBlock w9 w ∧ (True) ∧ (l.getD 11 false = false → w.heap.size = w9.heap.size) ∧ (l.getD 11 false = true → l.getD 12 false = false → PB w w9.heap.size #[.string x9] 9) ∧ (l.getD 12 false = false → w.ownsRow base 9 1 vs nn xs ∧ True) ∧ (l.getD 16 false = false → PB w R #[.string s, .int .i64 (i9 : Nat), .int .i64 (b9 : Nat), .string nm, vs, dv, pv, .int .i64 (c9 : Nat), .int .i64 (a9 : Nat)] 110) ∧ (l.getD 16 false = true → ∃ a c, PB w R #[.string s, .int .i64 (i9 : Nat), .int .i64 (b9 : Nat), .string nm, .slice a (nn + 1) c, dv, pv, .int .i64 (c9 : Nat), .int .i64 (a9 : Nat)] 110 ∧ w.ownsRow base 9 1 (.slice a (nn + 1) c) (nn + 1) (xs ++ [.string x9]))
theorem sameEf0 {w9 : World} {base : Nat} {vs : Value} {nn : Nat} {xs : List Value} {R i9 b9 c9 a9 : Nat} {s nm x9 : ByteArray} {dv pv : Value} {l : Array Bool} {w : World} {i7 : Nat} (h1 : i7 ≠ 11) (h2 : i7 ≠ 12) (h3 : i7 ≠ 16) (hI : IEf0 w9 base vs nn xs R i9 b9 c9 a9 s nm x9 dv pv l w) : IEf0 w9 base vs nn xs R i9 b9 c9 a9 s nm x9 dv pv (l.setIfInBounds i7 true) w := by
  unfold IEf0
  rw [Rg.set_ne h1, Rg.set_ne h2, Rg.set_ne h3]
  exact hI
def FEf0 (w9 : World) (base : Nat) (vs : Value) (nn : Nat) (xs : List Value) (R i9 b9 c9 a9 : Nat) (s nm x9 : ByteArray) (dv pv : Value) (i9 : Nat) (v : Value) (w : World) : Prop :=
  match i9 with
  | 0 => v = .pointer (some ⟨R, 0, none⟩)
  | 1 => v = .pointer (some ⟨R, 0, none⟩)
  | 2 => v = .pointer (some ⟨R, 0, none⟩)
  | 3 => v = .pointer (some ⟨R, 3, none⟩)
  | 4 => v = .pointer (some ⟨R, 4, none⟩)
  | 5 => v = vs
  | 6 => v = .pointer (some ⟨R, 0, none⟩)
  | 7 => v = .pointer (some ⟨R, 0, none⟩)
  | 8 => v = .pointer (some ⟨R, 5, none⟩)
  | 9 => v = dv
  | 10 => v = .string x9
  | 11 => v = .slice (some ⟨w9.heap.size, 0, none⟩) 1 1
  | 12 => ∃ a c, v = .slice a (nn + 1) c ∧ w.ownsRow base 9 1 v (nn + 1) (xs ++ [.string x9])
  | 13 => v = .pointer (some ⟨R, 0, none⟩)
  | 14 => v = .pointer (some ⟨R, 3, none⟩)
  | 15 => v = .pointer (some ⟨R, 4, none⟩)
  | 16 => True
  | _ => True
theorem keepEf0 {w9 : World} {base : Nat} {vs : Value} {nn : Nat} {xs : List Value} {R i9 b9 c9 a9 : Nat} {s nm x9 : ByteArray} {dv pv : Value} {w w' : World} (hw : ∀ v n ys, w.ownsRow base 9 1 v n ys → n = nn + 1 → w'.ownsRow base 9 1 v n ys) : ∀ k v, FEf0 w9 base vs nn xs R i9 b9 c9 a9 s nm x9 dv pv k v w → FEf0 w9 base vs nn xs R i9 b9 c9 a9 s nm x9 dv pv k v w' := by
  intro k v h
  unfold FEf0 at *
  split at h <;> first | exact h | exact (by obtain ⟨a, c, h1, h2⟩ := h; exact ⟨a, c, h1, hw _ _ _ h2 rfl⟩)
theorem sizeEf0 : (Rg.opsOf Try.f111 0).size = 17 := by kernel_rfl
theorem dEf0_st : Rg.dstAt (Rg.opsOf Try.f111 0) 16 = none := by kernel_rfl
set_option maxRecDepth 20000 in
set_option maxHeartbeats 8000000 in
theorem regEf0 {Q : Exit → Act → World → Prop} {a : Act} {w9 : World} {base : Nat} {vs : Value} {nn : Nat} {xs : List Value} {R i9 b9 c9 a9 : Nat} {s nm x9 : ByteArray} {dv pv : Value} (ha : a.tmps.size = 18)
    (k0 : a.tmps[0]? = some (.pointer (some ⟨R, 0, none⟩))) (hb0 : base ≤ w9.heap.size) (hPs : True) (hT : PB w9 R #[.string s, .int .i64 (i9 : Nat), .int .i64 (b9 : Nat), .string nm, vs, dv, pv, .int .i64 (c9 : Nat), .int .i64 (a9 : Nat)] 110) (hown : w9.ownsRow base 9 1 vs nn xs) (hex : True) (hnn : nn ≤ 1048576) (hconv : ∀ W, Two R vs.ownBlock w9 W → (convert 22 9 dv).run Try.prog W = .ok (.string x9) W)
    (hend : ∀ b' w' v, Rg.Fr (Rg.opsOf Try.f111 0) a b' → Two R vs.ownBlock w9 w' → (True) → PB w' R #[.string s, .int .i64 (i9 : Nat), .int .i64 (b9 : Nat), .string nm, v, dv, pv, .int .i64 (c9 : Nat), .int .i64 (a9 : Nat)] 110 → (∃ a c, v = .slice a (nn + 1) c) → w'.ownsRow base 9 1 v (nn + 1) (xs ++ [.string x9]) → Q .normal b' w') :
    (Code.region 0 (Rg.opsOf Try.f111 0) true).wp Try.prog Q a w9 := by
  obtain ⟨i0, hi0, hz0, hz1, hz2⟩ := info_parts infoStr
  refine Rg.region_set4 (by kernel_rfl) (IEf0 w9 base vs nn xs R i9 b9 c9 a9 s nm x9 dv pv) (FEf0 w9 base vs nn xs R i9 b9 c9 a9 s nm x9 dv pv) (by rw [ha, sizeEf0]; kernel_rfl) ⟨Two.start _ _ _, hPs, fun _ => rfl, fun h => (by rw [Rg.none_yet] at h; cases h), fun _ => ⟨hown, hex⟩, fun _ => hT, fun h => (by rw [Rg.none_yet] at h; cases h)⟩ ?_ ?_
  case refine_2 =>
    intro l b' w' hf hall hI hA
    rw [sizeEf0] at hall
    obtain ⟨a1, c1, q1, q2⟩ := hI.2.2.2.2.2.2 (hall 16 (by omega))
    exact hend b' w' _ hf hI.1 hI.2.1 q1 ⟨_, _, rfl⟩ q2
  case refine_1 =>
    clear hend
    intro i' hi'
    rw [sizeEf0] at hi'
    rcases (show i' = 0 ∨ i' = 1 ∨ i' = 2 ∨ i' = 3 ∨ i' = 4 ∨ i' = 5 ∨ i' = 6 ∨ i' = 7 ∨ i' = 8 ∨ i' = 9 ∨ i' = 10 ∨ i' = 11 ∨ i' = 12 ∨ i' = 13 ∨ i' = 14 ∨ i' = 15 ∨ i' = 16 by omega) with rfl | rfl | rfl | rfl | rfl | rfl | rfl | rfl | rfl | rfl | rfl | rfl | rfl | rfl | rfl | rfl | rfl
    · intro ll bb w' hs hlf hN hO hf hIl hL hA
      clear hi'
      have q0 := hf.kept (s := 0) (by rw [sizeEf0]; kernel_rfl) k0
      exact Rg.op_value (o := ⟨some 2, Op.move (Operand.tmp 0), _, _, _, _⟩) rfl rfl rfl ⟨_, rfl, (fun h => by cases h), (by show Act.eval bb _ = _; simp [Act.eval, q0]), sameEf0 (by decide) (by decide) (by decide) hIl, fun _ _ _ _ h => h⟩
    · intro ll bb w' hs hlf hN hO hf hIl hL hA
      clear hi'
      have q0 := hf.kept (s := 0) (by rw [sizeEf0]; kernel_rfl) k0
      exact Rg.op_value (o := ⟨some 3, Op.move (Operand.tmp 0), _, _, _, _⟩) rfl rfl rfl ⟨_, rfl, (fun h => by cases h), (by show Act.eval bb _ = _; simp [Act.eval, q0]), sameEf0 (by decide) (by decide) (by decide) hIl, fun _ _ _ _ h => h⟩
    · intro ll bb w' hs hlf hN hO hf hIl hL hA
      clear hi'
      have q3 : bb.tmps[3]? = some _ := hf.tmp (k := 1) rfl (by rw [ha]; decide) (hA 1 (by kernel_rfl))
      exact Rg.op_value (o := ⟨some 4, Op.nilCheck (Operand.tmp 3), _, _, _, _⟩) (x := .pointer (some ⟨R, 0, none⟩)) rfl rfl (by clear hA hN hO hL hIl hconv; simp only [execOp]; go_simp) ⟨_, rfl, (fun h => by cases h), rfl, sameEf0 (by decide) (by decide) (by decide) hIl, fun _ _ _ _ h => h⟩
    · intro ll bb w' hs hlf hN hO hf hIl hL hA
      clear hi'
      have q4 : bb.tmps[4]? = some _ := hf.tmp (k := 2) rfl (by rw [ha]; decide) (hA 2 (by kernel_rfl))
      exact Rg.op_value (o := ⟨some 5, Op.fieldAddr 110 (Operand.tmp 4) 3, _, _, _, _⟩) (x := .pointer (some ⟨R, 3, none⟩)) rfl rfl (by clear hA hN hO hL hIl hconv; simp only [execOp]; go_simp) ⟨_, rfl, (fun h => by cases h), rfl, sameEf0 (by decide) (by decide) (by decide) hIl, fun _ _ _ _ h => h⟩
    · intro ll bb w' hs hlf hN hO hf hIl hL hA
      clear hi'
      have q5 : bb.tmps[5]? = some _ := hf.tmp (k := 3) rfl (by rw [ha]; decide) (hA 3 (by kernel_rfl))
      exact Rg.op_value (o := ⟨some 6, Op.fieldAddr 106 (Operand.tmp 5) 1, _, _, _, _⟩) (x := .pointer (some ⟨R, 4, none⟩)) rfl rfl (by clear hA hN hO hL hIl hconv; simp only [execOp]; go_simp) ⟨_, rfl, (fun h => by cases h), rfl, sameEf0 (by decide) (by decide) (by decide) hIl, fun _ _ _ _ h => h⟩
    · intro ll bb w' hs hlf hN hO hf hIl hL hA
      clear hi'
      have q6 : bb.tmps[6]? = some _ := hf.tmp (k := 4) rfl (by rw [ha]; decide) (hA 4 (by kernel_rfl))
      have hst : ll.getD 16 false = false := hN 16 (by kernel_rfl)
      have hTB := hIl.2.2.2.2.2.1 hst
      obtain ⟨e0, e1, e2, e3, e4, e5, e6, e7, e8⟩ := hTB.nine
      exact Rg.op_value (o := ⟨some 7, Op.load 104 (Operand.tmp 6), _, _, _, _⟩) (x := vs) rfl rfl (by clear hA hN hO hL hIl hconv; simp only [execOp]; go_simp) ⟨_, rfl, (fun h => by cases h), rfl, sameEf0 (by decide) (by decide) (by decide) hIl, fun _ _ _ _ h => h⟩
    · intro ll bb w' hs hlf hN hO hf hIl hL hA
      clear hi'
      have q0 := hf.kept (s := 0) (by rw [sizeEf0]; kernel_rfl) k0
      exact Rg.op_value (o := ⟨some 8, Op.move (Operand.tmp 0), _, _, _, _⟩) rfl rfl rfl ⟨_, rfl, (fun h => by cases h), (by show Act.eval bb _ = _; simp [Act.eval, q0]), sameEf0 (by decide) (by decide) (by decide) hIl, fun _ _ _ _ h => h⟩
    · intro ll bb w' hs hlf hN hO hf hIl hL hA
      clear hi'
      have q8 : bb.tmps[8]? = some _ := hf.tmp (k := 6) rfl (by rw [ha]; decide) (hA 6 (by kernel_rfl))
      exact Rg.op_value (o := ⟨some 9, Op.nilCheck (Operand.tmp 8), _, _, _, _⟩) (x := .pointer (some ⟨R, 0, none⟩)) rfl rfl (by clear hA hN hO hL hIl hconv; simp only [execOp]; go_simp) ⟨_, rfl, (fun h => by cases h), rfl, sameEf0 (by decide) (by decide) (by decide) hIl, fun _ _ _ _ h => h⟩
    · intro ll bb w' hs hlf hN hO hf hIl hL hA
      clear hi'
      have q9 : bb.tmps[9]? = some _ := hf.tmp (k := 7) rfl (by rw [ha]; decide) (hA 7 (by kernel_rfl))
      exact Rg.op_value (o := ⟨some 10, Op.fieldAddr 110 (Operand.tmp 9) 4, _, _, _, _⟩) (x := .pointer (some ⟨R, 5, none⟩)) rfl rfl (by clear hA hN hO hL hIl hconv; simp only [execOp]; go_simp) ⟨_, rfl, (fun h => by cases h), rfl, sameEf0 (by decide) (by decide) (by decide) hIl, fun _ _ _ _ h => h⟩
    · intro ll bb w' hs hlf hN hO hf hIl hL hA
      clear hi'
      have q10 : bb.tmps[10]? = some _ := hf.tmp (k := 8) rfl (by rw [ha]; decide) (hA 8 (by kernel_rfl))
      have hst : ll.getD 16 false = false := hN 16 (by kernel_rfl)
      have hTB := hIl.2.2.2.2.2.1 hst
      obtain ⟨e0, e1, e2, e3, e4, e5, e6, e7, e8⟩ := hTB.nine
      exact Rg.op_value (o := ⟨some 11, Op.load 22 (Operand.tmp 10), _, _, _, _⟩) (x := dv) rfl rfl (by clear hA hN hO hL hIl hconv; simp only [execOp]; go_simp) ⟨_, rfl, (fun h => by cases h), rfl, sameEf0 (by decide) (by decide) (by decide) hIl, fun _ _ _ _ h => h⟩
    · intro ll bb w' hs hlf hN hO hf hIl hL hA
      clear hi'
      have q11 : bb.tmps[11]? = some _ := hf.tmp (k := 9) rfl (by rw [ha]; decide) (hA 9 (by kernel_rfl))
      have hcv := hconv w' hIl.1
      exact Rg.op_value (o := ⟨some 12, Op.convert 22 9 (Operand.tmp 11), _, _, _, _⟩) (x := .string x9) rfl rfl (by clear hA hN hO hL hIl hconv; simp only [execOp]; go_simp) ⟨_, rfl, (fun h => by cases h), rfl, sameEf0 (by decide) (by decide) (by decide) hIl, fun _ _ _ _ h => h⟩
    · intro ll bb w' hs hlf hN hO hf hIl hL hA
      clear hi'
      have q12 : bb.tmps[12]? = some _ := hf.tmp (k := 10) rfl (by rw [ha]; decide) (hA 10 (by kernel_rfl))
      have hz := hIl.2.2.1 hlf
      have hap := hN 12 (by kernel_rfl)
      have hst := hN 16 (by kernel_rfl)
      have hnew := PB.new w' #[.string x9] 9
      have hE : IEf0 w9 base vs nn xs R i9 b9 c9 a9 s nm x9 dv pv (ll.setIfInBounds 11 true) (w'.alloc (.cells #[.string x9] 9)) := by
        refine ⟨hIl.1.alloc _, trivial, fun h => (by rw [Rg.set_self hs (by rw [sizeEf0]; decide)] at h; cases h), fun _ _ => hz ▸ hnew, fun _ => ⟨(hIl.2.2.2.2.1 hap).1.alloc _, trivial⟩, fun _ => (hIl.2.2.2.2.2.1 hst).alloc _, fun h => (by rw [Rg.set_ne (by decide), hst] at h; cases h)⟩
      have hK := keepEf0 (w9 := w9) (base := base) (vs := vs) (nn := nn) (xs := xs) (R := R) (i9 := i9) (b9 := b9) (c9 := c9) (a9 := a9) (s := s) (nm := nm) (x9 := x9) (dv := dv) (pv := pv) (w := w') (w' := w'.alloc (.cells #[.string x9] 9)) (fun v n ys h _ => h.alloc _)
      refine Rg.op_value (o := ⟨some 13, Op.buildSlice 104 1 #[(0, Operand.tmp 12)], _, _, _, _⟩) (x := .slice (some ⟨w'.heap.size, 0, none⟩) 1 1) (w' := w'.alloc (.cells #[.string x9] 9)) rfl rfl (by clear hA hN hO hL hIl hE hK hnew hz; simp only [execOp]; go_simp) ⟨_, rfl, (fun h => by cases h), (by show _ = _; rw [hz]), hE, fun k y _ _ h => hK k y h⟩
    · intro ll bb w' hs hlf hN hO hf hIl hL hA
      clear hi'
      have q7 : bb.tmps[7]? = some _ := hf.tmp (k := 5) rfl (by rw [ha]; decide) (hA 5 (by kernel_rfl))
      have q13 : bb.tmps[13]? = some _ := hf.tmp (k := 11) rfl (by rw [ha]; decide) (hA 11 (by kernel_rfl))
      have hst := hN 16 (by kernel_rfl)
      have hbs := hL 11 (by kernel_rfl)
      have hP := hIl.2.2.2.1 hbs hlf
      obtain ⟨ho, -⟩ := hIl.2.2.2.2.1 hlf
      have hbz : (nn + 1) * 16 ≤ 140737488355328 := by omega
      refine Rg.op_append (o := ⟨some 14, Op.call { callee := Callee.builtin Builtin.append, args := #[Operand.tmp 7, Operand.tmp 13], argTypes := #[104, 104] }, _, _, _, _⟩) rfl rfl (Operand.tmp 7) (Operand.tmp 13) 104 rfl base 9 i0 _ 1 16 Try.underlying104 hi0 hz0 hz1 hz2 rfl (by decide) vs nn xs (by simp [Act.eval, q7]) ho ⟨w9.heap.size, 0, none⟩ 1 1 [.string x9] (by simp [Act.eval, q13]) rfl (fun j u hu => (by rw [Addr.add_lit, Nat.zero_add, hP.cell j]; simpa using hu)) (by simp [Value.oneCell']) (by unfold maxLen; omega) hbz (Nat.le_trans hb0 hIl.1.size) ?_
      intro v' w2 o2 g2 b2
      have hE : IEf0 w9 base vs nn xs R i9 b9 c9 a9 s nm x9 dv pv (ll.setIfInBounds 12 true) w2 := by
        refine ⟨hIl.1.grown g2, trivial, fun h => (by rw [Rg.set_ne (by decide), hbs] at h; cases h), fun _ h => (by rw [Rg.set_self hs (by rw [sizeEf0]; decide)] at h; cases h), fun h => (by rw [Rg.set_self hs (by rw [sizeEf0]; decide)] at h; cases h), fun _ => (hIl.2.2.2.2.2.1 hst).kept g2 (ownU_ty ho (hIl.2.2.2.2.2.1 hst) (by decide)), fun h => (by rw [Rg.set_ne (by decide), hst] at h; cases h)⟩
      obtain ⟨a1, c1, rfl⟩ := ownW_slice o2
      refine ⟨_, rfl, (fun h => by cases h), ⟨a1, c1, rfl, o2⟩, hE, fun k y hk hnk h => ?_⟩
      unfold FEf0 at *
      split at h <;> first | exact h | exact absurd rfl hk
    · intro ll bb w' hs hlf hN hO hf hIl hL hA
      clear hi'
      have q2 : bb.tmps[2]? = some _ := hf.tmp (k := 0) rfl (by rw [ha]; decide) (hA 0 (by kernel_rfl))
      exact Rg.op_value (o := ⟨some 15, Op.nilCheck (Operand.tmp 2), _, _, _, _⟩) (x := .pointer (some ⟨R, 0, none⟩)) rfl rfl (by clear hA hN hO hL hIl hconv; simp only [execOp]; go_simp) ⟨_, rfl, (fun h => by cases h), rfl, sameEf0 (by decide) (by decide) (by decide) hIl, fun _ _ _ _ h => h⟩
    · intro ll bb w' hs hlf hN hO hf hIl hL hA
      clear hi'
      have q15 : bb.tmps[15]? = some _ := hf.tmp (k := 13) rfl (by rw [ha]; decide) (hA 13 (by kernel_rfl))
      exact Rg.op_value (o := ⟨some 16, Op.fieldAddr 110 (Operand.tmp 15) 3, _, _, _, _⟩) (x := .pointer (some ⟨R, 3, none⟩)) rfl rfl (by clear hA hN hO hL hIl hconv; simp only [execOp]; go_simp) ⟨_, rfl, (fun h => by cases h), rfl, sameEf0 (by decide) (by decide) (by decide) hIl, fun _ _ _ _ h => h⟩
    · intro ll bb w' hs hlf hN hO hf hIl hL hA
      clear hi'
      have q16 : bb.tmps[16]? = some _ := hf.tmp (k := 14) rfl (by rw [ha]; decide) (hA 14 (by kernel_rfl))
      exact Rg.op_value (o := ⟨some 17, Op.fieldAddr 106 (Operand.tmp 16) 1, _, _, _, _⟩) (x := .pointer (some ⟨R, 4, none⟩)) rfl rfl (by clear hA hN hO hL hIl hconv; simp only [execOp]; go_simp) ⟨_, rfl, (fun h => by cases h), rfl, sameEf0 (by decide) (by decide) (by decide) hIl, fun _ _ _ _ h => h⟩
    · intro ll bb w' hs hlf hN hO hf hIl hL hA
      clear hi'
      have q17 : bb.tmps[17]? = some _ := hf.tmp (k := 15) rfl (by rw [ha]; decide) (hA 15 (by kernel_rfl))
      obtain ⟨a1, c1, hv, o2⟩ := hA 12 (by kernel_rfl)
      have q14 : bb.tmps[14]? = some (.slice a1 (nn + 1) c1) := hf.tmp (k := 12) rfl (by rw [ha]; decide) hv
      rw [hv] at o2
      have hP := hIl.2.2.2.2.2.1 hlf
      have hne := ownU_ty o2 hP (by decide)
      have hfz := hP.frozen 4
      have hcl : w'.cell? ⟨R, 4, none⟩ = some _ := hP.cell 4
      have hset : PB (w'.setCell ⟨R, 4, none⟩ (.slice a1 (nn + 1) c1)) R #[.string s, .int .i64 (i9 : Nat), .int .i64 (b9 : Nat), .string nm, .slice a1 (nn + 1) c1, dv, pv, .int .i64 (c9 : Nat), .int .i64 (a9 : Nat)] 110 := hP.set 4 _
      have hbs := hL 11 (by first | kernel_rfl | fail)
      have hE : IEf0 w9 base vs nn xs R i9 b9 c9 a9 s nm x9 dv pv (ll.setIfInBounds 16 true) (w'.setCell ⟨R, 4, none⟩ (.slice a1 (nn + 1) c1)) := by
        have hap := hL 12 (by kernel_rfl)
        refine ⟨hIl.1.set _ _, trivial, fun h => (by rw [Rg.set_ne (by decide), hbs] at h; cases h), fun _ h => (by rw [Rg.set_ne (by decide), hap] at h; cases h), fun h => (by rw [Rg.set_ne (by decide), hap] at h; cases h), fun h => (by rw [Rg.set_self hs (by rw [sizeEf0]; decide)] at h; cases h), fun _ => ⟨a1, c1, hset, ownB_far o2 hne _ _⟩⟩
      refine Rg.op_skip (o := ⟨none, Op.store 104 (Operand.tmp 17) (Operand.tmp 14), _, _, _, _⟩) (w' := w'.setCell ⟨R, 4, none⟩ (.slice a1 (nn + 1) c1)) rfl rfl ?_ ⟨undef, (by rw [dEf0_st]), (fun _ => trivial), trivial, hE, fun k y hk hnk h => ?_⟩
      · clear hE hA hN hO hL hIl
        simp only [execOp]
        go_simp
      · refine keepEf0 (fun v n ys h _ => ?_) k y h
        exact ownB_far h (ownU_ty h hP (by decide)) _ _
theorem dEf0_0 : Rg.dstAt (Rg.opsOf Try.f111 0) 0 = some 2 := by kernel_rfl
theorem dEf0_1 : Rg.dstAt (Rg.opsOf Try.f111 0) 1 = some 3 := by kernel_rfl
theorem dEf0_2 : Rg.dstAt (Rg.opsOf Try.f111 0) 2 = some 4 := by kernel_rfl
theorem dEf0_3 : Rg.dstAt (Rg.opsOf Try.f111 0) 3 = some 5 := by kernel_rfl
theorem dEf0_4 : Rg.dstAt (Rg.opsOf Try.f111 0) 4 = some 6 := by kernel_rfl
theorem dEf0_5 : Rg.dstAt (Rg.opsOf Try.f111 0) 5 = some 7 := by kernel_rfl
theorem dEf0_6 : Rg.dstAt (Rg.opsOf Try.f111 0) 6 = some 8 := by kernel_rfl
theorem dEf0_7 : Rg.dstAt (Rg.opsOf Try.f111 0) 7 = some 9 := by kernel_rfl
theorem dEf0_8 : Rg.dstAt (Rg.opsOf Try.f111 0) 8 = some 10 := by kernel_rfl
theorem dEf0_9 : Rg.dstAt (Rg.opsOf Try.f111 0) 9 = some 11 := by kernel_rfl
theorem dEf0_10 : Rg.dstAt (Rg.opsOf Try.f111 0) 10 = some 12 := by kernel_rfl
theorem dEf0_11 : Rg.dstAt (Rg.opsOf Try.f111 0) 11 = some 13 := by kernel_rfl
theorem dEf0_12 : Rg.dstAt (Rg.opsOf Try.f111 0) 12 = some 14 := by kernel_rfl
theorem dEf0_13 : Rg.dstAt (Rg.opsOf Try.f111 0) 13 = some 15 := by kernel_rfl
theorem dEf0_14 : Rg.dstAt (Rg.opsOf Try.f111 0) 14 = some 16 := by kernel_rfl
theorem dEf0_15 : Rg.dstAt (Rg.opsOf Try.f111 0) 15 = some 17 := by kernel_rfl
theorem dEf0_16 : Rg.dstAt (Rg.opsOf Try.f111 0) 16 = none := by kernel_rfl
theorem layEf0 {a b : Act} (hf : Rg.Fr (Rg.opsOf Try.f111 0) a b) : b = (((((((((((((((((a.put (some 2) (Rg.out (Rg.opsOf Try.f111 0) b 0)).put (some 3) (Rg.out (Rg.opsOf Try.f111 0) b 1)).put (some 4) (Rg.out (Rg.opsOf Try.f111 0) b 2)).put (some 5) (Rg.out (Rg.opsOf Try.f111 0) b 3)).put (some 6) (Rg.out (Rg.opsOf Try.f111 0) b 4)).put (some 7) (Rg.out (Rg.opsOf Try.f111 0) b 5)).put (some 8) (Rg.out (Rg.opsOf Try.f111 0) b 6)).put (some 9) (Rg.out (Rg.opsOf Try.f111 0) b 7)).put (some 10) (Rg.out (Rg.opsOf Try.f111 0) b 8)).put (some 11) (Rg.out (Rg.opsOf Try.f111 0) b 9)).put (some 12) (Rg.out (Rg.opsOf Try.f111 0) b 10)).put (some 13) (Rg.out (Rg.opsOf Try.f111 0) b 11)).put (some 14) (Rg.out (Rg.opsOf Try.f111 0) b 12)).put (some 15) (Rg.out (Rg.opsOf Try.f111 0) b 13)).put (some 16) (Rg.out (Rg.opsOf Try.f111 0) b 14)).put (some 17) (Rg.out (Rg.opsOf Try.f111 0) b 15)).put none (Rg.out (Rg.opsOf Try.f111 0) b 16)) := by
  have h := hf.chain
  rw [sizeEf0, show List.range 17 = [0, 1, 2, 3, 4, 5, 6, 7, 8, 9, 10, 11, 12, 13, 14, 15, 16] from by decide] at h
  simp only [List.foldl_cons, List.foldl_nil, dEf0_0, dEf0_1, dEf0_2, dEf0_3, dEf0_4, dEf0_5, dEf0_6, dEf0_7, dEf0_8, dEf0_9, dEf0_10, dEf0_11, dEf0_12, dEf0_13, dEf0_14, dEf0_15, dEf0_16] at h
  exact h
def IEp2 (w9 : World) (base : Nat) (vs : Value) (nn : Nat) (xs : List Value) (R i9 b9 c9 a9 : Nat) (s nm : ByteArray) (dv : Value) (fa : Option Addr) (fn fc : Nat) (l : Array Bool) (w : World) : Prop :=
  Two R vs.ownBlock w9 w ∧ (True) ∧ (l.getD 9 false = false → w.heap.size = w9.heap.size) ∧ (l.getD 9 false = true → l.getD 10 false = false → PB w w9.heap.size #[.string nm, .slice fa fn fc] 106) ∧ (l.getD 10 false = false → w.ownsRow base 106 2 vs nn xs ∧ True) ∧ (l.getD 13 false = false → PB w R #[.string s, .int .i64 (i9 : Nat), .int .i64 (b9 : Nat), .string nm, .slice fa fn fc, dv, vs, .int .i64 (c9 : Nat), .int .i64 (a9 : Nat)] 110) ∧ (l.getD 13 false = true → ∃ a c, PB w R #[.string s, .int .i64 (i9 : Nat), .int .i64 (b9 : Nat), .string nm, .slice fa fn fc, dv, .slice a (nn + 1) c, .int .i64 (c9 : Nat), .int .i64 (a9 : Nat)] 110 ∧ w.ownsRow base 106 2 (.slice a (nn + 1) c) (nn + 1) (xs ++ [.string nm, .slice fa fn fc]))
theorem sameEp2 {w9 : World} {base : Nat} {vs : Value} {nn : Nat} {xs : List Value} {R i9 b9 c9 a9 : Nat} {s nm : ByteArray} {dv : Value} {fa : Option Addr} {fn fc : Nat} {l : Array Bool} {w : World} {i7 : Nat} (h1 : i7 ≠ 9) (h2 : i7 ≠ 10) (h3 : i7 ≠ 13) (hI : IEp2 w9 base vs nn xs R i9 b9 c9 a9 s nm dv fa fn fc l w) : IEp2 w9 base vs nn xs R i9 b9 c9 a9 s nm dv fa fn fc (l.setIfInBounds i7 true) w := by
  unfold IEp2
  rw [Rg.set_ne h1, Rg.set_ne h2, Rg.set_ne h3]
  exact hI
def FEp2 (w9 : World) (base : Nat) (vs : Value) (nn : Nat) (xs : List Value) (R i9 b9 c9 a9 : Nat) (s nm : ByteArray) (dv : Value) (fa : Option Addr) (fn fc : Nat) (i9 : Nat) (v : Value) (w : World) : Prop :=
  match i9 with
  | 0 => v = .pointer (some ⟨R, 0, none⟩)
  | 1 => v = .pointer (some ⟨R, 0, none⟩)
  | 2 => v = .pointer (some ⟨R, 0, none⟩)
  | 3 => v = .pointer (some ⟨R, 6, none⟩)
  | 4 => v = vs
  | 5 => v = .pointer (some ⟨R, 0, none⟩)
  | 6 => v = .pointer (some ⟨R, 0, none⟩)
  | 7 => v = .pointer (some ⟨R, 3, none⟩)
  | 8 => v = .agg #[.string nm, .slice fa fn fc]
  | 9 => v = .slice (some ⟨w9.heap.size, 0, none⟩) 1 1
  | 10 => ∃ a c, v = .slice a (nn + 1) c ∧ w.ownsRow base 106 2 v (nn + 1) (xs ++ [.string nm, .slice fa fn fc])
  | 11 => v = .pointer (some ⟨R, 0, none⟩)
  | 12 => v = .pointer (some ⟨R, 6, none⟩)
  | 13 => True
  | _ => True
theorem keepEp2 {w9 : World} {base : Nat} {vs : Value} {nn : Nat} {xs : List Value} {R i9 b9 c9 a9 : Nat} {s nm : ByteArray} {dv : Value} {fa : Option Addr} {fn fc : Nat} {w w' : World} (hw : ∀ v n ys, w.ownsRow base 106 2 v n ys → n = nn + 1 → w'.ownsRow base 106 2 v n ys) : ∀ k v, FEp2 w9 base vs nn xs R i9 b9 c9 a9 s nm dv fa fn fc k v w → FEp2 w9 base vs nn xs R i9 b9 c9 a9 s nm dv fa fn fc k v w' := by
  intro k v h
  unfold FEp2 at *
  split at h <;> first | exact h | exact (by obtain ⟨a, c, h1, h2⟩ := h; exact ⟨a, c, h1, hw _ _ _ h2 rfl⟩)
theorem sizeEp2 : (Rg.opsOf Try.f110 2).size = 14 := by kernel_rfl
theorem dEp2_st : Rg.dstAt (Rg.opsOf Try.f110 2) 13 = none := by kernel_rfl
set_option maxRecDepth 20000 in
set_option maxHeartbeats 8000000 in
theorem regEp2 {Q : Exit → Act → World → Prop} {a : Act} {w9 : World} {base : Nat} {vs : Value} {nn : Nat} {xs : List Value} {R i9 b9 c9 a9 : Nat} {s nm : ByteArray} {dv : Value} {fa : Option Addr} {fn fc : Nat} (ha : a.tmps.size = 28)
    (k0 : a.tmps[0]? = some (.pointer (some ⟨R, 0, none⟩))) (hb0 : base ≤ w9.heap.size) (hPs : True) (hT : PB w9 R #[.string s, .int .i64 (i9 : Nat), .int .i64 (b9 : Nat), .string nm, .slice fa fn fc, dv, vs, .int .i64 (c9 : Nat), .int .i64 (a9 : Nat)] 110) (hown : w9.ownsRow base 106 2 vs nn xs) (hex : True) (hnn : nn ≤ 1048576) 
    (hend : ∀ b' w' v, Rg.Fr (Rg.opsOf Try.f110 2) a b' → Two R vs.ownBlock w9 w' → (True) → PB w' R #[.string s, .int .i64 (i9 : Nat), .int .i64 (b9 : Nat), .string nm, .slice fa fn fc, dv, v, .int .i64 (c9 : Nat), .int .i64 (a9 : Nat)] 110 → (∃ a c, v = .slice a (nn + 1) c) → w'.ownsRow base 106 2 v (nn + 1) (xs ++ [.string nm, .slice fa fn fc]) → Q .normal b' w') :
    (Code.region 2 (Rg.opsOf Try.f110 2) true).wp Try.prog Q a w9 := by
  obtain ⟨i0, hi0, hz0, hz1, hz2⟩ := info_parts infoPart
  refine Rg.region_set4 (by kernel_rfl) (IEp2 w9 base vs nn xs R i9 b9 c9 a9 s nm dv fa fn fc) (FEp2 w9 base vs nn xs R i9 b9 c9 a9 s nm dv fa fn fc) (by rw [ha, sizeEp2]; kernel_rfl) ⟨Two.start _ _ _, hPs, fun _ => rfl, fun h => (by rw [Rg.none_yet] at h; cases h), fun _ => ⟨hown, hex⟩, fun _ => hT, fun h => (by rw [Rg.none_yet] at h; cases h)⟩ ?_ ?_
  case refine_2 =>
    intro l b' w' hf hall hI hA
    rw [sizeEp2] at hall
    obtain ⟨a1, c1, q1, q2⟩ := hI.2.2.2.2.2.2 (hall 13 (by omega))
    exact hend b' w' _ hf hI.1 hI.2.1 q1 ⟨_, _, rfl⟩ q2
  case refine_1 =>
    clear hend
    intro i' hi'
    rw [sizeEp2] at hi'
    rcases (show i' = 0 ∨ i' = 1 ∨ i' = 2 ∨ i' = 3 ∨ i' = 4 ∨ i' = 5 ∨ i' = 6 ∨ i' = 7 ∨ i' = 8 ∨ i' = 9 ∨ i' = 10 ∨ i' = 11 ∨ i' = 12 ∨ i' = 13 by omega) with rfl | rfl | rfl | rfl | rfl | rfl | rfl | rfl | rfl | rfl | rfl | rfl | rfl | rfl
    · intro ll bb w' hs hlf hN hO hf hIl hL hA
      clear hi'
      have q0 := hf.kept (s := 0) (by rw [sizeEp2]; kernel_rfl) k0
      exact Rg.op_value (o := ⟨some 15, Op.move (Operand.tmp 0), _, _, _, _⟩) rfl rfl rfl ⟨_, rfl, (fun h => by cases h), (by show Act.eval bb _ = _; simp [Act.eval, q0]), sameEp2 (by decide) (by decide) (by decide) hIl, fun _ _ _ _ h => h⟩
    · intro ll bb w' hs hlf hN hO hf hIl hL hA
      clear hi'
      have q0 := hf.kept (s := 0) (by rw [sizeEp2]; kernel_rfl) k0
      exact Rg.op_value (o := ⟨some 16, Op.move (Operand.tmp 0), _, _, _, _⟩) rfl rfl rfl ⟨_, rfl, (fun h => by cases h), (by show Act.eval bb _ = _; simp [Act.eval, q0]), sameEp2 (by decide) (by decide) (by decide) hIl, fun _ _ _ _ h => h⟩
    · intro ll bb w' hs hlf hN hO hf hIl hL hA
      clear hi'
      have q16 : bb.tmps[16]? = some _ := hf.tmp (k := 1) rfl (by rw [ha]; decide) (hA 1 (by kernel_rfl))
      exact Rg.op_value (o := ⟨some 17, Op.nilCheck (Operand.tmp 16), _, _, _, _⟩) (x := .pointer (some ⟨R, 0, none⟩)) rfl rfl (by clear hA hN hO hL hIl ; simp only [execOp]; go_simp) ⟨_, rfl, (fun h => by cases h), rfl, sameEp2 (by decide) (by decide) (by decide) hIl, fun _ _ _ _ h => h⟩
    · intro ll bb w' hs hlf hN hO hf hIl hL hA
      clear hi'
      have q17 : bb.tmps[17]? = some _ := hf.tmp (k := 2) rfl (by rw [ha]; decide) (hA 2 (by kernel_rfl))
      exact Rg.op_value (o := ⟨some 18, Op.fieldAddr 110 (Operand.tmp 17) 5, _, _, _, _⟩) (x := .pointer (some ⟨R, 6, none⟩)) rfl rfl (by clear hA hN hO hL hIl ; simp only [execOp]; go_simp) ⟨_, rfl, (fun h => by cases h), rfl, sameEp2 (by decide) (by decide) (by decide) hIl, fun _ _ _ _ h => h⟩
    · intro ll bb w' hs hlf hN hO hf hIl hL hA
      clear hi'
      have q18 : bb.tmps[18]? = some _ := hf.tmp (k := 3) rfl (by rw [ha]; decide) (hA 3 (by kernel_rfl))
      have hst : ll.getD 13 false = false := hN 13 (by kernel_rfl)
      have hTB := hIl.2.2.2.2.2.1 hst
      obtain ⟨e0, e1, e2, e3, e4, e5, e6, e7, e8⟩ := hTB.nine
      exact Rg.op_value (o := ⟨some 19, Op.load 54 (Operand.tmp 18), _, _, _, _⟩) (x := vs) rfl rfl (by clear hA hN hO hL hIl ; simp only [execOp]; go_simp) ⟨_, rfl, (fun h => by cases h), rfl, sameEp2 (by decide) (by decide) (by decide) hIl, fun _ _ _ _ h => h⟩
    · intro ll bb w' hs hlf hN hO hf hIl hL hA
      clear hi'
      have q0 := hf.kept (s := 0) (by rw [sizeEp2]; kernel_rfl) k0
      exact Rg.op_value (o := ⟨some 20, Op.move (Operand.tmp 0), _, _, _, _⟩) rfl rfl rfl ⟨_, rfl, (fun h => by cases h), (by show Act.eval bb _ = _; simp [Act.eval, q0]), sameEp2 (by decide) (by decide) (by decide) hIl, fun _ _ _ _ h => h⟩
    · intro ll bb w' hs hlf hN hO hf hIl hL hA
      clear hi'
      have q20 : bb.tmps[20]? = some _ := hf.tmp (k := 5) rfl (by rw [ha]; decide) (hA 5 (by kernel_rfl))
      exact Rg.op_value (o := ⟨some 21, Op.nilCheck (Operand.tmp 20), _, _, _, _⟩) (x := .pointer (some ⟨R, 0, none⟩)) rfl rfl (by clear hA hN hO hL hIl ; simp only [execOp]; go_simp) ⟨_, rfl, (fun h => by cases h), rfl, sameEp2 (by decide) (by decide) (by decide) hIl, fun _ _ _ _ h => h⟩
    · intro ll bb w' hs hlf hN hO hf hIl hL hA
      clear hi'
      have q21 : bb.tmps[21]? = some _ := hf.tmp (k := 6) rfl (by rw [ha]; decide) (hA 6 (by kernel_rfl))
      exact Rg.op_value (o := ⟨some 22, Op.fieldAddr 110 (Operand.tmp 21) 3, _, _, _, _⟩) (x := .pointer (some ⟨R, 3, none⟩)) rfl rfl (by clear hA hN hO hL hIl ; simp only [execOp]; go_simp) ⟨_, rfl, (fun h => by cases h), rfl, sameEp2 (by decide) (by decide) (by decide) hIl, fun _ _ _ _ h => h⟩
    · intro ll bb w' hs hlf hN hO hf hIl hL hA
      clear hi'
      have q22 : bb.tmps[22]? = some _ := hf.tmp (k := 7) rfl (by rw [ha]; decide) (hA 7 (by kernel_rfl))
      have hst : ll.getD 13 false = false := hN 13 (by kernel_rfl)
      have hTB := hIl.2.2.2.2.2.1 hst
      obtain ⟨e0, e1, e2, e3, e4, e5, e6, e7, e8⟩ := hTB.nine
      exact Rg.op_value (o := ⟨some 23, Op.load 106 (Operand.tmp 22), _, _, _, _⟩) (x := .agg #[.string nm, .slice fa fn fc]) rfl rfl (by clear hA hN hO hL hIl ; simp only [execOp]; go_simp) ⟨_, rfl, (fun h => by cases h), rfl, sameEp2 (by decide) (by decide) (by decide) hIl, fun _ _ _ _ h => h⟩
    · intro ll bb w' hs hlf hN hO hf hIl hL hA
      clear hi'
      have q23 : bb.tmps[23]? = some _ := hf.tmp (k := 8) rfl (by rw [ha]; decide) (hA 8 (by kernel_rfl))
      have hz := hIl.2.2.1 hlf
      have hap := hN 10 (by kernel_rfl)
      have hst := hN 13 (by kernel_rfl)
      have hnew := PB.new w' #[.string nm, .slice fa fn fc] 106
      have hE : IEp2 w9 base vs nn xs R i9 b9 c9 a9 s nm dv fa fn fc (ll.setIfInBounds 9 true) (w'.alloc (.cells #[.string nm, .slice fa fn fc] 106)) := by
        refine ⟨hIl.1.alloc _, trivial, fun h => (by rw [Rg.set_self hs (by rw [sizeEp2]; decide)] at h; cases h), fun _ _ => hz ▸ hnew, fun _ => ⟨(hIl.2.2.2.2.1 hap).1.alloc _, trivial⟩, fun _ => (hIl.2.2.2.2.2.1 hst).alloc _, fun h => (by rw [Rg.set_ne (by decide), hst] at h; cases h)⟩
      have hK := keepEp2 (w9 := w9) (base := base) (vs := vs) (nn := nn) (xs := xs) (R := R) (i9 := i9) (b9 := b9) (c9 := c9) (a9 := a9) (s := s) (nm := nm) (dv := dv) (fa := fa) (fn := fn) (fc := fc) (w := w') (w' := w'.alloc (.cells #[.string nm, .slice fa fn fc] 106)) (fun v n ys h _ => h.alloc _)
      refine Rg.op_value (o := ⟨some 24, Op.buildSlice 54 1 #[(0, Operand.tmp 23)], _, _, _, _⟩) (x := .slice (some ⟨w'.heap.size, 0, none⟩) 1 1) (w' := w'.alloc (.cells #[.string nm, .slice fa fn fc] 106)) rfl rfl (by clear hA hN hO hL hIl hE hK hnew hz; simp only [execOp]; go_simp) ⟨_, rfl, (fun h => by cases h), (by show _ = _; rw [hz]), hE, fun k y _ _ h => hK k y h⟩
    · intro ll bb w' hs hlf hN hO hf hIl hL hA
      clear hi'
      have q19 : bb.tmps[19]? = some _ := hf.tmp (k := 4) rfl (by rw [ha]; decide) (hA 4 (by kernel_rfl))
      have q24 : bb.tmps[24]? = some _ := hf.tmp (k := 9) rfl (by rw [ha]; decide) (hA 9 (by kernel_rfl))
      have hst := hN 13 (by kernel_rfl)
      have hbs := hL 9 (by kernel_rfl)
      have hP := hIl.2.2.2.1 hbs hlf
      obtain ⟨ho, -⟩ := hIl.2.2.2.2.1 hlf
      have hbz : (nn + 1) * 40 ≤ 140737488355328 := by omega
      refine Rg.op_append (o := ⟨some 25, Op.call { callee := Callee.builtin Builtin.append, args := #[Operand.tmp 19, Operand.tmp 24], argTypes := #[54, 54] }, _, _, _, _⟩) rfl rfl (Operand.tmp 19) (Operand.tmp 24) 54 rfl base 106 i0 _ 2 40 Try.underlying54 hi0 hz0 hz1 hz2 rfl (by decide) vs nn xs (by simp [Act.eval, q19]) ho ⟨w9.heap.size, 0, none⟩ 1 1 [.string nm, .slice fa fn fc] (by simp [Act.eval, q24]) rfl (fun j u hu => (by rw [Addr.add_lit, Nat.zero_add, hP.cell j]; simpa using hu)) (by simp [Value.oneCell']) (by unfold maxLen; omega) hbz (Nat.le_trans hb0 hIl.1.size) ?_
      intro v' w2 o2 g2 b2
      have hE : IEp2 w9 base vs nn xs R i9 b9 c9 a9 s nm dv fa fn fc (ll.setIfInBounds 10 true) w2 := by
        refine ⟨hIl.1.grown g2, trivial, fun h => (by rw [Rg.set_ne (by decide), hbs] at h; cases h), fun _ h => (by rw [Rg.set_self hs (by rw [sizeEp2]; decide)] at h; cases h), fun h => (by rw [Rg.set_self hs (by rw [sizeEp2]; decide)] at h; cases h), fun _ => (hIl.2.2.2.2.2.1 hst).kept g2 (ownU_ty ho (hIl.2.2.2.2.2.1 hst) (by decide)), fun h => (by rw [Rg.set_ne (by decide), hst] at h; cases h)⟩
      obtain ⟨a1, c1, rfl⟩ := ownW_slice o2
      refine ⟨_, rfl, (fun h => by cases h), ⟨a1, c1, rfl, o2⟩, hE, fun k y hk hnk h => ?_⟩
      unfold FEp2 at *
      split at h <;> first | exact h | exact absurd rfl hk
    · intro ll bb w' hs hlf hN hO hf hIl hL hA
      clear hi'
      have q15 : bb.tmps[15]? = some _ := hf.tmp (k := 0) rfl (by rw [ha]; decide) (hA 0 (by kernel_rfl))
      exact Rg.op_value (o := ⟨some 26, Op.nilCheck (Operand.tmp 15), _, _, _, _⟩) (x := .pointer (some ⟨R, 0, none⟩)) rfl rfl (by clear hA hN hO hL hIl ; simp only [execOp]; go_simp) ⟨_, rfl, (fun h => by cases h), rfl, sameEp2 (by decide) (by decide) (by decide) hIl, fun _ _ _ _ h => h⟩
    · intro ll bb w' hs hlf hN hO hf hIl hL hA
      clear hi'
      have q26 : bb.tmps[26]? = some _ := hf.tmp (k := 11) rfl (by rw [ha]; decide) (hA 11 (by kernel_rfl))
      exact Rg.op_value (o := ⟨some 27, Op.fieldAddr 110 (Operand.tmp 26) 5, _, _, _, _⟩) (x := .pointer (some ⟨R, 6, none⟩)) rfl rfl (by clear hA hN hO hL hIl ; simp only [execOp]; go_simp) ⟨_, rfl, (fun h => by cases h), rfl, sameEp2 (by decide) (by decide) (by decide) hIl, fun _ _ _ _ h => h⟩
    · intro ll bb w' hs hlf hN hO hf hIl hL hA
      clear hi'
      have q27 : bb.tmps[27]? = some _ := hf.tmp (k := 12) rfl (by rw [ha]; decide) (hA 12 (by kernel_rfl))
      obtain ⟨a1, c1, hv, o2⟩ := hA 10 (by kernel_rfl)
      have q25 : bb.tmps[25]? = some (.slice a1 (nn + 1) c1) := hf.tmp (k := 10) rfl (by rw [ha]; decide) hv
      rw [hv] at o2
      have hP := hIl.2.2.2.2.2.1 hlf
      have hne := ownU_ty o2 hP (by decide)
      have hfz := hP.frozen 6
      have hcl : w'.cell? ⟨R, 6, none⟩ = some _ := hP.cell 6
      have hset : PB (w'.setCell ⟨R, 6, none⟩ (.slice a1 (nn + 1) c1)) R #[.string s, .int .i64 (i9 : Nat), .int .i64 (b9 : Nat), .string nm, .slice fa fn fc, dv, .slice a1 (nn + 1) c1, .int .i64 (c9 : Nat), .int .i64 (a9 : Nat)] 110 := hP.set 6 _
      have hbs := hL 9 (by first | kernel_rfl | fail)
      have hE : IEp2 w9 base vs nn xs R i9 b9 c9 a9 s nm dv fa fn fc (ll.setIfInBounds 13 true) (w'.setCell ⟨R, 6, none⟩ (.slice a1 (nn + 1) c1)) := by
        have hap := hL 10 (by kernel_rfl)
        refine ⟨hIl.1.set _ _, trivial, fun h => (by rw [Rg.set_ne (by decide), hbs] at h; cases h), fun _ h => (by rw [Rg.set_ne (by decide), hap] at h; cases h), fun h => (by rw [Rg.set_ne (by decide), hap] at h; cases h), fun h => (by rw [Rg.set_self hs (by rw [sizeEp2]; decide)] at h; cases h), fun _ => ⟨a1, c1, hset, ownB_far o2 hne _ _⟩⟩
      refine Rg.op_skip (o := ⟨none, Op.store 54 (Operand.tmp 27) (Operand.tmp 25), _, _, _, _⟩) (w' := w'.setCell ⟨R, 6, none⟩ (.slice a1 (nn + 1) c1)) rfl rfl ?_ ⟨undef, (by rw [dEp2_st]), (fun _ => trivial), trivial, hE, fun k y hk hnk h => ?_⟩
      · clear hE hA hN hO hL hIl
        simp only [execOp]
        go_simp
      · refine keepEp2 (fun v n ys h _ => ?_) k y h
        exact ownB_far h (ownU_ty h hP (by decide)) _ _
theorem dEp2_0 : Rg.dstAt (Rg.opsOf Try.f110 2) 0 = some 15 := by kernel_rfl
theorem dEp2_1 : Rg.dstAt (Rg.opsOf Try.f110 2) 1 = some 16 := by kernel_rfl
theorem dEp2_2 : Rg.dstAt (Rg.opsOf Try.f110 2) 2 = some 17 := by kernel_rfl
theorem dEp2_3 : Rg.dstAt (Rg.opsOf Try.f110 2) 3 = some 18 := by kernel_rfl
theorem dEp2_4 : Rg.dstAt (Rg.opsOf Try.f110 2) 4 = some 19 := by kernel_rfl
theorem dEp2_5 : Rg.dstAt (Rg.opsOf Try.f110 2) 5 = some 20 := by kernel_rfl
theorem dEp2_6 : Rg.dstAt (Rg.opsOf Try.f110 2) 6 = some 21 := by kernel_rfl
theorem dEp2_7 : Rg.dstAt (Rg.opsOf Try.f110 2) 7 = some 22 := by kernel_rfl
theorem dEp2_8 : Rg.dstAt (Rg.opsOf Try.f110 2) 8 = some 23 := by kernel_rfl
theorem dEp2_9 : Rg.dstAt (Rg.opsOf Try.f110 2) 9 = some 24 := by kernel_rfl
theorem dEp2_10 : Rg.dstAt (Rg.opsOf Try.f110 2) 10 = some 25 := by kernel_rfl
theorem dEp2_11 : Rg.dstAt (Rg.opsOf Try.f110 2) 11 = some 26 := by kernel_rfl
theorem dEp2_12 : Rg.dstAt (Rg.opsOf Try.f110 2) 12 = some 27 := by kernel_rfl
theorem dEp2_13 : Rg.dstAt (Rg.opsOf Try.f110 2) 13 = none := by kernel_rfl
theorem layEp2 {a b : Act} (hf : Rg.Fr (Rg.opsOf Try.f110 2) a b) : b = ((((((((((((((a.put (some 15) (Rg.out (Rg.opsOf Try.f110 2) b 0)).put (some 16) (Rg.out (Rg.opsOf Try.f110 2) b 1)).put (some 17) (Rg.out (Rg.opsOf Try.f110 2) b 2)).put (some 18) (Rg.out (Rg.opsOf Try.f110 2) b 3)).put (some 19) (Rg.out (Rg.opsOf Try.f110 2) b 4)).put (some 20) (Rg.out (Rg.opsOf Try.f110 2) b 5)).put (some 21) (Rg.out (Rg.opsOf Try.f110 2) b 6)).put (some 22) (Rg.out (Rg.opsOf Try.f110 2) b 7)).put (some 23) (Rg.out (Rg.opsOf Try.f110 2) b 8)).put (some 24) (Rg.out (Rg.opsOf Try.f110 2) b 9)).put (some 25) (Rg.out (Rg.opsOf Try.f110 2) b 10)).put (some 26) (Rg.out (Rg.opsOf Try.f110 2) b 11)).put (some 27) (Rg.out (Rg.opsOf Try.f110 2) b 12)).put none (Rg.out (Rg.opsOf Try.f110 2) b 13)) := by
  have h := hf.chain
  rw [sizeEp2, show List.range 14 = [0, 1, 2, 3, 4, 5, 6, 7, 8, 9, 10, 11, 12, 13] from by decide] at h
  simp only [List.foldl_cons, List.foldl_nil, dEp2_0, dEp2_1, dEp2_2, dEp2_3, dEp2_4, dEp2_5, dEp2_6, dEp2_7, dEp2_8, dEp2_9, dEp2_10, dEp2_11, dEp2_12, dEp2_13] at h
  exact h
end Go.Proofs.Ytgcpiinmcbdkmaa
