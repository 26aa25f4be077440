/-
  The earliest time: the two regions of the law that append and count, whatever their order.
-/
import Derived.Test.YtcapmobhgffnhaaPg
import Derived.Test.YtcapmobhgffnhaaRh
namespace Go.Proofs.Ytcapmobhgffnhaa
open Go.RowKit Va Oa
set_option linter.all false

/-- What each operation of region 14 leaves. -/
def FE14 (B0 bo c N n0 : Nat) (L : List (Opn × Value)) (x : Opn) (ta : Option Addr) (tc : Nat) (r : Int) (k : Nat) (v : Value) (w : World) : Prop :=
  match k with
  | 0 => ∃ E, v = .slice (some ⟨E, 0, none⟩) 0 0 ∧ w.ownsRow B0 31 4 v 0 []
  | 1 => v = .slice (some ⟨bo, 0, none⟩) L.length c
  | 2 => w.ownsRow B0 31 4 v L.length (cellsO L)
  | 3 => v = .agg #[.int .i64 x.room, .int .i64 x.fr, .int .i64 x.to, .slice ta x.team.length tc]
  | 4 => ∃ A, v = .slice (some ⟨A, 0, none⟩) 1 1 ∧ B0 ≤ A ∧ w.heap[A]? = some (.cells #[.int .i64 x.room, .int .i64 x.fr, .int .i64 x.to, .slice ta x.team.length tc] 31 (0, 0))
  | 5 => w.ownsRow B0 31 4 v (L.length + 1) (cellsO L ++ [.int .i64 x.room, .int .i64 x.fr, .int .i64 x.to, .slice ta x.team.length tc])
  | 6 => v = .int .i64 r
  | 7 => ∃ ad cc, v = .slice ad N cc
  | 8 => v = .int .i64 (N : Nat)
  | 9 => v = .int .i64 (n0 : Nat)
  | 10 => v = .bool false
  | _ => True
def dead14 : Nat → Option Nat
  | 0 => some 2
  | 2 => some 5
  | 4 => some 5
  | 5 => some 7
  | _ => none
theorem FE14_keep {B0 bo c N n0 : Nat} {L : List (Opn × Value)} {x : Opn} {ta : Option Addr} {tc : Nat} {r : Int} {w w' : World} (hb : Below w.heap.size w w') (k : Nat) (v : Value) (h : FE14 B0 bo c N n0 L x ta tc r k v w) : FE14 B0 bo c N n0 L x ta tc r k v w' := by
  unfold FE14 at *
  split at h <;> first
    | exact h
    | (obtain ⟨E, h1, h2⟩ := h; exact ⟨E, h1, ownO_below h2 hb⟩)
    | exact ownO_below h hb
    | (obtain ⟨A, h1, h2, h3⟩ := h; exact ⟨A, h1, h2, (hb.block A (Array.getElem?_eq_some_iff.1 h3).1).trans h3⟩)
theorem FE14_one {B0 bo c N n0 : Nat} {L : List (Opn × Value)} {x : Opn} {ta : Option Addr} {tc : Nat} {r : Int} {w w' : World} {E : Nat} (hE : w.ownsRow B0 31 4 (.slice (some ⟨E, 0, none⟩) 0 0) 0 []) (hg : w.grownBy w' (some E)) (k : Nat) (v : Value) (n0' : k ≠ 0) (n2 : k ≠ 2) (n5 : k ≠ 5) (h : FE14 B0 bo c N n0 L x ta tc r k v w) : FE14 B0 bo c N n0 L x ta tc r k v w' := by
  unfold FE14 at *
  split at h <;> first
    | exact h
    | exact absurd rfl n0'
    | exact absurd rfl n2
    | exact absurd rfl n5
    | (obtain ⟨A, h1, h2, h3⟩ := h
       refine ⟨A, h1, h2, (hg.block A (Array.getElem?_eq_some_iff.1 h3).1 ?_).trans h3⟩
       intro e
       cases e
       rcases hE.2 with ⟨q, _⟩ | ⟨b, cp, cur, q, q2, q3, q4, q5, q6, q7⟩
       · cases q
       · cases q
         rw [h3] at q3
         cases q3
         simp at q6)
theorem FE14_two {B0 bo c N n0 : Nat} {L : List (Opn × Value)} {x : Opn} {ta : Option Addr} {tc : Nat} {r : Int} {w w' : World} {rr : Option Nat} (hg : w.grownBy w' rr) (k : Nat) (v : Value) (n0' : k ≠ 0) (n2 : k ≠ 2) (n4 : k ≠ 4) (n5 : k ≠ 5) (h : FE14 B0 bo c N n0 L x ta tc r k v w) : FE14 B0 bo c N n0 L x ta tc r k v w' := by
  unfold FE14 at *
  split at h <;> first
    | exact h
    | exact absurd rfl n0'
    | exact absurd rfl n2
    | exact absurd rfl n4
    | exact absurd rfl n5
theorem sizesE14 : (Rg.opsOf Try.f4 14).size = 11 := by kernel_rfl

set_option maxRecDepth 20000 in
set_option maxHeartbeats 4000000 in
theorem regE14 {Q : Exit → Act → World → Prop} {a : Act} {w9 : World} {bo c N n0 V b0 : Nat} {L : List (Opn × Value)} {x : Opn} {ta : Option Addr} {tc : Nat} {r : Int} (ha : a.tmps.size = 87)
    (k3 : a.tmps[3]? = some (.slice (some ⟨bo, 0, none⟩) L.length c)) (k5 : a.tmps[5]? = some (.int .i64 r)) (k8 : a.tmps[8]? = some (.int .i64 (n0 : Nat))) (k9 : a.tmps[9]? = some (.pointer (some ⟨V, 0, none⟩)))
    (hown : w9.ownsRow b0 31 4 (.slice (some ⟨bo, 0, none⟩) L.length c) L.length (cellsO L)) (hone : ∀ u ∈ cellsO L, u.oneCell' = true) (hbox : TBox w9 V #[.int .i64 x.room, .int .i64 x.fr, .int .i64 x.to, .slice ta x.team.length tc] 31) (hlen : L.length ≤ 201) (hNl : N ≤ 1048576) (hn0l : n0 ≤ 1048576)
    (kC : ∀ W v, Below w9.heap.size w9 W → W.ownsRow w9.heap.size 31 4 v (L.length + 1) (cellsO L ++ [.int .i64 x.room, .int .i64 x.fr, .int .i64 x.to, .slice ta x.team.length tc]) → Calls Try.prog 11 #[v, .int .i64 r] W fun e W' => ∃ ad cc, e = .returned (.slice ad N cc) ∧ Below W.heap.size W W')
    (hN : N = n0)
    (hend : ∀ b' w', Rg.Fr (Rg.opsOf Try.f4 14) a b' → Below w9.heap.size w9 w' → Rg.out (Rg.opsOf Try.f4 14) b' 10 = .bool false → Q .normal b' w') :
    (Code.region 14 (Rg.opsOf Try.f4 14) true).wp Try.prog Q a w9 := by
  obtain ⟨i0, hi0, hy0, hy1, hy2⟩ := info_partsO infoOpP
  refine Rg.region_dead (by kernel_rfl) (fun w' => Below w9.heap.size w9 w') (FE14 w9.heap.size bo c N n0 L x ta tc r) dead14 (by rw [ha, sizesE14]; kernel_rfl) (st_drew (Below.refl _ _)) ?_ ?_
  case refine_2 =>
    intro b' w' hf hI hA
    exact hend b' w' hf hI (hA 10 (by rw [sizesE14]; decide) rfl)
  case refine_1 =>
    clear hend
    have HS : ∀ {w w' : World}, Below w.heap.size w w' → ∀ k y, FE14 w9.heap.size bo c N n0 L x ta tc r k y w → FE14 w9.heap.size bo c N n0 L x ta tc r k y w' := fun hb k y h => FE14_keep hb k y h
    intro i' hi'
    rw [sizesE14] at hi'
    rcases (show i' = 0 ∨ i' = 1 ∨ i' = 2 ∨ i' = 3 ∨ i' = 4 ∨ i' = 5 ∨ i' = 6 ∨ i' = 7 ∨ i' = 8 ∨ i' = 9 ∨ i' = 10 by omega) with rfl | rfl | rfl | rfl | rfl | rfl | rfl | rfl | rfl | rfl | rfl
    · intro bb w' hf hI hA
      clear hi'
      have hb1 : Below w'.heap.size w' (w'.alloc (.cells #[] 31)) := (Below.refl _ _).alloc (Nat.le_refl _) _
      have ho1 := own_base (ownO_new w' 31 4) hI.size
      exact Rg.op_value (o := ⟨some 51, Op.buildSlice 24 0 #[], _, _, _, _⟩) (x := .slice (some ⟨w'.heap.size, 0, none⟩) 0 0) (w' := w'.alloc (.cells #[] 31)) rfl rfl (by clear hA kC HS ho1; simp only [execOp]; go_simp) ⟨_, rfl, (fun h => by cases h), ⟨_, rfl, ho1⟩, onto hI hb1, fun k y _ h => HS hb1 k y h⟩
    · intro bb w' hf hI hA
      clear hi'
      have q0 := hf.kept (s := 3) (by rw [sizesE14]; kernel_rfl) k3
      exact Rg.op_value (o := ⟨some 52, Op.move (Operand.tmp 3), _, _, _, _⟩) rfl rfl rfl ⟨_, rfl, (fun h => by cases h), (by show Act.eval bb _ = _; simp [Act.eval, q0]), hI, fun _ _ _ h => h⟩
    · intro bb w' hf hI hA
      clear hi'
      obtain ⟨E, hv, hoE⟩ := hA 0 (by kernel_rfl) (.inr rfl)
      rw [hv] at hoE
      have q0 : bb.tmps[51]? = some _ := hf.tmp (k := 0) rfl (by rw [ha]; decide) (hv)
      have q1 : bb.tmps[52]? = some _ := hf.tmp (k := 1) rfl (by rw [ha]; decide) (hA 1 (by kernel_rfl) (.inl rfl))
      refine Rg.op_append (o := ⟨some 53, Op.call { callee := Callee.builtin Builtin.append, args := #[Operand.tmp 51, Operand.tmp 52], argTypes := #[24, 24] }, _, _, _, _⟩) rfl rfl (Operand.tmp 51) (Operand.tmp 52) 24 rfl w9.heap.size 31 i0 (.agg #[.int .i64 0, .int .i64 0, .int .i64 0, .slice none 0 0]) 4 48 Try.underlying24 hi0 hy0 hy1 hy2 rfl (by decide) (.slice (some ⟨E, 0, none⟩) 0 0) 0 [] (by simp [Act.eval, q0]) hoE ⟨bo, 0, none⟩ L.length c (cellsO L) (by simp [Act.eval, q1]) (cellsO_len L) (own_src (ownO_below hown hI)) hone (by unfold maxLen; omega) (by omega) hI.size ?_
      intro v2 w2 ho2 hg2 hat2
      have hoF : w2.ownsRow w9.heap.size 31 4 v2 L.length (cellsO L) := by simpa using ho2
      refine ⟨v2, rfl, (fun h => by cases h), hoF, hI.grown hg2 hI.size (fun k hk => (ownO_lt hoE k hk).1), fun k y hd hk => ?_⟩
      refine FE14_one hoE hg2 k y (fun e => ?_) (fun e => ?_) (fun e => ?_) hk
      · rw [e, show Rg.due .any (Rg.opsOf Try.f4 14) dead14 2 0 = false from by kernel_rfl] at hd; cases hd
      · rw [e, show Rg.due .any (Rg.opsOf Try.f4 14) dead14 2 2 = false from by kernel_rfl] at hd; cases hd
      · rw [e, show Rg.due .any (Rg.opsOf Try.f4 14) dead14 2 5 = false from by kernel_rfl] at hd; cases hd
    · intro bb w' hf hI hA
      clear hi'
      have q9 := hf.kept (s := 9) (by rw [sizesE14]; kernel_rfl) k9
      obtain ⟨⟨c0, c1, c2, c3⟩, -⟩ := (hbox.below hI).four
      clear hA kC HS
      exact Rg.op_value (o := ⟨some 54, Op.load 31 (Operand.tmp 9), _, _, _, _⟩) (x := .agg #[.int .i64 x.room, .int .i64 x.fr, .int .i64 x.to, .slice ta x.team.length tc]) rfl rfl (by simp only [execOp]; go_simp) ⟨_, rfl, (fun h => by cases h), rfl, hI, fun _ _ _ h => h⟩
    · intro bb w' hf hI hA
      clear hi'
      have q3 : bb.tmps[54]? = some _ := hf.tmp (k := 3) rfl (by rw [ha]; decide) (hA 3 (by kernel_rfl) (.inl rfl))
      have hb1 : Below w'.heap.size w' (w'.alloc (.cells #[.int .i64 x.room, .int .i64 x.fr, .int .i64 x.to, .slice ta x.team.length tc] 31)) := (Below.refl _ _).alloc (Nat.le_refl _) _
      have hz1 := hI.size
      exact Rg.op_value (o := ⟨some 55, Op.buildSlice 24 1 #[(0, Operand.tmp 54)], _, _, _, _⟩) (x := .slice (some ⟨w'.heap.size, 0, none⟩) 1 1) (w' := w'.alloc (.cells #[.int .i64 x.room, .int .i64 x.fr, .int .i64 x.to, .slice ta x.team.length tc] 31)) rfl rfl (by clear hA kC HS; simp only [execOp]; go_simp) ⟨_, rfl, (fun h => by cases h), ⟨_, rfl, hz1, heap_alloc_new _ _⟩, onto hI hb1, fun k y _ h => HS hb1 k y h⟩
    · intro bb w' hf hI hA
      clear hi'
      have ho2 := hA 2 (by kernel_rfl) (.inr rfl)
      obtain ⟨A, hvA, hAl, hAh⟩ := hA 4 (by kernel_rfl) (.inr rfl)
      generalize hv2 : Rg.out (Rg.opsOf Try.f4 14) bb 2 = v2 at ho2
      have q2 : bb.tmps[53]? = some _ := hf.tmp (k := 2) rfl (by rw [ha]; decide) (hv2)
      have q4 : bb.tmps[55]? = some _ := hf.tmp (k := 4) rfl (by rw [ha]; decide) (hvA)
      refine Rg.op_append (o := ⟨some 56, Op.call { callee := Callee.builtin Builtin.append, args := #[Operand.tmp 53, Operand.tmp 55], argTypes := #[24, 24] }, _, _, _, _⟩) rfl rfl (Operand.tmp 53) (Operand.tmp 55) 24 rfl w9.heap.size 31 i0 (.agg #[.int .i64 0, .int .i64 0, .int .i64 0, .slice none 0 0]) 4 48 Try.underlying24 hi0 hy0 hy1 hy2 rfl (by decide) v2 L.length (cellsO L) (by simp [Act.eval, q2]) ho2 ⟨A, 0, none⟩ 1 1 [.int .i64 x.room, .int .i64 x.fr, .int .i64 x.to, .slice ta x.team.length tc] (by simp [Act.eval, q4]) rfl (fun j u hu => by rw [Addr.add_lit, Nat.zero_add]; simp only [World.cell?, hAh]; simpa using hu) (four_oneO _ _ _ _ _ _) (by unfold maxLen; omega) (by omega) hI.size ?_
      intro v5 w5 ho5 hg5 hat5
      refine ⟨v5, rfl, (fun h => by cases h), ho5, hI.grown hg5 hI.size (fun k hk => (ownO_lt ho2 k hk).1), fun k y hd hk => ?_⟩
      refine FE14_two hg5 k y (fun e => ?_) (fun e => ?_) (fun e => ?_) (fun e => ?_) hk
      · rw [e, show Rg.due .any (Rg.opsOf Try.f4 14) dead14 5 0 = false from by kernel_rfl] at hd; cases hd
      · rw [e, show Rg.due .any (Rg.opsOf Try.f4 14) dead14 5 2 = false from by kernel_rfl] at hd; cases hd
      · rw [e, show Rg.due .any (Rg.opsOf Try.f4 14) dead14 5 4 = false from by kernel_rfl] at hd; cases hd
      · rw [e, show Rg.due .any (Rg.opsOf Try.f4 14) dead14 5 5 = false from by kernel_rfl] at hd; cases hd
    · intro bb w' hf hI hA
      clear hi'
      have q0 := hf.kept (s := 5) (by rw [sizesE14]; kernel_rfl) k5
      exact Rg.op_value (o := ⟨some 57, Op.move (Operand.tmp 5), _, _, _, _⟩) rfl rfl rfl ⟨_, rfl, (fun h => by cases h), (by show Act.eval bb _ = _; simp [Act.eval, q0]), hI, fun _ _ _ h => h⟩
    · intro bb w' hf hI hA
      clear hi'
      have ho5 := hA 5 (by kernel_rfl) (.inr rfl)
      generalize hv5 : Rg.out (Rg.opsOf Try.f4 14) bb 5 = v5 at ho5
      have q5 : bb.tmps[56]? = some _ := hf.tmp (k := 5) rfl (by rw [ha]; decide) (hv5)
      have q6 : bb.tmps[57]? = some _ := hf.tmp (k := 6) rfl (by rw [ha]; decide) (hA 6 (by kernel_rfl) (.inl rfl))
      refine Rg.op_call (o := ⟨some 58, Op.call { callee := Callee.value (Operand.func 11), args := #[Operand.tmp 56, Operand.tmp 57], argTypes := _ }, _, _, _, _⟩) rfl rfl (by clear hA HS ho5 hv5; simp only [execOp, resolve]; go_simp) (kC w' v5 hI ho5) ?_
      rintro e w2 ⟨ad, cc, rfl, hb2⟩
      exact ⟨_, rfl, _, rfl, (fun h => by cases h), ⟨ad, cc, rfl⟩, onto hI hb2, fun k y _ h => HS hb2 k y h⟩
    · intro bb w' hf hI hA
      clear hi'
      obtain ⟨ad, cc, hv⟩ := hA 7 (by kernel_rfl) (.inl rfl)
      have q7 : bb.tmps[58]? = some _ := hf.tmp (k := 7) rfl (by rw [ha]; decide) (hv)
      clear hA kC HS hv
      exact Rg.op_value (o := ⟨some 59, Op.call { callee := Callee.builtin Builtin.len, args := #[Operand.tmp 58], argTypes := _ }, _, _, _, _⟩) (x := .int .i64 (N : Nat)) rfl rfl (by simp only [execOp]; go_simp) ⟨_, rfl, (fun h => by cases h), rfl, hI, fun _ _ _ h => h⟩
    · intro bb w' hf hI hA
      clear hi'
      have q0 := hf.kept (s := 8) (by rw [sizesE14]; kernel_rfl) k8
      exact Rg.op_value (o := ⟨some 60, Op.move (Operand.tmp 8), _, _, _, _⟩) rfl rfl rfl ⟨_, rfl, (fun h => by cases h), (by show Act.eval bb _ = _; simp [Act.eval, q0]), hI, fun _ _ _ h => h⟩
    · intro bb w' hf hI hA
      clear hi'
      subst hN
      have q8 : bb.tmps[59]? = some _ := hf.tmp (k := 8) rfl (by rw [ha]; decide) (hA 8 (by kernel_rfl) (.inl rfl))
      have q9 : bb.tmps[60]? = some _ := hf.tmp (k := 9) rfl (by rw [ha]; decide) (hA 9 (by kernel_rfl) (.inl rfl))
      clear hA kC HS
      exact Rg.op_value (o := ⟨some 61, Op.binOp BinOp.neq 3 (Operand.tmp 59) (Operand.tmp 60) 3, _, _, _, _⟩) (x := .bool false) rfl rfl (by simp only [execOp]; go_simp) ⟨_, rfl, (fun h => by cases h), rfl, hI, fun _ _ _ h => h⟩

theorem dE14_0 : Rg.dstAt (Rg.opsOf Try.f4 14) 0 = some 51 := by kernel_rfl
theorem dE14_1 : Rg.dstAt (Rg.opsOf Try.f4 14) 1 = some 52 := by kernel_rfl
theorem dE14_2 : Rg.dstAt (Rg.opsOf Try.f4 14) 2 = some 53 := by kernel_rfl
theorem dE14_3 : Rg.dstAt (Rg.opsOf Try.f4 14) 3 = some 54 := by kernel_rfl
theorem dE14_4 : Rg.dstAt (Rg.opsOf Try.f4 14) 4 = some 55 := by kernel_rfl
theorem dE14_5 : Rg.dstAt (Rg.opsOf Try.f4 14) 5 = some 56 := by kernel_rfl
theorem dE14_6 : Rg.dstAt (Rg.opsOf Try.f4 14) 6 = some 57 := by kernel_rfl
theorem dE14_7 : Rg.dstAt (Rg.opsOf Try.f4 14) 7 = some 58 := by kernel_rfl
theorem dE14_8 : Rg.dstAt (Rg.opsOf Try.f4 14) 8 = some 59 := by kernel_rfl
theorem dE14_9 : Rg.dstAt (Rg.opsOf Try.f4 14) 9 = some 60 := by kernel_rfl
theorem dE14_10 : Rg.dstAt (Rg.opsOf Try.f4 14) 10 = some 61 := by kernel_rfl
theorem layE14 {a b : Act} (hf : Rg.Fr (Rg.opsOf Try.f4 14) a b) : b = (((((((((((a.put (some 51) (Rg.out (Rg.opsOf Try.f4 14) b 0)).put (some 52) (Rg.out (Rg.opsOf Try.f4 14) b 1)).put (some 53) (Rg.out (Rg.opsOf Try.f4 14) b 2)).put (some 54) (Rg.out (Rg.opsOf Try.f4 14) b 3)).put (some 55) (Rg.out (Rg.opsOf Try.f4 14) b 4)).put (some 56) (Rg.out (Rg.opsOf Try.f4 14) b 5)).put (some 57) (Rg.out (Rg.opsOf Try.f4 14) b 6)).put (some 58) (Rg.out (Rg.opsOf Try.f4 14) b 7)).put (some 59) (Rg.out (Rg.opsOf Try.f4 14) b 8)).put (some 60) (Rg.out (Rg.opsOf Try.f4 14) b 9)).put (some 61) (Rg.out (Rg.opsOf Try.f4 14) b 10)) := by
  have h := hf.chain
  rw [sizesE14, show List.range 11 = [0, 1, 2, 3, 4, 5, 6, 7, 8, 9, 10] from by decide] at h
  simp only [List.foldl_cons, List.foldl_nil, dE14_0, dE14_1, dE14_2, dE14_3, dE14_4, dE14_5, dE14_6, dE14_7, dE14_8, dE14_9, dE14_10] at h
  exact h

/-- What each operation of region 18 leaves. -/
def FE18 (B0 bo c N n0 : Nat) (L : List (Opn × Value)) (x : Opn) (ta : Option Addr) (tc : Nat) (r : Int) (t fr0 : Int) (O : Nat) (k : Nat) (v : Value) (w : World) : Prop :=
  match k with
  | 0 => v = .int .i64 t
  | 1 => v = .pointer (some ⟨O, 1, none⟩)
  | 2 => v = .int .i64 fr0
  | 3 => v = .bool false
  | 4 => v = .bool false
  | 5 => ∃ E, v = .slice (some ⟨E, 0, none⟩) 0 0 ∧ w.ownsRow B0 31 4 v 0 []
  | 6 => v = .slice (some ⟨bo, 0, none⟩) L.length c
  | 7 => w.ownsRow B0 31 4 v L.length (cellsO L)
  | 8 => v = .agg #[.int .i64 x.room, .int .i64 x.fr, .int .i64 x.to, .slice ta x.team.length tc]
  | 9 => ∃ A, v = .slice (some ⟨A, 0, none⟩) 1 1 ∧ B0 ≤ A ∧ w.heap[A]? = some (.cells #[.int .i64 x.room, .int .i64 x.fr, .int .i64 x.to, .slice ta x.team.length tc] 31 (0, 0))
  | 10 => w.ownsRow B0 31 4 v (L.length + 1) (cellsO L ++ [.int .i64 x.room, .int .i64 x.fr, .int .i64 x.to, .slice ta x.team.length tc])
  | 11 => v = .int .i64 r
  | 12 => ∃ ad cc, v = .slice ad N cc
  | 13 => v = .int .i64 (N : Nat)
  | 14 => v = .int .i64 (n0 : Nat)
  | 15 => v = .bool true
  | 16 => v = .bool true
  | 17 => v = .bool true
  | _ => True
def dead18 : Nat → Option Nat
  | 5 => some 7
  | 7 => some 10
  | 9 => some 10
  | 10 => some 12
  | _ => none
theorem FE18_keep {B0 bo c N n0 : Nat} {L : List (Opn × Value)} {x : Opn} {ta : Option Addr} {tc : Nat} {r : Int} {t fr0 : Int} {O : Nat} {w w' : World} (hb : Below w.heap.size w w') (k : Nat) (v : Value) (h : FE18 B0 bo c N n0 L x ta tc r t fr0 O k v w) : FE18 B0 bo c N n0 L x ta tc r t fr0 O k v w' := by
  unfold FE18 at *
  split at h <;> first
    | exact h
    | (obtain ⟨E, h1, h2⟩ := h; exact ⟨E, h1, ownO_below h2 hb⟩)
    | exact ownO_below h hb
    | (obtain ⟨A, h1, h2, h3⟩ := h; exact ⟨A, h1, h2, (hb.block A (Array.getElem?_eq_some_iff.1 h3).1).trans h3⟩)
theorem FE18_one {B0 bo c N n0 : Nat} {L : List (Opn × Value)} {x : Opn} {ta : Option Addr} {tc : Nat} {r : Int} {t fr0 : Int} {O : Nat} {w w' : World} {E : Nat} (hE : w.ownsRow B0 31 4 (.slice (some ⟨E, 0, none⟩) 0 0) 0 []) (hg : w.grownBy w' (some E)) (k : Nat) (v : Value) (n0' : k ≠ 5) (n2 : k ≠ 7) (n5 : k ≠ 10) (h : FE18 B0 bo c N n0 L x ta tc r t fr0 O k v w) : FE18 B0 bo c N n0 L x ta tc r t fr0 O k v w' := by
  unfold FE18 at *
  split at h <;> first
    | exact h
    | exact absurd rfl n0'
    | exact absurd rfl n2
    | exact absurd rfl n5
    | (obtain ⟨A, h1, h2, h3⟩ := h
       refine ⟨A, h1, h2, (hg.block A (Array.getElem?_eq_some_iff.1 h3).1 ?_).trans h3⟩
       intro e
       cases e
       rcases hE.2 with ⟨q, _⟩ | ⟨b, cp, cur, q, q2, q3, q4, q5, q6, q7⟩
       · cases q
       · cases q
         rw [h3] at q3
         cases q3
         simp at q6)
theorem FE18_two {B0 bo c N n0 : Nat} {L : List (Opn × Value)} {x : Opn} {ta : Option Addr} {tc : Nat} {r : Int} {t fr0 : Int} {O : Nat} {w w' : World} {rr : Option Nat} (hg : w.grownBy w' rr) (k : Nat) (v : Value) (n0' : k ≠ 5) (n2 : k ≠ 7) (n4 : k ≠ 9) (n5 : k ≠ 10) (h : FE18 B0 bo c N n0 L x ta tc r t fr0 O k v w) : FE18 B0 bo c N n0 L x ta tc r t fr0 O k v w' := by
  unfold FE18 at *
  split at h <;> first
    | exact h
    | exact absurd rfl n0'
    | exact absurd rfl n2
    | exact absurd rfl n4
    | exact absurd rfl n5
theorem sizesE18 : (Rg.opsOf Try.f4 18).size = 18 := by kernel_rfl

set_option maxRecDepth 20000 in
set_option maxHeartbeats 4000000 in
theorem regE18 {Q : Exit → Act → World → Prop} {a : Act} {w9 : World} {bo c N n0 V b0 : Nat} {L : List (Opn × Value)} {x : Opn} {ta : Option Addr} {tc : Nat} {r : Int} {t fr0 : Int} {O : Nat} (ha : a.tmps.size = 87)
    (k3 : a.tmps[3]? = some (.slice (some ⟨bo, 0, none⟩) L.length c)) (k5 : a.tmps[5]? = some (.int .i64 r)) (k8 : a.tmps[8]? = some (.int .i64 (n0 : Nat))) (k9 : a.tmps[9]? = some (.pointer (some ⟨V, 0, none⟩))) (k4 : a.tmps[4]? = some (.pointer (some ⟨O, 0, none⟩))) (k6 : a.tmps[6]? = some (.int .i64 t)) (hO : w9.cell? ⟨O, 1, none⟩ = some (.int .i64 fr0)) (hOl : O < w9.heap.size) (htf : (t == fr0) = false)
    (hown : w9.ownsRow b0 31 4 (.slice (some ⟨bo, 0, none⟩) L.length c) L.length (cellsO L)) (hone : ∀ u ∈ cellsO L, u.oneCell' = true) (hbox : TBox w9 V #[.int .i64 x.room, .int .i64 x.fr, .int .i64 x.to, .slice ta x.team.length tc] 31) (hlen : L.length ≤ 201) (hNl : N ≤ 1048576) (hn0l : n0 ≤ 1048576)
    (kC : ∀ W v, Below w9.heap.size w9 W → W.ownsRow w9.heap.size 31 4 v (L.length + 1) (cellsO L ++ [.int .i64 x.room, .int .i64 x.fr, .int .i64 x.to, .slice ta x.team.length tc]) → Calls Try.prog 11 #[v, .int .i64 r] W fun e W' => ∃ ad cc, e = .returned (.slice ad N cc) ∧ Below W.heap.size W W')
    (hN : n0 < N)
    (hend : ∀ b' w', Rg.Fr (Rg.opsOf Try.f4 18) a b' → Below w9.heap.size w9 w' → Rg.out (Rg.opsOf Try.f4 18) b' 17 = .bool true → Q .normal b' w') :
    (Code.region 18 (Rg.opsOf Try.f4 18) true).wp Try.prog Q a w9 := by
  obtain ⟨i0, hi0, hy0, hy1, hy2⟩ := info_partsO infoOpP
  refine Rg.region_dead (by kernel_rfl) (fun w' => Below w9.heap.size w9 w') (FE18 w9.heap.size bo c N n0 L x ta tc r t fr0 O) dead18 (by rw [ha, sizesE18]; kernel_rfl) (st_drew (Below.refl _ _)) ?_ ?_
  case refine_2 =>
    intro b' w' hf hI hA
    exact hend b' w' hf hI (hA 17 (by rw [sizesE18]; decide) rfl)
  case refine_1 =>
    clear hend
    have HS : ∀ {w w' : World}, Below w.heap.size w w' → ∀ k y, FE18 w9.heap.size bo c N n0 L x ta tc r t fr0 O k y w → FE18 w9.heap.size bo c N n0 L x ta tc r t fr0 O k y w' := fun hb k y h => FE18_keep hb k y h
    intro i' hi'
    rw [sizesE18] at hi'
    rcases (show i' = 0 ∨ i' = 1 ∨ i' = 2 ∨ i' = 3 ∨ i' = 4 ∨ i' = 5 ∨ i' = 6 ∨ i' = 7 ∨ i' = 8 ∨ i' = 9 ∨ i' = 10 ∨ i' = 11 ∨ i' = 12 ∨ i' = 13 ∨ i' = 14 ∨ i' = 15 ∨ i' = 16 ∨ i' = 17 by omega) with rfl | rfl | rfl | rfl | rfl | rfl | rfl | rfl | rfl | rfl | rfl | rfl | rfl | rfl | rfl | rfl | rfl | rfl
    · intro bb w' hf hI hA
      clear hi'
      have q0 := hf.kept (s := 6) (by rw [sizesE18]; kernel_rfl) k6
      exact Rg.op_value (o := ⟨some 70, Op.move (Operand.tmp 6), _, _, _, _⟩) rfl rfl rfl ⟨_, rfl, (fun h => by cases h), (by show Act.eval bb _ = _; simp [Act.eval, q0]), hI, fun _ _ _ h => h⟩
    · intro bb w' hf hI hA
      clear hi'
      have q4 := hf.kept (s := 4) (by rw [sizesE18]; kernel_rfl) k4
      clear hA kC HS
      exact Rg.op_value (o := ⟨some 71, Op.fieldAddr 31 (Operand.tmp 4) 1, _, _, _, _⟩) (x := .pointer (some ⟨O, 1, none⟩)) rfl rfl (by simp only [execOp]; go_simp) ⟨_, rfl, (fun h => by cases h), rfl, hI, fun _ _ _ h => h⟩
    · intro bb w' hf hI hA
      clear hi'
      have q1 : bb.tmps[71]? = some _ := hf.tmp (k := 1) rfl (by rw [ha]; decide) (hA 1 (by kernel_rfl) (.inl rfl))
      have hyw := (hI.cell (p := ⟨O, 1, none⟩) hOl).trans hO
      clear hA kC HS
      exact Rg.op_value (o := ⟨some 72, Op.load 2 (Operand.tmp 71), _, _, _, _⟩) (x := .int .i64 fr0) rfl rfl (by simp only [execOp]; go_simp) ⟨_, rfl, (fun h => by cases h), rfl, hI, fun _ _ _ h => h⟩
    · intro bb w' hf hI hA
      clear hi'
      have q0 : bb.tmps[70]? = some _ := hf.tmp (k := 0) rfl (by rw [ha]; decide) (hA 0 (by kernel_rfl) (.inl rfl))
      have q2 : bb.tmps[72]? = some _ := hf.tmp (k := 2) rfl (by rw [ha]; decide) (hA 2 (by kernel_rfl) (.inl rfl))
      clear hA kC HS
      exact Rg.op_value (o := ⟨some 73, Op.binOp BinOp.eql 2 (Operand.tmp 70) (Operand.tmp 72) 2, _, _, _, _⟩) (x := .bool false) rfl rfl (by simp only [execOp]; go_simp) ⟨_, rfl, (fun h => by cases h), rfl, hI, fun _ _ _ h => h⟩
    · intro bb w' hf hI hA
      clear hi'
      have q3 : bb.tmps[73]? = some _ := hf.tmp (k := 3) rfl (by rw [ha]; decide) (hA 3 (by kernel_rfl) (.inl rfl))
      clear hA kC HS
      exact Rg.op_value (o := ⟨some 74, Op.move (Operand.tmp 73), _, _, _, _⟩) (x := .bool false) rfl rfl (by simp only [execOp]; go_simp) ⟨_, rfl, (fun h => by cases h), rfl, hI, fun _ _ _ h => h⟩
    · intro bb w' hf hI hA
      clear hi'
      have qg : bb.tmps[74]? = some _ := hf.tmp (k := 4) rfl (by rw [ha]; decide) (hA 4 (by kernel_rfl) (.inl rfl))
      have hb1 : Below w'.heap.size w' (w'.alloc (.cells #[] 31)) := (Below.refl _ _).alloc (Nat.le_refl _) _
      have ho1 := own_base (ownO_new w' 31 4) hI.size
      exact Rg.op_value (o := ⟨some 75, Op.buildSlice 24 0 #[], _, _, _, _⟩) (x := .slice (some ⟨w'.heap.size, 0, none⟩) 0 0) (w' := w'.alloc (.cells #[] 31)) rfl (Rg.wanted_of (g := 4) rfl rfl qg) (by clear hA kC HS ho1; simp only [execOp]; go_simp) ⟨_, rfl, (fun h => by cases h), ⟨_, rfl, ho1⟩, onto hI hb1, fun k y _ h => HS hb1 k y h⟩
    · intro bb w' hf hI hA
      clear hi'
      have qg : bb.tmps[74]? = some _ := hf.tmp (k := 4) rfl (by rw [ha]; decide) (hA 4 (by kernel_rfl) (.inl rfl))
      have q0 := hf.kept (s := 3) (by rw [sizesE18]; kernel_rfl) k3
      exact Rg.op_value (o := ⟨some 76, Op.move (Operand.tmp 3), _, _, _, _⟩) rfl (Rg.wanted_of (g := 4) rfl rfl qg) rfl ⟨_, rfl, (fun h => by cases h), (by show Act.eval bb _ = _; simp [Act.eval, q0]), hI, fun _ _ _ h => h⟩
    · intro bb w' hf hI hA
      clear hi'
      have qg : bb.tmps[74]? = some _ := hf.tmp (k := 4) rfl (by rw [ha]; decide) (hA 4 (by kernel_rfl) (.inl rfl))
      obtain ⟨E, hv, hoE⟩ := hA 5 (by kernel_rfl) (.inr rfl)
      rw [hv] at hoE
      have q5 : bb.tmps[75]? = some _ := hf.tmp (k := 5) rfl (by rw [ha]; decide) (hv)
      have q6 : bb.tmps[76]? = some _ := hf.tmp (k := 6) rfl (by rw [ha]; decide) (hA 6 (by kernel_rfl) (.inl rfl))
      refine Rg.op_append (o := ⟨some 77, Op.call { callee := Callee.builtin Builtin.append, args := #[Operand.tmp 75, Operand.tmp 76], argTypes := #[24, 24] }, _, _, _, _⟩) rfl (Rg.wanted_of (g := 4) rfl rfl qg) (Operand.tmp 75) (Operand.tmp 76) 24 rfl w9.heap.size 31 i0 (.agg #[.int .i64 0, .int .i64 0, .int .i64 0, .slice none 0 0]) 4 48 Try.underlying24 hi0 hy0 hy1 hy2 rfl (by decide) (.slice (some ⟨E, 0, none⟩) 0 0) 0 [] (by simp [Act.eval, q5]) hoE ⟨bo, 0, none⟩ L.length c (cellsO L) (by simp [Act.eval, q6]) (cellsO_len L) (own_src (ownO_below hown hI)) hone (by unfold maxLen; omega) (by omega) hI.size ?_
      intro v2 w2 ho2 hg2 hat2
      have hoF : w2.ownsRow w9.heap.size 31 4 v2 L.length (cellsO L) := by simpa using ho2
      refine ⟨v2, rfl, (fun h => by cases h), hoF, hI.grown hg2 hI.size (fun k hk => (ownO_lt hoE k hk).1), fun k y hd hk => ?_⟩
      refine FE18_one hoE hg2 k y (fun e => ?_) (fun e => ?_) (fun e => ?_) hk
      · rw [e, show Rg.due .any (Rg.opsOf Try.f4 18) dead18 7 5 = false from by kernel_rfl] at hd; cases hd
      · rw [e, show Rg.due .any (Rg.opsOf Try.f4 18) dead18 7 7 = false from by kernel_rfl] at hd; cases hd
      · rw [e, show Rg.due .any (Rg.opsOf Try.f4 18) dead18 7 10 = false from by kernel_rfl] at hd; cases hd
    · intro bb w' hf hI hA
      clear hi'
      have qg : bb.tmps[74]? = some _ := hf.tmp (k := 4) rfl (by rw [ha]; decide) (hA 4 (by kernel_rfl) (.inl rfl))
      have q9 := hf.kept (s := 9) (by rw [sizesE18]; kernel_rfl) k9
      obtain ⟨⟨c0, c1, c2, c3⟩, -⟩ := (hbox.below hI).four
      clear hA kC HS
      exact Rg.op_value (o := ⟨some 78, Op.load 31 (Operand.tmp 9), _, _, _, _⟩) (x := .agg #[.int .i64 x.room, .int .i64 x.fr, .int .i64 x.to, .slice ta x.team.length tc]) rfl (Rg.wanted_of (g := 4) rfl rfl qg) (by simp only [execOp]; go_simp) ⟨_, rfl, (fun h => by cases h), rfl, hI, fun _ _ _ h => h⟩
    · intro bb w' hf hI hA
      clear hi'
      have qg : bb.tmps[74]? = some _ := hf.tmp (k := 4) rfl (by rw [ha]; decide) (hA 4 (by kernel_rfl) (.inl rfl))
      have q8 : bb.tmps[78]? = some _ := hf.tmp (k := 8) rfl (by rw [ha]; decide) (hA 8 (by kernel_rfl) (.inl rfl))
      have hb1 : Below w'.heap.size w' (w'.alloc (.cells #[.int .i64 x.room, .int .i64 x.fr, .int .i64 x.to, .slice ta x.team.length tc] 31)) := (Below.refl _ _).alloc (Nat.le_refl _) _
      have hz1 := hI.size
      exact Rg.op_value (o := ⟨some 79, Op.buildSlice 24 1 #[(0, Operand.tmp 78)], _, _, _, _⟩) (x := .slice (some ⟨w'.heap.size, 0, none⟩) 1 1) (w' := w'.alloc (.cells #[.int .i64 x.room, .int .i64 x.fr, .int .i64 x.to, .slice ta x.team.length tc] 31)) rfl (Rg.wanted_of (g := 4) rfl rfl qg) (by clear hA kC HS; simp only [execOp]; go_simp) ⟨_, rfl, (fun h => by cases h), ⟨_, rfl, hz1, heap_alloc_new _ _⟩, onto hI hb1, fun k y _ h => HS hb1 k y h⟩
    · intro bb w' hf hI hA
      clear hi'
      have qg : bb.tmps[74]? = some _ := hf.tmp (k := 4) rfl (by rw [ha]; decide) (hA 4 (by kernel_rfl) (.inl rfl))
      have ho2 := hA 7 (by kernel_rfl) (.inr rfl)
      obtain ⟨A, hvA, hAl, hAh⟩ := hA 9 (by kernel_rfl) (.inr rfl)
      generalize hv2 : Rg.out (Rg.opsOf Try.f4 18) bb 7 = v2 at ho2
      have q7 : bb.tmps[77]? = some _ := hf.tmp (k := 7) rfl (by rw [ha]; decide) (hv2)
      have q9 : bb.tmps[79]? = some _ := hf.tmp (k := 9) rfl (by rw [ha]; decide) (hvA)
      refine Rg.op_append (o := ⟨some 80, Op.call { callee := Callee.builtin Builtin.append, args := #[Operand.tmp 77, Operand.tmp 79], argTypes := #[24, 24] }, _, _, _, _⟩) rfl (Rg.wanted_of (g := 4) rfl rfl qg) (Operand.tmp 77) (Operand.tmp 79) 24 rfl w9.heap.size 31 i0 (.agg #[.int .i64 0, .int .i64 0, .int .i64 0, .slice none 0 0]) 4 48 Try.underlying24 hi0 hy0 hy1 hy2 rfl (by decide) v2 L.length (cellsO L) (by simp [Act.eval, q7]) ho2 ⟨A, 0, none⟩ 1 1 [.int .i64 x.room, .int .i64 x.fr, .int .i64 x.to, .slice ta x.team.length tc] (by simp [Act.eval, q9]) rfl (fun j u hu => by rw [Addr.add_lit, Nat.zero_add]; simp only [World.cell?, hAh]; simpa using hu) (four_oneO _ _ _ _ _ _) (by unfold maxLen; omega) (by omega) hI.size ?_
      intro v5 w5 ho5 hg5 hat5
      refine ⟨v5, rfl, (fun h => by cases h), ho5, hI.grown hg5 hI.size (fun k hk => (ownO_lt ho2 k hk).1), fun k y hd hk => ?_⟩
      refine FE18_two hg5 k y (fun e => ?_) (fun e => ?_) (fun e => ?_) (fun e => ?_) hk
      · rw [e, show Rg.due .any (Rg.opsOf Try.f4 18) dead18 10 5 = false from by kernel_rfl] at hd; cases hd
      · rw [e, show Rg.due .any (Rg.opsOf Try.f4 18) dead18 10 7 = false from by kernel_rfl] at hd; cases hd
      · rw [e, show Rg.due .any (Rg.opsOf Try.f4 18) dead18 10 9 = false from by kernel_rfl] at hd; cases hd
      · rw [e, show Rg.due .any (Rg.opsOf Try.f4 18) dead18 10 10 = false from by kernel_rfl] at hd; cases hd
    · intro bb w' hf hI hA
      clear hi'
      have qg : bb.tmps[74]? = some _ := hf.tmp (k := 4) rfl (by rw [ha]; decide) (hA 4 (by kernel_rfl) (.inl rfl))
      have q0 := hf.kept (s := 5) (by rw [sizesE18]; kernel_rfl) k5
      exact Rg.op_value (o := ⟨some 81, Op.move (Operand.tmp 5), _, _, _, _⟩) rfl (Rg.wanted_of (g := 4) rfl rfl qg) rfl ⟨_, rfl, (fun h => by cases h), (by show Act.eval bb _ = _; simp [Act.eval, q0]), hI, fun _ _ _ h => h⟩
    · intro bb w' hf hI hA
      clear hi'
      have qg : bb.tmps[74]? = some _ := hf.tmp (k := 4) rfl (by rw [ha]; decide) (hA 4 (by kernel_rfl) (.inl rfl))
      have ho5 := hA 10 (by kernel_rfl) (.inr rfl)
      generalize hv5 : Rg.out (Rg.opsOf Try.f4 18) bb 10 = v5 at ho5
      have q10 : bb.tmps[80]? = some _ := hf.tmp (k := 10) rfl (by rw [ha]; decide) (hv5)
      have q11 : bb.tmps[81]? = some _ := hf.tmp (k := 11) rfl (by rw [ha]; decide) (hA 11 (by kernel_rfl) (.inl rfl))
      refine Rg.op_call (o := ⟨some 82, Op.call { callee := Callee.value (Operand.func 11), args := #[Operand.tmp 80, Operand.tmp 81], argTypes := _ }, _, _, _, _⟩) rfl (Rg.wanted_of (g := 4) rfl rfl qg) (by clear hA HS ho5 hv5; simp only [execOp, resolve]; go_simp) (kC w' v5 hI ho5) ?_
      rintro e w2 ⟨ad, cc, rfl, hb2⟩
      exact ⟨_, rfl, _, rfl, (fun h => by cases h), ⟨ad, cc, rfl⟩, onto hI hb2, fun k y _ h => HS hb2 k y h⟩
    · intro bb w' hf hI hA
      clear hi'
      have qg : bb.tmps[74]? = some _ := hf.tmp (k := 4) rfl (by rw [ha]; decide) (hA 4 (by kernel_rfl) (.inl rfl))
      obtain ⟨ad, cc, hv⟩ := hA 12 (by kernel_rfl) (.inl rfl)
      have q12 : bb.tmps[82]? = some _ := hf.tmp (k := 12) rfl (by rw [ha]; decide) (hv)
      clear hA kC HS hv
      exact Rg.op_value (o := ⟨some 83, Op.call { callee := Callee.builtin Builtin.len, args := #[Operand.tmp 82], argTypes := _ }, _, _, _, _⟩) (x := .int .i64 (N : Nat)) rfl (Rg.wanted_of (g := 4) rfl rfl qg) (by simp only [execOp]; go_simp) ⟨_, rfl, (fun h => by cases h), rfl, hI, fun _ _ _ h => h⟩
    · intro bb w' hf hI hA
      clear hi'
      have qg : bb.tmps[74]? = some _ := hf.tmp (k := 4) rfl (by rw [ha]; decide) (hA 4 (by kernel_rfl) (.inl rfl))
      have q0 := hf.kept (s := 8) (by rw [sizesE18]; kernel_rfl) k8
      exact Rg.op_value (o := ⟨some 84, Op.move (Operand.tmp 8), _, _, _, _⟩) rfl (Rg.wanted_of (g := 4) rfl rfl qg) rfl ⟨_, rfl, (fun h => by cases h), (by show Act.eval bb _ = _; simp [Act.eval, q0]), hI, fun _ _ _ h => h⟩
    · intro bb w' hf hI hA
      clear hi'
      have qg : bb.tmps[74]? = some _ := hf.tmp (k := 4) rfl (by rw [ha]; decide) (hA 4 (by kernel_rfl) (.inl rfl))
      have hNi : (n0 : Int) < (N : Int) := by omega
      have q13 : bb.tmps[83]? = some _ := hf.tmp (k := 13) rfl (by rw [ha]; decide) (hA 13 (by kernel_rfl) (.inl rfl))
      have q14 : bb.tmps[84]? = some _ := hf.tmp (k := 14) rfl (by rw [ha]; decide) (hA 14 (by kernel_rfl) (.inl rfl))
      clear hA kC HS
      exact Rg.op_value (o := ⟨some 85, Op.binOp BinOp.gtr 3 (Operand.tmp 83) (Operand.tmp 84) 3, _, _, _, _⟩) (x := .bool true) rfl (Rg.wanted_of (g := 4) rfl rfl qg) (by simp only [execOp]; go_simp) ⟨_, rfl, (fun h => by cases h), rfl, hI, fun _ _ _ h => h⟩
    · intro bb w' hf hI hA
      clear hi'
      have q4 : bb.tmps[74]? = some _ := hf.tmp (k := 4) rfl (by rw [ha]; decide) (hA 4 (by kernel_rfl) (.inl rfl))
      have q15 : bb.tmps[85]? = some _ := hf.tmp (k := 15) rfl (by rw [ha]; decide) (hA 15 (by kernel_rfl) (.inl rfl))
      clear hA kC HS
      exact Rg.op_value (o := ⟨some 86, Op.pick (Operand.tmp 74) (Operand.const (Value.bool true)) (Operand.tmp 85), _, _, _, _⟩) (x := .bool true) rfl rfl (by simp only [execOp]; go_simp) ⟨_, rfl, (fun h => by cases h), rfl, hI, fun _ _ _ h => h⟩
    · intro bb w' hf hI hA
      clear hi'
      have q16 : bb.tmps[86]? = some _ := hf.tmp (k := 16) rfl (by rw [ha]; decide) (hA 16 (by kernel_rfl) (.inl rfl))
      clear hA kC HS
      exact Rg.op_value (o := ⟨some 2, Op.assign (Operand.tmp 86), _, _, _, _⟩) (x := .bool true) rfl rfl (by simp only [execOp]; go_simp) ⟨_, rfl, (fun h => by cases h), rfl, hI, fun _ _ _ h => h⟩

theorem dE18_0 : Rg.dstAt (Rg.opsOf Try.f4 18) 0 = some 70 := by kernel_rfl
theorem dE18_1 : Rg.dstAt (Rg.opsOf Try.f4 18) 1 = some 71 := by kernel_rfl
theorem dE18_2 : Rg.dstAt (Rg.opsOf Try.f4 18) 2 = some 72 := by kernel_rfl
theorem dE18_3 : Rg.dstAt (Rg.opsOf Try.f4 18) 3 = some 73 := by kernel_rfl
theorem dE18_4 : Rg.dstAt (Rg.opsOf Try.f4 18) 4 = some 74 := by kernel_rfl
theorem dE18_5 : Rg.dstAt (Rg.opsOf Try.f4 18) 5 = some 75 := by kernel_rfl
theorem dE18_6 : Rg.dstAt (Rg.opsOf Try.f4 18) 6 = some 76 := by kernel_rfl
theorem dE18_7 : Rg.dstAt (Rg.opsOf Try.f4 18) 7 = some 77 := by kernel_rfl
theorem dE18_8 : Rg.dstAt (Rg.opsOf Try.f4 18) 8 = some 78 := by kernel_rfl
theorem dE18_9 : Rg.dstAt (Rg.opsOf Try.f4 18) 9 = some 79 := by kernel_rfl
theorem dE18_10 : Rg.dstAt (Rg.opsOf Try.f4 18) 10 = some 80 := by kernel_rfl
theorem dE18_11 : Rg.dstAt (Rg.opsOf Try.f4 18) 11 = some 81 := by kernel_rfl
theorem dE18_12 : Rg.dstAt (Rg.opsOf Try.f4 18) 12 = some 82 := by kernel_rfl
theorem dE18_13 : Rg.dstAt (Rg.opsOf Try.f4 18) 13 = some 83 := by kernel_rfl
theorem dE18_14 : Rg.dstAt (Rg.opsOf Try.f4 18) 14 = some 84 := by kernel_rfl
theorem dE18_15 : Rg.dstAt (Rg.opsOf Try.f4 18) 15 = some 85 := by kernel_rfl
theorem dE18_16 : Rg.dstAt (Rg.opsOf Try.f4 18) 16 = some 86 := by kernel_rfl
theorem dE18_17 : Rg.dstAt (Rg.opsOf Try.f4 18) 17 = some 2 := by kernel_rfl
theorem layE18 {a b : Act} (hf : Rg.Fr (Rg.opsOf Try.f4 18) a b) : b = ((((((((((((((((((a.put (some 70) (Rg.out (Rg.opsOf Try.f4 18) b 0)).put (some 71) (Rg.out (Rg.opsOf Try.f4 18) b 1)).put (some 72) (Rg.out (Rg.opsOf Try.f4 18) b 2)).put (some 73) (Rg.out (Rg.opsOf Try.f4 18) b 3)).put (some 74) (Rg.out (Rg.opsOf Try.f4 18) b 4)).put (some 75) (Rg.out (Rg.opsOf Try.f4 18) b 5)).put (some 76) (Rg.out (Rg.opsOf Try.f4 18) b 6)).put (some 77) (Rg.out (Rg.opsOf Try.f4 18) b 7)).put (some 78) (Rg.out (Rg.opsOf Try.f4 18) b 8)).put (some 79) (Rg.out (Rg.opsOf Try.f4 18) b 9)).put (some 80) (Rg.out (Rg.opsOf Try.f4 18) b 10)).put (some 81) (Rg.out (Rg.opsOf Try.f4 18) b 11)).put (some 82) (Rg.out (Rg.opsOf Try.f4 18) b 12)).put (some 83) (Rg.out (Rg.opsOf Try.f4 18) b 13)).put (some 84) (Rg.out (Rg.opsOf Try.f4 18) b 14)).put (some 85) (Rg.out (Rg.opsOf Try.f4 18) b 15)).put (some 86) (Rg.out (Rg.opsOf Try.f4 18) b 16)).put (some 2) (Rg.out (Rg.opsOf Try.f4 18) b 17)) := by
  have h := hf.chain
  rw [sizesE18, show List.range 18 = [0, 1, 2, 3, 4, 5, 6, 7, 8, 9, 10, 11, 12, 13, 14, 15, 16, 17] from by decide] at h
  simp only [List.foldl_cons, List.foldl_nil, dE18_0, dE18_1, dE18_2, dE18_3, dE18_4, dE18_5, dE18_6, dE18_7, dE18_8, dE18_9, dE18_10, dE18_11, dE18_12, dE18_13, dE18_14, dE18_15, dE18_16, dE18_17] at h
  exact h

/-- What each operation of region 18 leaves where the times are the same. -/
def FEq (t : Int) (O : Nat) (k : Nat) (v : Value) (w : World) : Prop :=
  match k with
  | 0 => v = .int .i64 t
  | 1 => v = .pointer (some ⟨O, 1, none⟩)
  | 2 => v = .int .i64 t
  | 3 => v = .bool true
  | 4 => v = .bool true
  | 16 => v = .bool true
  | 17 => v = .bool true
  | _ => True

set_option maxRecDepth 20000 in
set_option maxHeartbeats 4000000 in
theorem regEq {Q : Exit → Act → World → Prop} {a : Act} {w9 : World} {t : Int} {O : Nat} (ha : a.tmps.size = 87) (k4 : a.tmps[4]? = some (.pointer (some ⟨O, 0, none⟩))) (k6 : a.tmps[6]? = some (.int .i64 t)) (hO : w9.cell? ⟨O, 1, none⟩ = some (.int .i64 t)) (hOl : O < w9.heap.size)
    (hend : ∀ b' w', Rg.Fr (Rg.opsOf Try.f4 18) a b' → Below w9.heap.size w9 w' → Rg.out (Rg.opsOf Try.f4 18) b' 17 = .bool true → Q .normal b' w') :
    (Code.region 18 (Rg.opsOf Try.f4 18) true).wp Try.prog Q a w9 := by
  refine Rg.region_dead (by kernel_rfl) (fun w' => Below w9.heap.size w9 w') (FEq t O) (fun _ => none) (by rw [ha, sizesE18]; kernel_rfl) (st_drew (Below.refl _ _)) ?_ ?_
  case refine_2 =>
    intro b' w' hf hI hA
    exact hend b' w' hf hI (hA 17 (by rw [sizesE18]; decide) rfl)
  case refine_1 =>
    clear hend
    intro i' hi'
    rw [sizesE18] at hi'
    rcases (show i' = 0 ∨ i' = 1 ∨ i' = 2 ∨ i' = 3 ∨ i' = 4 ∨ i' = 5 ∨ i' = 6 ∨ i' = 7 ∨ i' = 8 ∨ i' = 9 ∨ i' = 10 ∨ i' = 11 ∨ i' = 12 ∨ i' = 13 ∨ i' = 14 ∨ i' = 15 ∨ i' = 16 ∨ i' = 17 by omega) with rfl | rfl | rfl | rfl | rfl | rfl | rfl | rfl | rfl | rfl | rfl | rfl | rfl | rfl | rfl | rfl | rfl | rfl
    · intro bb w' hf hI hA
      clear hi'
      have q0 := hf.kept (s := 6) (by rw [sizesE18]; kernel_rfl) k6
      exact Rg.op_value (o := ⟨some 70, Op.move (Operand.tmp 6), _, _, _, _⟩) rfl rfl rfl ⟨_, rfl, (fun h => by cases h), (by show Act.eval bb _ = _; simp [Act.eval, q0]), hI, fun _ _ _ h => h⟩
    · intro bb w' hf hI hA
      clear hi'
      have q4 := hf.kept (s := 4) (by rw [sizesE18]; kernel_rfl) k4
      clear hA
      exact Rg.op_value (o := ⟨some 71, Op.fieldAddr 31 (Operand.tmp 4) 1, _, _, _, _⟩) (x := .pointer (some ⟨O, 1, none⟩)) rfl rfl (by simp only [execOp]; go_simp) ⟨_, rfl, (fun h => by cases h), rfl, hI, fun _ _ _ h => h⟩
    · intro bb w' hf hI hA
      clear hi'
      have q1 : bb.tmps[71]? = some _ := hf.tmp (k := 1) rfl (by rw [ha]; decide) (hA 1 (by kernel_rfl) (.inl rfl))
      have hyw := (hI.cell (p := ⟨O, 1, none⟩) hOl).trans hO
      clear hA
      exact Rg.op_value (o := ⟨some 72, Op.load 2 (Operand.tmp 71), _, _, _, _⟩) (x := .int .i64 t) rfl rfl (by simp only [execOp]; go_simp) ⟨_, rfl, (fun h => by cases h), rfl, hI, fun _ _ _ h => h⟩
    · intro bb w' hf hI hA
      clear hi'
      have q0 : bb.tmps[70]? = some _ := hf.tmp (k := 0) rfl (by rw [ha]; decide) (hA 0 (by kernel_rfl) (.inl rfl))
      have q2 : bb.tmps[72]? = some _ := hf.tmp (k := 2) rfl (by rw [ha]; decide) (hA 2 (by kernel_rfl) (.inl rfl))
      clear hA
      exact Rg.op_value (o := ⟨some 73, Op.binOp BinOp.eql 2 (Operand.tmp 70) (Operand.tmp 72) 2, _, _, _, _⟩) (x := .bool true) rfl rfl (by simp only [execOp]; go_simp) ⟨_, rfl, (fun h => by cases h), rfl, hI, fun _ _ _ h => h⟩
    · intro bb w' hf hI hA
      clear hi'
      have q3 : bb.tmps[73]? = some _ := hf.tmp (k := 3) rfl (by rw [ha]; decide) (hA 3 (by kernel_rfl) (.inl rfl))
      clear hA
      exact Rg.op_value (o := ⟨some 74, Op.move (Operand.tmp 73), _, _, _, _⟩) (x := .bool true) rfl rfl (by simp only [execOp]; go_simp) ⟨_, rfl, (fun h => by cases h), rfl, hI, fun _ _ _ h => h⟩
    · intro bb w' hf hI hA
      clear hi'
      have q4 : bb.tmps[74]? = some _ := hf.tmp (k := 4) rfl (by rw [ha]; decide) (hA 4 (by kernel_rfl) (.inl rfl))
      exact Rg.op_none (o := ⟨some 75, _, _, _, _, _⟩) rfl (Rg.unwanted_of (g := 4) (want := false) rfl rfl q4) ⟨_, rfl, (fun h => by cases h), trivial, hI, fun _ _ _ h => h⟩
    · intro bb w' hf hI hA
      clear hi'
      have q4 : bb.tmps[74]? = some _ := hf.tmp (k := 4) rfl (by rw [ha]; decide) (hA 4 (by kernel_rfl) (.inl rfl))
      exact Rg.op_none (o := ⟨some 76, _, _, _, _, _⟩) rfl (Rg.unwanted_of (g := 4) (want := false) rfl rfl q4) ⟨_, rfl, (fun h => by cases h), trivial, hI, fun _ _ _ h => h⟩
    · intro bb w' hf hI hA
      clear hi'
      have q4 : bb.tmps[74]? = some _ := hf.tmp (k := 4) rfl (by rw [ha]; decide) (hA 4 (by kernel_rfl) (.inl rfl))
      exact Rg.op_none (o := ⟨some 77, _, _, _, _, _⟩) rfl (Rg.unwanted_of (g := 4) (want := false) rfl rfl q4) ⟨_, rfl, (fun h => by cases h), trivial, hI, fun _ _ _ h => h⟩
    · intro bb w' hf hI hA
      clear hi'
      have q4 : bb.tmps[74]? = some _ := hf.tmp (k := 4) rfl (by rw [ha]; decide) (hA 4 (by kernel_rfl) (.inl rfl))
      exact Rg.op_none (o := ⟨some 78, _, _, _, _, _⟩) rfl (Rg.unwanted_of (g := 4) (want := false) rfl rfl q4) ⟨_, rfl, (fun h => by cases h), trivial, hI, fun _ _ _ h => h⟩
    · intro bb w' hf hI hA
      clear hi'
      have q4 : bb.tmps[74]? = some _ := hf.tmp (k := 4) rfl (by rw [ha]; decide) (hA 4 (by kernel_rfl) (.inl rfl))
      exact Rg.op_none (o := ⟨some 79, _, _, _, _, _⟩) rfl (Rg.unwanted_of (g := 4) (want := false) rfl rfl q4) ⟨_, rfl, (fun h => by cases h), trivial, hI, fun _ _ _ h => h⟩
    · intro bb w' hf hI hA
      clear hi'
      have q4 : bb.tmps[74]? = some _ := hf.tmp (k := 4) rfl (by rw [ha]; decide) (hA 4 (by kernel_rfl) (.inl rfl))
      exact Rg.op_none (o := ⟨some 80, _, _, _, _, _⟩) rfl (Rg.unwanted_of (g := 4) (want := false) rfl rfl q4) ⟨_, rfl, (fun h => by cases h), trivial, hI, fun _ _ _ h => h⟩
    · intro bb w' hf hI hA
      clear hi'
      have q4 : bb.tmps[74]? = some _ := hf.tmp (k := 4) rfl (by rw [ha]; decide) (hA 4 (by kernel_rfl) (.inl rfl))
      exact Rg.op_none (o := ⟨some 81, _, _, _, _, _⟩) rfl (Rg.unwanted_of (g := 4) (want := false) rfl rfl q4) ⟨_, rfl, (fun h => by cases h), trivial, hI, fun _ _ _ h => h⟩
    · intro bb w' hf hI hA
      clear hi'
      have q4 : bb.tmps[74]? = some _ := hf.tmp (k := 4) rfl (by rw [ha]; decide) (hA 4 (by kernel_rfl) (.inl rfl))
      exact Rg.op_none (o := ⟨some 82, _, _, _, _, _⟩) rfl (Rg.unwanted_of (g := 4) (want := false) rfl rfl q4) ⟨_, rfl, (fun h => by cases h), trivial, hI, fun _ _ _ h => h⟩
    · intro bb w' hf hI hA
      clear hi'
      have q4 : bb.tmps[74]? = some _ := hf.tmp (k := 4) rfl (by rw [ha]; decide) (hA 4 (by kernel_rfl) (.inl rfl))
      exact Rg.op_none (o := ⟨some 83, _, _, _, _, _⟩) rfl (Rg.unwanted_of (g := 4) (want := false) rfl rfl q4) ⟨_, rfl, (fun h => by cases h), trivial, hI, fun _ _ _ h => h⟩
    · intro bb w' hf hI hA
      clear hi'
      have q4 : bb.tmps[74]? = some _ := hf.tmp (k := 4) rfl (by rw [ha]; decide) (hA 4 (by kernel_rfl) (.inl rfl))
      exact Rg.op_none (o := ⟨some 84, _, _, _, _, _⟩) rfl (Rg.unwanted_of (g := 4) (want := false) rfl rfl q4) ⟨_, rfl, (fun h => by cases h), trivial, hI, fun _ _ _ h => h⟩
    · intro bb w' hf hI hA
      clear hi'
      have q4 : bb.tmps[74]? = some _ := hf.tmp (k := 4) rfl (by rw [ha]; decide) (hA 4 (by kernel_rfl) (.inl rfl))
      exact Rg.op_none (o := ⟨some 85, _, _, _, _, _⟩) rfl (Rg.unwanted_of (g := 4) (want := false) rfl rfl q4) ⟨_, rfl, (fun h => by cases h), trivial, hI, fun _ _ _ h => h⟩
    · intro bb w' hf hI hA
      clear hi'
      have q4 : bb.tmps[74]? = some _ := hf.tmp (k := 4) rfl (by rw [ha]; decide) (hA 4 (by kernel_rfl) (.inl rfl))
      clear hA
      exact Rg.op_value (o := ⟨some 86, Op.pick (Operand.tmp 74) (Operand.const (Value.bool true)) (Operand.tmp 85), _, _, _, _⟩) (x := .bool true) rfl rfl (by simp only [execOp]; go_simp) ⟨_, rfl, (fun h => by cases h), rfl, hI, fun _ _ _ h => h⟩
    · intro bb w' hf hI hA
      clear hi'
      have q16 : bb.tmps[86]? = some _ := hf.tmp (k := 16) rfl (by rw [ha]; decide) (hA 16 (by kernel_rfl) (.inl rfl))
      clear hA
      exact Rg.op_value (o := ⟨some 2, Op.assign (Operand.tmp 86), _, _, _, _⟩) (x := .bool true) rfl rfl (by simp only [execOp]; go_simp) ⟨_, rfl, (fun h => by cases h), rfl, hI, fun _ _ _ h => h⟩
end Go.Proofs.Ytcapmobhgffnhaa
