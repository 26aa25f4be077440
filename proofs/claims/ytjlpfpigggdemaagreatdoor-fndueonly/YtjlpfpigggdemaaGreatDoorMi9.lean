/-
 Merged: U22.
-/
import Derived.Test.YtjlpfpigggdemaaGreatDoorMi4
import Derived.Test.YtjlpfpigggdemaaGreatDoorMi7
import Derived.Test.YtjlpfpigggdemaaGreatDoorMi8
import Derived.Test.YtjlpfpigggdemaaGreatDoorMi5
namespace Go.Proofs.YtjlpfpigggdemaaGreatDoor
set_option maxRecDepth 8000
set_option maxHeartbeats 4000000
open Go.RowKit Va Uo
set_option linter.all false
theorem Cp.ze3 {w : World} {b e s n : Nat} {v : Value} {xs : List Value} (h : w.ownsRow b e s v n xs) : ∀ k, v.ownBlock = some k -> b <= k := by
 obtain ⟨_, ⟨rfl, _⟩ | ⟨g, cap, cur, rfl, hb, _⟩⟩ := h
 ·intro k hk; cases hk
 ·intro k hk; cases hk; exact hb
theorem Cp.jo {w : World} {b e s n B : Nat} {v : Value} {xs : List Value} (h : w.ownsRow b e s v n xs) (hne : v.ownBlock ≠ some B) (j : Nat) (u : Value) : (w.setCell ⟨B, j, none⟩ u).ownsRow b e s v n xs := by
 obtain ⟨q, ⟨q1, q2⟩ | ⟨g, c, cur, rfl, hg, hh, r⟩⟩ := h
 ·exact ⟨q, Or.inl ⟨q1, q2⟩⟩
 ·refine ⟨q, Or.inr ⟨g, c, cur, rfl, hg, ?_, r⟩⟩
  rw [Below.heap_setCell _ _ _ _ (by show g ≠ B; intro e; exact hne (by rw [<- e]; rfl))]
  exact hh
theorem Cp.zfk {w w' : World} {b1 e1 s1 n1 b2 e2 s2 n2 : Nat} {v1 v2 : Value} {x1 x2 : List Value} (h1 : w.ownsRow b1 e1 s1 v1 n1 x1) (h2 : w.ownsRow b2 e2 s2 v2 n2 x2) (hne : e1 ≠ e2) (hg : w.grownBy w' v1.ownBlock) : w'.ownsRow b2 e2 s2 v2 n2 x2 := by
 have ha := Cp.zds h1 h2 hne
 obtain ⟨q, ⟨q1, q2⟩ | ⟨g, c, cur, rfl, hb, hh, r⟩⟩ := h2
 ·exact ⟨q, Or.inl ⟨q1, q2⟩⟩
 ·exact ⟨q, Or.inr ⟨g, c, cur, rfl, hb, (hg.block g (Array.getElem?_eq_some_iff.1 hh).1 (fun e => ha g e.symm rfl)).trans hh, r⟩⟩
def IO17 (w0 w9 : World) (base : Nat) (vs : Value) (nn : Nat) (xs : List Value) (B2 B3 B4 B6 g off N cap i n6 : Nat) (v2 v6 : Value) (x : Od) (z : Dd) (ys : List Value) (l : Array Bool) (w : World) : Prop :=
 Below base w0 w /\ (PB w B2 #[.slice (some ⟨g, off, none⟩) N cap, v2] 27 /\ PB w B3 #[.int .i64 z.k, .int .i64 z.o.id, .int .i64 z.o.p, .int .i64 z.o.d, .int .i64 z.o.n, .int .i64 z.o.f, .int .i64 z.o.e, .int .i64 z.o.c, .int .i64 z.o.s, .bool z.o.two, .int .i64 z.id, .int .i64 z.p, .int .i64 z.d, .int .i64 z.n, .int .i64 z.m, .int .i64 z.b, .int .i64 z.a] 40 /\ PB w B4 #[.slice none 0 0, .slice none 0 0] 27 /\ w.ownsRow base 35 5 v6 n6 ys) /\ (l.getD 7 false = false -> w.heap.size = w9.heap.size) /\ (l.getD 7 false = true -> l.getD 8 false = false -> PB w w9.heap.size #[.int .i64 x.id, .int .i64 x.p, .int .i64 x.d, .int .i64 x.n, .int .i64 x.f, .int .i64 x.e, .int .i64 x.c, .int .i64 x.s, .bool x.two] 38) /\ (l.getD 8 false = false -> w.ownsRow base 38 9 vs nn xs /\ True) /\ (l.getD 10 false = false -> PB w B6 #[vs, v6] 27) /\ (l.getD 10 false = true -> ∃ a c, PB w B6 #[.slice a (nn + 1) c, v6] 27 /\ w.ownsRow base 38 9 (.slice a (nn + 1) c) (nn + 1) (xs ++ [.int .i64 x.id, .int .i64 x.p, .int .i64 x.d, .int .i64 x.n, .int .i64 x.f, .int .i64 x.e, .int .i64 x.c, .int .i64 x.s, .bool x.two]))
theorem zcr {w0 w9 : World} {base : Nat} {vs : Value} {nn : Nat} {xs : List Value} {B2 B3 B4 B6 g off N cap i n6 : Nat} {v2 v6 : Value} {x : Od} {z : Dd} {ys : List Value} {l : Array Bool} {w : World} {i7 : Nat} (h1 : i7 ≠ 7) (h2 : i7 ≠ 8) (h3 : i7 ≠ 10) (hI : IO17 w0 w9 base vs nn xs B2 B3 B4 B6 g off N cap i n6 v2 v6 x z ys l w) : IO17 w0 w9 base vs nn xs B2 B3 B4 B6 g off N cap i n6 v2 v6 x z ys (l.setIfInBounds i7 true) w := by
 unfold IO17
 rw [Rg.jk h1, Rg.jk h2, Rg.jk h3]
 exact hI
def FO17 (w9 : World) (base : Nat) (vs : Value) (nn : Nat) (xs : List Value) (B2 B3 B4 B6 g off N cap i n6 : Nat) (v2 v6 : Value) (x : Od) (z : Dd) (ys : List Value) (i9 : Nat) (v : Value) (w : World) : Prop :=
 match i9 with
 | 0 => v = .pointer (some ⟨B6, 0, none⟩)
 | 1 => v = vs
 | 2 => v = .pointer (some ⟨B2, 0, none⟩)
 | 3 => v = .slice (some ⟨g, off, none⟩) N cap
 | 4 => v = .int .i64 (i : Nat)
 | 5 => v = .pointer (some ⟨g, off + i * 9, none⟩)
 | 6 => v = .agg #[.int .i64 x.id, .int .i64 x.p, .int .i64 x.d, .int .i64 x.n, .int .i64 x.f, .int .i64 x.e, .int .i64 x.c, .int .i64 x.s, .bool x.two]
 | 7 => v = .slice (some ⟨w9.heap.size, 0, none⟩) 1 1
 | 8 => ∃ a c, v = .slice a (nn + 1) c /\ w.ownsRow base 38 9 v (nn + 1) (xs ++ [.int .i64 x.id, .int .i64 x.p, .int .i64 x.d, .int .i64 x.n, .int .i64 x.f, .int .i64 x.e, .int .i64 x.c, .int .i64 x.s, .bool x.two])
 | 9 => v = .pointer (some ⟨B6, 0, none⟩)
 | 10 => True
 | _ => True
theorem zg3 {w9 : World} {base : Nat} {vs : Value} {nn : Nat} {xs : List Value} {B2 B3 B4 B6 g off N cap i n6 : Nat} {v2 v6 : Value} {x : Od} {z : Dd} {ys : List Value} {w w' : World} (hw : ∀ v n ys, w.ownsRow base 38 9 v n ys -> n = nn + 1 -> w'.ownsRow base 38 9 v n ys) : ∀ k v, FO17 w9 base vs nn xs B2 B3 B4 B6 g off N cap i n6 v2 v6 x z ys k v w -> FO17 w9 base vs nn xs B2 B3 B4 B6 g off N cap i n6 v2 v6 x z ys k v w' := by
 intro k v h
 unfold FO17 at *
 split at h <;> first | exact h | exact (by obtain ⟨a, c, h1, h2⟩ := h; exact ⟨a, c, h1, hw _ _ _ h2 rfl⟩)
theorem zb0 : (Rg.opsOf Tryz.f50 17).size = 11 := by kernel_rfl
theorem dO17_st : Rg.ja (Rg.opsOf Tryz.f50 17) 10 = none := by kernel_rfl
set_option maxRecDepth 20000 in
set_option maxHeartbeats 16000000 in
theorem zfr {Q : Exit -> Act -> World -> Prop} {a : Act} {w0 w9 : World} {base : Nat} {vs : Value} {nn : Nat} {xs : List Value} {B2 B3 B4 B6 g off N cap i n6 : Nat} {v2 v6 : Value} {x : Od} {z : Dd} {ys : List Value} (ha : a.tmps.size = 214)
  (k6 : a.tmps[6]? = some (.pointer (some ⟨B6, 0, none⟩))) (k2 : a.tmps[2]? = some (.pointer (some ⟨B2, 0, none⟩))) (k8 : a.tmps[8]? = some (.int .i64 (i : Nat))) (hB : Below base w0 w9) (hb0 : base <= w0.heap.size) (hPs : PB w9 B2 #[.slice (some ⟨g, off, none⟩) N cap, v2] 27 /\ PB w9 B3 #[.int .i64 z.k, .int .i64 z.o.id, .int .i64 z.o.p, .int .i64 z.o.d, .int .i64 z.o.n, .int .i64 z.o.f, .int .i64 z.o.e, .int .i64 z.o.c, .int .i64 z.o.s, .bool z.o.two, .int .i64 z.id, .int .i64 z.p, .int .i64 z.d, .int .i64 z.n, .int .i64 z.m, .int .i64 z.b, .int .i64 z.a] 40 /\ PB w9 B4 #[.slice none 0 0, .slice none 0 0] 27 /\ w9.ownsRow base 35 5 v6 n6 ys) (hT : PB w9 B6 #[vs, v6] 27) (hTb : base <= B6) (hown : w9.ownsRow base 38 9 vs nn xs) (hex : True) (hnn : nn <= 1048576) (hB26 : B6 ≠ B2) (hB36 : B6 ≠ B3) (hB46 : B6 ≠ B4) (hiN : (i : Int) < (N : Int)) (hrow : ∀ W, Below base w0 W -> (W.cell? ⟨g, off + i * 9, none⟩ = some (.int .i64 x.id) /\ W.cell? ⟨g, off + i * 9 + 1, none⟩ = some (.int .i64 x.p) /\ W.cell? ⟨g, off + i * 9 + 2, none⟩ = some (.int .i64 x.d) /\ W.cell? ⟨g, off + i * 9 + 3, none⟩ = some (.int .i64 x.n) /\ W.cell? ⟨g, off + i * 9 + 4, none⟩ = some (.int .i64 x.f) /\ W.cell? ⟨g, off + i * 9 + 5, none⟩ = some (.int .i64 x.e) /\ W.cell? ⟨g, off + i * 9 + 6, none⟩ = some (.int .i64 x.c) /\ W.cell? ⟨g, off + i * 9 + 7, none⟩ = some (.int .i64 x.s) /\ W.cell? ⟨g, off + i * 9 + 8, none⟩ = some (.bool x.two)))
  (hend : ∀ b' w' v, Rg.Fr (Rg.opsOf Tryz.f50 17) a b' -> Below base w0 w' -> (PB w' B2 #[.slice (some ⟨g, off, none⟩) N cap, v2] 27 /\ PB w' B3 #[.int .i64 z.k, .int .i64 z.o.id, .int .i64 z.o.p, .int .i64 z.o.d, .int .i64 z.o.n, .int .i64 z.o.f, .int .i64 z.o.e, .int .i64 z.o.c, .int .i64 z.o.s, .bool z.o.two, .int .i64 z.id, .int .i64 z.p, .int .i64 z.d, .int .i64 z.n, .int .i64 z.m, .int .i64 z.b, .int .i64 z.a] 40 /\ PB w' B4 #[.slice none 0 0, .slice none 0 0] 27 /\ w'.ownsRow base 35 5 v6 n6 ys) -> PB w' B6 #[v, v6] 27 -> (∃ a c, v = .slice a (nn + 1) c) -> w'.ownsRow base 38 9 v (nn + 1) (xs ++ [.int .i64 x.id, .int .i64 x.p, .int .i64 x.d, .int .i64 x.n, .int .i64 x.f, .int .i64 x.e, .int .i64 x.c, .int .i64 x.s, .bool x.two]) -> Q .normal b' w') :
  (Code.region 17 (Rg.opsOf Tryz.f50 17) true).wp Tryz.prog Q a w9 := by
 obtain ⟨i0, hi0, hz0, hz1, hz2⟩ := info_parts zbi
 refine Rg.zeo (by kernel_rfl) (IO17 w0 w9 base vs nn xs B2 B3 B4 B6 g off N cap i n6 v2 v6 x z ys) (FO17 w9 base vs nn xs B2 B3 B4 B6 g off N cap i n6 v2 v6 x z ys) (by rw [ha, zb0]; kernel_rfl) ⟨jq hB, hPs, fun _ => rfl, fun h => (by rw [Rg.zaz] at h; cases h), fun _ => ⟨hown, hex⟩, fun _ => hT, fun h => (by rw [Rg.zaz] at h; cases h)⟩ ?_ ?_
 case refine_2 =>
  intro l b' w' hf hall hI hA
  rw [zb0] at hall
  obtain ⟨a1, c1, q1, q2⟩ := hI.2.2.2.2.2.2 (hall 10 (by omega))
  exact hend b' w' _ hf hI.1 hI.2.1 q1 ⟨_, _, rfl⟩ q2
 case refine_1 =>
  clear hend
  intro i' hi'
  rw [zb0] at hi'
  rcases (show i' = 0 ∨ i' = 1 ∨ i' = 2 ∨ i' = 3 ∨ i' = 4 ∨ i' = 5 ∨ i' = 6 ∨ i' = 7 ∨ i' = 8 ∨ i' = 9 ∨ i' = 10 by omega) with rfl | rfl | rfl | rfl | rfl | rfl | rfl | rfl | rfl | rfl | rfl
  ·intro ll bb w' hs hlf hN hO hf hIl hL hA
   clear hi'
   have q6 := hf.kept (s := 6) (by rw [zb0]; kernel_rfl) k6
   exact Rg.zf (o := ⟨some 65, Op.fieldAddr 27 (Operand.tmp 6) 0, _, _, _, _⟩) (x := .pointer (some ⟨B6, 0, none⟩)) rfl rfl (by clear hA hN hO hL hIl hrow; simp only [execOp]; go_simp) ⟨_, rfl, (fun h => by cases h), rfl, zcr (by decide) (by decide) (by decide) hIl, fun _ _ _ _ h => h⟩
  ·intro ll bb w' hs hlf hN hO hf hIl hL hA
   clear hi'
   have q65 : bb.tmps[65]? = some _ := hf.tmp (k := 0) rfl (by rw [ha]; decide) (hA 0 (by kernel_rfl))
   have hst : ll.getD 10 false = false := hN 10 (by kernel_rfl)
   have hTB := hIl.2.2.2.2.2.1 hst
   have e0 : w'.cell? ⟨B6, 0, none⟩ = some vs := hTB.cell 0
   clear hTB
   exact Rg.zf (o := ⟨some 66, Op.load 24 (Operand.tmp 65), _, _, _, _⟩) (x := vs) rfl rfl (by clear hA hN hO hL hIl hrow; simp only [execOp]; go_simp) ⟨_, rfl, (fun h => by cases h), rfl, zcr (by decide) (by decide) (by decide) hIl, fun _ _ _ _ h => h⟩
  ·intro ll bb w' hs hlf hN hO hf hIl hL hA
   clear hi'
   have q2 := hf.kept (s := 2) (by rw [zb0]; kernel_rfl) k2
   exact Rg.zf (o := ⟨some 67, Op.fieldAddr 27 (Operand.tmp 2) 0, _, _, _, _⟩) (x := .pointer (some ⟨B2, 0, none⟩)) rfl rfl (by clear hA hN hO hL hIl hrow; simp only [execOp]; go_simp) ⟨_, rfl, (fun h => by cases h), rfl, zcr (by decide) (by decide) (by decide) hIl, fun _ _ _ _ h => h⟩
  ·intro ll bb w' hs hlf hN hO hf hIl hL hA
   clear hi'
   have q67 : bb.tmps[67]? = some _ := hf.tmp (k := 2) rfl (by rw [ha]; decide) (hA 2 (by kernel_rfl))
   have e0 : w'.cell? ⟨B2, 0, none⟩ = some _ := hIl.2.1.1.cell 0
   exact Rg.zf (o := ⟨some 68, Op.load 24 (Operand.tmp 67), _, _, _, _⟩) (x := .slice (some ⟨g, off, none⟩) N cap) rfl rfl (by clear hA hN hO hL hIl hrow; simp only [execOp]; go_simp) ⟨_, rfl, (fun h => by cases h), rfl, zcr (by decide) (by decide) (by decide) hIl, fun _ _ _ _ h => h⟩
  ·intro ll bb w' hs hlf hN hO hf hIl hL hA
   clear hi'
   have q0 := hf.kept (s := 8) (by rw [zb0]; kernel_rfl) k8
   exact Rg.zf (o := ⟨some 69, Op.move (Operand.tmp 8), _, _, _, _⟩) rfl rfl rfl ⟨_, rfl, (fun h => by cases h), (by show Act.eval bb _ = _; simp [Act.eval, q0]), zcr (by decide) (by decide) (by decide) hIl, fun _ _ _ _ h => h⟩
  ·intro ll bb w' hs hlf hN hO hf hIl hL hA
   clear hi'
   have q68 : bb.tmps[68]? = some _ := hf.tmp (k := 3) rfl (by rw [ha]; decide) (hA 3 (by kernel_rfl))
   have q69 : bb.tmps[69]? = some _ := hf.tmp (k := 4) rfl (by rw [ha]; decide) (hA 4 (by kernel_rfl))
   have hi0 : (0 : Int) <= (i : Int) := Int.natCast_nonneg _
   exact Rg.zf (o := ⟨some 70, Op.indexAddr 24 (Operand.tmp 68) (Operand.tmp 69), _, _, _, _⟩) (x := .pointer (some ⟨g, off + i * 9, none⟩)) rfl rfl (by clear hA hN hO hL hIl hrow; simp only [execOp]; go_simp) ⟨_, rfl, (fun h => by cases h), rfl, zcr (by decide) (by decide) (by decide) hIl, fun _ _ _ _ h => h⟩
  ·intro ll bb w' hs hlf hN hO hf hIl hL hA
   clear hi'
   have q70 : bb.tmps[70]? = some _ := hf.tmp (k := 5) rfl (by rw [ha]; decide) (hA 5 (by kernel_rfl))
   obtain ⟨e0, e1, e2, e3, e4, e5, e6, e7, e8⟩ := hrow w' hIl.1
   exact Rg.zf (o := ⟨some 71, Op.load 38 (Operand.tmp 70), _, _, _, _⟩) (x := .agg #[.int .i64 x.id, .int .i64 x.p, .int .i64 x.d, .int .i64 x.n, .int .i64 x.f, .int .i64 x.e, .int .i64 x.c, .int .i64 x.s, .bool x.two]) rfl rfl (by clear hA hN hO hL hIl hrow; simp only [execOp]; go_simp) ⟨_, rfl, (fun h => by cases h), rfl, zcr (by decide) (by decide) (by decide) hIl, fun _ _ _ _ h => h⟩
  ·intro ll bb w' hs hlf hN hO hf hIl hL hA
   clear hi'
   have q71 : bb.tmps[71]? = some _ := hf.tmp (k := 6) rfl (by rw [ha]; decide) (hA 6 (by kernel_rfl))
   have hz := hIl.2.2.1 hlf
   have hap := hN 8 (by kernel_rfl)
   have hst := hN 10 (by kernel_rfl)
   have hnew := PB.new w' #[.int .i64 x.id, .int .i64 x.p, .int .i64 x.d, .int .i64 x.n, .int .i64 x.f, .int .i64 x.e, .int .i64 x.c, .int .i64 x.s, .bool x.two] 38
   have hE : IO17 w0 w9 base vs nn xs B2 B3 B4 B6 g off N cap i n6 v2 v6 x z ys (ll.setIfInBounds 7 true) (w'.alloc (.cells #[.int .i64 x.id, .int .i64 x.p, .int .i64 x.d, .int .i64 x.n, .int .i64 x.f, .int .i64 x.e, .int .i64 x.c, .int .i64 x.s, .bool x.two] 38)) := by
    refine ⟨hIl.1.alloc (Nat.le_trans hb0 hIl.1.size) _, ⟨(hIl.2.1.1).alloc _, (hIl.2.1.2.1).alloc _, (hIl.2.1.2.2.1).alloc _, (hIl.2.1.2.2.2).alloc _⟩, fun h => (by rw [Rg.set_self hs (by rw [zb0]; decide)] at h; cases h), fun _ _ => hz ▸ hnew, fun _ => ⟨(hIl.2.2.2.2.1 hap).1.alloc _, trivial⟩, fun _ => (hIl.2.2.2.2.2.1 hst).alloc _, fun h => (by rw [Rg.jk (by decide), hst] at h; cases h)⟩
   have hK := zg3 (w9 := w9) (base := base) (vs := vs) (nn := nn) (xs := xs) (B2 := B2) (B3 := B3) (B4 := B4) (B6 := B6) (g := g) (off := off) (N := N) (cap := cap) (i := i) (n6 := n6) (v2 := v2) (v6 := v6) (x := x) (z := z) (ys := ys) (w := w') (w' := w'.alloc (.cells #[.int .i64 x.id, .int .i64 x.p, .int .i64 x.d, .int .i64 x.n, .int .i64 x.f, .int .i64 x.e, .int .i64 x.c, .int .i64 x.s, .bool x.two] 38)) (fun v n ys h _ => h.alloc _)
   refine Rg.zf (o := ⟨some 72, Op.buildSlice 24 1 #[(0, Operand.tmp 71)], _, _, _, _⟩) (x := .slice (some ⟨w'.heap.size, 0, none⟩) 1 1) (w' := w'.alloc (.cells #[.int .i64 x.id, .int .i64 x.p, .int .i64 x.d, .int .i64 x.n, .int .i64 x.f, .int .i64 x.e, .int .i64 x.c, .int .i64 x.s, .bool x.two] 38)) rfl rfl (by clear hA hN hO hL hIl hE hK hnew hz; simp only [execOp]; go_simp) ⟨_, rfl, (fun h => by cases h), (by show _ = _; rw [hz]), hE, fun k y _ _ h => hK k y h⟩
  ·intro ll bb w' hs hlf hN hO hf hIl hL hA
   clear hi'
   have q66 : bb.tmps[66]? = some _ := hf.tmp (k := 1) rfl (by rw [ha]; decide) (hA 1 (by kernel_rfl))
   have q72 : bb.tmps[72]? = some _ := hf.tmp (k := 7) rfl (by rw [ha]; decide) (hA 7 (by kernel_rfl))
   have hst := hN 10 (by kernel_rfl)
   have hbs := hL 7 (by kernel_rfl)
   have hP := hIl.2.2.2.1 hbs hlf
   obtain ⟨ho, -⟩ := hIl.2.2.2.2.1 hlf
   have hbz : (nn + 1) * 72 <= 140737488355328 := by omega
   refine Rg.zek (o := ⟨some 73, Op.call { callee := Callee.builtin Builtin.append, args := #[Operand.tmp 66, Operand.tmp 72], argTypes := #[24, 24] }, _, _, _, _⟩) rfl rfl (Operand.tmp 66) (Operand.tmp 72) 24 rfl base 38 i0 _ 9 72 Tryz.underlying24 hi0 hz0 hz1 hz2 rfl (by decide) vs nn xs (by simp [Act.eval, q66]) ho ⟨w9.heap.size, 0, none⟩ 1 1 [.int .i64 x.id, .int .i64 x.p, .int .i64 x.d, .int .i64 x.n, .int .i64 x.f, .int .i64 x.e, .int .i64 x.c, .int .i64 x.s, .bool x.two] (by simp [Act.eval, q72]) rfl (fun j u hu => (by rw [Addr.add_lit, Nat.zero_add, hP.cell j]; simpa using hu)) (by simp [Value.oneCell']) (by unfold maxLen; omega) hbz (Nat.le_trans hb0 hIl.1.size) ?_
   intro v' w2 o2 g2 b2
   have hlt : ∀ k, vs.ownBlock = some k -> base <= k := Cp.ze3 ho
   have hE : IO17 w0 w9 base vs nn xs B2 B3 B4 B6 g off N cap i n6 v2 v6 x z ys (ll.setIfInBounds 8 true) w2 := by
    refine ⟨hIl.1.grown g2 (Nat.le_trans hb0 hIl.1.size) hlt, ⟨(hIl.2.1.1).kept g2 (jb ho (hIl.2.1.1) (by decide)), (hIl.2.1.2.1).kept g2 (jb ho (hIl.2.1.2.1) (by decide)), (hIl.2.1.2.2.1).kept g2 (jb ho (hIl.2.1.2.2.1) (by decide)), Cp.zfk ho (hIl.2.1.2.2.2) (by decide) g2⟩, fun h => (by rw [Rg.jk (by decide), hbs] at h; cases h), fun _ h => (by rw [Rg.set_self hs (by rw [zb0]; decide)] at h; cases h), fun h => (by rw [Rg.set_self hs (by rw [zb0]; decide)] at h; cases h), fun _ => (hIl.2.2.2.2.2.1 hst).kept g2 (jb ho (hIl.2.2.2.2.2.1 hst) (by decide)), fun h => (by rw [Rg.jk (by decide), hst] at h; cases h)⟩
   obtain ⟨a1, c1, rfl⟩ := Cp.zac o2
   refine ⟨_, rfl, (fun h => by cases h), ⟨a1, c1, rfl, o2⟩, hE, fun k y hk hnk h => ?_⟩
   unfold FO17 at *
   split at h <;> first | exact h | exact absurd rfl hk
  ·intro ll bb w' hs hlf hN hO hf hIl hL hA
   clear hi'
   have q6 := hf.kept (s := 6) (by rw [zb0]; kernel_rfl) k6
   exact Rg.zf (o := ⟨some 74, Op.fieldAddr 27 (Operand.tmp 6) 0, _, _, _, _⟩) (x := .pointer (some ⟨B6, 0, none⟩)) rfl rfl (by clear hA hN hO hL hIl hrow; simp only [execOp]; go_simp) ⟨_, rfl, (fun h => by cases h), rfl, zcr (by decide) (by decide) (by decide) hIl, fun _ _ _ _ h => h⟩
  ·intro ll bb w' hs hlf hN hO hf hIl hL hA
   clear hi'
   have q74 : bb.tmps[74]? = some _ := hf.tmp (k := 9) rfl (by rw [ha]; decide) (hA 9 (by kernel_rfl))
   obtain ⟨a1, c1, hv, o2⟩ := hA 8 (by kernel_rfl)
   have q73 : bb.tmps[73]? = some (.slice a1 (nn + 1) c1) := hf.tmp (k := 8) rfl (by rw [ha]; decide) hv
   rw [hv] at o2
   have hP := hIl.2.2.2.2.2.1 hlf
   have hne := jb o2 hP (by decide)
   have hfz := hP.frozen 0
   have hcl : w'.cell? ⟨B6, 0, none⟩ = some _ := hP.cell 0
   have hset : PB (w'.setCell ⟨B6, 0, none⟩ (.slice a1 (nn + 1) c1)) B6 #[.slice a1 (nn + 1) c1, v6] 27 := hP.set 0 _
   have hbs := hL 7 (by first | kernel_rfl | fail)
   have hE : IO17 w0 w9 base vs nn xs B2 B3 B4 B6 g off N cap i n6 v2 v6 x z ys (ll.setIfInBounds 10 true) (w'.setCell ⟨B6, 0, none⟩ (.slice a1 (nn + 1) c1)) := by
    have hap := hL 8 (by kernel_rfl)
    refine ⟨hIl.1.setCell (p := ⟨B6, 0, none⟩) hTb _, ⟨(hIl.2.1.1).far hB26 _ _, (hIl.2.1.2.1).far hB36 _ _, (hIl.2.1.2.2.1).far hB46 _ _, Cp.jo (hIl.2.1.2.2.2) (jb (hIl.2.1.2.2.2) hP (by decide)) _ _⟩, fun h => (by rw [Rg.jk (by decide), hbs] at h; cases h), fun _ h => (by rw [Rg.jk (by decide), hap] at h; cases h), fun h => (by rw [Rg.jk (by decide), hap] at h; cases h), fun h => (by rw [Rg.set_self hs (by rw [zb0]; decide)] at h; cases h), fun _ => ⟨a1, c1, hset, Cp.jo o2 hne _ _⟩⟩
   refine Rg.zaq (o := ⟨none, Op.store 24 (Operand.tmp 74) (Operand.tmp 73), _, _, _, _⟩) (w' := w'.setCell ⟨B6, 0, none⟩ (.slice a1 (nn + 1) c1)) rfl rfl ?_ ⟨undef, (by rw [dO17_st]), (fun _ => trivial), trivial, hE, fun k y hk hnk h => ?_⟩
   ·clear hE hA hN hO hL hIl
    simp only [execOp]
    go_simp
   ·refine zg3 (fun v n ys h _ => ?_) k y h
    exact Cp.jo h (jb h hP (by decide)) _ _
theorem zfp {a b : Act} (hf : Rg.Fr (Rg.opsOf Tryz.f50 17) a b) : b = Rg.fl (Rg.opsOf Tryz.f50 17) b 0 [some 65, some 66, some 67, some 68, some 69, some 70, some 71, some 72, some 73, some 74, none] a := Rg.ql _ (by kernel_rfl) hf
def IO53 (w0 w9 : World) (base : Nat) (vs : Value) (nn : Nat) (xs : List Value) (B3 B4 B6 gd m cap n6 : Nat) (v6 : Value) (x : Dd) (t : Int) (cs : Array Value) (ys : List Value) (l : Array Bool) (w : World) : Prop :=
 Below base w0 w /\ (PB w B3 #[.int .i64 x.k, .int .i64 x.o.id, .int .i64 x.o.p, .int .i64 x.o.d, .int .i64 x.o.n, .int .i64 x.o.f, .int .i64 x.o.e, .int .i64 x.o.c, .int .i64 x.o.s, .bool x.o.two, .int .i64 x.id, .int .i64 x.p, .int .i64 x.d, .int .i64 x.n, .int .i64 x.m, .int .i64 x.b, .int .i64 x.a] 40 /\ PB w gd cs 33 /\ PB w B4 #[.slice none 0 0, .slice none 0 0] 27 /\ w.ownsRow base 38 9 v6 n6 ys) /\ (l.getD 15 false = false -> w.heap.size = w9.heap.size) /\ (l.getD 15 false = true -> l.getD 16 false = false -> PB w w9.heap.size #[.int .i64 x.id, .int .i64 t, .int .i64 x.m, .int .i64 x.b, .int .i64 x.a] 35) /\ (l.getD 16 false = false -> w.ownsRow base 35 5 vs nn xs /\ True) /\ (l.getD 18 false = false -> PB w B6 #[v6, vs] 27) /\ (l.getD 18 false = true -> ∃ a c, PB w B6 #[v6, .slice a (nn + 1) c] 27 /\ w.ownsRow base 35 5 (.slice a (nn + 1) c) (nn + 1) (xs ++ [.int .i64 x.id, .int .i64 t, .int .i64 x.m, .int .i64 x.b, .int .i64 x.a]))
theorem za8 {w0 w9 : World} {base : Nat} {vs : Value} {nn : Nat} {xs : List Value} {B3 B4 B6 gd m cap n6 : Nat} {v6 : Value} {x : Dd} {t : Int} {cs : Array Value} {ys : List Value} {l : Array Bool} {w : World} {i7 : Nat} (h1 : i7 ≠ 15) (h2 : i7 ≠ 16) (h3 : i7 ≠ 18) (hI : IO53 w0 w9 base vs nn xs B3 B4 B6 gd m cap n6 v6 x t cs ys l w) : IO53 w0 w9 base vs nn xs B3 B4 B6 gd m cap n6 v6 x t cs ys (l.setIfInBounds i7 true) w := by
 unfold IO53
 rw [Rg.jk h1, Rg.jk h2, Rg.jk h3]
 exact hI
def FO53 (w9 : World) (base : Nat) (vs : Value) (nn : Nat) (xs : List Value) (B3 B4 B6 gd m cap n6 : Nat) (v6 : Value) (x : Dd) (t : Int) (cs : Array Value) (ys : List Value) (i9 : Nat) (v : Value) (w : World) : Prop :=
 match i9 with
 | 0 => v = .pointer (some ⟨B6, 1, none⟩)
 | 1 => v = vs
 | 2 => v = .pointer (some ⟨B3, 10, none⟩)
 | 3 => v = .int .i64 x.id
 | 4 => v = .slice (some ⟨gd, 0, none⟩) m cap
 | 5 => v = .pointer (some ⟨gd, 0, none⟩)
 | 6 => v = .pointer (some ⟨gd, 1, none⟩)
 | 7 => v = .int .i64 t
 | 8 => v = .pointer (some ⟨B3, 14, none⟩)
 | 9 => v = .int .i64 x.m
 | 10 => v = .pointer (some ⟨B3, 15, none⟩)
 | 11 => v = .int .i64 x.b
 | 12 => v = .pointer (some ⟨B3, 16, none⟩)
 | 13 => v = .int .i64 x.a
 | 14 => v = .agg #[.int .i64 x.id, .int .i64 t, .int .i64 x.m, .int .i64 x.b, .int .i64 x.a]
 | 15 => v = .slice (some ⟨w9.heap.size, 0, none⟩) 1 1
 | 16 => ∃ a c, v = .slice a (nn + 1) c /\ w.ownsRow base 35 5 v (nn + 1) (xs ++ [.int .i64 x.id, .int .i64 t, .int .i64 x.m, .int .i64 x.b, .int .i64 x.a])
 | 17 => v = .pointer (some ⟨B6, 1, none⟩)
 | 18 => True
 | _ => True
theorem zhp {w9 : World} {base : Nat} {vs : Value} {nn : Nat} {xs : List Value} {B3 B4 B6 gd m cap n6 : Nat} {v6 : Value} {x : Dd} {t : Int} {cs : Array Value} {ys : List Value} {w w' : World} (hw : ∀ v n ys, w.ownsRow base 35 5 v n ys -> n = nn + 1 -> w'.ownsRow base 35 5 v n ys) : ∀ k v, FO53 w9 base vs nn xs B3 B4 B6 gd m cap n6 v6 x t cs ys k v w -> FO53 w9 base vs nn xs B3 B4 B6 gd m cap n6 v6 x t cs ys k v w' := by
 intro k v h
 unfold FO53 at *
 split at h <;> first | exact h | exact (by obtain ⟨a, c, h1, h2⟩ := h; exact ⟨a, c, h1, hw _ _ _ h2 rfl⟩)
theorem zbd : (Rg.opsOf Tryz.f50 53).size = 19 := by kernel_rfl
theorem dO53_st : Rg.ja (Rg.opsOf Tryz.f50 53) 18 = none := by kernel_rfl
set_option maxRecDepth 20000 in
set_option maxHeartbeats 16000000 in
theorem regO53 {Q : Exit -> Act -> World -> Prop} {a : Act} {w0 w9 : World} {base : Nat} {vs : Value} {nn : Nat} {xs : List Value} {B3 B4 B6 gd m cap n6 : Nat} {v6 : Value} {x : Dd} {t : Int} {cs : Array Value} {ys : List Value} (ha : a.tmps.size = 214)
  (k6 : a.tmps[6]? = some (.pointer (some ⟨B6, 0, none⟩))) (k3 : a.tmps[3]? = some (.pointer (some ⟨B3, 0, none⟩))) (k11 : a.tmps[11]? = some (.slice (some ⟨gd, 0, none⟩) m cap)) (hB : Below base w0 w9) (hb0 : base <= w0.heap.size) (hPs : PB w9 B3 #[.int .i64 x.k, .int .i64 x.o.id, .int .i64 x.o.p, .int .i64 x.o.d, .int .i64 x.o.n, .int .i64 x.o.f, .int .i64 x.o.e, .int .i64 x.o.c, .int .i64 x.o.s, .bool x.o.two, .int .i64 x.id, .int .i64 x.p, .int .i64 x.d, .int .i64 x.n, .int .i64 x.m, .int .i64 x.b, .int .i64 x.a] 40 /\ PB w9 gd cs 33 /\ PB w9 B4 #[.slice none 0 0, .slice none 0 0] 27 /\ w9.ownsRow base 38 9 v6 n6 ys) (hT : PB w9 B6 #[v6, vs] 27) (hTb : base <= B6) (hown : w9.ownsRow base 35 5 vs nn xs) (hex : True) (hnn : nn <= 1048576) (hB36 : B6 ≠ B3) (hB46 : B6 ≠ B4) (hBg : B6 ≠ gd) (hm : (0 : Int) < (m : Int)) (hcs : cs[1]? = some (.int .i64 t))
  (hend : ∀ b' w' v, Rg.Fr (Rg.opsOf Tryz.f50 53) a b' -> Below base w0 w' -> (PB w' B3 #[.int .i64 x.k, .int .i64 x.o.id, .int .i64 x.o.p, .int .i64 x.o.d, .int .i64 x.o.n, .int .i64 x.o.f, .int .i64 x.o.e, .int .i64 x.o.c, .int .i64 x.o.s, .bool x.o.two, .int .i64 x.id, .int .i64 x.p, .int .i64 x.d, .int .i64 x.n, .int .i64 x.m, .int .i64 x.b, .int .i64 x.a] 40 /\ PB w' gd cs 33 /\ PB w' B4 #[.slice none 0 0, .slice none 0 0] 27 /\ w'.ownsRow base 38 9 v6 n6 ys) -> PB w' B6 #[v6, v] 27 -> (∃ a c, v = .slice a (nn + 1) c) -> w'.ownsRow base 35 5 v (nn + 1) (xs ++ [.int .i64 x.id, .int .i64 t, .int .i64 x.m, .int .i64 x.b, .int .i64 x.a]) -> Q .normal b' w') :
  (Code.region 53 (Rg.opsOf Tryz.f50 53) true).wp Tryz.prog Q a w9 := by
 obtain ⟨i0, hi0, hz0, hz1, hz2⟩ := info_parts zb6
 refine Rg.zeo (by kernel_rfl) (IO53 w0 w9 base vs nn xs B3 B4 B6 gd m cap n6 v6 x t cs ys) (FO53 w9 base vs nn xs B3 B4 B6 gd m cap n6 v6 x t cs ys) (by rw [ha, zbd]; kernel_rfl) ⟨jq hB, hPs, fun _ => rfl, fun h => (by rw [Rg.zaz] at h; cases h), fun _ => ⟨hown, hex⟩, fun _ => hT, fun h => (by rw [Rg.zaz] at h; cases h)⟩ ?_ ?_
 case refine_2 =>
  intro l b' w' hf hall hI hA
  rw [zbd] at hall
  obtain ⟨a1, c1, q1, q2⟩ := hI.2.2.2.2.2.2 (hall 18 (by omega))
  exact hend b' w' _ hf hI.1 hI.2.1 q1 ⟨_, _, rfl⟩ q2
 case refine_1 =>
  clear hend
  intro i' hi'
  rw [zbd] at hi'
  rcases (show i' = 0 ∨ i' = 1 ∨ i' = 2 ∨ i' = 3 ∨ i' = 4 ∨ i' = 5 ∨ i' = 6 ∨ i' = 7 ∨ i' = 8 ∨ i' = 9 ∨ i' = 10 ∨ i' = 11 ∨ i' = 12 ∨ i' = 13 ∨ i' = 14 ∨ i' = 15 ∨ i' = 16 ∨ i' = 17 ∨ i' = 18 by omega) with rfl | rfl | rfl | rfl | rfl | rfl | rfl | rfl | rfl | rfl | rfl | rfl | rfl | rfl | rfl | rfl | rfl | rfl | rfl
  ·intro ll bb w' hs hlf hN hO hf hIl hL hA
   clear hi'
   have q6 := hf.kept (s := 6) (by rw [zbd]; kernel_rfl) k6
   exact Rg.zf (o := ⟨some 195, Op.fieldAddr 27 (Operand.tmp 6) 1, _, _, _, _⟩) (x := .pointer (some ⟨B6, 1, none⟩)) rfl rfl (by clear hA hN hO hL hIl ; simp only [execOp]; go_simp) ⟨_, rfl, (fun h => by cases h), rfl, za8 (by decide) (by decide) (by decide) hIl, fun _ _ _ _ h => h⟩
  ·intro ll bb w' hs hlf hN hO hf hIl hL hA
   clear hi'
   have q195 : bb.tmps[195]? = some _ := hf.tmp (k := 0) rfl (by rw [ha]; decide) (hA 0 (by kernel_rfl))
   have hst : ll.getD 18 false = false := hN 18 (by kernel_rfl)
   have hTB := hIl.2.2.2.2.2.1 hst
   have e0 : w'.cell? ⟨B6, 1, none⟩ = some vs := hTB.cell 1
   clear hTB
   exact Rg.zf (o := ⟨some 196, Op.load 25 (Operand.tmp 195), _, _, _, _⟩) (x := vs) rfl rfl (by clear hA hN hO hL hIl ; simp only [execOp]; go_simp) ⟨_, rfl, (fun h => by cases h), rfl, za8 (by decide) (by decide) (by decide) hIl, fun _ _ _ _ h => h⟩
  ·intro ll bb w' hs hlf hN hO hf hIl hL hA
   clear hi'
   have q3 := hf.kept (s := 3) (by rw [zbd]; kernel_rfl) k3
   exact Rg.zf (o := ⟨some 197, Op.fieldAddr 40 (Operand.tmp 3) 2, _, _, _, _⟩) (x := .pointer (some ⟨B3, 10, none⟩)) rfl rfl (by clear hA hN hO hL hIl ; simp only [execOp]; go_simp) ⟨_, rfl, (fun h => by cases h), rfl, za8 (by decide) (by decide) (by decide) hIl, fun _ _ _ _ h => h⟩
  ·intro ll bb w' hs hlf hN hO hf hIl hL hA
   clear hi'
   have q197 : bb.tmps[197]? = some _ := hf.tmp (k := 2) rfl (by rw [ha]; decide) (hA 2 (by kernel_rfl))
   have e0 : w'.cell? ⟨B3, 10, none⟩ = some (.int .i64 x.id) := hIl.2.1.1.cell 10
   exact Rg.zf (o := ⟨some 198, Op.load 2 (Operand.tmp 197), _, _, _, _⟩) (x := .int .i64 x.id) rfl rfl (by clear hA hN hO hL hIl ; simp only [execOp]; go_simp) ⟨_, rfl, (fun h => by cases h), rfl, za8 (by decide) (by decide) (by decide) hIl, fun _ _ _ _ h => h⟩
  ·intro ll bb w' hs hlf hN hO hf hIl hL hA
   clear hi'
   have q0 := hf.kept (s := 11) (by rw [zbd]; kernel_rfl) k11
   exact Rg.zf (o := ⟨some 199, Op.move (Operand.tmp 11), _, _, _, _⟩) rfl rfl rfl ⟨_, rfl, (fun h => by cases h), (by show Act.eval bb _ = _; simp [Act.eval, q0]), za8 (by decide) (by decide) (by decide) hIl, fun _ _ _ _ h => h⟩
  ·intro ll bb w' hs hlf hN hO hf hIl hL hA
   clear hi'
   have q199 : bb.tmps[199]? = some _ := hf.tmp (k := 4) rfl (by rw [ha]; decide) (hA 4 (by kernel_rfl))
   exact Rg.zf (o := ⟨some 200, Op.indexAddr 30 (Operand.tmp 199) (Operand.const (Value.int .i64 0)), _, _, _, _⟩) (x := .pointer (some ⟨gd, 0, none⟩)) rfl rfl (by clear hA hN hO hL hIl ; simp only [execOp]; go_simp; intro h; omega) ⟨_, rfl, (fun h => by cases h), rfl, za8 (by decide) (by decide) (by decide) hIl, fun _ _ _ _ h => h⟩
  ·intro ll bb w' hs hlf hN hO hf hIl hL hA
   clear hi'
   have q200 : bb.tmps[200]? = some _ := hf.tmp (k := 5) rfl (by rw [ha]; decide) (hA 5 (by kernel_rfl))
   exact Rg.zf (o := ⟨some 201, Op.fieldAddr 33 (Operand.tmp 200) 1, _, _, _, _⟩) (x := .pointer (some ⟨gd, 1, none⟩)) rfl rfl (by clear hA hN hO hL hIl ; simp only [execOp]; go_simp) ⟨_, rfl, (fun h => by cases h), rfl, za8 (by decide) (by decide) (by decide) hIl, fun _ _ _ _ h => h⟩
  ·intro ll bb w' hs hlf hN hO hf hIl hL hA
   clear hi'
   have q201 : bb.tmps[201]? = some _ := hf.tmp (k := 6) rfl (by rw [ha]; decide) (hA 6 (by kernel_rfl))
   have e0 : w'.cell? ⟨gd, 1, none⟩ = some (.int .i64 t) := (hIl.2.1.2.1.cell 1).trans hcs
   exact Rg.zf (o := ⟨some 202, Op.load 2 (Operand.tmp 201), _, _, _, _⟩) (x := .int .i64 t) rfl rfl (by clear hA hN hO hL hIl ; simp only [execOp]; go_simp) ⟨_, rfl, (fun h => by cases h), rfl, za8 (by decide) (by decide) (by decide) hIl, fun _ _ _ _ h => h⟩
  ·intro ll bb w' hs hlf hN hO hf hIl hL hA
   clear hi'
   have q3 := hf.kept (s := 3) (by rw [zbd]; kernel_rfl) k3
   exact Rg.zf (o := ⟨some 203, Op.fieldAddr 40 (Operand.tmp 3) 6, _, _, _, _⟩) (x := .pointer (some ⟨B3, 14, none⟩)) rfl rfl (by clear hA hN hO hL hIl ; simp only [execOp]; go_simp) ⟨_, rfl, (fun h => by cases h), rfl, za8 (by decide) (by decide) (by decide) hIl, fun _ _ _ _ h => h⟩
  ·intro ll bb w' hs hlf hN hO hf hIl hL hA
   clear hi'
   have q203 : bb.tmps[203]? = some _ := hf.tmp (k := 8) rfl (by rw [ha]; decide) (hA 8 (by kernel_rfl))
   have e0 : w'.cell? ⟨B3, 14, none⟩ = some (.int .i64 x.m) := hIl.2.1.1.cell 14
   exact Rg.zf (o := ⟨some 204, Op.load 2 (Operand.tmp 203), _, _, _, _⟩) (x := .int .i64 x.m) rfl rfl (by clear hA hN hO hL hIl ; simp only [execOp]; go_simp) ⟨_, rfl, (fun h => by cases h), rfl, za8 (by decide) (by decide) (by decide) hIl, fun _ _ _ _ h => h⟩
  ·intro ll bb w' hs hlf hN hO hf hIl hL hA
   clear hi'
   have q3 := hf.kept (s := 3) (by rw [zbd]; kernel_rfl) k3
   exact Rg.zf (o := ⟨some 205, Op.fieldAddr 40 (Operand.tmp 3) 7, _, _, _, _⟩) (x := .pointer (some ⟨B3, 15, none⟩)) rfl rfl (by clear hA hN hO hL hIl ; simp only [execOp]; go_simp) ⟨_, rfl, (fun h => by cases h), rfl, za8 (by decide) (by decide) (by decide) hIl, fun _ _ _ _ h => h⟩
  ·intro ll bb w' hs hlf hN hO hf hIl hL hA
   clear hi'
   have q205 : bb.tmps[205]? = some _ := hf.tmp (k := 10) rfl (by rw [ha]; decide) (hA 10 (by kernel_rfl))
   have e0 : w'.cell? ⟨B3, 15, none⟩ = some (.int .i64 x.b) := hIl.2.1.1.cell 15
   exact Rg.zf (o := ⟨some 206, Op.load 2 (Operand.tmp 205), _, _, _, _⟩) (x := .int .i64 x.b) rfl rfl (by clear hA hN hO hL hIl ; simp only [execOp]; go_simp) ⟨_, rfl, (fun h => by cases h), rfl, za8 (by decide) (by decide) (by decide) hIl, fun _ _ _ _ h => h⟩
  ·intro ll bb w' hs hlf hN hO hf hIl hL hA
   clear hi'
   have q3 := hf.kept (s := 3) (by rw [zbd]; kernel_rfl) k3
   exact Rg.zf (o := ⟨some 207, Op.fieldAddr 40 (Operand.tmp 3) 8, _, _, _, _⟩) (x := .pointer (some ⟨B3, 16, none⟩)) rfl rfl (by clear hA hN hO hL hIl ; simp only [execOp]; go_simp) ⟨_, rfl, (fun h => by cases h), rfl, za8 (by decide) (by decide) (by decide) hIl, fun _ _ _ _ h => h⟩
  ·intro ll bb w' hs hlf hN hO hf hIl hL hA
   clear hi'
   have q207 : bb.tmps[207]? = some _ := hf.tmp (k := 12) rfl (by rw [ha]; decide) (hA 12 (by kernel_rfl))
   have e0 : w'.cell? ⟨B3, 16, none⟩ = some (.int .i64 x.a) := hIl.2.1.1.cell 16
   exact Rg.zf (o := ⟨some 208, Op.load 2 (Operand.tmp 207), _, _, _, _⟩) (x := .int .i64 x.a) rfl rfl (by clear hA hN hO hL hIl ; simp only [execOp]; go_simp) ⟨_, rfl, (fun h => by cases h), rfl, za8 (by decide) (by decide) (by decide) hIl, fun _ _ _ _ h => h⟩
  ·intro ll bb w' hs hlf hN hO hf hIl hL hA
   clear hi'
   have q198 : bb.tmps[198]? = some _ := hf.tmp (k := 3) rfl (by rw [ha]; decide) (hA 3 (by kernel_rfl))
   have q202 : bb.tmps[202]? = some _ := hf.tmp (k := 7) rfl (by rw [ha]; decide) (hA 7 (by kernel_rfl))
   have q204 : bb.tmps[204]? = some _ := hf.tmp (k := 9) rfl (by rw [ha]; decide) (hA 9 (by kernel_rfl))
   have q206 : bb.tmps[206]? = some _ := hf.tmp (k := 11) rfl (by rw [ha]; decide) (hA 11 (by kernel_rfl))
   have q208 : bb.tmps[208]? = some _ := hf.tmp (k := 13) rfl (by rw [ha]; decide) (hA 13 (by kernel_rfl))
   exact Rg.zf (o := ⟨some 209, Op.build 35 #[(0, (Operand.tmp 198)), (1, (Operand.tmp 202)), (2, (Operand.tmp 204)), (3, (Operand.tmp 206)), (4, (Operand.tmp 208))], _, _, _, _⟩) (x := .agg #[.int .i64 x.id, .int .i64 t, .int .i64 x.m, .int .i64 x.b, .int .i64 x.a]) rfl rfl (by clear hA hN hO hL hIl ; simp only [execOp]; go_simp) ⟨_, rfl, (fun h => by cases h), rfl, za8 (by decide) (by decide) (by decide) hIl, fun _ _ _ _ h => h⟩
  ·intro ll bb w' hs hlf hN hO hf hIl hL hA
   clear hi'
   have q209 : bb.tmps[209]? = some _ := hf.tmp (k := 14) rfl (by rw [ha]; decide) (hA 14 (by kernel_rfl))
   have hz := hIl.2.2.1 hlf
   have hap := hN 16 (by kernel_rfl)
   have hst := hN 18 (by kernel_rfl)
   have hnew := PB.new w' #[.int .i64 x.id, .int .i64 t, .int .i64 x.m, .int .i64 x.b, .int .i64 x.a] 35
   have hE : IO53 w0 w9 base vs nn xs B3 B4 B6 gd m cap n6 v6 x t cs ys (ll.setIfInBounds 15 true) (w'.alloc (.cells #[.int .i64 x.id, .int .i64 t, .int .i64 x.m, .int .i64 x.b, .int .i64 x.a] 35)) := by
    refine ⟨hIl.1.alloc (Nat.le_trans hb0 hIl.1.size) _, ⟨(hIl.2.1.1).alloc _, (hIl.2.1.2.1).alloc _, (hIl.2.1.2.2.1).alloc _, (hIl.2.1.2.2.2).alloc _⟩, fun h => (by rw [Rg.set_self hs (by rw [zbd]; decide)] at h; cases h), fun _ _ => hz ▸ hnew, fun _ => ⟨(hIl.2.2.2.2.1 hap).1.alloc _, trivial⟩, fun _ => (hIl.2.2.2.2.2.1 hst).alloc _, fun h => (by rw [Rg.jk (by decide), hst] at h; cases h)⟩
   have hK := zhp (w9 := w9) (base := base) (vs := vs) (nn := nn) (xs := xs) (B3 := B3) (B4 := B4) (B6 := B6) (gd := gd) (m := m) (cap := cap) (n6 := n6) (v6 := v6) (x := x) (t := t) (cs := cs) (ys := ys) (w := w') (w' := w'.alloc (.cells #[.int .i64 x.id, .int .i64 t, .int .i64 x.m, .int .i64 x.b, .int .i64 x.a] 35)) (fun v n ys h _ => h.alloc _)
   refine Rg.zf (o := ⟨some 210, Op.buildSlice 25 1 #[(0, Operand.tmp 209)], _, _, _, _⟩) (x := .slice (some ⟨w'.heap.size, 0, none⟩) 1 1) (w' := w'.alloc (.cells #[.int .i64 x.id, .int .i64 t, .int .i64 x.m, .int .i64 x.b, .int .i64 x.a] 35)) rfl rfl (by clear hA hN hO hL hIl hE hK hnew hz; simp only [execOp]; go_simp) ⟨_, rfl, (fun h => by cases h), (by show _ = _; rw [hz]), hE, fun k y _ _ h => hK k y h⟩
  ·intro ll bb w' hs hlf hN hO hf hIl hL hA
   clear hi'
   have q196 : bb.tmps[196]? = some _ := hf.tmp (k := 1) rfl (by rw [ha]; decide) (hA 1 (by kernel_rfl))
   have q210 : bb.tmps[210]? = some _ := hf.tmp (k := 15) rfl (by rw [ha]; decide) (hA 15 (by kernel_rfl))
   have hst := hN 18 (by kernel_rfl)
   have hbs := hL 15 (by kernel_rfl)
   have hP := hIl.2.2.2.1 hbs hlf
   obtain ⟨ho, -⟩ := hIl.2.2.2.2.1 hlf
   have hbz : (nn + 1) * 40 <= 140737488355328 := by omega
   refine Rg.zek (o := ⟨some 211, Op.call { callee := Callee.builtin Builtin.append, args := #[Operand.tmp 196, Operand.tmp 210], argTypes := #[25, 25] }, _, _, _, _⟩) rfl rfl (Operand.tmp 196) (Operand.tmp 210) 25 rfl base 35 i0 _ 5 40 Tryz.underlying25 hi0 hz0 hz1 hz2 rfl (by decide) vs nn xs (by simp [Act.eval, q196]) ho ⟨w9.heap.size, 0, none⟩ 1 1 [.int .i64 x.id, .int .i64 t, .int .i64 x.m, .int .i64 x.b, .int .i64 x.a] (by simp [Act.eval, q210]) rfl (fun j u hu => (by rw [Addr.add_lit, Nat.zero_add, hP.cell j]; simpa using hu)) (by simp [Value.oneCell']) (by unfold maxLen; omega) hbz (Nat.le_trans hb0 hIl.1.size) ?_
   intro v' w2 o2 g2 b2
   have hlt : ∀ k, vs.ownBlock = some k -> base <= k := Cp.ze3 ho
   have hE : IO53 w0 w9 base vs nn xs B3 B4 B6 gd m cap n6 v6 x t cs ys (ll.setIfInBounds 16 true) w2 := by
    refine ⟨hIl.1.grown g2 (Nat.le_trans hb0 hIl.1.size) hlt, ⟨(hIl.2.1.1).kept g2 (jb ho (hIl.2.1.1) (by decide)), (hIl.2.1.2.1).kept g2 (jb ho (hIl.2.1.2.1) (by decide)), (hIl.2.1.2.2.1).kept g2 (jb ho (hIl.2.1.2.2.1) (by decide)), Cp.zfk ho (hIl.2.1.2.2.2) (by decide) g2⟩, fun h => (by rw [Rg.jk (by decide), hbs] at h; cases h), fun _ h => (by rw [Rg.set_self hs (by rw [zbd]; decide)] at h; cases h), fun h => (by rw [Rg.set_self hs (by rw [zbd]; decide)] at h; cases h), fun _ => (hIl.2.2.2.2.2.1 hst).kept g2 (jb ho (hIl.2.2.2.2.2.1 hst) (by decide)), fun h => (by rw [Rg.jk (by decide), hst] at h; cases h)⟩
   obtain ⟨a1, c1, rfl⟩ := Cp.zac o2
   refine ⟨_, rfl, (fun h => by cases h), ⟨a1, c1, rfl, o2⟩, hE, fun k y hk hnk h => ?_⟩
   unfold FO53 at *
   split at h <;> first | exact h | exact absurd rfl hk
  ·intro ll bb w' hs hlf hN hO hf hIl hL hA
   clear hi'
   have q6 := hf.kept (s := 6) (by rw [zbd]; kernel_rfl) k6
   exact Rg.zf (o := ⟨some 212, Op.fieldAddr 27 (Operand.tmp 6) 1, _, _, _, _⟩) (x := .pointer (some ⟨B6, 1, none⟩)) rfl rfl (by clear hA hN hO hL hIl ; simp only [execOp]; go_simp) ⟨_, rfl, (fun h => by cases h), rfl, za8 (by decide) (by decide) (by decide) hIl, fun _ _ _ _ h => h⟩
  ·intro ll bb w' hs hlf hN hO hf hIl hL hA
   clear hi'
   have q212 : bb.tmps[212]? = some _ := hf.tmp (k := 17) rfl (by rw [ha]; decide) (hA 17 (by kernel_rfl))
   obtain ⟨a1, c1, hv, o2⟩ := hA 16 (by kernel_rfl)
   have q211 : bb.tmps[211]? = some (.slice a1 (nn + 1) c1) := hf.tmp (k := 16) rfl (by rw [ha]; decide) hv
   rw [hv] at o2
   have hP := hIl.2.2.2.2.2.1 hlf
   have hne := jb o2 hP (by decide)
   have hfz := hP.frozen 1
   have hcl : w'.cell? ⟨B6, 1, none⟩ = some _ := hP.cell 1
   have hset : PB (w'.setCell ⟨B6, 1, none⟩ (.slice a1 (nn + 1) c1)) B6 #[v6, .slice a1 (nn + 1) c1] 27 := hP.set 1 _
   have hbs := hL 15 (by first | kernel_rfl | fail)
   have hE : IO53 w0 w9 base vs nn xs B3 B4 B6 gd m cap n6 v6 x t cs ys (ll.setIfInBounds 18 true) (w'.setCell ⟨B6, 1, none⟩ (.slice a1 (nn + 1) c1)) := by
    have hap := hL 16 (by kernel_rfl)
    refine ⟨hIl.1.setCell (p := ⟨B6, 1, none⟩) hTb _, ⟨(hIl.2.1.1).far hB36 _ _, (hIl.2.1.2.1).far hBg _ _, (hIl.2.1.2.2.1).far hB46 _ _, Cp.jo (hIl.2.1.2.2.2) (jb (hIl.2.1.2.2.2) hP (by decide)) _ _⟩, fun h => (by rw [Rg.jk (by decide), hbs] at h; cases h), fun _ h => (by rw [Rg.jk (by decide), hap] at h; cases h), fun h => (by rw [Rg.jk (by decide), hap] at h; cases h), fun h => (by rw [Rg.set_self hs (by rw [zbd]; decide)] at h; cases h), fun _ => ⟨a1, c1, hset, Cp.jo o2 hne _ _⟩⟩
   refine Rg.zaq (o := ⟨none, Op.store 25 (Operand.tmp 212) (Operand.tmp 211), _, _, _, _⟩) (w' := w'.setCell ⟨B6, 1, none⟩ (.slice a1 (nn + 1) c1)) rfl rfl ?_ ⟨undef, (by rw [dO53_st]), (fun _ => trivial), trivial, hE, fun k y hk hnk h => ?_⟩
   ·clear hE hA hN hO hL hIl
    simp only [execOp]
    go_simp
   ·refine zhp (fun v n ys h _ => ?_) k y h
    exact Cp.jo h (jb h hP (by decide)) _ _
theorem layO53 {a b : Act} (hf : Rg.Fr (Rg.opsOf Tryz.f50 53) a b) : b = Rg.fl (Rg.opsOf Tryz.f50 53) b 0 [some 195, some 196, some 197, some 198, some 199, some 200, some 201, some 202, some 203, some 204, some 205, some 206, some 207, some 208, some 209, some 210, some 211, some 212, none] a := Rg.ql _ (by kernel_rfl) hf
def IW13 (w0 w9 : World) (base : Nat) (vs : Value) (nn : Nat) (xs : List Value) (B3 B4 B6 gd m cap n6 : Nat) (v6 : Value) (x : Dd) (t : Int) (cs : Array Value) (ys : List Value) (l : Array Bool) (w : World) : Prop :=
 Below base w0 w /\ (PB w B3 #[.int .i64 x.k, .int .i64 x.o.id, .int .i64 x.o.p, .int .i64 x.o.d, .int .i64 x.o.n, .int .i64 x.o.f, .int .i64 x.o.e, .int .i64 x.o.c, .int .i64 x.o.s, .bool x.o.two, .int .i64 x.id, .int .i64 x.p, .int .i64 x.d, .int .i64 x.n, .int .i64 x.m, .int .i64 x.b, .int .i64 x.a] 40 /\ PB w gd cs 33 /\ PB w B4 #[.slice none 0 0, .slice none 0 0] 27 /\ w.ownsRow base 38 9 v6 n6 ys) /\ (l.getD 15 false = false -> w.heap.size = w9.heap.size) /\ (l.getD 15 false = true -> l.getD 16 false = false -> PB w w9.heap.size #[.int .i64 x.id, .int .i64 t, .int .i64 x.m, .int .i64 x.b, .int .i64 x.a] 35) /\ (l.getD 16 false = false -> w.ownsRow base 35 5 vs nn xs /\ True) /\ (l.getD 18 false = false -> PB w B6 #[v6, vs] 27) /\ (l.getD 18 false = true -> ∃ a c, PB w B6 #[v6, .slice a (nn + 1) c] 27 /\ w.ownsRow base 35 5 (.slice a (nn + 1) c) (nn + 1) (xs ++ [.int .i64 x.id, .int .i64 t, .int .i64 x.m, .int .i64 x.b, .int .i64 x.a]))
theorem za9 {w0 w9 : World} {base : Nat} {vs : Value} {nn : Nat} {xs : List Value} {B3 B4 B6 gd m cap n6 : Nat} {v6 : Value} {x : Dd} {t : Int} {cs : Array Value} {ys : List Value} {l : Array Bool} {w : World} {i7 : Nat} (h1 : i7 ≠ 15) (h2 : i7 ≠ 16) (h3 : i7 ≠ 18) (hI : IW13 w0 w9 base vs nn xs B3 B4 B6 gd m cap n6 v6 x t cs ys l w) : IW13 w0 w9 base vs nn xs B3 B4 B6 gd m cap n6 v6 x t cs ys (l.setIfInBounds i7 true) w := by
 unfold IW13
 rw [Rg.jk h1, Rg.jk h2, Rg.jk h3]
 exact hI
def FW13 (w9 : World) (base : Nat) (vs : Value) (nn : Nat) (xs : List Value) (B3 B4 B6 gd m cap n6 : Nat) (v6 : Value) (x : Dd) (t : Int) (cs : Array Value) (ys : List Value) (i9 : Nat) (v : Value) (w : World) : Prop :=
 match i9 with
 | 0 => v = .pointer (some ⟨B6, 1, none⟩)
 | 1 => v = vs
 | 2 => v = .pointer (some ⟨B3, 10, none⟩)
 | 3 => v = .int .i64 x.id
 | 4 => v = .slice (some ⟨gd, 0, none⟩) m cap
 | 5 => v = .pointer (some ⟨gd, 0, none⟩)
 | 6 => v = .pointer (some ⟨gd, 1, none⟩)
 | 7 => v = .int .i64 t
 | 8 => v = .pointer (some ⟨B3, 14, none⟩)
 | 9 => v = .int .i64 x.m
 | 10 => v = .pointer (some ⟨B3, 15, none⟩)
 | 11 => v = .int .i64 x.b
 | 12 => v = .pointer (some ⟨B3, 16, none⟩)
 | 13 => v = .int .i64 x.a
 | 14 => v = .agg #[.int .i64 x.id, .int .i64 t, .int .i64 x.m, .int .i64 x.b, .int .i64 x.a]
 | 15 => v = .slice (some ⟨w9.heap.size, 0, none⟩) 1 1
 | 16 => ∃ a c, v = .slice a (nn + 1) c /\ w.ownsRow base 35 5 v (nn + 1) (xs ++ [.int .i64 x.id, .int .i64 t, .int .i64 x.m, .int .i64 x.b, .int .i64 x.a])
 | 17 => v = .pointer (some ⟨B6, 1, none⟩)
 | 18 => True
 | _ => True
theorem zil {w9 : World} {base : Nat} {vs : Value} {nn : Nat} {xs : List Value} {B3 B4 B6 gd m cap n6 : Nat} {v6 : Value} {x : Dd} {t : Int} {cs : Array Value} {ys : List Value} {w w' : World} (hw : ∀ v n ys, w.ownsRow base 35 5 v n ys -> n = nn + 1 -> w'.ownsRow base 35 5 v n ys) : ∀ k v, FW13 w9 base vs nn xs B3 B4 B6 gd m cap n6 v6 x t cs ys k v w -> FW13 w9 base vs nn xs B3 B4 B6 gd m cap n6 v6 x t cs ys k v w' := by
 intro k v h
 unfold FW13 at *
 split at h <;> first | exact h | exact (by obtain ⟨a, c, h1, h2⟩ := h; exact ⟨a, c, h1, hw _ _ _ h2 rfl⟩)
theorem zbf : (Rg.opsOf Tryz.f47 13).size = 19 := by kernel_rfl
theorem dW13_st : Rg.ja (Rg.opsOf Tryz.f47 13) 18 = none := by kernel_rfl
set_option maxRecDepth 20000 in
set_option maxHeartbeats 16000000 in
theorem regW13 {Q : Exit -> Act -> World -> Prop} {a : Act} {w0 w9 : World} {base : Nat} {vs : Value} {nn : Nat} {xs : List Value} {B3 B4 B6 gd m cap n6 : Nat} {v6 : Value} {x : Dd} {t : Int} {cs : Array Value} {ys : List Value} (ha : a.tmps.size = 103)
  (k2 : a.tmps[2]? = some (.pointer (some ⟨B6, 0, none⟩))) (k3 : a.tmps[3]? = some (.pointer (some ⟨B3, 0, none⟩))) (k8 : a.tmps[8]? = some (.slice (some ⟨gd, 0, none⟩) m cap)) (hB : Below base w0 w9) (hb0 : base <= w0.heap.size) (hPs : PB w9 B3 #[.int .i64 x.k, .int .i64 x.o.id, .int .i64 x.o.p, .int .i64 x.o.d, .int .i64 x.o.n, .int .i64 x.o.f, .int .i64 x.o.e, .int .i64 x.o.c, .int .i64 x.o.s, .bool x.o.two, .int .i64 x.id, .int .i64 x.p, .int .i64 x.d, .int .i64 x.n, .int .i64 x.m, .int .i64 x.b, .int .i64 x.a] 40 /\ PB w9 gd cs 33 /\ PB w9 B4 #[.slice none 0 0, .slice none 0 0] 27 /\ w9.ownsRow base 38 9 v6 n6 ys) (hT : PB w9 B6 #[v6, vs] 27) (hTb : base <= B6) (hown : w9.ownsRow base 35 5 vs nn xs) (hex : True) (hnn : nn <= 1048576) (hB36 : B6 ≠ B3) (hB46 : B6 ≠ B4) (hBg : B6 ≠ gd) (hm : (0 : Int) < (m : Int)) (hcs : cs[1]? = some (.int .i64 t))
  (hend : ∀ b' w' v, Rg.Fr (Rg.opsOf Tryz.f47 13) a b' -> Below base w0 w' -> (PB w' B3 #[.int .i64 x.k, .int .i64 x.o.id, .int .i64 x.o.p, .int .i64 x.o.d, .int .i64 x.o.n, .int .i64 x.o.f, .int .i64 x.o.e, .int .i64 x.o.c, .int .i64 x.o.s, .bool x.o.two, .int .i64 x.id, .int .i64 x.p, .int .i64 x.d, .int .i64 x.n, .int .i64 x.m, .int .i64 x.b, .int .i64 x.a] 40 /\ PB w' gd cs 33 /\ PB w' B4 #[.slice none 0 0, .slice none 0 0] 27 /\ w'.ownsRow base 38 9 v6 n6 ys) -> PB w' B6 #[v6, v] 27 -> (∃ a c, v = .slice a (nn + 1) c) -> w'.ownsRow base 35 5 v (nn + 1) (xs ++ [.int .i64 x.id, .int .i64 t, .int .i64 x.m, .int .i64 x.b, .int .i64 x.a]) -> Q .normal b' w') :
  (Code.region 13 (Rg.opsOf Tryz.f47 13) true).wp Tryz.prog Q a w9 := by
 obtain ⟨i0, hi0, hz0, hz1, hz2⟩ := info_parts zb6
 refine Rg.zeo (by kernel_rfl) (IW13 w0 w9 base vs nn xs B3 B4 B6 gd m cap n6 v6 x t cs ys) (FW13 w9 base vs nn xs B3 B4 B6 gd m cap n6 v6 x t cs ys) (by rw [ha, zbf]; kernel_rfl) ⟨jq hB, hPs, fun _ => rfl, fun h => (by rw [Rg.zaz] at h; cases h), fun _ => ⟨hown, hex⟩, fun _ => hT, fun h => (by rw [Rg.zaz] at h; cases h)⟩ ?_ ?_
 case refine_2 =>
  intro l b' w' hf hall hI hA
  rw [zbf] at hall
  obtain ⟨a1, c1, q1, q2⟩ := hI.2.2.2.2.2.2 (hall 18 (by omega))
  exact hend b' w' _ hf hI.1 hI.2.1 q1 ⟨_, _, rfl⟩ q2
 case refine_1 =>
  clear hend
  intro i' hi'
  rw [zbf] at hi'
  rcases (show i' = 0 ∨ i' = 1 ∨ i' = 2 ∨ i' = 3 ∨ i' = 4 ∨ i' = 5 ∨ i' = 6 ∨ i' = 7 ∨ i' = 8 ∨ i' = 9 ∨ i' = 10 ∨ i' = 11 ∨ i' = 12 ∨ i' = 13 ∨ i' = 14 ∨ i' = 15 ∨ i' = 16 ∨ i' = 17 ∨ i' = 18 by omega) with rfl | rfl | rfl | rfl | rfl | rfl | rfl | rfl | rfl | rfl | rfl | rfl | rfl | rfl | rfl | rfl | rfl | rfl | rfl
  ·intro ll bb w' hs hlf hN hO hf hIl hL hA
   clear hi'
   have q2 := hf.kept (s := 2) (by rw [zbf]; kernel_rfl) k2
   exact Rg.zf (o := ⟨some 84, Op.fieldAddr 27 (Operand.tmp 2) 1, _, _, _, _⟩) (x := .pointer (some ⟨B6, 1, none⟩)) rfl rfl (by clear hA hN hO hL hIl ; simp only [execOp]; go_simp) ⟨_, rfl, (fun h => by cases h), rfl, za9 (by decide) (by decide) (by decide) hIl, fun _ _ _ _ h => h⟩
  ·intro ll bb w' hs hlf hN hO hf hIl hL hA
   clear hi'
   have q84 : bb.tmps[84]? = some _ := hf.tmp (k := 0) rfl (by rw [ha]; decide) (hA 0 (by kernel_rfl))
   have hst : ll.getD 18 false = false := hN 18 (by kernel_rfl)
   have hTB := hIl.2.2.2.2.2.1 hst
   have e0 : w'.cell? ⟨B6, 1, none⟩ = some vs := hTB.cell 1
   clear hTB
   exact Rg.zf (o := ⟨some 85, Op.load 25 (Operand.tmp 84), _, _, _, _⟩) (x := vs) rfl rfl (by clear hA hN hO hL hIl ; simp only [execOp]; go_simp) ⟨_, rfl, (fun h => by cases h), rfl, za9 (by decide) (by decide) (by decide) hIl, fun _ _ _ _ h => h⟩
  ·intro ll bb w' hs hlf hN hO hf hIl hL hA
   clear hi'
   have q3 := hf.kept (s := 3) (by rw [zbf]; kernel_rfl) k3
   exact Rg.zf (o := ⟨some 86, Op.fieldAddr 40 (Operand.tmp 3) 2, _, _, _, _⟩) (x := .pointer (some ⟨B3, 10, none⟩)) rfl rfl (by clear hA hN hO hL hIl ; simp only [execOp]; go_simp) ⟨_, rfl, (fun h => by cases h), rfl, za9 (by decide) (by decide) (by decide) hIl, fun _ _ _ _ h => h⟩
  ·intro ll bb w' hs hlf hN hO hf hIl hL hA
   clear hi'
   have q86 : bb.tmps[86]? = some _ := hf.tmp (k := 2) rfl (by rw [ha]; decide) (hA 2 (by kernel_rfl))
   have e0 : w'.cell? ⟨B3, 10, none⟩ = some (.int .i64 x.id) := hIl.2.1.1.cell 10
   exact Rg.zf (o := ⟨some 87, Op.load 2 (Operand.tmp 86), _, _, _, _⟩) (x := .int .i64 x.id) rfl rfl (by clear hA hN hO hL hIl ; simp only [execOp]; go_simp) ⟨_, rfl, (fun h => by cases h), rfl, za9 (by decide) (by decide) (by decide) hIl, fun _ _ _ _ h => h⟩
  ·intro ll bb w' hs hlf hN hO hf hIl hL hA
   clear hi'
   have q0 := hf.kept (s := 8) (by rw [zbf]; kernel_rfl) k8
   exact Rg.zf (o := ⟨some 88, Op.move (Operand.tmp 8), _, _, _, _⟩) rfl rfl rfl ⟨_, rfl, (fun h => by cases h), (by show Act.eval bb _ = _; simp [Act.eval, q0]), za9 (by decide) (by decide) (by decide) hIl, fun _ _ _ _ h => h⟩
  ·intro ll bb w' hs hlf hN hO hf hIl hL hA
   clear hi'
   have q88 : bb.tmps[88]? = some _ := hf.tmp (k := 4) rfl (by rw [ha]; decide) (hA 4 (by kernel_rfl))
   exact Rg.zf (o := ⟨some 89, Op.indexAddr 30 (Operand.tmp 88) (Operand.const (Value.int .i64 0)), _, _, _, _⟩) (x := .pointer (some ⟨gd, 0, none⟩)) rfl rfl (by clear hA hN hO hL hIl ; simp only [execOp]; go_simp; intro h; omega) ⟨_, rfl, (fun h => by cases h), rfl, za9 (by decide) (by decide) (by decide) hIl, fun _ _ _ _ h => h⟩
  ·intro ll bb w' hs hlf hN hO hf hIl hL hA
   clear hi'
   have q89 : bb.tmps[89]? = some _ := hf.tmp (k := 5) rfl (by rw [ha]; decide) (hA 5 (by kernel_rfl))
   exact Rg.zf (o := ⟨some 90, Op.fieldAddr 33 (Operand.tmp 89) 1, _, _, _, _⟩) (x := .pointer (some ⟨gd, 1, none⟩)) rfl rfl (by clear hA hN hO hL hIl ; simp only [execOp]; go_simp) ⟨_, rfl, (fun h => by cases h), rfl, za9 (by decide) (by decide) (by decide) hIl, fun _ _ _ _ h => h⟩
  ·intro ll bb w' hs hlf hN hO hf hIl hL hA
   clear hi'
   have q90 : bb.tmps[90]? = some _ := hf.tmp (k := 6) rfl (by rw [ha]; decide) (hA 6 (by kernel_rfl))
   have e0 : w'.cell? ⟨gd, 1, none⟩ = some (.int .i64 t) := (hIl.2.1.2.1.cell 1).trans hcs
   exact Rg.zf (o := ⟨some 91, Op.load 2 (Operand.tmp 90), _, _, _, _⟩) (x := .int .i64 t) rfl rfl (by clear hA hN hO hL hIl ; simp only [execOp]; go_simp) ⟨_, rfl, (fun h => by cases h), rfl, za9 (by decide) (by decide) (by decide) hIl, fun _ _ _ _ h => h⟩
  ·intro ll bb w' hs hlf hN hO hf hIl hL hA
   clear hi'
   have q3 := hf.kept (s := 3) (by rw [zbf]; kernel_rfl) k3
   exact Rg.zf (o := ⟨some 92, Op.fieldAddr 40 (Operand.tmp 3) 6, _, _, _, _⟩) (x := .pointer (some ⟨B3, 14, none⟩)) rfl rfl (by clear hA hN hO hL hIl ; simp only [execOp]; go_simp) ⟨_, rfl, (fun h => by cases h), rfl, za9 (by decide) (by decide) (by decide) hIl, fun _ _ _ _ h => h⟩
  ·intro ll bb w' hs hlf hN hO hf hIl hL hA
   clear hi'
   have q92 : bb.tmps[92]? = some _ := hf.tmp (k := 8) rfl (by rw [ha]; decide) (hA 8 (by kernel_rfl))
   have e0 : w'.cell? ⟨B3, 14, none⟩ = some (.int .i64 x.m) := hIl.2.1.1.cell 14
   exact Rg.zf (o := ⟨some 93, Op.load 2 (Operand.tmp 92), _, _, _, _⟩) (x := .int .i64 x.m) rfl rfl (by clear hA hN hO hL hIl ; simp only [execOp]; go_simp) ⟨_, rfl, (fun h => by cases h), rfl, za9 (by decide) (by decide) (by decide) hIl, fun _ _ _ _ h => h⟩
  ·intro ll bb w' hs hlf hN hO hf hIl hL hA
   clear hi'
   have q3 := hf.kept (s := 3) (by rw [zbf]; kernel_rfl) k3
   exact Rg.zf (o := ⟨some 94, Op.fieldAddr 40 (Operand.tmp 3) 7, _, _, _, _⟩) (x := .pointer (some ⟨B3, 15, none⟩)) rfl rfl (by clear hA hN hO hL hIl ; simp only [execOp]; go_simp) ⟨_, rfl, (fun h => by cases h), rfl, za9 (by decide) (by decide) (by decide) hIl, fun _ _ _ _ h => h⟩
  ·intro ll bb w' hs hlf hN hO hf hIl hL hA
   clear hi'
   have q94 : bb.tmps[94]? = some _ := hf.tmp (k := 10) rfl (by rw [ha]; decide) (hA 10 (by kernel_rfl))
   have e0 : w'.cell? ⟨B3, 15, none⟩ = some (.int .i64 x.b) := hIl.2.1.1.cell 15
   exact Rg.zf (o := ⟨some 95, Op.load 2 (Operand.tmp 94), _, _, _, _⟩) (x := .int .i64 x.b) rfl rfl (by clear hA hN hO hL hIl ; simp only [execOp]; go_simp) ⟨_, rfl, (fun h => by cases h), rfl, za9 (by decide) (by decide) (by decide) hIl, fun _ _ _ _ h => h⟩
  ·intro ll bb w' hs hlf hN hO hf hIl hL hA
   clear hi'
   have q3 := hf.kept (s := 3) (by rw [zbf]; kernel_rfl) k3
   exact Rg.zf (o := ⟨some 96, Op.fieldAddr 40 (Operand.tmp 3) 8, _, _, _, _⟩) (x := .pointer (some ⟨B3, 16, none⟩)) rfl rfl (by clear hA hN hO hL hIl ; simp only [execOp]; go_simp) ⟨_, rfl, (fun h => by cases h), rfl, za9 (by decide) (by decide) (by decide) hIl, fun _ _ _ _ h => h⟩
  ·intro ll bb w' hs hlf hN hO hf hIl hL hA
   clear hi'
   have q96 : bb.tmps[96]? = some _ := hf.tmp (k := 12) rfl (by rw [ha]; decide) (hA 12 (by kernel_rfl))
   have e0 : w'.cell? ⟨B3, 16, none⟩ = some (.int .i64 x.a) := hIl.2.1.1.cell 16
   exact Rg.zf (o := ⟨some 97, Op.load 2 (Operand.tmp 96), _, _, _, _⟩) (x := .int .i64 x.a) rfl rfl (by clear hA hN hO hL hIl ; simp only [execOp]; go_simp) ⟨_, rfl, (fun h => by cases h), rfl, za9 (by decide) (by decide) (by decide) hIl, fun _ _ _ _ h => h⟩
  ·intro ll bb w' hs hlf hN hO hf hIl hL hA
   clear hi'
   have q87 : bb.tmps[87]? = some _ := hf.tmp (k := 3) rfl (by rw [ha]; decide) (hA 3 (by kernel_rfl))
   have q91 : bb.tmps[91]? = some _ := hf.tmp (k := 7) rfl (by rw [ha]; decide) (hA 7 (by kernel_rfl))
   have q93 : bb.tmps[93]? = some _ := hf.tmp (k := 9) rfl (by rw [ha]; decide) (hA 9 (by kernel_rfl))
   have q95 : bb.tmps[95]? = some _ := hf.tmp (k := 11) rfl (by rw [ha]; decide) (hA 11 (by kernel_rfl))
   have q97 : bb.tmps[97]? = some _ := hf.tmp (k := 13) rfl (by rw [ha]; decide) (hA 13 (by kernel_rfl))
   exact Rg.zf (o := ⟨some 98, Op.build 35 #[(0, (Operand.tmp 87)), (1, (Operand.tmp 91)), (2, (Operand.tmp 93)), (3, (Operand.tmp 95)), (4, (Operand.tmp 97))], _, _, _, _⟩) (x := .agg #[.int .i64 x.id, .int .i64 t, .int .i64 x.m, .int .i64 x.b, .int .i64 x.a]) rfl rfl (by clear hA hN hO hL hIl ; simp only [execOp]; go_simp) ⟨_, rfl, (fun h => by cases h), rfl, za9 (by decide) (by decide) (by decide) hIl, fun _ _ _ _ h => h⟩
  ·intro ll bb w' hs hlf hN hO hf hIl hL hA
   clear hi'
   have q98 : bb.tmps[98]? = some _ := hf.tmp (k := 14) rfl (by rw [ha]; decide) (hA 14 (by kernel_rfl))
   have hz := hIl.2.2.1 hlf
   have hap := hN 16 (by kernel_rfl)
   have hst := hN 18 (by kernel_rfl)
   have hnew := PB.new w' #[.int .i64 x.id, .int .i64 t, .int .i64 x.m, .int .i64 x.b, .int .i64 x.a] 35
   have hE : IW13 w0 w9 base vs nn xs B3 B4 B6 gd m cap n6 v6 x t cs ys (ll.setIfInBounds 15 true) (w'.alloc (.cells #[.int .i64 x.id, .int .i64 t, .int .i64 x.m, .int .i64 x.b, .int .i64 x.a] 35)) := by
    refine ⟨hIl.1.alloc (Nat.le_trans hb0 hIl.1.size) _, ⟨(hIl.2.1.1).alloc _, (hIl.2.1.2.1).alloc _, (hIl.2.1.2.2.1).alloc _, (hIl.2.1.2.2.2).alloc _⟩, fun h => (by rw [Rg.set_self hs (by rw [zbf]; decide)] at h; cases h), fun _ _ => hz ▸ hnew, fun _ => ⟨(hIl.2.2.2.2.1 hap).1.alloc _, trivial⟩, fun _ => (hIl.2.2.2.2.2.1 hst).alloc _, fun h => (by rw [Rg.jk (by decide), hst] at h; cases h)⟩
   have hK := zil (w9 := w9) (base := base) (vs := vs) (nn := nn) (xs := xs) (B3 := B3) (B4 := B4) (B6 := B6) (gd := gd) (m := m) (cap := cap) (n6 := n6) (v6 := v6) (x := x) (t := t) (cs := cs) (ys := ys) (w := w') (w' := w'.alloc (.cells #[.int .i64 x.id, .int .i64 t, .int .i64 x.m, .int .i64 x.b, .int .i64 x.a] 35)) (fun v n ys h _ => h.alloc _)
   refine Rg.zf (o := ⟨some 99, Op.buildSlice 25 1 #[(0, Operand.tmp 98)], _, _, _, _⟩) (x := .slice (some ⟨w'.heap.size, 0, none⟩) 1 1) (w' := w'.alloc (.cells #[.int .i64 x.id, .int .i64 t, .int .i64 x.m, .int .i64 x.b, .int .i64 x.a] 35)) rfl rfl (by clear hA hN hO hL hIl hE hK hnew hz; simp only [execOp]; go_simp) ⟨_, rfl, (fun h => by cases h), (by show _ = _; rw [hz]), hE, fun k y _ _ h => hK k y h⟩
  ·intro ll bb w' hs hlf hN hO hf hIl hL hA
   clear hi'
   have q85 : bb.tmps[85]? = some _ := hf.tmp (k := 1) rfl (by rw [ha]; decide) (hA 1 (by kernel_rfl))
   have q99 : bb.tmps[99]? = some _ := hf.tmp (k := 15) rfl (by rw [ha]; decide) (hA 15 (by kernel_rfl))
   have hst := hN 18 (by kernel_rfl)
   have hbs := hL 15 (by kernel_rfl)
   have hP := hIl.2.2.2.1 hbs hlf
   obtain ⟨ho, -⟩ := hIl.2.2.2.2.1 hlf
   have hbz : (nn + 1) * 40 <= 140737488355328 := by omega
   refine Rg.zek (o := ⟨some 100, Op.call { callee := Callee.builtin Builtin.append, args := #[Operand.tmp 85, Operand.tmp 99], argTypes := #[25, 25] }, _, _, _, _⟩) rfl rfl (Operand.tmp 85) (Operand.tmp 99) 25 rfl base 35 i0 _ 5 40 Tryz.underlying25 hi0 hz0 hz1 hz2 rfl (by decide) vs nn xs (by simp [Act.eval, q85]) ho ⟨w9.heap.size, 0, none⟩ 1 1 [.int .i64 x.id, .int .i64 t, .int .i64 x.m, .int .i64 x.b, .int .i64 x.a] (by simp [Act.eval, q99]) rfl (fun j u hu => (by rw [Addr.add_lit, Nat.zero_add, hP.cell j]; simpa using hu)) (by simp [Value.oneCell']) (by unfold maxLen; omega) hbz (Nat.le_trans hb0 hIl.1.size) ?_
   intro v' w2 o2 g2 b2
   have hlt : ∀ k, vs.ownBlock = some k -> base <= k := Cp.ze3 ho
   have hE : IW13 w0 w9 base vs nn xs B3 B4 B6 gd m cap n6 v6 x t cs ys (ll.setIfInBounds 16 true) w2 := by
    refine ⟨hIl.1.grown g2 (Nat.le_trans hb0 hIl.1.size) hlt, ⟨(hIl.2.1.1).kept g2 (jb ho (hIl.2.1.1) (by decide)), (hIl.2.1.2.1).kept g2 (jb ho (hIl.2.1.2.1) (by decide)), (hIl.2.1.2.2.1).kept g2 (jb ho (hIl.2.1.2.2.1) (by decide)), Cp.zfk ho (hIl.2.1.2.2.2) (by decide) g2⟩, fun h => (by rw [Rg.jk (by decide), hbs] at h; cases h), fun _ h => (by rw [Rg.set_self hs (by rw [zbf]; decide)] at h; cases h), fun h => (by rw [Rg.set_self hs (by rw [zbf]; decide)] at h; cases h), fun _ => (hIl.2.2.2.2.2.1 hst).kept g2 (jb ho (hIl.2.2.2.2.2.1 hst) (by decide)), fun h => (by rw [Rg.jk (by decide), hst] at h; cases h)⟩
   obtain ⟨a1, c1, rfl⟩ := Cp.zac o2
   refine ⟨_, rfl, (fun h => by cases h), ⟨a1, c1, rfl, o2⟩, hE, fun k y hk hnk h => ?_⟩
   unfold FW13 at *
   split at h <;> first | exact h | exact absurd rfl hk
  ·intro ll bb w' hs hlf hN hO hf hIl hL hA
   clear hi'
   have q2 := hf.kept (s := 2) (by rw [zbf]; kernel_rfl) k2
   exact Rg.zf (o := ⟨some 101, Op.fieldAddr 27 (Operand.tmp 2) 1, _, _, _, _⟩) (x := .pointer (some ⟨B6, 1, none⟩)) rfl rfl (by clear hA hN hO hL hIl ; simp only [execOp]; go_simp) ⟨_, rfl, (fun h => by cases h), rfl, za9 (by decide) (by decide) (by decide) hIl, fun _ _ _ _ h => h⟩
  ·intro ll bb w' hs hlf hN hO hf hIl hL hA
   clear hi'
   have q101 : bb.tmps[101]? = some _ := hf.tmp (k := 17) rfl (by rw [ha]; decide) (hA 17 (by kernel_rfl))
   obtain ⟨a1, c1, hv, o2⟩ := hA 16 (by kernel_rfl)
   have q100 : bb.tmps[100]? = some (.slice a1 (nn + 1) c1) := hf.tmp (k := 16) rfl (by rw [ha]; decide) hv
   rw [hv] at o2
   have hP := hIl.2.2.2.2.2.1 hlf
   have hne := jb o2 hP (by decide)
   have hfz := hP.frozen 1
   have hcl : w'.cell? ⟨B6, 1, none⟩ = some _ := hP.cell 1
   have hset : PB (w'.setCell ⟨B6, 1, none⟩ (.slice a1 (nn + 1) c1)) B6 #[v6, .slice a1 (nn + 1) c1] 27 := hP.set 1 _
   have hbs := hL 15 (by first | kernel_rfl | fail)
   have hE : IW13 w0 w9 base vs nn xs B3 B4 B6 gd m cap n6 v6 x t cs ys (ll.setIfInBounds 18 true) (w'.setCell ⟨B6, 1, none⟩ (.slice a1 (nn + 1) c1)) := by
    have hap := hL 16 (by kernel_rfl)
    refine ⟨hIl.1.setCell (p := ⟨B6, 1, none⟩) hTb _, ⟨(hIl.2.1.1).far hB36 _ _, (hIl.2.1.2.1).far hBg _ _, (hIl.2.1.2.2.1).far hB46 _ _, Cp.jo (hIl.2.1.2.2.2) (jb (hIl.2.1.2.2.2) hP (by decide)) _ _⟩, fun h => (by rw [Rg.jk (by decide), hbs] at h; cases h), fun _ h => (by rw [Rg.jk (by decide), hap] at h; cases h), fun h => (by rw [Rg.jk (by decide), hap] at h; cases h), fun h => (by rw [Rg.set_self hs (by rw [zbf]; decide)] at h; cases h), fun _ => ⟨a1, c1, hset, Cp.jo o2 hne _ _⟩⟩
   refine Rg.zaq (o := ⟨none, Op.store 25 (Operand.tmp 101) (Operand.tmp 100), _, _, _, _⟩) (w' := w'.setCell ⟨B6, 1, none⟩ (.slice a1 (nn + 1) c1)) rfl rfl ?_ ⟨undef, (by rw [dW13_st]), (fun _ => trivial), trivial, hE, fun k y hk hnk h => ?_⟩
   ·clear hE hA hN hO hL hIl
    simp only [execOp]
    go_simp
   ·refine zil (fun v n ys h _ => ?_) k y h
    exact Cp.jo h (jb h hP (by decide)) _ _
theorem layW13 {a b : Act} (hf : Rg.Fr (Rg.opsOf Tryz.f47 13) a b) : b = Rg.fl (Rg.opsOf Tryz.f47 13) b 0 [some 84, some 85, some 86, some 87, some 88, some 89, some 90, some 91, some 92, some 93, some 94, some 95, some 96, some 97, some 98, some 99, some 100, some 101, none] a := Rg.ql _ (by kernel_rfl) hf
end Go.Proofs.YtjlpfpigggdemaaGreatDoor
