/-
  What DrawBloodDo hands back: the region that draws its order.
-/
import Derived.Test.YtaidhcbchpcemaaD8
import Derived.Test.YtaidhcbchpcemaaQ31
import Derived.Test.YtaidhcbchpcemaaRk
namespace Go.Proofs.Ytaidhcbchpcemaa
open Go.RowKit Va Bl
set_option linter.all false

/-- Units and numbers in blocks of the call's own. -/
structure DE (w W : World) (b : Nat) (v nv : Value) (L : List (Ut × Value)) (ag : List Int) : Prop where
  bel : Below w.heap.size w W
  own : W.ownsRow b 37 6 v L.length (cellsU L)
  ant : ∀ p ∈ L, AOwn W b p ∧ p.1.ant.length ≤ 4
  nd : W.ownsRow b 2 1 nv ag.length (ag.map fun z => Value.int .i64 z)
theorem DE.put {w W : World} {b : Nat} {v nv : Value} {L : List (Ut × Value)} {ag : List Int} (h : DE w W b v nv L ag) {B : Nat} {vs : Array Value} {t : TypeId} (hP : PB W B vs t) (h1 : t ≠ 37) (h2 : t ≠ 2) (hB : w.heap.size ≤ B) (j : Nat) (u : Value) : DE w (W.setCell ⟨B, j, none⟩ u) b v nv L ag :=
  ⟨h.bel.setCell (p := ⟨B, j, none⟩) hB u, ownQ_set h.own (hP.neQ h.own h1) u, fun p hp => ⟨ownQ_set (h.ant p hp).1 (hP.neQ (h.ant p hp).1 h2) u, (h.ant p hp).2⟩, ownQ_set h.nd (hP.neQ h.nd h2) u⟩
theorem DE.drew {w W : World} {b : Nat} {v nv : Value} {L : List (Ut × Value)} {ag : List Int} (h : DE w W b v nv L ag) : DE w W.drew b v nv L ag := ⟨st_drew h.bel, h.own, h.ant, h.nd⟩
theorem PB.dr {W : World} {B : Nat} {vs : Array Value} {t : TypeId} (h : PB W B vs t) : PB W.drew B vs t := h.drewN 1
theorem DE.fill3 {w W : World} {b : Nat} {v nv : Value} {L : List (Ut × Value)} {ag : List Int} (h : DE w W b v nv L ag) {B : Nat} {v0 v1 v2 : Value} {t : TypeId} (hP : PB W B #[v0, v1, v2] t) (h1 : t ≠ 37) (h2 : t ≠ 2) (hB : w.heap.size ≤ B) (x0 x1 x2 : Value) : DE w (((W.setCell ⟨B, 0, none⟩ x0).setCell ⟨B, 1, none⟩ x1).setCell ⟨B, 2, none⟩ x2) b v nv L ag :=
  ((h.put hP h1 h2 hB 0 x0).put (hP.put 0 x0 rfl) h1 h2 hB 1 x1).put ((hP.put 0 x0 rfl).put 1 x1 rfl) h1 h2 hB 2 x2
theorem PB.far3 {W : World} {B V : Nat} {vs : Array Value} {t : TypeId} (h : PB W B vs t) (hne : V ≠ B) (x0 x1 x2 : Value) : PB (((W.setCell ⟨V, 0, none⟩ x0).setCell ⟨V, 1, none⟩ x1).setCell ⟨V, 2, none⟩ x2) B vs t := ((h.far hne 0 x0).far hne 1 x1).far hne 2 x2

def FDb18 (w0 : World) (b0 R1 R2 V6 V8 : Nat) (L : List (Ut × Value)) (ad : Option Addr) (c : Nat) (n : Nd) (na : Option Addr) (nc : Nat) (a0 : Da) (i9 : Nat) (v : Value) (w : World) : Prop :=
  match i9 with
  | 0 => v = .slice ad L.length c
  | 1 => v = .agg #[.int .i64 n.p, .int .i64 n.g, .slice na n.ag.length nc]
  | 2 => v = .agg #[.int .i64 a0.k, .int .i64 a0.id, .int .i64 a0.t]
  | 3 => v = .slice ad L.length c
  | _ => True
structure IDb18 (w0 : World) (b0 R1 R2 V6 V8 : Nat) (L : List (Ut × Value)) (ad : Option Addr) (c : Nat) (n : Nd) (na : Option Addr) (nc : Nat) (a0 : Da) (l : Array Bool) (w : World) : Prop where
  de : DE w0 w b0 (.slice ad L.length c) (.slice na n.ag.length nc) L n.ag
  p6 : PB w V6 #[.int .i64 n.p, .int .i64 n.g, .slice na n.ag.length nc] 28
  p8 : PB w V8 #[.int .i64 a0.k, .int .i64 a0.id, .int .i64 a0.t] 30
  r1 : l.getD 4 false = false → PB w R1 #[.int .i64 0, .int .i64 0, .slice none 0 0] 28
  r1t : l.getD 4 false = true → PB w R1 #[.int .i64 n.p, .int .i64 n.g, .slice na n.ag.length nc] 28
  r2 : l.getD 5 false = false → PB w R2 #[.int .i64 0, .int .i64 0, .int .i64 0] 30
  r2t : l.getD 5 false = true → PB w R2 #[.int .i64 a0.k, .int .i64 a0.id, .int .i64 a0.t] 30
theorem sameDb18 {w0 : World} {b0 R1 R2 V6 V8 : Nat} {L : List (Ut × Value)} {ad : Option Addr} {c : Nat} {n : Nd} {na : Option Addr} {nc : Nat} {a0 : Da} {l : Array Bool} {w : World} {i : Nat} (h4 : i ≠ 4) (h5 : i ≠ 5) (h : IDb18 w0 b0 R1 R2 V6 V8 L ad c n na nc a0 l w) : IDb18 w0 b0 R1 R2 V6 V8 L ad c n na nc a0 (l.setIfInBounds i true) w :=
  ⟨h.de, h.p6, h.p8, by rw [Rg.set_ne h4]; exact h.r1, by rw [Rg.set_ne h4]; exact h.r1t, by rw [Rg.set_ne h5]; exact h.r2, by rw [Rg.set_ne h5]; exact h.r2t⟩
theorem sizeDb18 : (Rg.opsOf Try.f13 18).size = 6 := by kernel_rfl
theorem dDb18_0 : Rg.dstAt (Rg.opsOf Try.f13 18) 0 = some 82 := by kernel_rfl
theorem dDb18_1 : Rg.dstAt (Rg.opsOf Try.f13 18) 1 = some 83 := by kernel_rfl
theorem dDb18_2 : Rg.dstAt (Rg.opsOf Try.f13 18) 2 = some 84 := by kernel_rfl
theorem dDb18_3 : Rg.dstAt (Rg.opsOf Try.f13 18) 3 = some 2 := by kernel_rfl
theorem dDb18_4 : Rg.dstAt (Rg.opsOf Try.f13 18) 4 = none := by kernel_rfl
theorem dDb18_5 : Rg.dstAt (Rg.opsOf Try.f13 18) 5 = none := by kernel_rfl
theorem pnDb18 (a : Act) (v : Value) : a.put none v = a := rfl
theorem layDb18 {a b : Act} (hf : Rg.Fr (Rg.opsOf Try.f13 18) a b) : b = ((((a.put (some 82) (Rg.out (Rg.opsOf Try.f13 18) b 0)).put (some 83) (Rg.out (Rg.opsOf Try.f13 18) b 1)).put (some 84) (Rg.out (Rg.opsOf Try.f13 18) b 2)).put (some 2) (Rg.out (Rg.opsOf Try.f13 18) b 3)) := by
  have h := hf.chain
  rw [sizeDb18, show List.range 6 = [0, 1, 2, 3, 4, 5] from by decide] at h
  simp only [List.foldl_cons, List.foldl_nil, dDb18_0, dDb18_1, dDb18_2, dDb18_3, dDb18_4, dDb18_5, pnDb18] at h
  exact h

set_option maxRecDepth 20000 in
set_option maxHeartbeats 8000000 in
theorem regDb18 {Q : Exit → Act → World → Prop} {a : Act} {w1 : World} {w0 : World} {b0 R1 R2 V6 V8 : Nat} {L : List (Ut × Value)} {ad : Option Addr} {c : Nat} {n : Nd} {na : Option Addr} {nc : Nat} {a0 : Da} (ha : a.tmps.size = 85)
    (k3 : a.tmps[3]? = some (.pointer (some ⟨R1, 0, none⟩))) (k4 : a.tmps[4]? = some (.pointer (some ⟨R2, 0, none⟩))) (k6 : a.tmps[6]? = some (.pointer (some ⟨V6, 0, none⟩))) (k7 : a.tmps[7]? = some (.slice ad L.length c)) (k8 : a.tmps[8]? = some (.pointer (some ⟨V8, 0, none⟩)))
    (hde : DE w0 w1 b0 (.slice ad L.length c) (.slice na n.ag.length nc) L n.ag) (h1 : PB w1 R1 #[.int .i64 0, .int .i64 0, .slice none 0 0] 28) (h2 : PB w1 R2 #[.int .i64 0, .int .i64 0, .int .i64 0] 30) (h6 : PB w1 V6 #[.int .i64 n.p, .int .i64 n.g, .slice na n.ag.length nc] 28) (h8 : PB w1 V8 #[.int .i64 a0.k, .int .i64 a0.id, .int .i64 a0.t] 30) (ho : w0.heap.size ≤ R1 ∧ R1 < R2 ∧ R2 < V6 ∧ V6 < V8)
    (hend : ∀ b' w', Rg.Fr (Rg.opsOf Try.f13 18) a b' → Rg.out (Rg.opsOf Try.f13 18) b' 3 = .slice ad L.length c → DE w0 w' b0 (.slice ad L.length c) (.slice na n.ag.length nc) L n.ag → PB w' R1 #[.int .i64 n.p, .int .i64 n.g, .slice na n.ag.length nc] 28 → PB w' R2 #[.int .i64 a0.k, .int .i64 a0.id, .int .i64 a0.t] 30 → Q .normal b' w') :
    (Code.region 18 (Rg.opsOf Try.f13 18) true).wp Try.prog Q a w1 := by
  refine Rg.region_set2 (by kernel_rfl) (IDb18 w0 b0 R1 R2 V6 V8 L ad c n na nc a0) (FDb18 w0 b0 R1 R2 V6 V8 L ad c n na nc a0) (by rw [ha, sizeDb18]; kernel_rfl) ⟨hde.drew, h6.dr, h8.dr, fun _ => h1.dr, fun h => (by rw [Rg.none_yet] at h; cases h), fun _ => h2.dr, fun h => (by rw [Rg.none_yet] at h; cases h)⟩ ?_ ?_
  case refine_2 =>
    intro l b' w' hf hall hI hA
    rw [sizeDb18] at hall
    exact hend b' w' hf (hA 3 (by rw [sizeDb18]; decide)) hI.de (hI.r1t (hall 4 (by omega))) (hI.r2t (hall 5 (by omega)))
  case refine_1 =>
    clear hend
    intro i' hi'
    rw [sizeDb18] at hi'
    rcases (show i' = 0 ∨ i' = 1 ∨ i' = 2 ∨ i' = 3 ∨ i' = 4 ∨ i' = 5 by omega) with rfl | rfl | rfl | rfl | rfl | rfl
    · intro ll bb w' hs hlf hN hf hIl hA
      clear hi'
      have q0 := hf.kept (s := 7) (by rw [sizeDb18]; kernel_rfl) k7
      exact Rg.op_value (o := ⟨some 82, Op.move (Operand.tmp 7), _, _, _, _⟩) (x := .slice ad L.length c) rfl rfl (by clear hA hN; simp only [execOp]; go_simp) ⟨_, rfl, (fun h => by cases h), rfl, sameDb18 (by decide) (by decide) hIl, fun _ _ _ h => h⟩
    · intro ll bb w' hs hlf hN hf hIl hA
      clear hi'
      have q0 := hf.kept (s := 6) (by rw [sizeDb18]; kernel_rfl) k6
      obtain ⟨e0, e1, e2⟩ := hIl.p6.three
      exact Rg.op_value (o := ⟨some 83, Op.load 28 (Operand.tmp 6), _, _, _, _⟩) (x := .agg #[.int .i64 n.p, .int .i64 n.g, .slice na n.ag.length nc]) rfl rfl (by clear hA hN; simp only [execOp]; go_simp) ⟨_, rfl, (fun h => by cases h), rfl, sameDb18 (by decide) (by decide) hIl, fun _ _ _ h => h⟩
    · intro ll bb w' hs hlf hN hf hIl hA
      clear hi'
      have q0 := hf.kept (s := 8) (by rw [sizeDb18]; kernel_rfl) k8
      obtain ⟨e0, e1, e2⟩ := hIl.p8.three
      exact Rg.op_value (o := ⟨some 84, Op.load 30 (Operand.tmp 8), _, _, _, _⟩) (x := .agg #[.int .i64 a0.k, .int .i64 a0.id, .int .i64 a0.t]) rfl rfl (by clear hA hN; simp only [execOp]; go_simp) ⟨_, rfl, (fun h => by cases h), rfl, sameDb18 (by decide) (by decide) hIl, fun _ _ _ h => h⟩
    · intro ll bb w' hs hlf hN hf hIl hA
      clear hi'
      have q0 : bb.tmps[82]? = some _ := hf.tmp (k := 0) rfl (by rw [ha]; decide) (hA 0 (by kernel_rfl))
      exact Rg.op_value (o := ⟨some 2, Op.assign (Operand.tmp 82), _, _, _, _⟩) (x := .slice ad L.length c) rfl rfl (by clear hA hN; simp only [execOp]; go_simp) ⟨_, rfl, (fun h => by cases h), rfl, sameDb18 (by decide) (by decide) hIl, fun _ _ _ h => h⟩
    · intro ll bb w' hs hlf hN hf hIl hA
      clear hi'
      have hP := hIl.r1 hlf
      have qv : bb.tmps[83]? = some _ := hf.tmp (k := 1) rfl (by rw [ha]; decide) (hA 1 (by kernel_rfl))
      have qp := hf.kept (s := 3) (by rw [sizeDb18]; kernel_rfl) k3
      obtain ⟨e0, e1, e2⟩ := hP.three
      obtain ⟨f0, f1, f2, -⟩ := hP.cold
      have hE : IDb18 w0 b0 R1 R2 V6 V8 L ad c n na nc a0 (ll.setIfInBounds 4 true) (((w'.setCell ⟨R1, 0, none⟩ (.int .i64 n.p)).setCell ⟨R1, 1, none⟩ (.int .i64 n.g)).setCell ⟨R1, 2, none⟩ (.slice na n.ag.length nc)) :=
        ⟨hIl.de.fill3 hP (by decide) (by decide) (by omega) _ _ _, hIl.p6.far3 (by omega) _ _ _, hIl.p8.far3 (by omega) _ _ _, fun h => (by rw [Rg.set_self hs (by rw [sizeDb18]; decide)] at h; cases h), fun _ => hP.fill3 _ _ _, fun h => (hIl.r2 (by rwa [Rg.set_ne (by decide)] at h)).far3 (by omega) _ _ _, fun h => (hIl.r2t (by rwa [Rg.set_ne (by decide)] at h)).far3 (by omega) _ _ _⟩
      clear hA hf hN hIl hP
      refine Rg.op_skip (o := ⟨none, Op.store 28 (Operand.tmp 3) (Operand.tmp 83), _, _, _, _⟩) (w' := (((w'.setCell ⟨R1, 0, none⟩ (.int .i64 n.p)).setCell ⟨R1, 1, none⟩ (.int .i64 n.g)).setCell ⟨R1, 2, none⟩ (.slice na n.ag.length nc))) rfl rfl ?_ ⟨undef, (by rw [dDb18_4]), (fun _ => trivial), trivial, hE, fun k y _ h => h⟩
      clear hE
      simp only [execOp]
      go_simp
    · intro ll bb w' hs hlf hN hf hIl hA
      clear hi'
      have hP := hIl.r2 hlf
      have qv : bb.tmps[84]? = some _ := hf.tmp (k := 2) rfl (by rw [ha]; decide) (hA 2 (by kernel_rfl))
      have qp := hf.kept (s := 4) (by rw [sizeDb18]; kernel_rfl) k4
      obtain ⟨e0, e1, e2⟩ := hP.three
      obtain ⟨f0, f1, f2, -⟩ := hP.cold
      have hE : IDb18 w0 b0 R1 R2 V6 V8 L ad c n na nc a0 (ll.setIfInBounds 5 true) (((w'.setCell ⟨R2, 0, none⟩ (.int .i64 a0.k)).setCell ⟨R2, 1, none⟩ (.int .i64 a0.id)).setCell ⟨R2, 2, none⟩ (.int .i64 a0.t)) :=
        ⟨hIl.de.fill3 hP (by decide) (by decide) (by omega) _ _ _, hIl.p6.far3 (by omega) _ _ _, hIl.p8.far3 (by omega) _ _ _, fun h => (hIl.r1 (by rwa [Rg.set_ne (by decide)] at h)).far3 (by omega) _ _ _, fun h => (hIl.r1t (by rwa [Rg.set_ne (by decide)] at h)).far3 (by omega) _ _ _, fun h => (by rw [Rg.set_self hs (by rw [sizeDb18]; decide)] at h; cases h), fun _ => hP.fill3 _ _ _⟩
      clear hA hf hN hIl hP
      refine Rg.op_skip (o := ⟨none, Op.store 30 (Operand.tmp 4) (Operand.tmp 84), _, _, _, _⟩) (w' := (((w'.setCell ⟨R2, 0, none⟩ (.int .i64 a0.k)).setCell ⟨R2, 1, none⟩ (.int .i64 a0.id)).setCell ⟨R2, 2, none⟩ (.int .i64 a0.t))) rfl rfl ?_ ⟨undef, (by rw [dDb18_5]), (fun _ => trivial), trivial, hE, fun k y _ h => h⟩
      clear hE
      simp only [execOp]
      go_simp
end Go.Proofs.Ytaidhcbchpcemaa
