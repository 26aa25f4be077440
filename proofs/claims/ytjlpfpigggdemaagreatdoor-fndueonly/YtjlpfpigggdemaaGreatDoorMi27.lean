/-
 Merged: U53 U54 U23.
-/
import Derived.Test.YtjlpfpigggdemaaGreatDoorMi25
import Derived.Test.YtjlpfpigggdemaaGreatDoorMi26
import Derived.Test.YtjlpfpigggdemaaGreatDoorMi5
import Derived.Defers
import Derived.Recover
import Derived.Laws.Pointers
import Derived.Test.YtjlpfpigggdemaaGreatDoorMi9
import Derived.Test.YtjlpfpigggdemaaGreatDoorMi22
namespace Go.Proofs.YtjlpfpigggdemaaGreatDoor
set_option maxRecDepth 8000
set_option maxHeartbeats 4000000
open Go.RowKit Va Uo
set_option linter.all false
theorem zij (ao : Option Addr) (n cap : Nat) (ad : Option Addr) (m dcap : Nat) (os : List Od) (ds : List Ds) (x : Dd) (w : World) (hR : Cp.CRw w (.slice ao n cap) (.slice ad m dcap) os ds) (hc : ji os ds = true) :
  Calls Tryz.prog 28 #[.agg #[.slice ao n cap, .slice ad m dcap], aDd x] w (BehP os ds x w) := by
 cases hx : ddB x with
 | false => exact zlf ao n cap ad m dcap os ds x w hR hc hx
 | true =>
  by_cases h1 : x.k = 1
  ·exact zlm ao n cap ad m dcap os ds x w hR hc hx h1 (fun base W a1 c1 a2 c2 h2 h3 h4 h5 h6 => zk2 _ _ os ds base x W h2 h3 (by omega) h4 h5 h6)
  ·by_cases h5 : x.k = 5
   ·exact zkj ao n cap ad m dcap os ds x w hR hc hx h5
   ·have hk : x.k = 2 ∨ x.k = 3 ∨ x.k = 4 := by
     by_cases q : x.k = 2 ∨ x.k = 3 ∨ x.k = 4
     ·exact q
     ·unfold ddB at hx
      rw [if_neg h1, if_neg q, if_neg h5] at hx
      cases hx
    exact zj3 ao n cap ad m dcap os ds x w hR hc hx hk
def FR2 (w0 : World) (B2 B4 B5 : Nat) (va vd : Value) (k c : Int) (L1 : List Od) (L2 : List Ds) (i9 : Nat) (v : Value) (w : World) : Prop :=
 match i9 with
 | 0 => v = .agg #[va, vd]
 | 1 => v = kz k c
 | 2 => v = .int .i64 c
 | 3 => ∃ v1 v2, v = .tuple #[.agg #[v1, v2], .int .i64 c] /\ Cp.zo w w0.heap.size v1 v2 L1 L2
 | 4 => ∃ v1 v2, v = .tuple #[.agg #[v1, v2], .int .i64 c] /\ Cp.zo w w0.heap.size v1 v2 L1 L2
 | 5 => ∃ v1 v2, v = .agg #[v1, v2] /\ Cp.zo w w0.heap.size v1 v2 L1 L2
 | 6 => v = .int .i64 c
 | _ => True
structure IR2 (w0 : World) (B2 B4 B5 : Nat) (va vd : Value) (k c : Int) (L1 : List Od) (L2 : List Ds) (l : Array Bool) (w : World) : Prop where
 bel : Below w0.heap.size w0 w
 p2 : PB w B2 #[va, vd] 27
 r4 : l.getD 7 false = false -> PB w B4 #[.slice none 0 0, .slice none 0 0] 27
 r4t : l.getD 7 false = true -> ∃ v1 v2, PB w B4 #[v1, v2] 27 /\ Cp.zo w w0.heap.size v1 v2 L1 L2
 r5 : l.getD 8 false = false -> PB w B5 #[.int .i64 0] 2
 r5t : l.getD 8 false = true -> PB w B5 #[.int .i64 c] 2
theorem zen {w0 : World} {B2 B4 B5 : Nat} {va vd : Value} {k c : Int} {L1 : List Od} {L2 : List Ds} {l : Array Bool} {w : World} {i : Nat} (h4 : i ≠ 7) (h5 : i ≠ 8) (h : IR2 w0 B2 B4 B5 va vd k c L1 L2 l w) : IR2 w0 B2 B4 B5 va vd k c L1 L2 (l.setIfInBounds i true) w :=
 ⟨h.bel, h.p2, by rw [Rg.jk h4]; exact h.r4, by rw [Rg.jk h4]; exact h.r4t, by rw [Rg.jk h5]; exact h.r5, by rw [Rg.jk h5]; exact h.r5t⟩
theorem callR2 {w0 : World} {B2 B4 B5 : Nat} {va vd : Value} {k c : Int} {L1 : List Od} {L2 : List Ds} {l : Array Bool} {w w' : World} {i : Nat} (h4 : i ≠ 7) (h5 : i ≠ 8) (h : IR2 w0 B2 B4 B5 va vd k c L1 L2 l w) (hb : Below w.heap.size w w') : IR2 w0 B2 B4 B5 va vd k c L1 L2 (l.setIfInBounds i true) w' := by
 refine ⟨h.bel.trans (hb.mono h.bel.size), h.p2.below hb, ?_, ?_, ?_, ?_⟩
 ·rw [Rg.jk h4]; exact fun q => (h.r4 q).below hb
 ·rw [Rg.jk h4]; exact fun q => by obtain ⟨v1, v2, g1, g2⟩ := h.r4t q; exact ⟨v1, v2, g1.below hb, g2.below hb⟩
 ·rw [Rg.jk h5]; exact fun q => (h.r5 q).below hb
 ·rw [Rg.jk h5]; exact fun q => (h.r5t q).below hb
theorem keepR2 {w0 : World} {B2 B4 B5 : Nat} {va vd : Value} {k c : Int} {L1 : List Od} {L2 : List Ds} {w w' : World} (hb : Below w.heap.size w w') (k9 : Nat) (y : Value) (h : FR2 w0 B2 B4 B5 va vd k c L1 L2 k9 y w) : FR2 w0 B2 B4 B5 va vd k c L1 L2 k9 y w' := by
 unfold FR2 at *
 split at h <;> first
  | exact h
  | (obtain ⟨v1, v2, g1, g2⟩ := h; exact ⟨v1, v2, g1, g2.below hb⟩)
theorem zaf {w : World} {base B t : Nat} {vs : Array Value} {v1 v2 : Value} {L1 : List Od} {L2 : List Ds} (h : Cp.zo w base v1 v2 L1 L2) (hp : PB w B vs t) (h1 : t ≠ 38) (h2 : t ≠ 35) (j : Nat) (u : Value) : Cp.zo (w.setCell ⟨B, j, none⟩ u) base v1 v2 L1 L2 :=
 ⟨Cp.jo h.1 (jb h.1 hp h1) j u, Cp.jo h.2 (jb h.2 hp h2) j u⟩
theorem zfs {w0 : World} {B2 B4 B5 : Nat} {va vd : Value} {k c : Int} {L1 : List Od} {L2 : List Ds} {w : World} {B t : Nat} {vs : Array Value} (hp : PB w B vs t) (h1 : t ≠ 38) (h2 : t ≠ 35) (j : Nat) (u : Value) (k9 : Nat) (y : Value) (h : FR2 w0 B2 B4 B5 va vd k c L1 L2 k9 y w) : FR2 w0 B2 B4 B5 va vd k c L1 L2 k9 y (w.setCell ⟨B, j, none⟩ u) := by
 unfold FR2 at *
 split at h <;> first
  | exact h
  | (obtain ⟨v1, v2, g1, g2⟩ := h; exact ⟨v1, v2, g1, zaf g2 hp h1 h2 j u⟩)
theorem zcj : (Rg.opsOf Tryz.f25 2).size = 9 := by kernel_rfl
theorem dR2_7 : Rg.ja (Rg.opsOf Tryz.f25 2) 7 = none := by kernel_rfl
theorem dR2_8 : Rg.ja (Rg.opsOf Tryz.f25 2) 8 = none := by kernel_rfl
theorem pnR2 (a : Act) (v : Value) : a.put none v = a := rfl
theorem layR2 {a b : Act} (hf : Rg.Fr (Rg.opsOf Tryz.f25 2) a b) : b = Rg.fl (Rg.opsOf Tryz.f25 2) b 0 [some 8, some 9, some 10, some 11, some 7, some 12, some 13, none, none] a := Rg.ql _ (by kernel_rfl) hf
set_option maxRecDepth 20000 in
set_option maxHeartbeats 16000000 in
theorem regR2 {Q : Exit -> Act -> World -> Prop} {a : Act} {w1 : World} {w0 : World} {B2 B4 B5 : Nat} {va vd : Value} {k c : Int} {L1 : List Od} {L2 : List Ds} (ha : a.tmps.size = 14)
  (k0 : a.tmps[0]? = some (.pointer (some ⟨B2, 0, none⟩))) (k1 : a.tmps[1]? = some (.pointer (some ⟨B4, 0, none⟩))) (k2 : a.tmps[2]? = some (.pointer (some ⟨B5, 0, none⟩))) (k3 : a.tmps[3]? = some (kz k c))
  (hb : Below w0.heap.size w0 w1) (h2 : PB w1 B2 #[va, vd] 27) (h4 : PB w1 B4 #[.slice none 0 0, .slice none 0 0] 27) (h5 : PB w1 B5 #[.int .i64 0] 2) (ho : w0.heap.size <= B4 /\ w0.heap.size <= B5 /\ B2 ≠ B4 /\ B2 ≠ B5 /\ B4 ≠ B5)
  (hCO : ∀ W, Below w0.heap.size w0 W -> Calls Tryz.prog 27 #[kz k c] W fun e w' => e = .returned (.int .i64 c) /\ Below W.heap.size W w')
  (hRE : ∀ W, Below w0.heap.size w0 W -> Calls Tryz.prog 26 #[.agg #[va, vd], .int .i64 c] W (zch L1 L2 c W))
  (hend : ∀ b' w' v1 v2, Rg.Fr (Rg.opsOf Tryz.f25 2) a b' -> Below w0.heap.size w0 w' -> PB w' B4 #[v1, v2] 27 -> Cp.zo w' w0.heap.size v1 v2 L1 L2 -> PB w' B5 #[.int .i64 c] 2 -> Q .normal b' w') :
  (Code.region 2 (Rg.opsOf Tryz.f25 2) true).wp Tryz.prog Q a w1 := by
 refine Rg.zeu (by kernel_rfl) (IR2 w0 B2 B4 B5 va vd k c L1 L2) (FR2 w0 B2 B4 B5 va vd k c L1 L2) (by rw [ha, zcj]; kernel_rfl) ⟨jq hb, h2.drewN 1, fun _ => h4.drewN 1, fun h => (by rw [Rg.zaz] at h; cases h), fun _ => h5.drewN 1, fun h => (by rw [Rg.zaz] at h; cases h)⟩ ?_ ?_
 case refine_2 =>
  intro l b' w' hf hall hI hA
  rw [zcj] at hall
  obtain ⟨v1, v2, g1, g2⟩ := hI.r4t (hall 7 (by omega))
  exact hend b' w' v1 v2 hf hI.bel g1 g2 (hI.r5t (hall 8 (by omega)))
 case refine_1 =>
  clear hend
  intro i' hi'
  rw [zcj] at hi'
  rcases (show i' = 0 ∨ i' = 1 ∨ i' = 2 ∨ i' = 3 ∨ i' = 4 ∨ i' = 5 ∨ i' = 6 ∨ i' = 7 ∨ i' = 8 by omega) with rfl | rfl | rfl | rfl | rfl | rfl | rfl | rfl | rfl
  ·intro ll bb w' hs hlf hN hf hIl hA
   clear hi'
   have q0 := hf.kept (s := 0) (by rw [zcj]; kernel_rfl) k0
   obtain ⟨e0, e1⟩ := hIl.p2.two
   exact Rg.zf (o := ⟨some 8, Op.load 27 (Operand.tmp 0), _, _, _, _⟩) (x := .agg #[va, vd]) rfl rfl (by clear hA hN hCO hRE; simp only [execOp]; go_simp) ⟨_, rfl, (fun h => by cases h), rfl, zen (by decide) (by decide) hIl, fun _ _ _ h => h⟩
  ·intro ll bb w' hs hlf hN hf hIl hA
   clear hi'
   have q0 := hf.kept (s := 3) (by rw [zcj]; kernel_rfl) k3
   exact Rg.zf (o := ⟨some 9, Op.move (Operand.tmp 3), _, _, _, _⟩) (x := kz k c) rfl rfl (by clear hA hN hCO hRE; simp only [execOp]; go_simp) ⟨_, rfl, (fun h => by cases h), rfl, zen (by decide) (by decide) hIl, fun _ _ _ h => h⟩
  ·intro ll bb w' hs hlf hN hf hIl hA
   clear hi'
   have q9 : bb.tmps[9]? = some _ := hf.tmp (k := 1) rfl (by rw [ha]; decide) (hA 1 (by kernel_rfl))
   refine Rg.jr (o := ⟨some 10, Op.call { callee := Callee.value (Operand.func 27), args := #[Operand.tmp 9], argTypes := _ }, _, _, _, _⟩) rfl rfl (by clear hA hN hCO hRE; simp only [execOp, resolve]; go_simp) (hCO w' hIl.bel) ?_
   rintro e w2 ⟨rfl, hb2⟩
   exact ⟨_, rfl, _, rfl, (fun h => by cases h), rfl, callR2 (by decide) (by decide) hIl hb2, fun k9 y9 _ h => keepR2 hb2 k9 y9 h⟩
  ·intro ll bb w' hs hlf hN hf hIl hA
   clear hi'
   have q8 : bb.tmps[8]? = some _ := hf.tmp (k := 0) rfl (by rw [ha]; decide) (hA 0 (by kernel_rfl))
   have q10 : bb.tmps[10]? = some _ := hf.tmp (k := 2) rfl (by rw [ha]; decide) (hA 2 (by kernel_rfl))
   refine Rg.jr (o := ⟨some 11, Op.call { callee := Callee.value (Operand.func 26), args := #[Operand.tmp 8, Operand.tmp 10], argTypes := _ }, _, _, _, _⟩) rfl rfl (by clear hA hN hCO hRE; simp only [execOp, resolve]; go_simp) (hRE w' hIl.bel) ?_
   rintro e w2 ⟨v1, v2, rfl, hN2, hb2⟩
   exact ⟨_, rfl, _, rfl, (fun h => by cases h), ⟨v1, v2, rfl, zav hN2 hIl.bel.size⟩, callR2 (by decide) (by decide) hIl hb2, fun k9 y9 _ h => keepR2 hb2 k9 y9 h⟩
  ·intro ll bb w' hs hlf hN hf hIl hA
   clear hi'
   obtain ⟨v1, v2, hv, hn⟩ := hA 3 (by kernel_rfl)
   have q11 : bb.tmps[11]? = some _ := hf.tmp (k := 3) rfl (by rw [ha]; decide) hv
   exact Rg.zf (o := ⟨some 7, Op.move (Operand.tmp 11), _, _, _, _⟩) (x := .tuple #[.agg #[v1, v2], .int .i64 c]) rfl rfl (by clear hA hN hCO hRE hv hn; simp only [execOp]; go_simp) ⟨_, rfl, (fun h => by cases h), ⟨v1, v2, rfl, hn⟩, zen (by decide) (by decide) hIl, fun _ _ _ h => h⟩
  ·intro ll bb w' hs hlf hN hf hIl hA
   clear hi'
   obtain ⟨v1, v2, hv, hn⟩ := hA 4 (by kernel_rfl)
   have q7 : bb.tmps[7]? = some _ := hf.tmp (k := 4) rfl (by rw [ha]; decide) hv
   exact Rg.zf (o := ⟨some 12, Op.extract (Operand.tmp 7) 0, _, _, _, _⟩) (x := .agg #[v1, v2]) rfl rfl (by clear hA hN hCO hRE hv hn; simp only [execOp]; go_simp) ⟨_, rfl, (fun h => by cases h), ⟨v1, v2, rfl, hn⟩, zen (by decide) (by decide) hIl, fun _ _ _ h => h⟩
  ·intro ll bb w' hs hlf hN hf hIl hA
   clear hi'
   obtain ⟨v1, v2, hv, hn⟩ := hA 4 (by kernel_rfl)
   have q7 : bb.tmps[7]? = some _ := hf.tmp (k := 4) rfl (by rw [ha]; decide) hv
   exact Rg.zf (o := ⟨some 13, Op.extract (Operand.tmp 7) 1, _, _, _, _⟩) (x := .int .i64 c) rfl rfl (by clear hA hN hCO hRE hv hn; simp only [execOp]; go_simp) ⟨_, rfl, (fun h => by cases h), rfl, zen (by decide) (by decide) hIl, fun _ _ _ h => h⟩
  ·intro ll bb w' hs hlf hN hf hIl hA
   clear hi'
   have hP := hIl.r4 hlf
   obtain ⟨v1, v2, hv, hn⟩ := hA 5 (by kernel_rfl)
   obtain ⟨a1, c1, a2, c2, rfl, rfl⟩ := hn.form
   have qv : bb.tmps[12]? = some _ := hf.tmp (k := 5) rfl (by rw [ha]; decide) hv
   have qp := hf.kept (s := 1) (by rw [zcj]; kernel_rfl) k1
   obtain ⟨e0, e1⟩ := hP.two
   have f0 := hP.frozen 0
   have f1 := hP.frozen 1
   have hP1 : PB (w'.setCell ⟨B4, 0, none⟩ (.slice a1 L1.length c1)) B4 #[.slice a1 L1.length c1, .slice none 0 0] 27 := hP.put 0 (.slice a1 L1.length c1) (by simp)
   have hE : IR2 w0 B2 B4 B5 va vd k c L1 L2 (ll.setIfInBounds 7 true) ((w'.setCell ⟨B4, 0, none⟩ (.slice a1 L1.length c1)).setCell ⟨B4, 1, none⟩ (.slice a2 L2.length c2)) :=
    ⟨(hIl.bel.setCell (p := ⟨B4, 0, none⟩) ho.1 _).setCell (p := ⟨B4, 1, none⟩) ho.1 _, (hIl.p2.far (b := B4) (by omega) 0 (.slice a1 L1.length c1)).far (b := B4) (by omega) 1 (.slice a2 L2.length c2), fun h => (by rw [Rg.set_self hs (by rw [zcj]; decide)] at h; cases h),
     fun _ => ⟨(.slice a1 L1.length c1), (.slice a2 L2.length c2), hP1.put 1 (.slice a2 L2.length c2) (by simp), zaf (zaf hn hP (by decide) (by decide) 0 (.slice a1 L1.length c1)) hP1 (by decide) (by decide) 1 (.slice a2 L2.length c2)⟩,
     fun h => ((hIl.r5 (by rwa [Rg.jk (by decide)] at h)).far (b := B4) (by omega) 0 (.slice a1 L1.length c1)).far (b := B4) (by omega) 1 (.slice a2 L2.length c2), fun h => ((hIl.r5t (by rwa [Rg.jk (by decide)] at h)).far (b := B4) (by omega) 0 (.slice a1 L1.length c1)).far (b := B4) (by omega) 1 (.slice a2 L2.length c2)⟩
   have hS : ∀ k9 y9, FR2 w0 B2 B4 B5 va vd k c L1 L2 k9 y9 w' -> FR2 w0 B2 B4 B5 va vd k c L1 L2 k9 y9 ((w'.setCell ⟨B4, 0, none⟩ (.slice a1 L1.length c1)).setCell ⟨B4, 1, none⟩ (.slice a2 L2.length c2)) := fun k9 y9 h => zfs hP1 (by decide) (by decide) 1 (.slice a2 L2.length c2) k9 y9 (zfs hP (by decide) (by decide) 0 (.slice a1 L1.length c1) k9 y9 h)
   clear hA hf hN hIl hP hP1 hCO hRE hv hn
   refine Rg.zaq (o := ⟨none, Op.store 27 (Operand.tmp 1) (Operand.tmp 12), _, _, _, _⟩) (w' := (w'.setCell ⟨B4, 0, none⟩ (.slice a1 L1.length c1)).setCell ⟨B4, 1, none⟩ (.slice a2 L2.length c2)) rfl rfl ?_ ⟨undef, (by rw [dR2_7]), (fun _ => trivial), trivial, hE, fun k y _ h => hS k y h⟩
   clear hE hS
   simp only [execOp]
   go_simp
  ·intro ll bb w' hs hlf hN hf hIl hA
   clear hi'
   have hP := hIl.r5 hlf
   have qv : bb.tmps[13]? = some _ := hf.tmp (k := 6) rfl (by rw [ha]; decide) (hA 6 (by kernel_rfl))
   have qp := hf.kept (s := 2) (by rw [zcj]; kernel_rfl) k2
   have e0 : w'.cell? ⟨B5, 0, none⟩ = some (.int .i64 0) := hP.cell 0
   have f0 := hP.frozen 0
   have hE : IR2 w0 B2 B4 B5 va vd k c L1 L2 (ll.setIfInBounds 8 true) (w'.setCell ⟨B5, 0, none⟩ (.int .i64 c)) :=
    ⟨hIl.bel.setCell (p := ⟨B5, 0, none⟩) ho.2.1 _, hIl.p2.far (b := B5) (by omega) 0 _,
     fun h => (hIl.r4 (by rwa [Rg.jk (by decide)] at h)).far (b := B5) (by omega) 0 _, fun h => by
      obtain ⟨v1, v2, g1, g2⟩ := hIl.r4t (by rwa [Rg.jk (by decide)] at h)
      exact ⟨v1, v2, g1.far (b := B5) (by omega) 0 _, zaf g2 hP (by decide) (by decide) 0 _⟩,
     fun h => (by rw [Rg.set_self hs (by rw [zcj]; decide)] at h; cases h), fun _ => hP.put 0 (.int .i64 c) (by simp)⟩
   have hS : ∀ k9 y9, FR2 w0 B2 B4 B5 va vd k c L1 L2 k9 y9 w' -> FR2 w0 B2 B4 B5 va vd k c L1 L2 k9 y9 (w'.setCell ⟨B5, 0, none⟩ (.int .i64 c)) := fun k9 y9 h => zfs hP (by decide) (by decide) 0 _ k9 y9 h
   clear hA hf hN hIl hP hCO hRE
   refine Rg.zaq (o := ⟨none, Op.store 2 (Operand.tmp 2) (Operand.tmp 13), _, _, _, _⟩) (w' := w'.setCell ⟨B5, 0, none⟩ (.int .i64 c)) rfl rfl ?_ ⟨undef, (by rw [dR2_8]), (fun _ => trivial), trivial, hE, fun k y _ h => hS k y h⟩
   clear hE hS
   simp only [execOp]
   go_simp
end Go.Proofs.YtjlpfpigggdemaaGreatDoor
namespace Go.Proofs.YtjlpfpigggdemaaGreatDoor
open Go.RowKit Va Uo
set_option linter.all false
set_option maxRecDepth 20000 in
set_option maxHeartbeats 16000000 in
theorem zjf {w0 : World} {B2 B4 B5 : Nat} {va vd : Value} {k c : Int} {L1 : List Od} {L2 : List Ds} (older : List PanicEntry) (w : World)
  (hb : Below w0.heap.size w0 w) (h2 : PB w B2 #[va, vd] 27) (h4 : PB w B4 #[.slice none 0 0, .slice none 0 0] 27) (h5 : PB w B5 #[.int .i64 0] 2) (ho : w0.heap.size <= B4 /\ w0.heap.size <= B5 /\ B2 ≠ B4 /\ B2 ≠ B5 /\ B4 ≠ B5)
  (hCO : ∀ W, Below w0.heap.size w0 W -> Calls Tryz.prog 27 #[kz k c] W fun e w' => e = .returned (.int .i64 c) /\ Below W.heap.size W w')
  (hRE : ∀ W, Below w0.heap.size w0 W -> Calls Tryz.prog 26 #[.agg #[va, vd], .int .i64 c] W (zch L1 L2 c W)) :
  CallsD Tryz.prog 25 #[.pointer (some ⟨B2, 0, none⟩), .pointer (some ⟨B4, 0, none⟩), .pointer (some ⟨B5, 0, none⟩)] (.panicking ({ v := kz k c, recovered := false } :: older)) w fun e u' w' =>
   e = .returned (.tuple #[]) /\ u' = .panicking ({ v := kz k c, recovered := true } :: older) /\ ∃ v1 v2, Below w0.heap.size w0 w' /\ PB w' B4 #[v1, v2] 27 /\ Cp.zo w' w0.heap.size v1 v2 L1 L2 /\ PB w' B5 #[.int .i64 c] 2 := by
 obtain ⟨pv, hpv⟩ : ∃ pv, kz k c = .iface 115 pv := ⟨_, rfl⟩
 rw [hpv]
 refine callsD_of_wpS Tryz.func25 rfl fun c₀ cs hu => ?_
 apply wpS_seq
 apply wpS_region
 simp [wpOpsS, go_sem, recoverD, hu, Tryz.ntmps25, Exit.thenS]
 refine wpS_of_wp ?_
 generalize hQ : (fun e a' w' => bodyPostS Tryz.prog Tryz.f25 c₀ cs _ e a' _ w') = Q
 rw [show (#[Value.pointer (some ⟨B2, 0, none⟩), Value.pointer (some ⟨B4, 0, none⟩), Value.pointer (some ⟨B5, 0, none⟩)] ++ ((Array.replicate 11 undef).setIfInBounds 1 (Value.iface 115 pv)).setIfInBounds 0 (Value.iface 115 pv)) = #[Value.pointer (some ⟨B2, 0, none⟩), Value.pointer (some ⟨B4, 0, none⟩), Value.pointer (some ⟨B5, 0, none⟩), Value.iface 115 pv, Value.iface 115 pv, undef, undef, undef, undef, undef, undef, undef, undef, undef] from rfl]
 go_upto_region 2 with fail
 refine regR2 (k := k) (c := c) (L1 := L1) (L2 := L2) (va := va) (vd := vd) rfl rfl rfl rfl (by rw [hpv]; rfl) hb h2 h4 h5 ho hCO hRE ?_
 intro b' w' v1 v2 hf hb' g1 g2 g3
 (rw [layR2 hf]; simp only [Rg.fl0, Rg.fl1, Rg.fl2, Nat.reduceAdd])
 clear hf
 subst hQ
 simp [bodyPostS, results, Tryz.results25, Act.put]
 exact ⟨hb', v1, v2, g1, g2, g3⟩
theorem zlb (p q r : Value) (w : World) :
  CallsD Tryz.prog 25 #[p, q, r] .returning w fun e u' w' => e = .returned (.tuple #[]) /\ u' = .returning /\ w' = w := by
 refine callsD_of_wpS Tryz.func25 rfl fun c₀ cs hu => ?_
 apply wpS_seq
 apply wpS_region
 simp [wpOpsS, go_sem, recoverD, hu, Tryz.ntmps25, Exit.thenS]
 apply wpS_seq
 apply wpS_region
 simp [wpOpsS, go_sem, Exit.thenS]
 refine wpS_cond (t := false) (by simp [Act.eval, Array.replicate]) ?_
 simp only [Bool.false_eq_true, if_false]
 refine wpS_of_wp (wp_skip ?_)
 cases c₀
 simp_all [bodyPostS, results, Tryz.results25]
theorem zhl {P : Program} {fn : Func} {p u : Tmp} {ty tz : TypeId} (h : fn.results = #[.cell p ty, .cell u tz]) (tmps : Array Value) (w : World) (g g2 : Nat) (t t2 : TypeId) (cs : Array Value) (c : Int) (d : TypeDesc) (k : IntKind)
  (hp : tmps.getD p undef = .pointer (some ⟨g, 0, none⟩)) (hg : PB w g cs t) (hu : P.underlying ty = some d) (hd : (match d with | .struct _ | .array _ _ => true | _ => false) = true) (hi : (P.info? ty).map (·.size) = some cs.size)
  (hp2 : tmps.getD u undef = .pointer (some ⟨g2, 0, none⟩)) (hg2 : PB w g2 #[.int .i64 c] t2) (hu2 : P.underlying tz = some (.int k)) :
  (results fn tmps).run P w = .ok (.tuple #[.agg cs, .int .i64 c]) w := by
 have hl := run_loadVar_row (P := P) w g t ty cs _ d hg hu hd hi
 have hc : w.cell? ⟨g2, 0, none⟩ = some (.int .i64 c) := hg2.cell 0
 have hl2 : (loadVar tz ⟨g2, 0, none⟩).run P w = .ok (.int .i64 c) w := by
  simp [loadVar, isAgg, run_underlying hu2, hc]
 simp only [results, h]
 have hp' : tmps[p]?.getD undef = .pointer (some ⟨g, 0, none⟩) := by simpa [Array.getD_eq_getD_getElem?] using hp
 have hp2' : tmps[u]?.getD undef = .pointer (some ⟨g2, 0, none⟩) := by simpa [Array.getD_eq_getD_getElem?] using hp2
 simp [Sem.run_bind, Result.andThen, hp', hp2', asAddr, hl, hl2]
set_option maxRecDepth 20000 in
set_option maxHeartbeats 16000000 in
theorem zi8 (ao : Option Addr) (n cap : Nat) (ad : Option Addr) (m dcap : Nat) (x : Dd) (c : Int) (L1 : List Od) (L2 : List Ds) (w : World)
  (hB : ∀ W, Below w.heap.size w W -> Calls Tryz.prog 28 #[.agg #[.slice ao n cap, .slice ad m dcap], aDd x] W fun e w' => e = .panicked [{ v := kz x.k c, recovered := false }] /\ Below W.heap.size W w')
  (hCO : ∀ W, Below w.heap.size w W -> Calls Tryz.prog 27 #[kz x.k c] W fun e w' => e = .returned (.int .i64 c) /\ Below W.heap.size W w')
  (hRE : ∀ W, Below w.heap.size w W -> Calls Tryz.prog 26 #[.agg #[.slice ao n cap, .slice ad m dcap], .int .i64 c] W (zch L1 L2 c W)) :
  Calls Tryz.prog 8 #[.agg #[.slice ao n cap, .slice ad m dcap], aDd x] w (zch L1 L2 c w) := by
 have hmf : ∀ (fn : Fn) (first cap : Array Value) (w : World), (Instr.makeFunc fn first cap).run Tryz.prog w = .ok (.func fn first cap) w := fun _ _ _ _ => rfl
 have hb0 : Below w.heap.size w ((((w.alloc (.cells #[.slice ao n cap, .slice ad m dcap] 27)).alloc (.cells #[.int .i64 x.k, .int .i64 x.o.id, .int .i64 x.o.p, .int .i64 x.o.d, .int .i64 x.o.n, .int .i64 x.o.f, .int .i64 x.o.e, .int .i64 x.o.c, .int .i64 x.o.s, .bool x.o.two, .int .i64 x.id, .int .i64 x.p, .int .i64 x.d, .int .i64 x.n, .int .i64 x.m, .int .i64 x.b, .int .i64 x.a] 40)).alloc (.cells #[.slice none 0 0, .slice none 0 0] 27)).alloc (.cells #[.int .i64 0] 2)) := ((((Below.refl _ _).alloc (Nat.le_refl _) _).alloc (by simp) _).alloc (by simp; omega) _).alloc (by simp; omega) _
 have P2 := (((PB.new w #[.slice ao n cap, .slice ad m dcap] 27).alloc (.cells #[.int .i64 x.k, .int .i64 x.o.id, .int .i64 x.o.p, .int .i64 x.o.d, .int .i64 x.o.n, .int .i64 x.o.f, .int .i64 x.o.e, .int .i64 x.o.c, .int .i64 x.o.s, .bool x.o.two, .int .i64 x.id, .int .i64 x.p, .int .i64 x.d, .int .i64 x.n, .int .i64 x.m, .int .i64 x.b, .int .i64 x.a] 40)).alloc (.cells #[.slice none 0 0, .slice none 0 0] 27)).alloc (.cells #[.int .i64 0] 2)
 have P3 := ((PB.new (w.alloc (.cells #[.slice ao n cap, .slice ad m dcap] 27)) #[.int .i64 x.k, .int .i64 x.o.id, .int .i64 x.o.p, .int .i64 x.o.d, .int .i64 x.o.n, .int .i64 x.o.f, .int .i64 x.o.e, .int .i64 x.o.c, .int .i64 x.o.s, .bool x.o.two, .int .i64 x.id, .int .i64 x.p, .int .i64 x.d, .int .i64 x.n, .int .i64 x.m, .int .i64 x.b, .int .i64 x.a] 40).alloc (.cells #[.slice none 0 0, .slice none 0 0] 27)).alloc (.cells #[.int .i64 0] 2)
 have P4 := (PB.new ((w.alloc (.cells #[.slice ao n cap, .slice ad m dcap] 27)).alloc (.cells #[.int .i64 x.k, .int .i64 x.o.id, .int .i64 x.o.p, .int .i64 x.o.d, .int .i64 x.o.n, .int .i64 x.o.f, .int .i64 x.o.e, .int .i64 x.o.c, .int .i64 x.o.s, .bool x.o.two, .int .i64 x.id, .int .i64 x.p, .int .i64 x.d, .int .i64 x.n, .int .i64 x.m, .int .i64 x.b, .int .i64 x.a] 40)) #[.slice none 0 0, .slice none 0 0] 27).alloc (.cells #[.int .i64 0] 2)
 have P5 := PB.new (((w.alloc (.cells #[.slice ao n cap, .slice ad m dcap] 27)).alloc (.cells #[.int .i64 x.k, .int .i64 x.o.id, .int .i64 x.o.p, .int .i64 x.o.d, .int .i64 x.o.n, .int .i64 x.o.f, .int .i64 x.o.e, .int .i64 x.o.c, .int .i64 x.o.s, .bool x.o.two, .int .i64 x.id, .int .i64 x.p, .int .i64 x.d, .int .i64 x.n, .int .i64 x.m, .int .i64 x.b, .int .i64 x.a] 40)).alloc (.cells #[.slice none 0 0, .slice none 0 0] 27)) #[.int .i64 0] 2
 simp only [World.size_alloc] at P3 P4 P5
 have HB := hidden hB
 clear hB
 unfold aDd at *
 go_enter_defers Tryz.func8, Tryz.ntmps8
 go_upto_region 1 with fail
 generalize (((w.alloc (.cells #[.slice ao n cap, .slice ad m dcap] 27)).alloc (.cells #[.int .i64 x.k, .int .i64 x.o.id, .int .i64 x.o.p, .int .i64 x.o.d, .int .i64 x.o.n, .int .i64 x.o.f, .int .i64 x.o.e, .int .i64 x.o.c, .int .i64 x.o.s, .bool x.o.two, .int .i64 x.id, .int .i64 x.p, .int .i64 x.d, .int .i64 x.n, .int .i64 x.m, .int .i64 x.b, .int .i64 x.a] 40)).alloc (.cells #[.slice none 0 0, .slice none 0 0] 27)).alloc (.cells #[.int .i64 0] 2) = w1 at *
 obtain ⟨e0, e1⟩ := P2.two
 have hB1 := HB.out w1 hb0
 go_wp2_with (first | (refine wpList_load_row rfl 40 (.tmp 3) rfl (w.heap.size + 1) rfl 40 #[.int .i64 x.k, .int .i64 x.o.id, .int .i64 x.o.p, .int .i64 x.o.d, .int .i64 x.o.n, .int .i64 x.o.f, .int .i64 x.o.e, .int .i64 x.o.c, .int .i64 x.o.s, .bool x.o.two, .int .i64 x.id, .int .i64 x.p, .int .i64 x.d, .int .i64 x.n, .int .i64 x.m, .int .i64 x.b, .int .i64 x.a] (0, 0) _ P3 Tryz.underlying40 rfl (by kernel_rfl) ?_) | (go_at_call 28; refine hB1.mono ?_; rintro e w2 ⟨rfl, hb2⟩))
 have b2 := hb0.trans (hb2.mono hb0.size)
 refine leaves_cons (f := 25) (args := #[.pointer (some ⟨w.heap.size, 0, none⟩), .pointer (some ⟨w.heap.size + 1 + 1, 0, none⟩), .pointer (some ⟨w.heap.size + 1 + 1 + 1, 0, none⟩)]) (by simp) (by simp [go_sem]) ?_
 refine (zjf (w0 := w) (va := .slice ao n cap) (vd := .slice ad m dcap) (k := x.k) (c := c) (L1 := L1) (L2 := L2) [] w2 b2 (P2.below hb2) (P4.below hb2) (P5.below hb2) (by omega) hCO hRE).mono ?_
 rintro e u' w'' ⟨rfl, rfl, v1, v2, hb', g1, g2, g3⟩
 simp only [settle, List.dropWhile_nil]
 exact ⟨_, zhl Tryz.results8 _ _ (w.heap.size + 1 + 1) (w.heap.size + 1 + 1 + 1) 27 2 _ c _ .i64 rfl g1 Tryz.underlying27 rfl (by kernel_rfl) rfl g3 Tryz.underlying2, v1, v2, rfl, g2, hb'⟩
end Go.Proofs.YtjlpfpigggdemaaGreatDoor
namespace Go.Proofs.YtjlpfpigggdemaaGreatDoor
open Go.RowKit Va Uo
set_option linter.all false
def Left (os : List Od) (ds : List Ds) (c : Int) (w : World) (e : Ending) (w' : World) : Prop :=
 ∃ v1 v2, e = .returned (.tuple #[.agg #[v1, v2], .int .i64 c]) /\ Cp.zo w' w.heap.size v1 v2 os ds /\ Below w.heap.size w w'
structure BX (w W : World) (B2 B3 B4 B6 : Nat) (ao ad : Option Addr) (n cap m dcap : Nat) (x : Dd) (v1 v2 : Value) : Prop where
 b2 : PB W B2 #[.slice ao n cap, .slice ad m dcap] 27
 b3 : PB W B3 #[.int .i64 x.k, .int .i64 x.o.id, .int .i64 x.o.p, .int .i64 x.o.d, .int .i64 x.o.n, .int .i64 x.o.f, .int .i64 x.o.e, .int .i64 x.o.c, .int .i64 x.o.s, .bool x.o.two, .int .i64 x.id, .int .i64 x.p, .int .i64 x.d, .int .i64 x.n, .int .i64 x.m, .int .i64 x.b, .int .i64 x.a] 40
 b4 : PB W B4 #[.slice none 0 0, .slice none 0 0] 27
 b6 : PB W B6 #[v1, v2] 27
 below : Below w.heap.size w W
 l2 : w.heap.size <= B2
 l3 : w.heap.size <= B3
 l4 : w.heap.size <= B4
 l6 : w.heap.size <= B6
 n26 : B6 ≠ B2
 n36 : B6 ≠ B3
 n46 : B6 ≠ B4
theorem Cp.zo.zbr {w : World} {base b2 : Nat} {vb vs : Value} {B : List Od} {S : List Ds} (h : Cp.zo w base vb vs B S) (hb : b2 <= base) : Cp.zo w b2 vb vs B S := ⟨Cp.own_base h.1 hb, Cp.own_base h.2 hb⟩
theorem zin {P : Program} {fn : Func} {p u : Tmp} {ty : TypeId} (h : fn.results = #[.cell p ty, .tmp u]) (tmps : Array Value) (w : World) (g : Nat) (t : TypeId) (cs : Array Value) (d : TypeDesc)
  (hp : tmps.getD p undef = .pointer (some ⟨g, 0, none⟩)) (hg : PB w g cs t) (hu : P.underlying ty = some d) (hd : (match d with | .struct _ | .array _ _ => true | _ => false) = true) (hi : (P.info? ty).map (·.size) = some cs.size) :
  (results fn tmps).run P w = .ok (.tuple #[.agg cs, tmps.getD u undef]) w := by
 have hl := run_loadVar_row (P := P) w g t ty cs _ d hg hu hd hi
 rw [results_cell_tmp h, hp]
 simp [asAddr, hl, Result.andThen]
theorem zaw {w W : World} {tm : Array Value} {B2 B3 B4 B6 : Nat} {ao ad : Option Addr} {n cap m dcap : Nat} {x : Dd} {v1 v2 : Value} {L1 : List Od} {L2 : List Ds} {c : Int} (hx : BX w W B2 B3 B4 B6 ao ad n cap m dcap x v1 v2) (hN : Cp.zo W w.heap.size v1 v2 L1 L2) (h4 : tm.getD 4 undef = .pointer (some ⟨B4, 0, none⟩)) (h5 : tm.getD 5 undef = .int .i64 c) :
  bodyPost Tryz.prog Tryz.f50 (Left L1 L2 c w) Exit.ret ⟨tm, []⟩ ((W.setCell ⟨B4, 0, none⟩ v1).setCell ⟨B4, 1, none⟩ v2) := by
 have p4 : PB ((W.setCell ⟨B4, 0, none⟩ v1).setCell ⟨B4, 1, none⟩ v2) B4 #[v1, v2] 27 := (hx.b4.set 0 v1).set 1 v2
 refine bodyPost_ret (zin Tryz.results50 _ _ B4 27 _ _ h4 p4 Tryz.underlying27 rfl (by kernel_rfl)) rfl ⟨v1, v2, by rw [h5], ⟨?_, ?_⟩, (hx.below.setCell (p := ⟨B4, 0, none⟩) hx.l4 _).setCell (p := ⟨B4, 1, none⟩) hx.l4 _⟩
 ·exact Cp.jo (Cp.jo hN.1 (jb hN.1 hx.b4 (by decide)) _ _) (jb hN.1 hx.b4 (by decide)) _ _
 ·exact Cp.jo (Cp.jo hN.2 (jb hN.2 hx.b4 (by decide)) _ _) (jb hN.2 hx.b4 (by decide)) _ _
theorem BX.step {w W W' : World} {B2 B3 B4 B6 : Nat} {ao ad : Option Addr} {n cap m dcap : Nat} {x : Dd} {v1 v2 : Value} (h : BX w W B2 B3 B4 B6 ao ad n cap m dcap x v1 v2) (hb : Below W.heap.size W W') : BX w W' B2 B3 B4 B6 ao ad n cap m dcap x v1 v2 :=
 ⟨h.b2.below hb, h.b3.below hb, h.b4.below hb, h.b6.below hb, onto h.below hb, h.l2, h.l3, h.l4, h.l6, h.n26, h.n36, h.n46⟩
set_option maxRecDepth 20000 in
set_option maxHeartbeats 16000000 in
theorem sdo_bad (ao : Option Addr) (cap : Nat) (ad : Option Addr) (dcap : Nat) (os : List Od) (ds : List Ds) (x : Dd) (w : World) (h : Cp.CRw w (.slice ao os.length cap) (.slice ad ds.length dcap) os ds) (hn : os.length <= 100) (hm : ds.length <= 500) (hx : ddB x = false) :
  Calls Tryz.prog 50 #[.agg #[.slice ao os.length cap, .slice ad ds.length dcap], aDd x] w (Left os ds 2 w) := by
 have HH := hidden h
 clear h
 obtain ⟨hb0, p2, p3, p4⟩ := yh w #[.slice ao os.length cap, .slice ad ds.length dcap] #[.int .i64 x.k, .int .i64 x.o.id, .int .i64 x.o.p, .int .i64 x.o.d, .int .i64 x.o.n, .int .i64 x.o.f, .int .i64 x.o.e, .int .i64 x.o.c, .int .i64 x.o.s, .bool x.o.two, .int .i64 x.id, .int .i64 x.p, .int .i64 x.d, .int .i64 x.n, .int .i64 x.m, .int .i64 x.b, .int .i64 x.a] #[.slice none 0 0, .slice none 0 0] 27 40 27
 unfold aDd
 go_enter Tryz.func50, Tryz.ntmps50
 go_upto_region 1 with fail
 generalize (((w.alloc (.cells #[.slice ao os.length cap, .slice ad ds.length dcap] 27)).alloc (.cells #[.int .i64 x.k, .int .i64 x.o.id, .int .i64 x.o.p, .int .i64 x.o.d, .int .i64 x.o.n, .int .i64 x.o.f, .int .i64 x.o.e, .int .i64 x.o.c, .int .i64 x.o.s, .bool x.o.two, .int .i64 x.id, .int .i64 x.p, .int .i64 x.d, .int .i64 x.n, .int .i64 x.m, .int .i64 x.b, .int .i64 x.a] 40)).alloc (.cells #[.slice none 0 0, .slice none 0 0] 27)) = W0 at *
 have l0 := hb0.size
 have g2 : w.heap.size <= w.heap.size := Nat.le_refl _
 have g3 : w.heap.size <= w.heap.size + 1 := Nat.le_succ _
 have g4 : w.heap.size <= w.heap.size + 1 + 1 := by omega
 have z2 := p2.lt
 have z3 := p3.lt
 have z4 := p4.lt
 generalize hB3 : w.heap.size + 1 = B3 at *
 generalize hB4 : B3 + 1 = B4 at *
 generalize hB2 : w.heap.size = B2 at *
 have e20 : W0.cell? ⟨B2, 0, none⟩ = some _ := p2.cell 0
 have e21 : W0.cell? ⟨B2, 1, none⟩ = some _ := p2.cell 1
 have HC := hidden (Cp.zb5 ao ad os.length cap ds.length dcap os ds W0 (HH.out.below (hB2.symm ▸ hb0)) (by omega) (by omega))
 go_upto_region 2 with ((with_reducible refine HC.out.mono ?_); rintro e w1 ⟨a1, c1, a2, c2, rfl, hN1, hb1⟩)
 have hW1 : Below w1.heap.size w1 (w1.alloc (.cells #[.slice a1 os.length c1, .slice a2 ds.length c2] 27)) := (Below.refl _ _).alloc (Nat.le_refl _) _
 have p6 : PB (w1.alloc (.cells #[.slice a1 os.length c1, .slice a2 ds.length c2] 27)) w1.heap.size #[.slice a1 os.length c1, .slice a2 ds.length c2] 27 := PB.new _ _ _
 have z1 := hb1.size
 have hbx1 : BX w (w1.alloc (.cells #[.slice a1 os.length c1, .slice a2 ds.length c2] 27)) B2 B3 B4 w1.heap.size ao ad os.length cap ds.length dcap x (.slice a1 os.length c1) (.slice a2 ds.length c2) := by
  refine ⟨(p2.below hb1).below hW1, (p3.below hb1).below hW1, (p4.below hb1).below hW1, p6, ?_, by omega, by omega, by omega, by omega, by omega, by omega, by omega⟩
  rw [hB2]
  exact (hb0.trans (hb1.mono l0)).trans (hW1.mono (by omega))
 have hN2 : Cp.zo (w1.alloc (.cells #[.slice a1 os.length c1, .slice a2 ds.length c2] 27)) w.heap.size (.slice a1 os.length c1) (.slice a2 ds.length c2) os ds := (hN1.below hW1).zbr (by omega)
 have hR1 : Cp.CRw (w1.alloc (.cells #[.slice a1 os.length c1, .slice a2 ds.length c2] 27)) (.slice ao os.length cap) (.slice ad ds.length dcap) os ds := HH.out.below hbx1.below
 clear HC hN1 p6 p2 p3 p4 hb0 e20 e21 HH hb1
 generalize w1.alloc (.cells #[.slice a1 os.length c1, .slice a2 ds.length c2] 27) = W1 at *
 clear hW1 z1 z2 z3 z4 l0 g2 g3 g4
 generalize w1.heap.size = B6 at *
 clear hB3 hB4 hB2
 have HD := hidden (zb1 x W1)
 obtain ⟨e30, ⟨e31, e32, e33, e34, e35, e36, e37, e38, e39⟩, e3a, e3b, e3c, e3d, e3e, e3f, e3g⟩ := hbx1.b3.deed
 have HBX := hidden hbx1
 have HN := hidden hN2
 have HR := hidden hR1
 clear hbx1 hN2 hR1
 unfold aDd at HD
 rw [hx] at HD
 go_upto_region 3 with ((with_reducible refine HD.out.mono ?_); rintro e w2 ⟨rfl, hb2⟩)
 have hbx := HBX.out.step hb2
 have hN := HN.out.below hb2
 have hR := HR.out.below hb2
 clear HBX HN HR HD hb2 e30 e31 e32 e33 e34 e35 e36 e37 e38 e39 e3a e3b e3c e3d e3e e3f e3g
 have e60 : w2.cell? ⟨B6, 0, none⟩ = some _ := hbx.b6.cell 0
 have e61 : w2.cell? ⟨B6, 1, none⟩ = some _ := hbx.b6.cell 1
 have e40 : w2.cell? ⟨B4, 0, none⟩ = some _ := hbx.b4.cell 0
 have e41 : w2.cell? ⟨B4, 1, none⟩ = some _ := hbx.b4.cell 1
 have f40 := hbx.b4.frozen 0
 have f41 := hbx.b4.frozen 1
 go_wp2_with fail
 exact zaw hbx hN rfl rfl
end Go.Proofs.YtjlpfpigggdemaaGreatDoor
