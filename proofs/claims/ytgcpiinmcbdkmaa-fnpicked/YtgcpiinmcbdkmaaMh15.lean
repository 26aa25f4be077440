/-
  Merged: Pk6.
-/
import Derived.Test.YtgcpiinmcbdkmaaMh10
import Derived.Test.YtgcpiinmcbdkmaaMh14
namespace Go.Proofs.Ytgcpiinmcbdkmaa
open Go.RowKit Va Bl Pq
set_option linter.all false
set_option maxRecDepth 20000 in
set_option maxHeartbeats 8000000 in
theorem ureverse_any (nd : Nd) (sv : Value) (D : UE → Prop) (G c m a b : Nat) (d : List UE) (fv : Value) (w : World) (h : SU c w G d) (hm : d.length = m) (hmm : m ≤ 100000) (hab : a < b) (hb : b ≤ m) (hF : Fine (ltU nd) D d) (hSl : SlU D) :
    Calls Try.prog 125 #[.slice (some ⟨G, 0, none⟩) m c, .int .i64 a, .int .i64 b, fv] w fun e w' => e = .returned (.tuple #[]) ∧ ∃ d', SU c w' G d' ∧ PO a b d d' ∧ Below G w w' := by
  have HH := hidden h
  have HF := hidden hF
  have HM := hidden hm
  have HSl := hidden hSl
  clear h hm hF hSl
  obtain ⟨b1, hb1⟩ : ∃ b1, b = b1 + 1 := ⟨b - 1, by omega⟩
  have hwb : IntKind.i64.wrap ((b : Int) - 1) = (b1 : Int) := by rw [IntKind.wrap_i64]; omega
  have HB1 := hidden hb1
  go_enter Try.func125, Try.ntmps125
  clear hb1
  go_wp2_with fail
  go_loopw [8, 9] (fun iv jv ws => ∃ (i j : Nat) (e : List UE), iv = .int .i64 i ∧ jv = .int .i64 j ∧ a ≤ i ∧ i ≤ j + 1 ∧ j < b ∧ Hid (SU c ws G e) ∧ Hid (PO a b d e) ∧ Below G w ws) (fun iv jv _ => (intOf jv).toNat + 1 - (intOf iv).toNat)
  case atStart => exact ⟨a, b1, d, rfl, rfl, Nat.le_refl _, by have := HB1.out; omega, by have := HB1.out; omega, HH, PO.refl _ _ _, Below.refl _ _⟩
  case round =>
    obtain ⟨i, j, e, rfl, rfl, hi, hij, hj, hs, hpo, hbw⟩ := hrel
    rename World => ws
    by_cases hlt : i < j
    · have hlti : (i : Int) < (j : Int) := by omega
      have hFe := HF.out.po hpo.out
      have hel : e.length = m := by rw [hpo.out.len]; exact HM.out
      have hi1 : (i : Int) < (m : Int) := by omega
      have hi2 : (j : Int) < (m : Int) := by omega
      have hwj : IntKind.i64.wrap ((j : Int) - 1) = ((j - 1 : Nat) : Int) := by rw [IntKind.wrap_i64]; omega
      have HPO : Hid (PO a b d (Pq.sw e i j)) := hpo.out.trans (PO.sw (by omega) (by omega) (by omega) (by omega) (by omega))
      have hGl := hs.out.lt
      have hxs := HSl.out (at' e (i)) (hFe.all _ (at_mem (by omega)))
      have hys := HSl.out (at' e (j)) (hFe.all _ (at_mem (by omega)))
      have HSW := hidden (hs.out.sw (i := i) (j := j) (by omega) (by omega))
      have HB := hidden (put6_below (put6_below hbw (Nat.le_refl _) (at' e (j)) (o := (i) * 6)) (Nat.le_refl _) (at' e (i)) (o := (j) * 6))
      obtain ⟨p0, p1, p2, p3, p4, p5, p6, p7, p8, p9, p10, p11⟩ := hs.out.at (i := i) (by omega)
      obtain ⟨q0, q1, q2, q3, q4, q5, q6, q7, q8, q9, q10, q11⟩ := hs.out.at (i := j) (by omega)
      clear hs hFe hel hpo hbw
      generalize at' e (i) = x at *
      generalize at' e (j) = y at *
      obtain ⟨xu, xv⟩ := x
      obtain ⟨yu, yv⟩ := y
      obtain ⟨xa, xn, xc, hx2⟩ := hxs
      obtain ⟨ya, yn, yc, hy2⟩ := hys
      dsimp only at hx2 hy2
      subst hx2 hy2
      dsimp only at p0 p1 p2 p3 p4 p5 q0 q1 q2 q3 q4 q5
      go_wp2_with fail
      go_region
      all_goals go_wp2_with fail
      all_goals go_roundw
      case rel => exact ⟨i + 1, j - 1, Pq.sw e i j, by simp, rfl, by omega, by omega, by omega, HSW.out.below (st_drew (Below.refl _ _)), HPO, st_drew HB.out⟩
      case measure => simp [intOf]; omega
    · have hlti : ¬ (i : Int) < (j : Int) := by omega
      go_wp2_with fail
      go_end0
      exact ⟨rfl, e, hs.out, hpo.out, hbw⟩
def FUo1 (G m c : Nat) (x y : UE) (nd : Nd) (sv : Value) (rr : Int) (ja jb : Nat) (i9 : Nat) (v : Value) (w : World) : Prop :=
  match i9 with
  | 0 => v = .func (.func 47) #[.agg #[.int .i64 nd.p, .int .i64 nd.g, sv]] #[]
  | 1 => v = .slice (some ⟨G, 0, none⟩) m c
  | 2 => v = .int .i64 (jb : Nat)
  | 3 => v = .pointer (some ⟨G, (jb) * 6, none⟩)
  | 4 => v = .agg #[.int .i64 x.1.id, .int .i64 x.1.grp, x.2, .int .i64 x.1.til, .int .i64 x.1.st, .int .i64 x.1.fr]
  | 5 => v = .slice (some ⟨G, 0, none⟩) m c
  | 6 => v = .int .i64 (ja : Nat)
  | 7 => v = .pointer (some ⟨G, (ja) * 6, none⟩)
  | 8 => v = .agg #[.int .i64 y.1.id, .int .i64 y.1.grp, y.2, .int .i64 y.1.til, .int .i64 y.1.st, .int .i64 y.1.fr]
  | 9 => v = .int .i64 rr
  | 10 => v = .bool (decide (rr < 0))
  | _ => True
theorem sizeUo1 : (Rg.opsOf Try.f166 1).size = 11 := by kernel_rfl
set_option maxRecDepth 20000 in
set_option maxHeartbeats 8000000 in
theorem regUo1 {Q : Exit → Act → World → Prop} {a : Act} {w9 : World} {G m c : Nat} {x y : UE} {nd : Nd} {sv : Value} {rr : Int} {ja jb : Nat} (ha : a.tmps.size = 32)
    (k2 : a.tmps[2]? = some (.int .i64 (jb : Nat))) (k1 : a.tmps[1]? = some (.int .i64 (ja : Nat))) (k4 : a.tmps[4]? = some (.func (.func 47) #[.agg #[.int .i64 nd.p, .int .i64 nd.g, sv]] #[])) (k0 : a.tmps[0]? = some (.slice (some ⟨G, 0, none⟩) m c)) (hGl : G < w9.heap.size) (hx : UC w9 G ((jb) * 6) x) (hy : UC w9 G ((ja) * 6) y) (hm0 : jb < m) (hm1 : ja < m) (hmm : m ≤ 100000)   (HK : ∀ W, Calls Try.prog 47 #[.agg #[.int .i64 nd.p, .int .i64 nd.g, sv], .agg #[.int .i64 x.1.id, .int .i64 x.1.grp, x.2, .int .i64 x.1.til, .int .i64 x.1.st, .int .i64 x.1.fr], .agg #[.int .i64 y.1.id, .int .i64 y.1.grp, y.2, .int .i64 y.1.til, .int .i64 y.1.st, .int .i64 y.1.fr]] W fun e w' => e = .returned (.int .i64 rr) ∧ Below W.heap.size W w')
    (hend : ∀ b' w', Rg.Fr (Rg.opsOf Try.f166 1) a b' → Below w9.heap.size w9 w' → Rg.out (Rg.opsOf Try.f166 1) b' 10 = .bool (decide (rr < 0)) → Q .normal b' w') :
    (Code.region 1 (Rg.opsOf Try.f166 1) true).wp Try.prog Q a w9 := by
  refine Rg.region_set3 (by kernel_rfl) (fun _ w' => Below w9.heap.size w9 w') (FUo1 G m c x y nd sv rr ja jb) (by rw [ha, sizeUo1]; kernel_rfl) (st_drew (Below.refl _ _)) ?_ ?_
  case refine_2 =>
    intro l b' w' hf hall hI hA
    rw [sizeUo1] at hA
    exact hend b' w' hf hI (hA 10 (by decide))
  case refine_1 =>
    clear hend
    have HS : ∀ {w w' : World}, Below w.heap.size w w' → ∀ k9 y9, FUo1 G m c x y nd sv rr ja jb k9 y9 w → FUo1 G m c x y nd sv rr ja jb k9 y9 w' := fun hb k9 y9 h => by
      unfold FUo1 at *
      split at h <;> exact h
    intro i' hi'
    rw [sizeUo1] at hi'
    rcases (show i' = 0 ∨ i' = 1 ∨ i' = 2 ∨ i' = 3 ∨ i' = 4 ∨ i' = 5 ∨ i' = 6 ∨ i' = 7 ∨ i' = 8 ∨ i' = 9 ∨ i' = 10 by omega) with rfl | rfl | rfl | rfl | rfl | rfl | rfl | rfl | rfl | rfl | rfl
    · intro ll bb w' hs hlf hN hO hf hI hA
      clear hi'
      have q0 := hf.kept (s := 4) (by rw [sizeUo1]; kernel_rfl) k4
      exact Rg.op_value (o := ⟨some 12, Op.move (Operand.tmp 4), _, _, _, _⟩) (x := .func (.func 47) #[.agg #[.int .i64 nd.p, .int .i64 nd.g, sv]] #[]) rfl rfl (by clear hA HS hN hO HK; simp only [execOp]; go_simp) ⟨_, rfl, (fun h => by cases h), rfl, hI, fun _ _ _ _ h => h⟩
    · intro ll bb w' hs hlf hN hO hf hI hA
      clear hi'
      have q0 := hf.kept (s := 0) (by rw [sizeUo1]; kernel_rfl) k0
      exact Rg.op_value (o := ⟨some 13, Op.move (Operand.tmp 0), _, _, _, _⟩) (x := .slice (some ⟨G, 0, none⟩) m c) rfl rfl (by clear hA HS hN hO HK; simp only [execOp]; go_simp) ⟨_, rfl, (fun h => by cases h), rfl, hI, fun _ _ _ _ h => h⟩
    · intro ll bb w' hs hlf hN hO hf hI hA
      clear hi'
      have q0 := hf.kept (s := 2) (by rw [sizeUo1]; kernel_rfl) k2
      exact Rg.op_value (o := ⟨some 14, Op.move (Operand.tmp 2), _, _, _, _⟩) (x := .int .i64 (jb : Nat)) rfl rfl (by clear hA HS hN hO HK; simp only [execOp]; go_simp) ⟨_, rfl, (fun h => by cases h), rfl, hI, fun _ _ _ _ h => h⟩
    · intro ll bb w' hs hlf hN hO hf hI hA
      clear hi'
      have q13 : bb.tmps[13]? = some _ := hf.tmp (k := 1) rfl (by rw [ha]; decide) (hA 1 (by kernel_rfl))
      have q14 : bb.tmps[14]? = some _ := hf.tmp (k := 2) rfl (by rw [ha]; decide) (hA 2 (by kernel_rfl))
      have hi9 : (((jb) : Nat) : Int) < (m : Int) := by omega
      exact Rg.op_value (o := ⟨some 15, Op.indexAddr 24 (Operand.tmp 13) (Operand.tmp 14), _, _, _, _⟩) (x := .pointer (some ⟨G, (jb) * 6, none⟩)) rfl rfl (by clear hA HS hN hO HK; simp only [execOp]; go_simp) ⟨_, rfl, (fun h => by cases h), rfl, hI, fun _ _ _ _ h => h⟩
    · intro ll bb w' hs hlf hN hO hf hI hA
      clear hi'
      have q15 : bb.tmps[15]? = some _ := hf.tmp (k := 3) rfl (by rw [ha]; decide) (hA 3 (by kernel_rfl))
      have hx9 := hx.below hI hGl
      have e0 := hx9.c0
      have e1 := hx9.c1
      have e2 := hx9.c2
      have e3 := hx9.c3
      have e4 := hx9.c4
      have e5 := hx9.c5
      exact Rg.op_value (o := ⟨some 16, Op.load 81 (Operand.tmp 15), _, _, _, _⟩) (x := .agg #[.int .i64 x.1.id, .int .i64 x.1.grp, x.2, .int .i64 x.1.til, .int .i64 x.1.st, .int .i64 x.1.fr]) rfl rfl (by clear hA HS hN hO HK; simp only [execOp]; go_simp) ⟨_, rfl, (fun h => by cases h), rfl, hI, fun _ _ _ _ h => h⟩
    · intro ll bb w' hs hlf hN hO hf hI hA
      clear hi'
      have q0 := hf.kept (s := 0) (by rw [sizeUo1]; kernel_rfl) k0
      exact Rg.op_value (o := ⟨some 17, Op.move (Operand.tmp 0), _, _, _, _⟩) (x := .slice (some ⟨G, 0, none⟩) m c) rfl rfl (by clear hA HS hN hO HK; simp only [execOp]; go_simp) ⟨_, rfl, (fun h => by cases h), rfl, hI, fun _ _ _ _ h => h⟩
    · intro ll bb w' hs hlf hN hO hf hI hA
      clear hi'
      have q0 := hf.kept (s := 1) (by rw [sizeUo1]; kernel_rfl) k1
      exact Rg.op_value (o := ⟨some 18, Op.move (Operand.tmp 1), _, _, _, _⟩) (x := .int .i64 (ja : Nat)) rfl rfl (by clear hA HS hN hO HK; simp only [execOp]; go_simp) ⟨_, rfl, (fun h => by cases h), rfl, hI, fun _ _ _ _ h => h⟩
    · intro ll bb w' hs hlf hN hO hf hI hA
      clear hi'
      have q17 : bb.tmps[17]? = some _ := hf.tmp (k := 5) rfl (by rw [ha]; decide) (hA 5 (by kernel_rfl))
      have q18 : bb.tmps[18]? = some _ := hf.tmp (k := 6) rfl (by rw [ha]; decide) (hA 6 (by kernel_rfl))
      have hi9 : (((ja) : Nat) : Int) < (m : Int) := by omega
      exact Rg.op_value (o := ⟨some 19, Op.indexAddr 24 (Operand.tmp 17) (Operand.tmp 18), _, _, _, _⟩) (x := .pointer (some ⟨G, (ja) * 6, none⟩)) rfl rfl (by clear hA HS hN hO HK; simp only [execOp]; go_simp) ⟨_, rfl, (fun h => by cases h), rfl, hI, fun _ _ _ _ h => h⟩
    · intro ll bb w' hs hlf hN hO hf hI hA
      clear hi'
      have q19 : bb.tmps[19]? = some _ := hf.tmp (k := 7) rfl (by rw [ha]; decide) (hA 7 (by kernel_rfl))
      have hx9 := hy.below hI hGl
      have e0 := hx9.c0
      have e1 := hx9.c1
      have e2 := hx9.c2
      have e3 := hx9.c3
      have e4 := hx9.c4
      have e5 := hx9.c5
      exact Rg.op_value (o := ⟨some 20, Op.load 81 (Operand.tmp 19), _, _, _, _⟩) (x := .agg #[.int .i64 y.1.id, .int .i64 y.1.grp, y.2, .int .i64 y.1.til, .int .i64 y.1.st, .int .i64 y.1.fr]) rfl rfl (by clear hA HS hN hO HK; simp only [execOp]; go_simp) ⟨_, rfl, (fun h => by cases h), rfl, hI, fun _ _ _ _ h => h⟩
    · intro ll bb w' hs hlf hN hO hf hI hA
      clear hi'
      have q12 : bb.tmps[12]? = some _ := hf.tmp (k := 0) rfl (by rw [ha]; decide) (hA 0 (by kernel_rfl))
      have q16 : bb.tmps[16]? = some _ := hf.tmp (k := 4) rfl (by rw [ha]; decide) (hA 4 (by kernel_rfl))
      have q20 : bb.tmps[20]? = some _ := hf.tmp (k := 8) rfl (by rw [ha]; decide) (hA 8 (by kernel_rfl))
      refine Rg.op_call (o := ⟨some 21, Op.call { callee := Callee.value (Operand.tmp 12), args := #[(Operand.tmp 16), (Operand.tmp 20)], argTypes := _ }, _, _, _, _⟩) rfl rfl (by clear hA HS hN hO HK; simp only [execOp, resolve]; go_simp) (HK w') ?_
      rintro e w2 ⟨rfl, hb2⟩
      exact ⟨_, rfl, _, rfl, (fun h => by cases h), rfl, onto hI hb2, fun k9 y9 _ _ h => HS hb2 k9 y9 h⟩
    · intro ll bb w' hs hlf hN hO hf hI hA
      clear hi'
      have q21 : bb.tmps[21]? = some _ := hf.tmp (k := 9) rfl (by rw [ha]; decide) (hA 9 (by kernel_rfl))
      exact Rg.op_value (o := ⟨some 22, Op.binOp BinOp.lss 3 (Operand.tmp 21) (Operand.const (Value.int .i64 0)) 3, _, _, _, _⟩) (x := .bool (decide (rr < 0))) rfl rfl (by clear hA HS hN hO HK; simp only [execOp]; go_simp) ⟨_, rfl, (fun h => by cases h), rfl, hI, fun _ _ _ _ h => h⟩
theorem dUo1_0 : Rg.dstAt (Rg.opsOf Try.f166 1) 0 = some 12 := by kernel_rfl
theorem dUo1_1 : Rg.dstAt (Rg.opsOf Try.f166 1) 1 = some 13 := by kernel_rfl
theorem dUo1_2 : Rg.dstAt (Rg.opsOf Try.f166 1) 2 = some 14 := by kernel_rfl
theorem dUo1_3 : Rg.dstAt (Rg.opsOf Try.f166 1) 3 = some 15 := by kernel_rfl
theorem dUo1_4 : Rg.dstAt (Rg.opsOf Try.f166 1) 4 = some 16 := by kernel_rfl
theorem dUo1_5 : Rg.dstAt (Rg.opsOf Try.f166 1) 5 = some 17 := by kernel_rfl
theorem dUo1_6 : Rg.dstAt (Rg.opsOf Try.f166 1) 6 = some 18 := by kernel_rfl
theorem dUo1_7 : Rg.dstAt (Rg.opsOf Try.f166 1) 7 = some 19 := by kernel_rfl
theorem dUo1_8 : Rg.dstAt (Rg.opsOf Try.f166 1) 8 = some 20 := by kernel_rfl
theorem dUo1_9 : Rg.dstAt (Rg.opsOf Try.f166 1) 9 = some 21 := by kernel_rfl
theorem dUo1_10 : Rg.dstAt (Rg.opsOf Try.f166 1) 10 = some 22 := by kernel_rfl
theorem layUo1 {a b : Act} (hf : Rg.Fr (Rg.opsOf Try.f166 1) a b) : b = (((((((((((a.put (some 12) (Rg.out (Rg.opsOf Try.f166 1) b 0)).put (some 13) (Rg.out (Rg.opsOf Try.f166 1) b 1)).put (some 14) (Rg.out (Rg.opsOf Try.f166 1) b 2)).put (some 15) (Rg.out (Rg.opsOf Try.f166 1) b 3)).put (some 16) (Rg.out (Rg.opsOf Try.f166 1) b 4)).put (some 17) (Rg.out (Rg.opsOf Try.f166 1) b 5)).put (some 18) (Rg.out (Rg.opsOf Try.f166 1) b 6)).put (some 19) (Rg.out (Rg.opsOf Try.f166 1) b 7)).put (some 20) (Rg.out (Rg.opsOf Try.f166 1) b 8)).put (some 21) (Rg.out (Rg.opsOf Try.f166 1) b 9)).put (some 22) (Rg.out (Rg.opsOf Try.f166 1) b 10)) := by
  have h := hf.chain
  rw [sizeUo1, show List.range 11 = [0, 1, 2, 3, 4, 5, 6, 7, 8, 9, 10] from by decide] at h
  simp only [List.foldl_cons, List.foldl_nil, dUo1_0, dUo1_1, dUo1_2, dUo1_3, dUo1_4, dUo1_5, dUo1_6, dUo1_7, dUo1_8, dUo1_9, dUo1_10] at h
  exact h
theorem SU.keep {c T : Nat} {w w' : World} {G : Nat} {l : List UE} (h : SU c w G l) (hk : Keep T w w') (hT : T ≠ G) : SU c w' G l := by
  obtain ⟨q, ⟨h1, _⟩ | ⟨g, cap, cur, h1, hb, hg, hc, hm, hs, ht⟩⟩ := h
  · cases h1
  · have e : g = G := by simp only [Value.slice.injEq, Option.some.injEq, Addr.mk.injEq] at h1; exact h1.1.1.symm
    exact ⟨q, .inr ⟨g, cap, cur, h1, hb, (hk.block g (Array.getElem?_eq_some_iff.1 hg).1 (by omega)).trans hg, hc, hm, hs, ht⟩⟩
theorem Keep.frozen {g b o : Nat} {w w' : World} (h : Keep g w w') (hb : b < w.heap.size) (hg : b ≠ g) : w'.frozen? ⟨b, o, none⟩ = w.frozen? ⟨b, o, none⟩ := World.frozen?_of_block (w := w) (h.block b hb hg)
set_option maxRecDepth 20000 in
set_option maxHeartbeats 8000000 in
theorem uorder2_any (nd : Nd) (sv : Value) (D : UE → Prop) (G c m a b T : Nat) (s K : Int) (d : List UE) (w : World) (h : SU c w G d) (hm : d.length = m) (hmm : m ≤ 100000) (hF : Fine (ltU nd) D d) (hK : LessU nd sv D) (ha : a < m) (hb : b < m) (hT : T < w.heap.size) (hTG : T ≠ G) (t0 : w.cell? ⟨T, 0, none⟩ = some (.int .i64 s)) (t1 : w.frozen? ⟨T, 0, none⟩ = false) (hs0 : 0 ≤ s) (hs1 : s ≤ K) (hK9 : K ≤ 1000) :
    Calls Try.prog 166 #[.slice (some ⟨G, 0, none⟩) m c, .int .i64 a, .int .i64 b, .pointer (some ⟨T, 0, none⟩), (.func (.func 47) #[.agg #[.int .i64 nd.p, .int .i64 nd.g, sv]] #[])] w fun e w' => ∃ x y : Nat, e = .returned (.tuple #[.int .i64 x, .int .i64 y]) ∧ (x = a ∧ y = b ∨ x = b ∧ y = a) ∧ SU c w' G d ∧ ∃ s' : Int, w'.cell? ⟨T, 0, none⟩ = some (.int .i64 s') ∧ w'.frozen? ⟨T, 0, none⟩ = false ∧ 0 ≤ s' ∧ s' ≤ K + 1 ∧ Keep T w w' := by
  subst hm
  have hGl := h.lt
  have hx := h.at (i := b) hb
  have hy := h.at (i := a) ha
  have hK2 := hK (at' d b) (at' d a) (hF.all _ (at_mem hb)) (hF.all _ (at_mem ha))
  have HS := hidden h
  generalize cmpU nd (at' d b) (at' d a) = rr at *
  clear h hF hK
  generalize hml : d.length = m at *
  clear hml
  have hws : IntKind.i64.wrap (s + 1) = s + 1 := by rw [IntKind.wrap_i64]; omega
  go_enter Try.func166, Try.ntmps166
  go_upto_region 1 with fail
  refine regUo1 (G := G) (m := m) (c := c) (nd := nd) (sv := sv) (rr := rr) (ja := a) (jb := b) rfl rfl rfl rfl rfl hGl hx hy hb ha hmm hK2 ?_
  intro b' w6 hf hb6 hv
  rw [layUo1 hf, hv]
  clear hv hf
  generalize Rg.out (Rg.opsOf Try.f166 1) b' 0 = z0
  generalize Rg.out (Rg.opsOf Try.f166 1) b' 1 = z1
  generalize Rg.out (Rg.opsOf Try.f166 1) b' 2 = z2
  generalize Rg.out (Rg.opsOf Try.f166 1) b' 3 = z3
  generalize Rg.out (Rg.opsOf Try.f166 1) b' 4 = z4
  generalize Rg.out (Rg.opsOf Try.f166 1) b' 5 = z5
  generalize Rg.out (Rg.opsOf Try.f166 1) b' 6 = z6
  generalize Rg.out (Rg.opsOf Try.f166 1) b' 7 = z7
  generalize Rg.out (Rg.opsOf Try.f166 1) b' 8 = z8
  generalize Rg.out (Rg.opsOf Try.f166 1) b' 9 = z9
  have c0 := (hb6.cell (p := ⟨T, 0, none⟩) hT).trans t0
  have c1 := (hb6.frozen (p := ⟨T, 0, none⟩) hT).trans t1
  have HS6 := hidden (HS.out.below hb6)
  have HK6 := hidden (Keep.of_below (g := T) hb6)
  clear hx hy hK2 HS
  by_cases hr : rr < 0
  · rw [decide_eq_true hr]
    have HK7 := hidden (HK6.out.set (j := 0) (.int .i64 (s + 1)))
    have HS7 := hidden (HS6.out.keep ((Keep.refl T w6).set (j := 0) (.int .i64 (s + 1))) hTG)
    have d0 : (w6.setCell ⟨T, 0, none⟩ (.int .i64 (s + 1))).cell? ⟨T, 0, none⟩ = some (.int .i64 (s + 1)) := World.cell?_setCell_same _ _ _ c0
    have d1 : (w6.setCell ⟨T, 0, none⟩ (.int .i64 (s + 1))).frozen? ⟨T, 0, none⟩ = false := by rw [World.frozen?_setCell]; exact c1
    go_frame
    go_wp2_with fail
    go_ret2
    exact ⟨b, a, rfl, Or.inr ⟨rfl, rfl⟩, HS7.out, s + 1, d0, d1, by omega, by omega, HK7.out⟩
  · rw [decide_eq_false hr]
    go_frame
    go_wp2_with fail
    go_ret2
    exact ⟨a, b, rfl, Or.inl ⟨rfl, rfl⟩, HS6.out, s, c0, c1, hs0, by omega, HK6.out⟩
set_option maxRecDepth 20000 in
set_option maxHeartbeats 8000000 in
theorem umedian_any (nd : Nd) (sv : Value) (D : UE → Prop) (G c m i j k T : Nat) (s K : Int) (d : List UE) (w : World) (h : SU c w G d) (hm : d.length = m) (hmm : m ≤ 100000) (hF : Fine (ltU nd) D d) (hK : LessU nd sv D) (hi : i < m) (hj : j < m) (hk : k < m) (hT : T < w.heap.size) (hTG : T ≠ G) (t0 : w.cell? ⟨T, 0, none⟩ = some (.int .i64 s)) (t1 : w.frozen? ⟨T, 0, none⟩ = false) (hs0 : 0 ≤ s) (hs1 : s ≤ K) (hK9 : K ≤ 900) :
    Calls Try.prog 148 #[.slice (some ⟨G, 0, none⟩) m c, .int .i64 i, .int .i64 j, .int .i64 k, .pointer (some ⟨T, 0, none⟩), (.func (.func 47) #[.agg #[.int .i64 nd.p, .int .i64 nd.g, sv]] #[])] w fun e w' => ∃ x : Nat, e = .returned (.int .i64 x) ∧ (x = i ∨ x = j ∨ x = k) ∧ SU c w' G d ∧ ∃ s' : Int, w'.cell? ⟨T, 0, none⟩ = some (.int .i64 s') ∧ w'.frozen? ⟨T, 0, none⟩ = false ∧ 0 ≤ s' ∧ s' ≤ K + 3 ∧ Keep T w w' := by
  have k1 := uorder2_any nd sv D G c m i j T s K d w h hm hmm hF hK hi hj hT hTG t0 t1 hs0 hs1 (by omega)
  have HC := hidden (fun (a b : Nat) (s' K' : Int) (W : World) (h' : SU c W G d) (ha : a < m) (hb : b < m) (hT' : T < W.heap.size) (z0 : W.cell? ⟨T, 0, none⟩ = some (.int .i64 s')) (z1 : W.frozen? ⟨T, 0, none⟩ = false) (z2 : 0 ≤ s') (z3 : s' ≤ K') (z4 : K' ≤ 1000) => uorder2_any nd sv D G c m a b T s' K' d W h' hm hmm hF hK ha hb hT' hTG z0 z1 z2 z3 z4)
  clear h hF hK t0 t1
  go_enter Try.func148, Try.ntmps148
  go_wp2_with fail
  refine k1.mono ?_
  rintro e w1 ⟨x1, y1, rfl, hxy1, hs1, s1, a1, b1, c1, d1, hk1⟩
  have hT1 := Nat.lt_of_lt_of_le hT hk1.size
  have hy1 : y1 < m := by omega
  have k2 := HC.out y1 k s1 (K + 1) w1 hs1 hy1 hk hT1 a1 b1 c1 d1 (by omega)
  have HK1 := hidden hk1
  have HX1 := hidden hxy1
  clear k1 hs1 a1 b1 hk1 hxy1
  go_wp2_with fail
  refine k2.mono ?_
  rintro e w2 ⟨x2, y2, rfl, hxy2, hs2, s2, a2, b2, c2, d2, hk2⟩
  have hT2 := Nat.lt_of_lt_of_le hT1 hk2.size
  have hx1 : x1 < m := by have := HX1.out; omega
  have hx2 : x2 < m := by omega
  have k3 := HC.out x1 x2 s2 (K + 1 + 1) w2 hs2 hx1 hx2 hT2 a2 b2 c2 d2 (by omega)
  have HK2 := hidden (HK1.out.trans hk2)
  have HX2 := hidden hxy2
  clear k2 hs2 a2 b2 hk2 hxy2 HK1
  go_wp2_with fail
  refine k3.mono ?_
  rintro e w3 ⟨x3, y3, rfl, hxy3, hs3, s3, a3, b3, c3, d3, hk3⟩
  have HK3 := hidden (HK2.out.trans hk3)
  have HXX : Hid (y3 = i ∨ y3 = j ∨ y3 = k) := by
    have := HX1.out
    have := HX2.out
    show _ ∨ _
    omega
  clear k3 HK2 HX1 HX2 hxy3 hk3
  go_wp2_with fail
  go_ret
  exact ⟨y3, rfl, HXX.out, hs3, s3, a3, b3, c3, by omega, HK3.out⟩
set_option maxRecDepth 20000 in
set_option maxHeartbeats 8000000 in
theorem umedadj_any (nd : Nd) (sv : Value) (D : UE → Prop) (G c m i T : Nat) (s K : Int) (d : List UE) (w : World) (h : SU c w G d) (hm : d.length = m) (hmm : m ≤ 100000) (hF : Fine (ltU nd) D d) (hK : LessU nd sv D) (hi : 1 ≤ i) (hi2 : i + 1 < m) (hT : T < w.heap.size) (hTG : T ≠ G) (t0 : w.cell? ⟨T, 0, none⟩ = some (.int .i64 s)) (t1 : w.frozen? ⟨T, 0, none⟩ = false) (hs0 : 0 ≤ s) (hs1 : s ≤ K) (hK9 : K ≤ 900) :
    Calls Try.prog 147 #[.slice (some ⟨G, 0, none⟩) m c, .int .i64 i, .pointer (some ⟨T, 0, none⟩), (.func (.func 47) #[.agg #[.int .i64 nd.p, .int .i64 nd.g, sv]] #[])] w fun e w' => ∃ x : Nat, e = .returned (.int .i64 x) ∧ (i ≤ x + 1 ∧ x ≤ i + 1) ∧ SU c w' G d ∧ ∃ s' : Int, w'.cell? ⟨T, 0, none⟩ = some (.int .i64 s') ∧ w'.frozen? ⟨T, 0, none⟩ = false ∧ 0 ≤ s' ∧ s' ≤ K + 3 ∧ Keep T w w' := by
  have k1 := umedian_any nd sv D G c m (i - 1) i (i + 1) T s K d w h hm hmm hF hK (by omega) (by omega) hi2 hT hTG t0 t1 hs0 hs1 hK9
  have hw1 : IntKind.i64.wrap ((i : Int) - 1) = ((i - 1 : Nat) : Int) := by rw [IntKind.wrap_i64]; omega
  have hw2 : IntKind.i64.wrap ((i : Int) + 1) = ((i + 1 : Nat) : Int) := by rw [IntKind.wrap_i64]; omega
  obtain ⟨i2, hi9⟩ : ∃ i2, i + 1 = i2 := ⟨_, rfl⟩
  rw [hi9] at k1 hw2
  have HI := hidden hi9
  clear h hF hK t0 t1 hi9
  go_enter Try.func147, Try.ntmps147
  go_wp2_with fail
  refine k1.mono ?_
  rintro e w1 ⟨x1, rfl, hx1, hs1, s1, a1, b1, c1, d1, hk1⟩
  have hx2 : i ≤ x1 + 1 ∧ x1 ≤ i + 1 := by have := HI.out; omega
  have HK1 := hidden hk1
  clear k1 hk1 hx1
  go_wp2_with fail
  go_ret
  exact ⟨x1, rfl, hx2, hs1, s1, a1, b1, c1, d1, HK1.out⟩
end Go.Proofs.Ytgcpiinmcbdkmaa
