/-
  Proved: for every set of rules and every look, the program's MaySee answers as the specification's and writes into no argument (FnExactMaySee returns true). No conditions.
-/
import Derived.Test.YtinnmebpipnccaaA9
import Derived.Test.YtinnmebpipnccaaA10
import Derived.Test.YtinnmebpipnccaaA12
import Derived.Test.YtinnmebpipnccaaA13
import Derived.Test.YtinnmebpipnccaaRn
import Derived.Test.YtinnmebpipnccaaRm
namespace Go.Proofs.Ytinnmebpipnccaa
open Go.RowKit Va Ax

namespace fnExactMaySee
open Go.ChangeShapes Go.WideShapes Go.ChangeAt Go.Joins
set_option linter.all false

theorem own : ownKnob Try.prog.godebug = none := by kernel_rfl
theorem laidOut : laidOutB Try.prog = true := by kernel_rfl


def FX10LMy (AB XB : Nat) (ag ac ar a2 a3 a4 : Option Addr) (cg cc cr c2 c3 c4 : Nat) (G : List Gr) (C : List Cr) (R : List Rf) (i9 : Nat) (v : Value) (w : World) : Prop :=
  match i9 with
  | 0 => v = .agg #[.slice a2 G.length c2, .slice a3 C.length c3, .slice a4 R.length c4]
  | 1 => v = .agg #[.slice ag G.length cg, .slice ac C.length cc, .slice ar R.length cr]
  | 2 => ∃ a5 c5 a6 c6 a7 c7, v = .agg #[.slice a5 G.length c5, .slice a6 C.length c6, .slice a7 R.length c7] ∧ VRw 2 cvGr w (.slice a5 G.length c5) G ∧ VRw 4 cvCr w (.slice a6 C.length c6) C ∧ VRw 2 cvRf w (.slice a7 R.length c7) R
  | 3 => v = .bool true
  | 4 => v = .bool false
  | _ => True
theorem sizeX10LMy : (Rg.opsOf Try.f5 10).size = 5 := by kernel_rfl

set_option maxRecDepth 20000 in
set_option maxHeartbeats 8000000 in
theorem regX10LMy {Q : Exit → Act → World → Prop} {a : Act} {w9 : World} {AB XB : Nat} {ag ac ar a2 a3 a4 : Option Addr} {cg cc cr c2 c3 c4 : Nat} {G : List Gr} {C : List Cr} {R : List Rf} (ha : a.tmps.size = 47)
    (k6 : a.tmps[6]? = some (.pointer (some ⟨AB, 0, none⟩))) (k15 : a.tmps[15]? = some (.pointer (some ⟨XB, 0, none⟩))) (hA2 : PB w9 AB #[.slice ag G.length cg, .slice ac C.length cc, .slice ar R.length cr] 33) (hX2 : PB w9 XB #[.slice a2 G.length c2, .slice a3 C.length c3, .slice a4 R.length c4] 40) (r1 : VRw 2 cvGr w9 (.slice ag G.length cg) G ∧ VRw 4 cvCr w9 (.slice ac C.length cc) C ∧ VRw 2 cvRf w9 (.slice ar R.length cr) R) (s1 : VRw 2 cvGr w9 (.slice a2 G.length c2) G ∧ VRw 4 cvCr w9 (.slice a3 C.length c3) C ∧ VRw 2 cvRf w9 (.slice a4 R.length c4) R) (lG : G.length ≤ 1048576) (lC : C.length ≤ 1048576) (lR : R.length ≤ 1048576)
    (hend : ∀ b' w', Rg.Fr (Rg.opsOf Try.f5 10) a b' → Below w9.heap.size w9 w' → Rg.out (Rg.opsOf Try.f5 10) b' 4 = .bool false → Q .normal b' w') :
    (Code.region 10 (Rg.opsOf Try.f5 10) true).wp Try.prog Q a w9 := by
  refine Rg.region_dead (by kernel_rfl) (fun w' => Below w9.heap.size w9 w') (FX10LMy AB XB ag ac ar a2 a3 a4 cg cc cr c2 c3 c4 G C R) (fun _ => none) (by rw [ha, sizeX10LMy]; kernel_rfl) (st_drew (Below.refl _ _)) ?_ ?_
  case refine_2 =>
    intro b' w' hf hI hA
    rw [sizeX10LMy] at hA
    exact hend b' w' hf hI (hA 4 (by decide) rfl)
  case refine_1 =>
    clear hend
    have HS : ∀ {w w' : World}, Below w.heap.size w w' → ∀ k9 y9, FX10LMy AB XB ag ac ar a2 a3 a4 cg cc cr c2 c3 c4 G C R k9 y9 w → FX10LMy AB XB ag ac ar a2 a3 a4 cg cc cr c2 c3 c4 G C R k9 y9 w' := fun hb k9 y9 h => by
      unfold FX10LMy at *
      split at h <;> first | exact h | (obtain ⟨a5, c5, a6, c6, a7, c7, h1, h2, h3, h4⟩ := h; exact ⟨a5, c5, a6, c6, a7, c7, h1, h2.below hb, h3.below hb, h4.below hb⟩)
    intro i' hi'
    rw [sizeX10LMy] at hi'
    rcases (show i' = 0 ∨ i' = 1 ∨ i' = 2 ∨ i' = 3 ∨ i' = 4 by omega) with rfl | rfl | rfl | rfl | rfl
    · intro bb w' hf hI hA
      clear hi'
      have q15 := hf.kept (s := 15) (by rw [sizeX10LMy]; kernel_rfl) k15
      obtain ⟨e0, e1, e2⟩ := (hX2.below hI).three
      clear hA HS hA2 hX2 r1 s1
      exact Rg.op_value (o := ⟨some 42, Op.load 40 (Operand.tmp 15), _, _, _, _⟩) (x := .agg #[.slice a2 G.length c2, .slice a3 C.length c3, .slice a4 R.length c4]) rfl rfl (by simp only [execOp]; go_simp) ⟨_, rfl, (fun h => by cases h), rfl, hI, fun _ _ _ h => h⟩
    · intro bb w' hf hI hA
      clear hi'
      have q6 := hf.kept (s := 6) (by rw [sizeX10LMy]; kernel_rfl) k6
      obtain ⟨e0, e1, e2⟩ := (hA2.below hI).three
      clear hA HS hA2 hX2 r1 s1
      exact Rg.op_value (o := ⟨some 43, Op.load 33 (Operand.tmp 6), _, _, _, _⟩) (x := .agg #[.slice ag G.length cg, .slice ac C.length cc, .slice ar R.length cr]) rfl rfl (by simp only [execOp]; go_simp) ⟨_, rfl, (fun h => by cases h), rfl, hI, fun _ _ _ h => h⟩
    · intro bb w' hf hI hA
      clear hi'
      have q43 : bb.tmps[43]? = some _ := hf.tmp (k := 1) rfl (by rw [ha]; decide) (hA 1 (by kernel_rfl) (.inl rfl))
      refine Rg.op_call (o := ⟨some 44, Op.call { callee := Callee.value (Operand.func 15), args := #[(Operand.tmp 43)], argTypes := _ }, _, _, _, _⟩) rfl rfl (by clear hA HS hA2 hX2 r1 s1; simp only [execOp, resolve]; go_simp) (torules_any _ _ _ _ _ _ _ _ _ G C R w' (r1.1.below hI) (r1.2.1.below hI) (r1.2.2.below hI) lG lC lR) ?_
      rintro e w2 ⟨a5, c5, a6, c6, a7, c7, rfl, o1, hb2⟩
      exact ⟨_, rfl, _, rfl, (fun h => by cases h), ⟨a5, c5, a6, c6, a7, c7, rfl, o1⟩, ontoA hI hb2 hI.size, fun k9 y9 _ h => HS hb2 k9 y9 h⟩
    · intro bb w' hf hI hA
      clear hi'
      have q42 : bb.tmps[42]? = some _ := hf.tmp (k := 0) rfl (by rw [ha]; decide) (hA 0 (by kernel_rfl) (.inl rfl))
      obtain ⟨a5, c5, a6, c6, a7, c7, hv, o1, o2, o3⟩ := hA 2 (by kernel_rfl) (.inl rfl)
      have q44 : bb.tmps[44]? = some _ := hf.tmp (k := 2) rfl (by rw [ha]; decide) hv
      refine Rg.op_call (o := ⟨some 45, Op.call { callee := Callee.value (Operand.func 17), args := #[(Operand.tmp 42), (Operand.tmp 44)], argTypes := _ }, _, _, _, _⟩) rfl rfl (by clear hA HS hA2 hX2 r1 s1 hv o1 o2 o3; simp only [execOp, resolve]; go_simp) (eqrules_any _ _ _ _ _ _ G C R w' (s1.1.below hI) (s1.2.1.below hI) (s1.2.2.below hI) o1 o2 o3 lG lC lR) ?_
      rintro e w2 ⟨rfl, hb2⟩
      exact ⟨_, rfl, _, rfl, (fun h => by cases h), rfl, ontoA hI hb2 hI.size, fun k9 y9 _ h => HS hb2 k9 y9 h⟩
    · intro bb w' hf hI hA
      clear hi'
      have q45 : bb.tmps[45]? = some _ := hf.tmp (k := 3) rfl (by rw [ha]; decide) (hA 3 (by kernel_rfl) (.inl rfl))
      clear hA HS hA2 hX2 r1 s1
      exact Rg.op_value (o := ⟨some 46, Op.unOp UnOp.not 4 (Operand.tmp 45), _, _, _, _⟩) (x := .bool false) rfl rfl (by simp only [execOp]; go_simp) ⟨_, rfl, (fun h => by cases h), rfl, hI, fun _ _ _ h => h⟩

theorem dX10LMy_0 : Rg.dstAt (Rg.opsOf Try.f5 10) 0 = some 42 := by kernel_rfl
theorem dX10LMy_1 : Rg.dstAt (Rg.opsOf Try.f5 10) 1 = some 43 := by kernel_rfl
theorem dX10LMy_2 : Rg.dstAt (Rg.opsOf Try.f5 10) 2 = some 44 := by kernel_rfl
theorem dX10LMy_3 : Rg.dstAt (Rg.opsOf Try.f5 10) 3 = some 45 := by kernel_rfl
theorem dX10LMy_4 : Rg.dstAt (Rg.opsOf Try.f5 10) 4 = some 46 := by kernel_rfl
theorem layX10LMy {a b : Act} (hf : Rg.Fr (Rg.opsOf Try.f5 10) a b) : b = (((((a.put (some 42) (Rg.out (Rg.opsOf Try.f5 10) b 0)).put (some 43) (Rg.out (Rg.opsOf Try.f5 10) b 1)).put (some 44) (Rg.out (Rg.opsOf Try.f5 10) b 2)).put (some 45) (Rg.out (Rg.opsOf Try.f5 10) b 3)).put (some 46) (Rg.out (Rg.opsOf Try.f5 10) b 4)) := by
  have h := hf.chain
  rw [sizeX10LMy, show List.range 5 = [0, 1, 2, 3, 4] from by decide] at h
  simp only [List.foldl_cons, List.foldl_nil, dX10LMy_0, dX10LMy_1, dX10LMy_2, dX10LMy_3, dX10LMy_4] at h
  exact h

set_option maxRecDepth 20000 in
set_option maxHeartbeats 4000000 in
theorem walk (ag : Option Addr) (cg : Nat) (ac : Option Addr) (cc : Nat) (ar : Option Addr) (cr : Nat) (G : List Gr) (C : List Cr) (R : List Rf) (pw : Int) (pr : Int) (pp : Int) (ps : Int) (pt : Int) (w : World) (h1 : VRw 2 cvGr w (.slice ag G.length cg) G) (h2 : VRw 4 cvCr w (.slice ac C.length cc) C) (h3 : VRw 2 cvRf w (.slice ar R.length cr) R) (m1 : G.length ≤ maxLen) (m2 : C.length ≤ maxLen) (m3 : R.length ≤ maxLen) :
    Calls Try.prog 5 #[.agg #[.slice ag G.length cg, .slice ac C.length cc, .slice ar R.length cr], .int .i64 pw, .int .i64 pr, .int .i64 pp, .int .i64 ps, .int .i64 pt] w fun e w' => e = .returned (.bool true) ∧ Below w.heap.size w w' := by
  have hb0 : Below w.heap.size w (w.alloc (.cells #[.slice ag G.length cg, .slice ac C.length cc, .slice ar R.length cr] 33)) := (Below.refl _ _).alloc (Nat.le_refl _) _
  have HP := hidden (PB.new w #[.slice ag G.length cg, .slice ac C.length cc, .slice ar R.length cr] 33)
  have HO := hidden (And.intro (h1.below hb0) (And.intro (h2.below hb0) (h3.below hb0)))
  have HB := hidden hb0
  clear h1 h2 h3 hb0
  have hS := fun W => szrules_any ag G.length cg ac C.length cc ar R.length cr W (by unfold maxLen at m1; omega) (by unfold maxLen at m2; omega) (by unfold maxLen at m3; omega)
  go_enter Try.func5, Try.ntmps5
  go_upto_region 1 with fail
  generalize w.alloc (.cells #[.slice ag G.length cg, .slice ac C.length cc, .slice ar R.length cr] 33) = wA at *
  generalize hAB : w.heap.size = AB at HP ⊢
  obtain ⟨p0, p1, p2⟩ := HP.out.three
  go_wp2_with fail
  refine (hS _).mono ?_
  rintro e w1 ⟨q, rfl, hr, hb1⟩
  clear hS p0 p1 p2
  rcases hr with hr | ⟨hr0, lG, lC, lR⟩
  · go_wp2_with fail
    go_ret
    exact ⟨rfl, ontoA HB.out hb1 HB.out.size⟩
  have hr2 : ¬ q < 0 := by omega
  have HT := hidden (fun W h1 h2 h3 => torules_any ag G.length cg ac C.length cc ar R.length cr G C R W h1 h2 h3 lG lC lR)
  have HSP := hidden (fun a n c a2 n2 c2 a3 n3 c3 W h1 h2 h3 => smay_any a n c a2 n2 c2 a3 n3 c3 G C R pw pr pp ps pt W h1 h2 h3 lG lC lR)
  have HIM := hidden (fun a n c a2 n2 c2 a3 n3 c3 W h1 h2 h3 => imay_any a n c a2 n2 c2 a3 n3 c3 G C R pw pr pp ps pt W h1 h2 h3 lG lC lR)
  generalize maySee G C R ⟨pw, pr, pp, ps, pt, false⟩ = T at *
  have K1 := hidden hb1
  clear hb1
  obtain ⟨p0, p1, p2⟩ := (HP.out.below K1.out).three
  go_wp2_with fail
  refine (HT.out _ (HO.out.1.below K1.out) (HO.out.2.1.below K1.out) (HO.out.2.2.below K1.out)).mono ?_
  rintro e w2 ⟨a2, c2, a3, c3, a4, c4, rfl, o2, hb2⟩
  have K2 := hidden (K1.out.trans (hb2.mono K1.out.size))
  have R2 := hidden o2
  clear o2 hb2 K1 p0 p1 p2
  go_wp2_with fail
  refine (HSP.out _ _ _ _ _ _ _ _ _ _ R2.out.1 R2.out.2.1 R2.out.2.2).mono ?_
  rintro e w3 ⟨rfl, hb3⟩
  have K3 := hidden (K2.out.trans (hb3.mono K2.out.size))
  clear R2 hb3 K2
  obtain ⟨p0, p1, p2⟩ := (HP.out.below K3.out).three
  go_wp2_with fail
  refine (HT.out _ (HO.out.1.below K3.out) (HO.out.2.1.below K3.out) (HO.out.2.2.below K3.out)).mono ?_
  rintro e w4 ⟨a5, c5, a6, c6, a7, c7, rfl, o4, hb4⟩
  have K4 := hidden (K3.out.trans (hb4.mono K3.out.size))
  clear hb4 K3 p0 p1 p2
  go_upto_region 7 with fail
  have PX := PB.new w4 #[.slice a5 G.length c5, .slice a6 C.length c6, .slice a7 R.length c7] 40
  have bx : Below w4.heap.size w4 (w4.alloc (.cells #[.slice a5 G.length c5, .slice a6 C.length c6, .slice a7 R.length c7] 40)) := (Below.refl _ _).alloc (Nat.le_refl _) _
  have R4 := hidden (And.intro (o4.1.below bx) (And.intro (o4.2.1.below bx) (o4.2.2.below bx)))
  have K5 := hidden (K4.out.trans (bx.mono K4.out.size))
  clear o4 bx K4
  generalize w4.alloc (.cells #[.slice a5 G.length c5, .slice a6 C.length c6, .slice a7 R.length c7] 40) = w5 at *
  generalize w4.heap.size = XB at *
  obtain ⟨x0, x1, x2⟩ := PX.three
  go_wp2_with fail
  refine (HIM.out _ _ _ _ _ _ _ _ _ _ R4.out.1 R4.out.2.1 R4.out.2.2).mono ?_
  rintro e w6 ⟨rfl, hb6⟩
  have K6 := hidden (K5.out.trans (hb6.mono K5.out.size))
  have PX6 := PX.below hb6
  have R46 := hidden (And.intro (R4.out.1.below hb6) (And.intro (R4.out.2.1.below hb6) (R4.out.2.2.below hb6)))
  clear hb6 K5 PX R4 x0 x1 x2

  all_goals
    go_upto_region 10 with fail
    refine regX10LMy rfl rfl rfl (HP.out.below K6.out) PX6 (And.intro (HO.out.1.below K6.out) (And.intro (HO.out.2.1.below K6.out) (HO.out.2.2.below K6.out))) R46.out lG lC lR ?_
    intro b' w7 hf hb7 hv
    rw [layX10LMy hf, hv]
    clear hv hf
    generalize Rg.out (Rg.opsOf Try.f5 10) b' 0 = y0
    generalize Rg.out (Rg.opsOf Try.f5 10) b' 1 = y1
    generalize Rg.out (Rg.opsOf Try.f5 10) b' 2 = y2
    generalize Rg.out (Rg.opsOf Try.f5 10) b' 3 = y3
    have K7 := hidden (K6.out.trans (hb7.mono K6.out.size))
    clear hb7
    go_frame
    go_wp2_with fail
    go_ret
    exact ⟨rfl, ontoA HB.out K7.out HB.out.size⟩

set_option maxRecDepth 100000 in
theorem lifted (os : Os) (started : os.Started) (H : Type) (enc : TypeId × Value → H) :
    ReturnsInHanded {} Try.checked os 5 .any (Rows.fnExactMaySeeSpec.pre6 enc Try.prog Try.f5 Rows.fnExactMaySeeRow.domain false) (Rows.fnExactMaySeeSpec.post enc Try.prog Try.f5 false true false false) := by
  refine returnsInHanded_of_change (C := Try.checked) own started (by kernel_rfl) Try.func5
    (ChangeSpec.witness6 (enc := enc) (C := Try.checked) false ⟨#[], #[.agg #[.slice none 0 0, .slice none 0 0, .slice none 0 0], .int .i64 0, .int .i64 0, .int .i64 0, .int .i64 0, .int .i64 0], []⟩ 8 (by kernel_rfl) (by kernel_rfl) (by kernel_rfl) (by kernel_rfl)) ?_
  intro W base args ds gs before hval0 hW hcnd _
  have hval : ∀ (j : Nat) t v, Try.f5.params[j]? = some t → args[j]? = some v → Value.okWide Try.prog W .any base t v := hval0
  have hW' := hW
  obtain ⟨p, q, hA0, hV, rfl, hfz, hnd⟩ := hW
  have hA : DataW.TrodAll enc Try.prog W 0 (fun _ => true) true Try.f5.params.toList args.toList ds p := hA0
  rw [Try.params5] at hA hval
  obtain ⟨v0, vs0, d0, ds0, p0, q0, hargs, rfl, rfl, h0, r0⟩ := trodAll_cons hA
  obtain ⟨v1, vs1, d1, ds1, p1, q1, rfl, rfl, rfl, h1, r1⟩ := trodAll_cons r0
  obtain ⟨v2, vs2, d2, ds2, p2, q2, rfl, rfl, rfl, h2, r2⟩ := trodAll_cons r1
  obtain ⟨v3, vs3, d3, ds3, p3, q3, rfl, rfl, rfl, h3, r3⟩ := trodAll_cons r2
  obtain ⟨v4, vs4, d4, ds4, p4, q4, rfl, rfl, rfl, h4, r4⟩ := trodAll_cons r3
  obtain ⟨v5, vs5, d5, ds5, p5, q5, rfl, rfl, rfl, h5, r5⟩ := trodAll_cons r4
  obtain ⟨rfl, rfl, rfl⟩ := trodAll_nil r5
  obtain rfl : args = #[v0, v1, v2, v3, v4, v5] := by cases args; simp_all
  obtain ⟨rfl, rfl⟩ := trodVars_none hV
  have k0 := h0
  have lt0 : ∀ x ∈ p0, x.block < W.heap.size := by obtain ⟨m, hm⟩ := k0; exact DataW.trod_lt m _ _ _ hm
  obtain ⟨ag, cg, ac, cc, ar, cr, G, C, R, rfl, hm, hw1, hw2, hw3⟩ := rules_of_read (hval 0 33 v0 rfl rfl) h0
  obtain ⟨pw, rfl, rfl, rfl, k1⟩ := open_int Try.underlying2 (hval 1 2 v1 rfl rfl) h1
  obtain ⟨pr, rfl, rfl, rfl, k2⟩ := open_int Try.underlying2 (hval 2 2 v2 rfl rfl) h2
  obtain ⟨pp, rfl, rfl, rfl, k3⟩ := open_int Try.underlying2 (hval 3 2 v3 rfl rfl) h3
  obtain ⟨ps, rfl, rfl, rfl, k4⟩ := open_int Try.underlying2 (hval 4 2 v4 rfl rfl) h4
  obtain ⟨pt, rfl, rfl, rfl, k5⟩ := open_int Try.underlying2 (hval 5 2 v5 rfl rfl) h5
  clear hA0 hval0
  refine (walk ag cg ac cc ar cr G C R pw pr pp ps pt W hw1 hw2 hw3 hm.1 hm.2.1 hm.2.2).mono fun e W' ⟨he, bel⟩ => ?_
  subst he
  exact ⟨_, rfl, _, _, _, [], _, [], hW', trodAll_mk1 (shut_bool Try.underlying4 _), (trodAll_cons_mk (Below.trod laidOut (by kernel_rfl) (of_decide_eq_true (by kernel_rfl)) k0 bel lt0) (trodAll_cons_mk (shut_int Try.underlying2 k1) (trodAll_cons_mk (shut_int Try.underlying2 k2) (trodAll_cons_mk (shut_int Try.underlying2 k3) (trodAll_cons_mk (shut_int Try.underlying2 k4) (trodAll_cons_mk (shut_int Try.underlying2 k5) trodAll_mk0)))))), rfl, bel.frame _, fun h => by cases h⟩

theorem over : Rows.fnExactMaySeeRow.holds Try.pinned (OpenSpec.ofChange Rows.fnExactMaySeeSpec) :=
  OpenClaim.holds_of_wide 5 Try.f5 rfl rfl rfl rfl rfl rfl rfl ⟨rfl, rfl, rfl, rfl, rfl⟩ rfl rfl rfl rfl rfl (by kernel_rfl) Try.func5 (by kernel_rfl)
    (of_decide_eq_true (by kernel_rfl)) (by unfold Func.isWrapper; first | (rw [if_pos (by decide +kernel)]; kernel_rfl) | (rw [if_neg (by decide +kernel)]; exact ⟨rfl, rfl⟩))
    (fun os started H enc _ => lifted os started H enc)
end fnExactMaySee
theorem fnExactMaySee_holds : Rows.FnExactMaySeeSaid := fnExactMaySee.over
end Go.Proofs.Ytinnmebpipnccaa
