/-
  Proved: for every chart, the program's ChartOk answers as the specification's and writes into no argument (FnExactChartOk returns true). No conditions.
-/
import Derived.Test.YtkejjlgeiaeicaaUd
import Derived.Test.YtkejjlgeiaeicaaUf
import Derived.Test.YtkejjlgeiaeicaaU11
import Derived.Test.YtkejjlgeiaeicaaRn
import Derived.Test.YtkejjlgeiaeicaaRm
namespace Go.Proofs.Ytkejjlgeiaeicaa
open Go.RowKit Va Uo

namespace fnExactChartOk
open Go.ChangeShapes Go.WideShapes Go.ChangeAt Go.Joins
set_option linter.all false

theorem own : ownKnob Try.prog.godebug = none := by kernel_rfl
theorem laidOut : laidOutB Try.prog = true := by kernel_rfl


def FX10 (AB XB : Nat) (ao a2 ad a3 : Option Addr) (cap c2 dcap c3 : Nat) (os : List Od) (ds : List Ds) (i9 : Nat) (v : Value) (w : World) : Prop :=
  match i9 with
  | 0 => v = .agg #[.slice a2 os.length c2, .slice a3 ds.length c3]
  | 1 => v = .agg #[.slice ao os.length cap, .slice ad ds.length dcap]
  | 2 => ∃ a4 c4 a5 c5, v = .agg #[.slice a4 os.length c4, .slice a5 ds.length c5] ∧ VRw 9 cvOd w (.slice a4 os.length c4) os ∧ VRw 5 cvDs w (.slice a5 ds.length c5) ds
  | 3 => v = .bool true
  | 4 => v = .bool false
  | _ => True
theorem sizeX10 : (Rg.opsOf Try.f4 10).size = 5 := by kernel_rfl

set_option maxRecDepth 20000 in
set_option maxHeartbeats 8000000 in
theorem regX10 {Q : Exit → Act → World → Prop} {a : Act} {w9 : World} {AB XB : Nat} {ao a2 ad a3 : Option Addr} {cap c2 dcap c3 : Nat} {os : List Od} {ds : List Ds} (ha : a.tmps.size = 27)
    (k1 : a.tmps[1]? = some (.pointer (some ⟨AB, 0, none⟩))) (k5 : a.tmps[5]? = some (.pointer (some ⟨XB, 0, none⟩))) (hA2 : PB w9 AB #[.slice ao os.length cap, .slice ad ds.length dcap] 34) (hX2 : PB w9 XB #[.slice a2 os.length c2, .slice a3 ds.length c3] 40) (r1 : VRw 9 cvOd w9 (.slice ao os.length cap) os) (r2 : VRw 5 cvDs w9 (.slice ad ds.length dcap) ds) (s1 : VRw 9 cvOd w9 (.slice a2 os.length c2) os) (s2 : VRw 5 cvDs w9 (.slice a3 ds.length c3) ds) (hn : os.length ≤ 1048576) (hm : ds.length ≤ 1048576)
    (hend : ∀ b' w', Rg.Fr (Rg.opsOf Try.f4 10) a b' → Below w9.heap.size w9 w' → Rg.out (Rg.opsOf Try.f4 10) b' 4 = .bool false → Q .normal b' w') :
    (Code.region 10 (Rg.opsOf Try.f4 10) true).wp Try.prog Q a w9 := by
  refine Rg.region_dead (by kernel_rfl) (fun w' => Below w9.heap.size w9 w') (FX10 AB XB ao a2 ad a3 cap c2 dcap c3 os ds) (fun _ => none) (by rw [ha, sizeX10]; kernel_rfl) (st_drew (Below.refl _ _)) ?_ ?_
  case refine_2 =>
    intro b' w' hf hI hA
    rw [sizeX10] at hA
    exact hend b' w' hf hI (hA 4 (by decide) rfl)
  case refine_1 =>
    clear hend
    have HS : ∀ {w w' : World}, Below w.heap.size w w' → ∀ k9 y9, FX10 AB XB ao a2 ad a3 cap c2 dcap c3 os ds k9 y9 w → FX10 AB XB ao a2 ad a3 cap c2 dcap c3 os ds k9 y9 w' := fun hb k9 y9 h => by
      unfold FX10 at *
      split at h <;> first | exact h | (obtain ⟨a4, c4, a5, c5, h1, h2, h3⟩ := h; exact ⟨a4, c4, a5, c5, h1, h2.below hb, h3.below hb⟩)
    intro i' hi'
    rw [sizeX10] at hi'
    rcases (show i' = 0 ∨ i' = 1 ∨ i' = 2 ∨ i' = 3 ∨ i' = 4 by omega) with rfl | rfl | rfl | rfl | rfl
    · intro bb w' hf hI hA
      clear hi'
      have q5 := hf.kept (s := 5) (by rw [sizeX10]; kernel_rfl) k5
      obtain ⟨e0, e1⟩ := (hX2.below hI).two
      clear hA HS hA2 hX2 r1 r2 s1 s2
      exact Rg.op_value (o := ⟨some 22, Op.load 40 (Operand.tmp 5), _, _, _, _⟩) (x := .agg #[.slice a2 os.length c2, .slice a3 ds.length c3]) rfl rfl (by simp only [execOp]; go_simp) ⟨_, rfl, (fun h => by cases h), rfl, hI, fun _ _ _ h => h⟩
    · intro bb w' hf hI hA
      clear hi'
      have q1 := hf.kept (s := 1) (by rw [sizeX10]; kernel_rfl) k1
      obtain ⟨e0, e1⟩ := (hA2.below hI).two
      clear hA HS hA2 hX2 r1 r2 s1 s2
      exact Rg.op_value (o := ⟨some 23, Op.load 34 (Operand.tmp 1), _, _, _, _⟩) (x := .agg #[.slice ao os.length cap, .slice ad ds.length dcap]) rfl rfl (by simp only [execOp]; go_simp) ⟨_, rfl, (fun h => by cases h), rfl, hI, fun _ _ _ h => h⟩
    · intro bb w' hf hI hA
      clear hi'
      have q23 : bb.tmps[23]? = some _ := hf.tmp (k := 1) rfl (by rw [ha]; decide) (hA 1 (by kernel_rfl) (.inl rfl))
      refine Rg.op_call (o := ⟨some 24, Op.call { callee := Callee.value (Operand.func 12), args := #[(Operand.tmp 23)], argTypes := _ }, _, _, _, _⟩) rfl rfl (by clear hA HS hA2 hX2 r1 r2 s1 s2; simp only [execOp, resolve]; go_simp) (tochart_any _ _ _ _ _ _ os ds w' (r1.below hI) (r2.below hI) hn hm) ?_
      rintro e w2 ⟨a4, c4, a5, c5, M, rfl, o1, o2, -, -, hb2⟩
      exact ⟨_, rfl, _, rfl, (fun h => by cases h), ⟨a4, c4, a5, c5, rfl, o1.row, o2.row⟩, onto hI hb2, fun k9 y9 _ h => HS hb2 k9 y9 h⟩
    · intro bb w' hf hI hA
      clear hi'
      have q22 : bb.tmps[22]? = some _ := hf.tmp (k := 0) rfl (by rw [ha]; decide) (hA 0 (by kernel_rfl) (.inl rfl))
      obtain ⟨a4, c4, a5, c5, hv, o1, o2⟩ := hA 2 (by kernel_rfl) (.inl rfl)
      have q24 : bb.tmps[24]? = some _ := hf.tmp (k := 2) rfl (by rw [ha]; decide) hv
      refine Rg.op_call (o := ⟨some 25, Op.call { callee := Callee.value (Operand.func 14), args := #[(Operand.tmp 22), (Operand.tmp 24)], argTypes := _ }, _, _, _, _⟩) rfl rfl (by clear hA HS hA2 hX2 r1 r2 s1 s2 hv o1 o2; simp only [execOp, resolve]; go_simp) (eqchart_any _ _ _ _ os ds w' (s1.below hI) (s2.below hI) o1 o2 hn hm) ?_
      rintro e w2 ⟨rfl, hb2⟩
      exact ⟨_, rfl, _, rfl, (fun h => by cases h), rfl, onto hI hb2, fun k9 y9 _ h => HS hb2 k9 y9 h⟩
    · intro bb w' hf hI hA
      clear hi'
      have q25 : bb.tmps[25]? = some _ := hf.tmp (k := 3) rfl (by rw [ha]; decide) (hA 3 (by kernel_rfl) (.inl rfl))
      clear hA HS hA2 hX2 r1 r2 s1 s2
      exact Rg.op_value (o := ⟨some 26, Op.unOp UnOp.not 4 (Operand.tmp 25), _, _, _, _⟩) (x := .bool false) rfl rfl (by simp only [execOp]; go_simp) ⟨_, rfl, (fun h => by cases h), rfl, hI, fun _ _ _ h => h⟩

theorem dX10_0 : Rg.dstAt (Rg.opsOf Try.f4 10) 0 = some 22 := by kernel_rfl
theorem dX10_1 : Rg.dstAt (Rg.opsOf Try.f4 10) 1 = some 23 := by kernel_rfl
theorem dX10_2 : Rg.dstAt (Rg.opsOf Try.f4 10) 2 = some 24 := by kernel_rfl
theorem dX10_3 : Rg.dstAt (Rg.opsOf Try.f4 10) 3 = some 25 := by kernel_rfl
theorem dX10_4 : Rg.dstAt (Rg.opsOf Try.f4 10) 4 = some 26 := by kernel_rfl
theorem layX10 {a b : Act} (hf : Rg.Fr (Rg.opsOf Try.f4 10) a b) : b = (((((a.put (some 22) (Rg.out (Rg.opsOf Try.f4 10) b 0)).put (some 23) (Rg.out (Rg.opsOf Try.f4 10) b 1)).put (some 24) (Rg.out (Rg.opsOf Try.f4 10) b 2)).put (some 25) (Rg.out (Rg.opsOf Try.f4 10) b 3)).put (some 26) (Rg.out (Rg.opsOf Try.f4 10) b 4)) := by
  have h := hf.chain
  rw [sizeX10, show List.range 5 = [0, 1, 2, 3, 4] from by decide] at h
  simp only [List.foldl_cons, List.foldl_nil, dX10_0, dX10_1, dX10_2, dX10_3, dX10_4] at h
  exact h

set_option maxRecDepth 20000 in
set_option maxHeartbeats 4000000 in
theorem walk (ao : Option Addr) (cap : Nat) (ad : Option Addr) (dcap : Nat) (os : List Od) (ds : List Ds) (w : World) (ho : VRw 9 cvOd w (.slice ao os.length cap) os) (hd : VRw 5 cvDs w (.slice ad ds.length dcap) ds) (hnm : os.length ≤ maxLen) (hmm : ds.length ≤ maxLen) :
    Calls Try.prog 4 #[.agg #[.slice ao os.length cap, .slice ad ds.length dcap]] w fun e w' => e = .returned (.bool true) ∧ Below w.heap.size w w' := by
  have hb0 : Below w.heap.size w (w.alloc (.cells #[.slice ao os.length cap, .slice ad ds.length dcap] 34)) := (Below.refl _ _).alloc (Nat.le_refl _) _
  have HP := hidden (PB.new w #[.slice ao os.length cap, .slice ad ds.length dcap] 34)
  have HO := hidden (ho.below hb0)
  have HD := hidden (hd.below hb0)
  have HB := hidden hb0
  clear ho hd hb0
  have hS := fun W => szchart_any ao os.length cap ad ds.length dcap W (by unfold maxLen at hnm; omega) (by unfold maxLen at hmm; omega)
  go_enter Try.func4, Try.ntmps4
  go_upto_region 1 with fail
  generalize w.alloc (.cells #[.slice ao os.length cap, .slice ad ds.length dcap] 34) = wA at *
  generalize hAB : w.heap.size = AB at HP ⊢
  obtain ⟨p0, p1⟩ := HP.out.two
  go_wp2_with fail
  refine (hS _).mono ?_
  rintro e w1 ⟨q, rfl, hr, hb1⟩
  clear hS p0 p1
  rcases hr with hr | ⟨hr0, hn, hm⟩
  · go_wp2_with fail
    go_ret
    exact ⟨rfl, onto HB.out hb1⟩
  have hr2 : ¬ q < 0 := by omega
  have HT := hidden (fun W h1 h2 => tochart_any ao os.length cap ad ds.length dcap os ds W h1 h2 hn hm)
  have HSP := hidden (fun a n c a2 n2 c2 W h1 h2 => schart_any a n c a2 n2 c2 os ds W h1 h2 hn hm)
  have HIM := hidden (fun a n c a2 n2 c2 W h1 h2 => ichart_any a n c a2 n2 c2 os ds W h1 h2 hn hm)
  generalize chartB os ds = R at *
  have K1 := hidden hb1
  clear hb1
  obtain ⟨p0, p1⟩ := (HP.out.below K1.out).two
  go_wp2_with fail
  refine (HT.out _ (HO.out.below K1.out) (HD.out.below K1.out)).mono ?_
  rintro e w2 ⟨a2, c2, a3, c3, M2, rfl, o2, o3, -, -, hb2⟩
  have K2 := hidden (K1.out.trans (hb2.mono K1.out.size))
  have R2 := hidden o2.row
  have R3 := hidden o3.row
  clear o2 o3 hb2 K1 p0 p1
  go_wp2_with fail
  refine (HSP.out _ _ _ _ _ _ _ R2.out R3.out).mono ?_
  rintro e w3 ⟨rfl, hb3⟩
  have K3 := hidden (K2.out.trans (hb3.mono K2.out.size))
  clear R2 R3 hb3 K2
  obtain ⟨p0, p1⟩ := (HP.out.below K3.out).two
  go_wp2_with fail
  refine (HT.out _ (HO.out.below K3.out) (HD.out.below K3.out)).mono ?_
  rintro e w4 ⟨a4, c4, a5, c5, M4, rfl, o4, o5, -, -, hb4⟩
  have K4 := hidden (K3.out.trans (hb4.mono K3.out.size))
  clear hb4 K3 p0 p1
  go_upto_region 7 with fail
  have PX := PB.new w4 #[.slice a4 os.length c4, .slice a5 ds.length c5] 40
  have bx : Below w4.heap.size w4 (w4.alloc (.cells #[.slice a4 os.length c4, .slice a5 ds.length c5] 40)) := (Below.refl _ _).alloc (Nat.le_refl _) _
  have R4 := hidden (o4.row.below bx)
  have R5 := hidden (o5.row.below bx)
  have K5 := hidden (K4.out.trans (bx.mono K4.out.size))
  clear o4 o5 bx K4
  generalize w4.alloc (.cells #[.slice a4 os.length c4, .slice a5 ds.length c5] 40) = w5 at *
  generalize w4.heap.size = XB at *
  obtain ⟨x0, x1⟩ := PX.two
  go_wp2_with fail
  refine (HIM.out _ _ _ _ _ _ _ R4.out R5.out).mono ?_
  rintro e w6 ⟨rfl, hb6⟩
  have K6 := hidden (K5.out.trans (hb6.mono K5.out.size))
  have PX6 := PX.below hb6
  have R46 := hidden (R4.out.below hb6)
  have R56 := hidden (R5.out.below hb6)
  clear hb6 K5 PX R4 R5 x0 x1
  cases R
  all_goals
    go_upto_region 10 with fail
    refine regX10 rfl rfl rfl (HP.out.below K6.out) PX6 (HO.out.below K6.out) (HD.out.below K6.out) R46.out R56.out hn hm ?_
    intro b' w7 hf hb7 hv
    rw [layX10 hf, hv]
    clear hv hf
    generalize Rg.out (Rg.opsOf Try.f4 10) b' 0 = y0
    generalize Rg.out (Rg.opsOf Try.f4 10) b' 1 = y1
    generalize Rg.out (Rg.opsOf Try.f4 10) b' 2 = y2
    generalize Rg.out (Rg.opsOf Try.f4 10) b' 3 = y3
    have K7 := hidden (K6.out.trans (hb7.mono K6.out.size))
    clear hb7
    go_frame
    go_wp2_with fail
    go_ret
    exact ⟨rfl, onto HB.out K7.out⟩

set_option maxRecDepth 100000 in
theorem lifted (os : Os) (started : os.Started) (H : Type) (enc : TypeId × Value → H) :
    ReturnsInHanded {} Try.checked os 4 .any (Rows.fnExactChartOkSpec.pre6 enc Try.prog Try.f4 Rows.fnExactChartOkRow.domain false) (Rows.fnExactChartOkSpec.post enc Try.prog Try.f4 false true false false) := by
  refine returnsInHanded_of_change (C := Try.checked) own started (by kernel_rfl) Try.func4
    (ChangeSpec.witness6 (enc := enc) (C := Try.checked) false ⟨#[], #[.agg #[.slice none 0 0, .slice none 0 0]], []⟩ 8 (by kernel_rfl) (by kernel_rfl) (by kernel_rfl) (by kernel_rfl)) ?_
  intro W base args ds gs before hval0 hW hcnd _
  have hval : ∀ (j : Nat) t v, Try.f4.params[j]? = some t → args[j]? = some v → Value.okWide Try.prog W .any base t v := hval0
  have hW' := hW
  obtain ⟨p, q, hA0, hV, rfl, hfz, hnd⟩ := hW
  have hA : DataW.TrodAll enc Try.prog W 0 (fun _ => true) true Try.f4.params.toList args.toList ds p := hA0
  rw [Try.params4] at hA hval
  obtain ⟨v0, vs0, d0, ds0, p0, q0, hargs, rfl, rfl, h0, r0⟩ := trodAll_cons hA
  obtain ⟨rfl, rfl, rfl⟩ := trodAll_nil r0
  obtain rfl : args = #[v0] := by cases args; simp_all
  obtain ⟨rfl, rfl⟩ := trodVars_none hV
  have k0 := h0
  have lt0 : ∀ x ∈ p0, x.block < W.heap.size := by obtain ⟨m, hm⟩ := k0; exact DataW.trod_lt m _ _ _ hm
  obtain ⟨ao, cap, ad, dcap, os, ds, rfl, hnm, hmm, hrow, hdrow⟩ := chart_of_read (hval 0 34 v0 rfl rfl) h0
  clear hA0 hval0
  refine (walk ao cap ad dcap os ds W hrow hdrow hnm hmm).mono fun e W' ⟨he, bel⟩ => ?_
  subst he
  exact ⟨_, rfl, _, _, _, [], _, [], hW', trodAll_mk1 (shut_bool Try.underlying4 _), (trodAll_cons_mk (Below.trod laidOut (by kernel_rfl) (of_decide_eq_true (by kernel_rfl)) k0 bel lt0) trodAll_mk0), rfl, bel.frame _, fun h => by cases h⟩

theorem over : Rows.fnExactChartOkRow.holds Try.pinned (OpenSpec.ofChange Rows.fnExactChartOkSpec) :=
  OpenClaim.holds_of_wide 4 Try.f4 rfl rfl rfl rfl rfl rfl rfl ⟨rfl, rfl, rfl, rfl, rfl⟩ rfl rfl rfl rfl rfl (by kernel_rfl) Try.func4 (by kernel_rfl)
    (of_decide_eq_true (by kernel_rfl)) (by unfold Func.isWrapper; first | (rw [if_pos (by decide +kernel)]; kernel_rfl) | (rw [if_neg (by decide +kernel)]; exact ⟨rfl, rfl⟩))
    (fun os started H enc _ => lifted os started H enc)
end fnExactChartOk
theorem fnExactChartOk_holds : Rows.FnExactChartOkSaid := fnExactChartOk.over
end Go.Proofs.Ytkejjlgeiaeicaa
