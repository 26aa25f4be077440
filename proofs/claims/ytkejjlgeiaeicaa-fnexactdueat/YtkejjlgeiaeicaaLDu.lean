/-
  Proved: for every chart and every number, the program's DueAt answers as the specification's, writes into no argument, and its answer is its own (FnExactDueAt returns true). No conditions.
-/
import Derived.Test.YtkejjlgeiaeicaaU16
import Derived.Test.YtkejjlgeiaeicaaUf
import Derived.Test.YtkejjlgeiaeicaaU17
import Derived.Test.YtkejjlgeiaeicaaUs
import Derived.Test.YtkejjlgeiaeicaaRn
import Derived.Test.YtkejjlgeiaeicaaRm
namespace Go.Proofs.Ytkejjlgeiaeicaa
open Go.RowKit Va Uo

namespace fnExactDueAt
open Go.ChangeShapes Go.WideShapes Go.ChangeAt Go.Joins
set_option linter.all false

theorem own : ownKnob Try.prog.godebug = none := by kernel_rfl
theorem laidOut : laidOutB Try.prog = true := by kernel_rfl


def FX10 (AB XB : Nat) (ao a2 ad a3 : Option Addr) (cap c2 dcap c3 : Nat) (os : List Od) (ds : List Ds) (i9 : Nat) (v : Value) (w : World) : Prop :=
  match i9 with
  | 0 => v = .agg #[.slice a2 os.length c2, .slice a3 ds.length c3]
  | 1 => v = .agg #[.slice ao os.length cap, .slice ad ds.length dcap]
  | 2 => ∃ a4 c4 a5 c5, v = .agg #[.slice a4 os.length c4, .slice a5 ds.length c5] ∧ VRw 9 cvOd w (.slice a4 os.length c4) os ∧ VRw 5 cvDs w (.slice a5 ds.length c5) ds
  | 3 => v = .bool true
  | 4 => v = .bool false
  | _ => True
theorem sizeX10 : (Rg.opsOf Try.f5 10).size = 5 := by kernel_rfl

set_option maxRecDepth 20000 in
set_option maxHeartbeats 8000000 in
theorem regX10 {Q : Exit → Act → World → Prop} {a : Act} {w9 : World} {AB XB : Nat} {ao a2 ad a3 : Option Addr} {cap c2 dcap c3 : Nat} {os : List Od} {ds : List Ds} (ha : a.tmps.size = 74)
    (k2 : a.tmps[2]? = some (.pointer (some ⟨AB, 0, none⟩))) (k7 : a.tmps[7]? = some (.pointer (some ⟨XB, 0, none⟩))) (hA2 : PB w9 AB #[.slice ao os.length cap, .slice ad ds.length dcap] 34) (hX2 : PB w9 XB #[.slice a2 os.length c2, .slice a3 ds.length c3] 40) (r1 : VRw 9 cvOd w9 (.slice ao os.length cap) os) (r2 : VRw 5 cvDs w9 (.slice ad ds.length dcap) ds) (s1 : VRw 9 cvOd w9 (.slice a2 os.length c2) os) (s2 : VRw 5 cvDs w9 (.slice a3 ds.length c3) ds) (hn : os.length ≤ 1048576) (hm : ds.length ≤ 1048576)
    (hend : ∀ b' w', Rg.Fr (Rg.opsOf Try.f5 10) a b' → Below w9.heap.size w9 w' → Rg.out (Rg.opsOf Try.f5 10) b' 4 = .bool false → Q .normal b' w') :
    (Code.region 10 (Rg.opsOf Try.f5 10) true).wp Try.prog Q a w9 := by
  refine Rg.region_dead (by kernel_rfl) (fun w' => Below w9.heap.size w9 w') (FX10 AB XB ao a2 ad a3 cap c2 dcap c3 os ds) (fun _ => none) (by rw [ha, sizeX10]; kernel_rfl) (st_drew (Below.refl _ _)) ?_ ?_
  case refine_2 =>
    intro b' w' hf hI hA
    rw [sizeX10] at hA
    exact hend b' w' hf hI (hA 4 (by decide) rfl)
  case refine_1 =>
    clear hend
    have HS : ∀ {w w' : World}, Below w.heap.size w w' → ∀ k9 y9, FX10 AB XB ao a2 ad a3 cap c2 dcap c3 os ds k9 y9 w → FX10 AB XB ao a2 ad a3 cap c2 dcap c3 os ds k9 y9 w' := fun hb k9 y9 h => by
      unfold FX10 at *
      split at h <;> first | exact h | (obtain ⟨a4, c4, a5, c5, h1, h2, h3⟩ := h; exact ⟨a4, c4, a5, c5, h1, h2.below hb, h3.below hb⟩)
    intro i' hi'
    rw [sizeX10] at hi'
    rcases (show i' = 0 ∨ i' = 1 ∨ i' = 2 ∨ i' = 3 ∨ i' = 4 by omega) with rfl | rfl | rfl | rfl | rfl
    · intro bb w' hf hI hA
      clear hi'
      have q7 := hf.kept (s := 7) (by rw [sizeX10]; kernel_rfl) k7
      obtain ⟨e0, e1⟩ := (hX2.below hI).two
      clear hA HS hA2 hX2 r1 r2 s1 s2
      exact Rg.op_value (o := ⟨some 31, Op.load 40 (Operand.tmp 7), _, _, _, _⟩) (x := .agg #[.slice a2 os.length c2, .slice a3 ds.length c3]) rfl rfl (by simp only [execOp]; go_simp) ⟨_, rfl, (fun h => by cases h), rfl, hI, fun _ _ _ h => h⟩
    · intro bb w' hf hI hA
      clear hi'
      have q2 := hf.kept (s := 2) (by rw [sizeX10]; kernel_rfl) k2
      obtain ⟨e0, e1⟩ := (hA2.below hI).two
      clear hA HS hA2 hX2 r1 r2 s1 s2
      exact Rg.op_value (o := ⟨some 32, Op.load 34 (Operand.tmp 2), _, _, _, _⟩) (x := .agg #[.slice ao os.length cap, .slice ad ds.length dcap]) rfl rfl (by simp only [execOp]; go_simp) ⟨_, rfl, (fun h => by cases h), rfl, hI, fun _ _ _ h => h⟩
    · intro bb w' hf hI hA
      clear hi'
      have q32 : bb.tmps[32]? = some _ := hf.tmp (k := 1) rfl (by rw [ha]; decide) (hA 1 (by kernel_rfl) (.inl rfl))
      refine Rg.op_call (o := ⟨some 33, Op.call { callee := Callee.value (Operand.func 12), args := #[(Operand.tmp 32)], argTypes := _ }, _, _, _, _⟩) rfl rfl (by clear hA HS hA2 hX2 r1 r2 s1 s2; simp only [execOp, resolve]; go_simp) (tochart_any _ _ _ _ _ _ os ds w' (r1.below hI) (r2.below hI) hn hm) ?_
      rintro e w2 ⟨a4, c4, a5, c5, M, rfl, o1, o2, -, -, hb2⟩
      exact ⟨_, rfl, _, rfl, (fun h => by cases h), ⟨a4, c4, a5, c5, rfl, o1.row, o2.row⟩, onto hI hb2, fun k9 y9 _ h => HS hb2 k9 y9 h⟩
    · intro bb w' hf hI hA
      clear hi'
      have q31 : bb.tmps[31]? = some _ := hf.tmp (k := 0) rfl (by rw [ha]; decide) (hA 0 (by kernel_rfl) (.inl rfl))
      obtain ⟨a4, c4, a5, c5, hv, o1, o2⟩ := hA 2 (by kernel_rfl) (.inl rfl)
      have q33 : bb.tmps[33]? = some _ := hf.tmp (k := 2) rfl (by rw [ha]; decide) hv
      refine Rg.op_call (o := ⟨some 34, Op.call { callee := Callee.value (Operand.func 14), args := #[(Operand.tmp 31), (Operand.tmp 33)], argTypes := _ }, _, _, _, _⟩) rfl rfl (by clear hA HS hA2 hX2 r1 r2 s1 s2 hv o1 o2; simp only [execOp, resolve]; go_simp) (eqchart_any _ _ _ _ os ds w' (s1.below hI) (s2.below hI) o1 o2 hn hm) ?_
      rintro e w2 ⟨rfl, hb2⟩
      exact ⟨_, rfl, _, rfl, (fun h => by cases h), rfl, onto hI hb2, fun k9 y9 _ h => HS hb2 k9 y9 h⟩
    · intro bb w' hf hI hA
      clear hi'
      have q34 : bb.tmps[34]? = some _ := hf.tmp (k := 3) rfl (by rw [ha]; decide) (hA 3 (by kernel_rfl) (.inl rfl))
      clear hA HS hA2 hX2 r1 r2 s1 s2
      exact Rg.op_value (o := ⟨some 35, Op.unOp UnOp.not 4 (Operand.tmp 34), _, _, _, _⟩) (x := .bool false) rfl rfl (by simp only [execOp]; go_simp) ⟨_, rfl, (fun h => by cases h), rfl, hI, fun _ _ _ h => h⟩

theorem dX10_0 : Rg.dstAt (Rg.opsOf Try.f5 10) 0 = some 31 := by kernel_rfl
theorem dX10_1 : Rg.dstAt (Rg.opsOf Try.f5 10) 1 = some 32 := by kernel_rfl
theorem dX10_2 : Rg.dstAt (Rg.opsOf Try.f5 10) 2 = some 33 := by kernel_rfl
theorem dX10_3 : Rg.dstAt (Rg.opsOf Try.f5 10) 3 = some 34 := by kernel_rfl
theorem dX10_4 : Rg.dstAt (Rg.opsOf Try.f5 10) 4 = some 35 := by kernel_rfl
theorem layX10 {a b : Act} (hf : Rg.Fr (Rg.opsOf Try.f5 10) a b) : b = (((((a.put (some 31) (Rg.out (Rg.opsOf Try.f5 10) b 0)).put (some 32) (Rg.out (Rg.opsOf Try.f5 10) b 1)).put (some 33) (Rg.out (Rg.opsOf Try.f5 10) b 2)).put (some 34) (Rg.out (Rg.opsOf Try.f5 10) b 3)).put (some 35) (Rg.out (Rg.opsOf Try.f5 10) b 4)) := by
  have h := hf.chain
  rw [sizeX10, show List.range 5 = [0, 1, 2, 3, 4] from by decide] at h
  simp only [List.foldl_cons, List.foldl_nil, dX10_0, dX10_1, dX10_2, dX10_3, dX10_4] at h
  exact h

set_option maxRecDepth 20000 in
set_option maxHeartbeats 8000000 in
theorem walk (ao : Option Addr) (cap : Nat) (ad : Option Addr) (dcap : Nat) (os : List Od) (ds : List Ds) (tm : Int) (w : World) (ho : VRw 9 cvOd w (.slice ao os.length cap) os) (hd : VRw 5 cvDs w (.slice ad ds.length dcap) ds) (hnm : os.length ≤ maxLen) (hmm : ds.length ≤ maxLen) :
    Calls Try.prog 5 #[.agg #[.slice ao os.length cap, .slice ad ds.length dcap], .int .i64 tm] w fun e w' => e = .returned (.bool true) ∧ Below w.heap.size w w' := by
  have hb0 : Below w.heap.size w (w.alloc (.cells #[.slice ao os.length cap, .slice ad ds.length dcap] 34)) := (Below.refl _ _).alloc (Nat.le_refl _) _
  have HP := hidden (PB.new w #[.slice ao os.length cap, .slice ad ds.length dcap] 34)
  have HO := hidden (ho.below hb0)
  have HD := hidden (hd.below hb0)
  have HB := hidden hb0
  clear ho hd hb0
  have hS := fun W => szchart_any ao os.length cap ad ds.length dcap W (by unfold maxLen at hnm; omega) (by unfold maxLen at hmm; omega)
  go_enter Try.func5, Try.ntmps5
  go_upto_region 1 with fail
  generalize w.alloc (.cells #[.slice ao os.length cap, .slice ad ds.length dcap] 34) = wA at *
  generalize hAB : w.heap.size = AB at HP ⊢
  obtain ⟨p0, p1⟩ := HP.out.two
  go_wp2_with fail
  refine (hS _).mono ?_
  rintro e w1 ⟨q, rfl, hr, hb1⟩
  clear hS p0 p1
  rcases hr with hr | ⟨hr0, hn, hm⟩
  · go_wp2_with fail
    go_ret
    exact ⟨rfl, onto HB.out hb1⟩
  have hr2 : ¬ q < 0 := by omega
  have HT := hidden (fun W h1 h2 => tochart_any ao os.length cap ad ds.length dcap os ds W h1 h2 hn hm)
  have HSP := hidden (fun a n c a2 n2 c2 W h1 h2 => sdueat_any a n c a2 n2 c2 os ds tm W h1 h2 hn hm)
  have HIM := hidden (fun a n c a2 n2 c2 W h1 h2 => idueat_any a n c a2 n2 c2 os ds tm W h1 h2 hn hm)
  have hLL : (dueAtL os ds tm).length ≤ 1048576 := Nat.le_trans (dueAt_len os ds tm) (by decide)
  generalize dueAtL os ds tm = L at *
  have K1 := hidden hb1
  clear hb1
  obtain ⟨p0, p1⟩ := (HP.out.below K1.out).two
  go_wp2_with fail
  refine (HT.out _ (HO.out.below K1.out) (HD.out.below K1.out)).mono ?_
  rintro e w2 ⟨a2, c2, a3, c3, M2, rfl, o2, o3, -, -, hb2⟩
  have K2 := hidden (K1.out.trans (hb2.mono K1.out.size))
  have R2 := hidden o2.row
  have R3 := hidden o3.row
  clear o2 o3 hb2 K1 p0 p1
  go_wp2_with fail
  refine (HSP.out _ _ _ _ _ _ _ R2.out R3.out).mono ?_
  rintro e w3 ⟨v3, rfl, ho3, hb3⟩
  have V3 := hidden (vown_of rfl ho3).row
  obtain ⟨ad3, k3, rfl⟩ := V3.out.form
  have K3 := hidden (K2.out.trans (hb3.mono K2.out.size))
  clear R2 R3 hb3 K2 ho3
  obtain ⟨p0, p1⟩ := (HP.out.below K3.out).two
  go_wp2_with fail
  refine (HT.out _ (HO.out.below K3.out) (HD.out.below K3.out)).mono ?_
  rintro e w4 ⟨a4, c4, a5, c5, M4, rfl, o4, o5, hap, hM4, hb4⟩
  have HO4 := hidden o4
  have HO5 := hidden o5
  have HAp := hidden hap
  have z4 := hb4.size
  clear hap p0 p1
  go_upto_region 7 with fail
  have PX := PB.new w4 #[.slice a4 os.length c4, .slice a5 ds.length c5] 40
  have bx : Below w4.heap.size w4 (w4.alloc (.cells #[.slice a4 os.length c4, .slice a5 ds.length c5] 40)) := (Below.refl _ _).alloc (Nat.le_refl _) _
  have R4 := hidden (o4.below bx)
  have R5 := hidden (o5.below bx)
  have K5 := hidden (hb4.trans (bx.mono z4))
  have z5 := bx.size
  clear o4 o5 bx hb4
  generalize w4.alloc (.cells #[.slice a4 os.length c4, .slice a5 ds.length c5] 40) = w5 at *
  generalize hXB : w4.heap.size = XB at PX ⊢
  obtain ⟨x0, x1⟩ := PX.two
  go_wp2_with fail
  refine (HIM.out _ _ _ _ _ _ _ R4.out.row R5.out.row).mono ?_
  rintro e w6 ⟨v6, rfl, ho6, hb6⟩
  obtain ⟨ad6, k6, rfl⟩ := ho6.row.form
  have K6 := hidden (K5.out.trans (hb6.mono K5.out.size))
  have PX6 := hidden (PX.below hb6)
  have R46 := hidden (R4.out.below hb6)
  have R56 := hidden (R5.out.below hb6)
  have O6 := hidden ho6
  have z6 := K5.out.size
  clear hb6 K5 PX R4 R5 x0 x1 ho6
  go_wp2_with fail
  refine (eqdus_any _ _ L _ O6.out.row (V3.out.below K6.out) hLL).mono ?_
  rintro e w7 ⟨rfl, hb7⟩
  have K7 := hidden (K6.out.trans (hb7.mono K6.out.size))
  have PX7 := hidden (PX6.out.below hb7)
  have R47 := hidden (R46.out.below hb7)
  have R57 := hidden (R56.out.below hb7)
  have O7 := hidden (O6.out.below hb7)
  clear hb7 K6 PX6 R46 R56 O6
  have KA := hidden (K3.out.trans (K7.out.mono K3.out.size))
  go_upto_region 10 with fail
  refine regX10 rfl rfl rfl (HP.out.below KA.out) PX7.out (HO.out.below KA.out) (HD.out.below KA.out) R47.out.row R57.out.row hn hm ?_
  intro b' w8 hf hb8 hv
  rw [layX10 hf, hv]
  clear hv hf KA
  generalize Rg.out (Rg.opsOf Try.f5 10) b' 0 = y0
  generalize Rg.out (Rg.opsOf Try.f5 10) b' 1 = y1
  generalize Rg.out (Rg.opsOf Try.f5 10) b' 2 = y2
  generalize Rg.out (Rg.opsOf Try.f5 10) b' 3 = y3
  have K8 := hidden (K7.out.trans (hb8.mono K7.out.size))
  have PX8 := hidden (PX7.out.below hb8)
  have R48 := hidden (R47.out.below hb8)
  have R58 := hidden (R57.out.below hb8)
  have O8 := hidden (O7.out.below hb8)
  clear hb8 K7 PX7 R47 R57 O7
  go_frame
  obtain ⟨x0, x1⟩ := PX8.out.two
  go_wp2_with fail
  refine (markchart_any _ _ os ds _ _ 1 _ R48.out R58.out HAp.out hn hm (by omega) (by omega)).mono ?_
  rintro e w9 ⟨rfl, hmk⟩
  have K9 := hidden (hmk.below _ _ K8.out K8.out.size (Nat.le_refl _) hM4)
  have O9 := hidden (hmk.young _ _ _ _ _ _ O8.out ⟨w4, HO4.out, by rw [hXB]; omega⟩ ⟨w4, HO5.out, by rw [hXB]; omega⟩)
  have n9 : ¬ (1 + 9 * (os.length : Int) + 5 * (ds.length : Int)) < 0 := by omega
  clear hmk K8 PX8 R48 R58 O8 x0 x1
  go_wp2_with fail
  refine (eqdus_any _ _ L _ O9.out.row (V3.out.below K9.out) hLL).mono ?_
  rintro e w10 ⟨rfl, hb10⟩
  have K10 := hidden (K9.out.trans (hb10.mono K9.out.size))
  have O10 := hidden (O9.out.below hb10)
  clear hb10 K9 O9
  go_wp2_with fail
  refine (markdu_any _ L _ 1 _ O10.out hLL (by omega) (by omega)).mono ?_
  rintro e w11 ⟨rfl, hm11, ha11, hz11⟩
  have K11 := hidden (O10.out.mark_below ha11 hz11 K10.out z6)
  have M11 := hidden hm11
  have n8 : ¬ (1 + 3 * (L.length : Int)) < 0 := by omega
  clear hm11 ha11 hz11 O10 K10
  go_wp2_with fail
  refine (helddu_any _ 1 L.length _ M11.out.row hLL (by omega) (by omega)).mono ?_
  rintro e w12 ⟨rfl, hw12⟩
  have hw12' := hw12.symm
  clear hw12
  subst hw12'
  have KA := hidden (K3.out.trans (K11.out.mono K3.out.size))
  obtain ⟨p0, p1⟩ := (HP.out.below KA.out).two
  go_wp2_with fail
  refine (HT.out _ (HO.out.below KA.out) (HD.out.below KA.out)).mono ?_
  rintro e w13 ⟨a13, c13, a14, c14, M13, rfl, o13, o14, -, -, hb13⟩
  have K13 := hidden (K11.out.trans (hb13.mono K11.out.size))
  have M13' := hidden (M11.out.below hb13)
  have R13 := hidden o13.row
  have R14 := hidden o14.row
  clear o13 o14 hb13 K11 M11 KA p0 p1
  go_wp2_with fail
  refine (HIM.out _ _ _ _ _ _ _ R13.out R14.out).mono ?_
  rintro e w15 ⟨v15, rfl, ho15, hb15⟩
  obtain ⟨ad15, k15, rfl⟩ := ho15.row.form
  have V15 := hidden ho15.row
  have K15 := hidden (K13.out.trans (hb15.mono K13.out.size))
  have M15 := hidden (M13'.out.below hb15)
  clear ho15 hb15 K13 M13' R13 R14
  go_wp2_with fail
  refine (eqdus_any _ _ L _ V15.out (V3.out.below K15.out) hLL).mono ?_
  rintro e w16 ⟨rfl, hb16⟩
  have K16 := hidden (K15.out.trans (hb16.mono K15.out.size))
  have M16 := hidden (M15.out.below hb16)
  clear hb16 K15 M15 V15
  go_wp2_with fail
  refine (helddu_any _ 1 L.length _ M16.out.row hLL (by omega) (by omega)).mono ?_
  rintro e w17 ⟨rfl, hw17⟩
  have hw17' := hw17.symm
  clear hw17
  subst hw17'
  go_wp2_with fail
  go_ret
  exact ⟨rfl, onto HB.out (K3.out.trans (K16.out.mono K3.out.size))⟩

set_option maxRecDepth 100000 in
theorem lifted (os : Os) (started : os.Started) (H : Type) (enc : TypeId × Value → H) :
    ReturnsInHanded {} Try.checked os 5 .any (Rows.fnExactDueAtSpec.pre6 enc Try.prog Try.f5 Rows.fnExactDueAtRow.domain false) (Rows.fnExactDueAtSpec.post enc Try.prog Try.f5 false true false false) := by
  refine returnsInHanded_of_change (C := Try.checked) own started (by kernel_rfl) Try.func5
    (ChangeSpec.witness6 (enc := enc) (C := Try.checked) false ⟨#[], #[.agg #[.slice none 0 0, .slice none 0 0], .int .i64 0], []⟩ 8 (by kernel_rfl) (by kernel_rfl) (by kernel_rfl) (by kernel_rfl)) ?_
  intro W base args ds gs before hval0 hW hcnd _
  have hval : ∀ (j : Nat) t v, Try.f5.params[j]? = some t → args[j]? = some v → Value.okWide Try.prog W .any base t v := hval0
  have hW' := hW
  obtain ⟨p, q, hA0, hV, rfl, hfz, hnd⟩ := hW
  have hA : DataW.TrodAll enc Try.prog W 0 (fun _ => true) true Try.f5.params.toList args.toList ds p := hA0
  rw [Try.params5] at hA hval
  obtain ⟨v0, vs0, d0, ds0, p0, q0, hargs, rfl, rfl, h0, r0⟩ := trodAll_cons hA
  obtain ⟨v1, vs1, d1, ds1, p1, q1, rfl, rfl, rfl, h1, r1⟩ := trodAll_cons r0
  obtain ⟨rfl, rfl, rfl⟩ := trodAll_nil r1
  obtain rfl : args = #[v0, v1] := by cases args; simp_all
  obtain ⟨rfl, rfl⟩ := trodVars_none hV
  have k0 := h0
  have lt0 : ∀ x ∈ p0, x.block < W.heap.size := by obtain ⟨m, hm⟩ := k0; exact DataW.trod_lt m _ _ _ hm
  obtain ⟨ao, cap, ad, dcap, os, ds, rfl, hnm, hmm, hrow, hdrow⟩ := chart_of_read (hval 0 34 v0 rfl rfl) h0
  obtain ⟨tm, rfl, rfl, rfl, k1⟩ := open_int Try.underlying2 (hval 1 2 v1 rfl rfl) h1
  clear hA0 hval0
  refine (walk ao cap ad dcap os ds tm W hrow hdrow hnm hmm).mono fun e W' ⟨he, bel⟩ => ?_
  subst he
  exact ⟨_, rfl, _, _, _, [], _, [], hW', trodAll_mk1 (shut_bool Try.underlying4 _), (trodAll_cons_mk (Below.trod laidOut (by kernel_rfl) (of_decide_eq_true (by kernel_rfl)) k0 bel lt0) (trodAll_cons_mk (shut_int Try.underlying2 k1) trodAll_mk0)), rfl, bel.frame _, fun h => by cases h⟩

theorem over : Rows.fnExactDueAtRow.holds Try.pinned (OpenSpec.ofChange Rows.fnExactDueAtSpec) :=
  OpenClaim.holds_of_wide 5 Try.f5 rfl rfl rfl rfl rfl rfl rfl ⟨rfl, rfl, rfl, rfl, rfl⟩ rfl rfl rfl rfl rfl (by kernel_rfl) Try.func5 (by kernel_rfl)
    (of_decide_eq_true (by kernel_rfl)) (by unfold Func.isWrapper; first | (rw [if_pos (by decide +kernel)]; kernel_rfl) | (rw [if_neg (by decide +kernel)]; exact ⟨rfl, rfl⟩))
    (fun os started H enc _ => lifted os started H enc)
end fnExactDueAt
theorem fnExactDueAt_holds : Rows.FnExactDueAtSaid := fnExactDueAt.over
end Go.Proofs.Ytkejjlgeiaeicaa
