/-
  Proved: for every house, every sex and every need, the program's BedsFree answers as the specification's, writes into no argument and keeps none, and its answer is its own (FnExactBedsFree returns true). No conditions.
-/
import Derived.Test.YtpdlkkbnckjibalXd
import Derived.Test.YtpdlkkbnckjibalXe
import Derived.Test.YtpdlkkbnckjibalXf
import Derived.Test.YtpdlkkbnckjibalHh
import Derived.Test.YtpdlkkbnckjibalHo
namespace Go.Proofs.Ytpdlkkbnckjibal
open Go.RowKit Hm

namespace fnExactBedsFree
open Go.ChangeShapes Go.WideShapes Go.ChangeAt Go.Joins
set_option linter.unusedVariables false

theorem own : ownKnob Try.prog.godebug = none := by kernel_rfl
theorem laidOut : laidOutB Try.prog = true := by kernel_rfl
theorem free_len (B : List Bd) (S : List St) (sex need : Int) : (bedsFree B S sex need).length ≤ B.length := by
  unfold bedsFree
  split
  · exact freeTo_len B S sex need B.length
  · exact Nat.zero_le _

set_option maxRecDepth 20000 in
set_option maxHeartbeats 8000000 in
theorem walk (ao ao2 : Option Addr) (n cap m cap2 : Nat) (B : List Bd) (S : List St) (sex need : Int) (w : World) (h : HRw w (.slice ao n cap) (.slice ao2 m cap2) B S) (hn : n ≤ maxLen) (hm : m ≤ maxLen) :
    Calls Try.prog 8 #[.agg #[.slice ao n cap, .slice ao2 m cap2], .int .i64 sex, .int .i64 need] w fun e w' => e = .returned (.bool true) ∧ Below w.heap.size w w' := by
  have hS := fun W => szhouse_any ao ao2 n cap m cap2 W (by unfold maxLen at hn; omega) (by unfold maxLen at hm; omega)
  have HH := hidden h
  have e1 := h.1.len
  have e2 := h.2.len
  have E1 := hidden e1
  have E2 := hidden e2
  clear h e1 e2
  have hb0 : Below w.heap.size w (w.alloc (.cells #[.slice ao n cap, .slice ao2 m cap2] 41)) := (Below.refl _ _).alloc (Nat.le_refl _) _
  go_enter Try.func8, Try.ntmps8
  go_wp2_with fail
  refine (hS _).mono ?_
  rintro e w1 ⟨⟨r, rfl, hr⟩, hb1⟩
  have b1 := onto hb0 hb1
  rcases hr with hr | ⟨hr, l1, l2⟩
  · go_wp2_with fail
    go_ret
    exact ⟨rfl, b1⟩
  have hr' : ¬ r < 0 := by omega
  have L1 : B.length ≤ 1048576 := by have := E1.out; omega
  have L2 : S.length ≤ 1048576 := by have := E2.out; omega
  have HT := hidden (fun W (hW : Below w.heap.size w W) => tohouse_any ao ao2 n cap m cap2 B S W (HH.out.below hW) L1 L2)
  have HSF := hidden (fun a1 c1 a2 c2 W hW => sfree_any a1 a2 B.length c1 S.length c2 B S sex need W hW (fun W' hW' => sok_any a1 a2 B.length c1 S.length c2 B S W' hW'))
  have HIF := hidden (fun a1 c1 a2 c2 W hW => ifree_any a1 a2 B.length c1 S.length c2 B S sex need W hW)
  have hLL : (bedsFree B S sex need).length ≤ 1048576 := Nat.le_trans (free_len B S sex need) L1
  generalize bedsFree B S sex need = L at *
  have z1 := hb1.size
  simp only [World.size_alloc] at z1
  have y1 : w.heap.size < w1.heap.size := by omega
  have p0 : w1.cell? ⟨w.heap.size, 0, none⟩ = some (.slice ao n cap) := ((bcell hb1).1 _ _ (by first | omega | (simp; done) | (simp; omega))).trans (by simp [go_sem])
  have p1 : w1.cell? ⟨w.heap.size, 1, none⟩ = some (.slice ao2 m cap2) := ((bcell hb1).1 _ _ (by first | omega | (simp; done) | (simp; omega))).trans (by simp [go_sem])
  clear hS hb1 z1 hb0
  go_wp2_with fail
  refine (HT.out _ b1).mono ?_
  rintro e w2 ⟨a1, c1, a2, c2, rfl, ho2, hb2⟩
  have b2 := onto b1 hb2
  have z2 := hb2.size
  have q0 := ((bcell hb2).1 _ 0 y1).trans p0
  have q1 := ((bcell hb2).1 _ 1 y1).trans p1
  have HR2 := hidden ho2.row
  clear hb2 b1 p0 p1 ho2
  go_wp2_with fail
  refine (HSF.out _ _ _ _ _ HR2.out).mono ?_
  rintro e w3 ⟨v3, rfl, ho3, hb3⟩
  have b3 := onto b2 hb3
  have z3 := hb3.size
  have y2 : w.heap.size < w2.heap.size := by omega
  have p0 := ((bcell hb3).1 _ 0 y2).trans q0
  have p1 := ((bcell hb3).1 _ 1 y2).trans q1
  have HV3 := hidden ho3.row
  have B3 := hidden b3
  have y3 : w.heap.size < w3.heap.size := by omega
  have Q0 := hidden (fun W (hW : Below w3.heap.size w3 W) => (hW.cell (p := ⟨w.heap.size, 0, none⟩) y3).trans p0)
  have Q1 := hidden (fun W (hW : Below w3.heap.size w3 W) => (hW.cell (p := ⟨w.heap.size, 1, none⟩) y3).trans p1)
  have BW := hidden (fun W (hW : Below w3.heap.size w3 W) => b3.trans (hW.mono b3.size))
  clear hb3 b2 q0 q1 HR2 ho3 HSF
  go_wp2_with fail
  refine (HT.out _ b3).mono ?_
  rintro e w4 ⟨a3, c3, a4, c4, rfl, ho4, hb4⟩
  have z4 := hb4.size
  have HO4 := hidden ho4
  have p0 := Q0.out _ hb4
  have p1 := Q1.out _ hb4
  have hbX : Below w4.heap.size w4 (w4.alloc (.cells #[.slice a3 B.length c3, .slice a4 S.length c4] 47)) := (Below.refl _ _).alloc (Nat.le_refl _) _
  have KX := hidden (hb4.trans (hbX.mono z4))
  clear b3 ho4 p0 p1
  go_wp2_with fail
  refine (HIF.out _ _ _ _ _ (HO4.out.below hbX).row).mono ?_
  rintro e w5 ⟨v5, rfl, ho5, hb5⟩
  have z5 := hb5.size
  simp only [World.size_alloc] at z5
  have K5 := hidden (KX.out.trans (hb5.mono KX.out.size))
  have HO5 := hidden ho5
  have HX5 := hidden ((HO4.out.below hbX).below hb5)
  have x0 : w5.cell? ⟨w4.heap.size, 0, none⟩ = some (.slice a3 B.length c3) := ((bcell hb5).1 _ 0 (by first | omega | (simp; done) | (simp; omega))).trans (by simp)
  have x1 : w5.cell? ⟨w4.heap.size, 1, none⟩ = some (.slice a4 S.length c4) := ((bcell hb5).1 _ 1 (by first | omega | (simp; done) | (simp; omega))).trans (by simp)
  have y5 : w4.heap.size < w5.heap.size := by omega
  clear hb5 ho5 hbX
  go_wp2_with fail
  refine (eqints_any v5 v3 L _ HO5.out.row (HV3.out.below K5.out) hLL).mono ?_
  rintro e w6 ⟨rfl, hb6⟩
  have K6 := hidden (K5.out.trans (hb6.mono K5.out.size))
  have HO6 := hidden (HO5.out.below hb6)
  have HX6 := hidden (HX5.out.below hb6)
  have z6 := hb6.size
  have x2 := ((bcell hb6).1 _ 0 y5).trans x0
  have x3 := ((bcell hb6).1 _ 1 y5).trans x1
  have p0 := Q0.out _ K6.out
  have p1 := Q1.out _ K6.out
  have y6 : w4.heap.size < w6.heap.size := by omega
  have y7 : w.heap.size < w6.heap.size := by omega
  have b6 := BW.out _ K6.out
  have HEQ := hidden (fun a5 c5 a6 c6 W hW hW' => eqhouse_any a3 a4 a5 a6 B.length c3 S.length c4 B.length c5 S.length c6 B S W hW hW' L1 L2)
  clear hb6 x0 x1 HO5 HX5
  go_wp2_with fail
  go_region_held3 (fun w' => w'.cell? ⟨w.heap.size, 0, none⟩ = some (.slice ao n cap) ∧ w'.cell? ⟨w.heap.size, 1, none⟩ = some (.slice ao2 m cap2) ∧ w'.cell? ⟨w4.heap.size, 0, none⟩ = some (.slice a3 B.length c3) ∧ w'.cell? ⟨w4.heap.size, 1, none⟩ = some (.slice a4 S.length c4)) (go_keep) (first | ((go_at_call 27; refine (HT.out _ (by repeat (first | exact Below.refl _ _ | assumption | refine st_drew ?_ | refine st_drewN ?_ _ | refine Below.setCell ?_ (by first | omega | (simp; done) | (simp; omega)) _ | refine Below.alloc ?_ (by first | omega | (simp; done) | (simp; omega)) _))).mono ?_; rintro e w7 ⟨a5, c5, a6, c6, rfl, ho7, hb7⟩; have k0 := ((bcell hb7).1 w.heap.size 0 y7).trans p0; have k1 := ((bcell hb7).1 w.heap.size 1 y7).trans p1; have k2 := ((bcell hb7).1 w4.heap.size 0 y6).trans x2; have k3 := ((bcell hb7).1 w4.heap.size 1 y6).trans x3; have u7 : w.heap.size < w7.heap.size := Nat.lt_of_lt_of_le y7 hb7.size; have u8 : w4.heap.size < w7.heap.size := Nat.lt_of_lt_of_le y6 hb7.size; have B67 := (show Below w6.heap.size w6 _ from by repeat (first | exact Below.refl _ _ | refine st_drew ?_ | refine st_drewN ?_ _ | refine Below.setCell ?_ (by first | omega | (simp; done) | (simp; omega)) _ | refine Below.alloc ?_ (by first | omega | (simp; done) | (simp; omega)) _)).trans (hb7.mono (Nat.le_refl _)); have HR6 := hidden ho7.row; have HR7 := hidden (HX6.out.row.below B67); clear ho7)) | ((go_at_call 29; refine (HEQ.out _ _ _ _ _ HR7.out HR6.out).mono ?_; rintro e w8 ⟨rfl, hb8⟩; have m0 := ((bcell hb8).1 w.heap.size 0 u7).trans k0; have m1 := ((bcell hb8).1 w.heap.size 1 u7).trans k1; have m2 := ((bcell hb8).1 w4.heap.size 0 u8).trans k2; have m3 := ((bcell hb8).1 w4.heap.size 1 u8).trans k3; have B68 := B67.trans (hb8.mono B67.size))))
  all_goals clear x2 x3 p0 p1 b6 k0 k1 k2 k3 HR6 HR7 hb7 hb8 B67 m0 m1
  all_goals have K8 := hidden (K6.out.trans (B68.mono K6.out.size))
  all_goals have HO8 := hidden (HO6.out.below B68)
  all_goals have HX8 := hidden (HX6.out.below B68)
  all_goals have z8 := B68.size
  all_goals clear B68 HO6 HX6 K6
  all_goals go_wp2_with fail
  all_goals refine (markhouse_any a3 a4 c3 c4 B S w3.heap.size _ HX8.out L1 L2).mono ?_
  all_goals rintro e w9 ⟨rfl, -, -, ht9⟩
  all_goals have HIN := hidden (fun j hj => mayH_in HO4.out (j := j) hj)
  all_goals have K9 := hidden (ht9.below K8.out K8.out.size (fun j hj hq => by have := (HIN.out j hq).1; omega))
  all_goals have HO9 := hidden (ht9.own HO8.out (fun j hj hq => by have := (HIN.out j hq).2; simp at hj; omega))
  all_goals have n9 : ¬ (1 + 2 * (B.length : Int) + 6 * (S.length : Int)) < 0 := by omega
  all_goals clear ht9 HO8 K8 HX8 m2 m3
  all_goals go_wp2_with fail
  all_goals refine (eqints_any v5 v3 L _ HO9.out.row (HV3.out.below K9.out) hLL).mono ?_
  all_goals rintro e w10 ⟨rfl, hb10⟩
  all_goals have K10 := hidden (K9.out.trans (hb10.mono K9.out.size))
  all_goals have HO10 := hidden (HO9.out.below hb10)
  all_goals clear hb10 HO9 K9
  all_goals go_wp2_with fail
  all_goals refine (markint_any v5 L _ 1 _ HO10.out hLL (by omega) (by omega)).mono ?_
  all_goals rintro e w11 ⟨rfl, hm11, ha11, hz11⟩
  all_goals have K11 := hidden (HO10.out.mark_below ha11 hz11 K10.out (by simp; omega))
  all_goals have HM11 := hidden hm11
  all_goals have n11 : ¬ (1 + (L.length : Int)) < 0 := by omega
  all_goals clear hm11 ha11 hz11 HO10 K10
  all_goals go_wp2_with fail
  all_goals refine (heldint_any v5 1 L.length _ HM11.out.row hLL (by omega) (by omega)).mono ?_
  all_goals rintro e w12 ⟨rfl, hw12⟩
  all_goals have hw13 := hw12.symm
  all_goals clear hw12
  all_goals subst hw13
  all_goals have p0 := Q0.out _ K11.out
  all_goals have p1 := Q1.out _ K11.out
  all_goals go_wp2_with fail
  all_goals refine (HT.out _ (BW.out _ K11.out)).mono ?_
  all_goals rintro e w13 ⟨a7, c7, a8, c8, rfl, ho13, hb13⟩
  all_goals have K13 := hidden (K11.out.trans (hb13.mono K11.out.size))
  all_goals have HM13 := hidden (HM11.out.below hb13)
  all_goals have HR13 := hidden ho13.row
  all_goals clear hb13 ho13 K11 HM11 p0 p1
  all_goals go_wp2_with fail
  all_goals refine (HIF.out _ _ _ _ _ HR13.out).mono ?_
  all_goals rintro e w14 ⟨v14, rfl, ho14, hb14⟩
  all_goals have K14 := hidden (K13.out.trans (hb14.mono K13.out.size))
  all_goals have HM14 := hidden (HM13.out.below hb14)
  all_goals have HV14 := hidden ho14.row
  all_goals clear hb14 ho14 K13 HM13 HR13
  all_goals go_wp2_with fail
  all_goals refine (eqints_any v14 v3 L _ HV14.out (HV3.out.below K14.out) hLL).mono ?_
  all_goals rintro e w15 ⟨rfl, hb15⟩
  all_goals have K15 := hidden (K14.out.trans (hb15.mono K14.out.size))
  all_goals have HM15 := hidden (HM14.out.below hb15)
  all_goals clear hb15 K14 HM14
  all_goals go_wp2_with fail
  all_goals refine (heldint_any v5 1 L.length _ HM15.out.row hLL (by omega) (by omega)).mono ?_
  all_goals rintro e w16 ⟨rfl, hw16⟩
  all_goals have hw17 := hw16.symm
  all_goals clear hw16
  all_goals subst hw17
  all_goals go_wp2_with fail
  all_goals go_ret
  all_goals exact ⟨rfl, BW.out _ K15.out⟩

set_option maxRecDepth 100000 in
theorem lifted (os : Os) (started : os.Started) (H : Type) (enc : TypeId × Value → H) :
    ReturnsInHanded {} Try.checked os 8 .any (Rows.fnExactBedsFreeSpec.pre6 enc Try.prog Try.f8 Rows.fnExactBedsFreeRow.domain false) (Rows.fnExactBedsFreeSpec.post enc Try.prog Try.f8 false true false false) := by
  refine returnsInHanded_of_change (C := Try.checked) own started (by kernel_rfl) Try.func8
    (ChangeSpec.witness6 (enc := enc) (C := Try.checked) false ⟨#[], #[.agg #[.slice none 0 0, .slice none 0 0], .int .i64 0, .int .i64 0], []⟩ 8 (by kernel_rfl) (by kernel_rfl) (by kernel_rfl) (by kernel_rfl)) ?_
  intro W base args ds gs before hval0 hW hcnd _
  have hval : ∀ (j : Nat) t v, Try.f8.params[j]? = some t → args[j]? = some v → Value.okWide Try.prog W .any base t v := hval0
  have hW' := hW
  obtain ⟨p, q, hA0, hV, rfl, hfz, hnd⟩ := hW
  have hA : DataW.TrodAll enc Try.prog W 0 (fun _ => true) true Try.f8.params.toList args.toList ds p := hA0
  rw [Try.params8] at hA hval
  obtain ⟨v0, vs0, d0, ds0, p0, q0, hargs, rfl, rfl, h0, r0⟩ := trodAll_cons hA
  obtain ⟨v1, vs1, d1, ds1, p1, q1, rfl, rfl, rfl, h1, r1⟩ := trodAll_cons r0
  obtain ⟨v2, vs2, d2, ds2, p2, q2, rfl, rfl, rfl, h2, r2⟩ := trodAll_cons r1
  obtain ⟨rfl, rfl, rfl⟩ := trodAll_nil r2
  obtain rfl : args = #[v0, v1, v2] := by cases args; simp_all
  obtain ⟨rfl, rfl⟩ := trodVars_none hV
  have k0 := h0
  have lt0 : ∀ x ∈ p0, x.block < W.heap.size := by obtain ⟨m, hm⟩ := k0; exact DataW.trod_lt m _ _ _ hm
  obtain ⟨ao, n, cap, ao2, m, cap2, B, S, rfl, hn, hm, hrow⟩ := house_of_read (hval 0 41 v0 rfl rfl) h0
  obtain ⟨x1, rfl, rfl, rfl, k1⟩ := open_int Try.underlying2 (hval 1 2 v1 rfl rfl) h1
  obtain ⟨x2, rfl, rfl, rfl, k2⟩ := open_int Try.underlying2 (hval 2 2 v2 rfl rfl) h2
  clear hA0 hval0
  refine (walk ao ao2 n cap m cap2 B S x1 x2 W hrow hn hm).mono fun e W' ⟨he, bel⟩ => ?_
  subst he
  exact ⟨_, rfl, _, _, _, [], _, [], hW', trodAll_mk1 (shut_bool Try.underlying4 _), (trodAll_cons_mk (Below.trod laidOut (by kernel_rfl) (of_decide_eq_true (by kernel_rfl)) k0 bel lt0) (trodAll_cons_mk (shut_int Try.underlying2 k1) (trodAll_cons_mk (shut_int Try.underlying2 k2) trodAll_mk0))), rfl, bel.frame _, fun h => by cases h⟩

theorem over : Rows.fnExactBedsFreeRow.holds Try.pinned (OpenSpec.ofChange Rows.fnExactBedsFreeSpec) :=
  OpenClaim.holds_of_wide 8 Try.f8 rfl rfl rfl rfl rfl rfl rfl ⟨rfl, rfl, rfl, rfl, rfl⟩ rfl rfl rfl rfl rfl (by kernel_rfl) Try.func8 (by kernel_rfl)
    (of_decide_eq_true (by kernel_rfl)) (by unfold Func.isWrapper; first | (rw [if_pos (by decide +kernel)]; kernel_rfl) | (rw [if_neg (by decide +kernel)]; exact ⟨rfl, rfl⟩))
    (fun os started H enc _ => lifted os started H enc)
end fnExactBedsFree
theorem fnExactBedsFree_holds : Rows.FnExactBedsFreeSaid := fnExactBedsFree.over
end Go.Proofs.Ytpdlkkbnckjibal
