/-
  Proved: for every house, every person and every time, the program's WhereAt answers as the specification's, and writes into no argument (FnExactWhereAt returns true). No conditions.
-/
import Derived.Test.YtpdlkkbnckjibamXd
import Derived.Test.YtpdlkkbnckjibamHh
import Derived.Test.YtpdlkkbnckjibamHt
import Derived.Test.YtpdlkkbnckjibamHu
namespace Go.Proofs.Ytpdlkkbnckjibam
open Go.RowKit Hm

namespace fnExactWhereAt
open Go.ChangeShapes Go.WideShapes Go.ChangeAt Go.Joins
set_option linter.unusedVariables false

theorem own : ownKnob Try.prog.godebug = none := by kernel_rfl
theorem laidOut : laidOutB Try.prog = true := by kernel_rfl

set_option maxRecDepth 20000 in
set_option maxHeartbeats 4000000 in
theorem walk (ao ao2 : Option Addr) (n cap m cap2 : Nat) (B : List Bd) (S : List St) (p t : Int) (w : World) (h : HRw w (.slice ao n cap) (.slice ao2 m cap2) B S) (hn : n ≤ maxLen) (hm : m ≤ maxLen) :
    Calls Try.prog 4 #[.agg #[.slice ao n cap, .slice ao2 m cap2], .int .i64 p, .int .i64 t] w fun e w' => e = .returned (.bool true) ∧ Below w.heap.size w w' := by
  have hS := fun W => szhouse_any ao ao2 n cap m cap2 W (by unfold maxLen at hn; omega) (by unfold maxLen at hm; omega)
  have HH := hidden h
  have e1 := h.1.len
  have e2 := h.2.len
  have E1 := hidden e1
  have E2 := hidden e2
  clear h e1 e2
  have hb0 : Below w.heap.size w (w.alloc (.cells #[.slice ao n cap, .slice ao2 m cap2] 25)) := (Below.refl _ _).alloc (Nat.le_refl _) _
  go_enter Try.func4, Try.ntmps4
  go_wp2_with fail
  refine (hS _).mono ?_
  rintro e w1 ⟨⟨r, rfl, hr⟩, hb1⟩
  have b1 := onto hb0 hb1
  rcases hr with hr | ⟨hr, l1, l2⟩
  · go_wp2_with fail
    go_ret
    exact ⟨rfl, b1⟩
  have hr' : ¬ r < 0 := by omega
  have L1 : B.length ≤ 1048576 := by have := E1.out; omega
  have L2 : S.length ≤ 1048576 := by have := E2.out; omega
  have HT := hidden (fun W (hW : Below w.heap.size w W) => tohouse_any ao ao2 n cap m cap2 B S W (HH.out.below hW) L1 L2)
  have z1 := hb1.size
  simp only [World.size_alloc] at z1
  have y1 : w.heap.size < w1.heap.size := by omega
  have p0 : w1.cell? ⟨w.heap.size, 0, none⟩ = some (.slice ao n cap) := ((bcell hb1).1 _ _ (by first | omega | (simp; done) | (simp; omega))).trans (by simp [go_sem])
  have p1 : w1.cell? ⟨w.heap.size, 1, none⟩ = some (.slice ao2 m cap2) := ((bcell hb1).1 _ _ (by first | omega | (simp; done) | (simp; omega))).trans (by simp [go_sem])
  clear hS hb1 z1 hb0
  go_wp2_with fail
  refine (HT.out _ b1).mono ?_
  rintro e w2 ⟨a1, c1, a2, c2, rfl, ho2, hb2⟩
  have b2 := onto b1 hb2
  have z2 := hb2.size
  have q0 := ((bcell hb2).1 _ 0 y1).trans p0
  have q1 := ((bcell hb2).1 _ 1 y1).trans p1
  have HR2 := hidden ho2.row
  clear hb2 b1 p0 p1 ho2
  go_wp2_with fail
  refine (swhere_any _ _ _ _ _ _ B S p t _ HR2.out (fun W' hW' => sok_any _ _ _ _ _ _ B S W' hW')).mono ?_
  rintro e w3 ⟨rfl, hb3⟩
  have b3 := onto b2 hb3
  have z3 := hb3.size
  have y2 : w.heap.size < w2.heap.size := by omega
  have p0 := ((bcell hb3).1 _ 0 y2).trans q0
  have p1 := ((bcell hb3).1 _ 1 y2).trans q1
  clear hb3 b2 q0 q1 HR2
  go_wp2_with fail
  refine (HT.out _ b3).mono ?_
  rintro e w4 ⟨a3, c3, a4, c4, rfl, ho4, hb4⟩
  have b4 := onto b3 hb4
  have z4 := hb4.size
  have y3 : w.heap.size < w3.heap.size := by omega
  have q0 := ((bcell hb4).1 _ 0 y3).trans p0
  have q1 := ((bcell hb4).1 _ 1 y3).trans p1
  have HR4 := hidden ho4.row
  clear hb4 b3 p0 p1 ho4
  have hbX : Below w4.heap.size w4 (w4.alloc (.cells #[.slice a3 B.length c3, .slice a4 S.length c4] 32)) := (Below.refl _ _).alloc (Nat.le_refl _) _
  have bX := onto b4 hbX
  go_wp2_with fail
  refine (iwhere_any _ _ _ _ _ _ B S p t _ (HR4.out.below hbX)).mono ?_
  rintro e w5 ⟨rfl, hb5⟩
  have b5 := onto bX hb5
  have z5 := hb5.size
  simp only [World.size_alloc] at z5
  have y4 : w.heap.size < w4.heap.size := by omega
  have p0 : w5.cell? ⟨w.heap.size, 0, none⟩ = some (.slice ao n cap) := ((bcell hb5).1 _ 0 (by first | omega | (simp; done) | (simp; omega))).trans ((old_cell y4 _ _).trans q0)
  have p1 : w5.cell? ⟨w.heap.size, 1, none⟩ = some (.slice ao2 m cap2) := ((bcell hb5).1 _ 1 (by first | omega | (simp; done) | (simp; omega))).trans ((old_cell y4 _ _).trans q1)
  have x0 : w5.cell? ⟨w4.heap.size, 0, none⟩ = some (.slice a3 B.length c3) := ((bcell hb5).1 _ 0 (by first | omega | (simp; done) | (simp; omega))).trans (by simp)
  have x1 : w5.cell? ⟨w4.heap.size, 1, none⟩ = some (.slice a4 S.length c4) := ((bcell hb5).1 _ 1 (by first | omega | (simp; done) | (simp; omega))).trans (by simp)
  have HR5 := hidden ((HR4.out.below hbX).below hb5)
  have y5 : w.heap.size < w5.heap.size := by omega
  have y6 : w4.heap.size < w5.heap.size := by omega
  have HEQ := hidden (fun a5 c5 a6 c6 W hW hW' => eqhouse_any a3 a4 a5 a6 B.length c3 S.length c4 B.length c5 S.length c6 B S W hW hW' L1 L2)
  clear hb5 b4 q0 q1 HR4 bX hbX
  generalize whereAt B S p t = t' at *
  go_wp2_with fail
  go_region_held3 (fun w' => w'.cell? ⟨w.heap.size, 0, none⟩ = some (.slice ao n cap) ∧ w'.cell? ⟨w.heap.size, 1, none⟩ = some (.slice ao2 m cap2) ∧ w'.cell? ⟨w4.heap.size, 0, none⟩ = some (.slice a3 B.length c3) ∧ w'.cell? ⟨w4.heap.size, 1, none⟩ = some (.slice a4 S.length c4)) (go_keep) (first | ((go_at_call 11; refine (HT.out _ (by repeat (first | exact Below.refl _ _ | assumption | refine st_drew ?_ | refine st_drewN ?_ _ | refine Below.setCell ?_ (by first | omega | (simp; done) | (simp; omega)) _ | refine Below.alloc ?_ (by first | omega | (simp; done) | (simp; omega)) _))).mono ?_; rintro e w6 ⟨a5, c5, a6, c6, rfl, ho6, hb6⟩; have k0 := ((bcell hb6).1 w.heap.size 0 y5).trans p0; have k1 := ((bcell hb6).1 w.heap.size 1 y5).trans p1; have k2 := ((bcell hb6).1 w4.heap.size 0 y6).trans x0; have k3 := ((bcell hb6).1 w4.heap.size 1 y6).trans x1; have y7 : w.heap.size < w6.heap.size := Nat.lt_of_lt_of_le y5 hb6.size; have y8 : w4.heap.size < w6.heap.size := Nat.lt_of_lt_of_le y6 hb6.size; have b6 := onto (show Below w.heap.size w _ from by repeat (first | exact Below.refl _ _ | assumption | refine st_drew ?_ | refine st_drewN ?_ _ | refine Below.setCell ?_ (by first | omega | (simp; done) | (simp; omega)) _ | refine Below.alloc ?_ (by first | omega | (simp; done) | (simp; omega)) _)) hb6; have HR6 := hidden ho6.row; have HR7 := hidden ((HR5.out.below (show Below w5.heap.size w5 _ from by repeat (first | exact Below.refl _ _ | refine st_drew ?_ | refine st_drewN ?_ _ | refine Below.setCell ?_ (by first | omega | (simp; done) | (simp; omega)) _ | refine Below.alloc ?_ (by first | omega | (simp; done) | (simp; omega)) _))).below hb6); clear ho6)) | ((go_at_call 14; refine (HEQ.out _ _ _ _ _ HR7.out HR6.out).mono ?_; rintro e w7 ⟨rfl, hb7⟩; have m0 := ((bcell hb7).1 w.heap.size 0 y7).trans k0; have m1 := ((bcell hb7).1 w.heap.size 1 y7).trans k1; have m2 := ((bcell hb7).1 w4.heap.size 0 y8).trans k2; have m3 := ((bcell hb7).1 w4.heap.size 1 y8).trans k3; have b7 := onto b6 hb7)))
  all_goals go_wp2_with fail
  all_goals go_ret
  all_goals exact ⟨rfl, by repeat (first | exact Below.refl _ _ | assumption | refine st_drew ?_ | refine st_drewN ?_ _ | refine Below.setCell ?_ (by first | omega | (simp; done) | (simp; omega)) _ | refine Below.alloc ?_ (by first | omega | (simp; done) | (simp; omega)) _)⟩

set_option maxRecDepth 100000 in
theorem lifted (os : Os) (started : os.Started) (H : Type) (enc : TypeId × Value → H) :
    ReturnsInHanded {} Try.checked os 4 .any (Rows.fnExactWhereAtSpec.pre6 enc Try.prog Try.f4 Rows.fnExactWhereAtRow.domain false) (Rows.fnExactWhereAtSpec.post enc Try.prog Try.f4 false true false false) := by
  refine returnsInHanded_of_change (C := Try.checked) own started (by kernel_rfl) Try.func4
    (ChangeSpec.witness6 (enc := enc) (C := Try.checked) false ⟨#[], #[.agg #[.slice none 0 0, .slice none 0 0], .int .i64 0, .int .i64 0], []⟩ 8 (by kernel_rfl) (by kernel_rfl) (by kernel_rfl) (by kernel_rfl)) ?_
  intro W base args ds gs before hval0 hW hcnd _
  have hval : ∀ (j : Nat) t v, Try.f4.params[j]? = some t → args[j]? = some v → Value.okWide Try.prog W .any base t v := hval0
  have hW' := hW
  obtain ⟨p, q, hA0, hV, rfl, hfz, hnd⟩ := hW
  have hA : DataW.TrodAll enc Try.prog W 0 (fun _ => true) true Try.f4.params.toList args.toList ds p := hA0
  rw [Try.params4] at hA hval
  obtain ⟨v0, vs0, d0, ds0, p0, q0, hargs, rfl, rfl, h0, r0⟩ := trodAll_cons hA
  obtain ⟨v1, vs1, d1, ds1, p1, q1, rfl, rfl, rfl, h1, r1⟩ := trodAll_cons r0
  obtain ⟨v2, vs2, d2, ds2, p2, q2, rfl, rfl, rfl, h2, r2⟩ := trodAll_cons r1
  obtain ⟨rfl, rfl, rfl⟩ := trodAll_nil r2
  obtain rfl : args = #[v0, v1, v2] := by cases args; simp_all
  obtain ⟨rfl, rfl⟩ := trodVars_none hV
  have k0 := h0
  have lt0 : ∀ x ∈ p0, x.block < W.heap.size := by obtain ⟨m, hm⟩ := k0; exact DataW.trod_lt m _ _ _ hm
  obtain ⟨ao, n, cap, ao2, m, cap2, B, S, rfl, hn, hm, hrow⟩ := house_of_read (hval 0 25 v0 rfl rfl) h0
  obtain ⟨x1, rfl, rfl, rfl, k1⟩ := open_int Try.underlying2 (hval 1 2 v1 rfl rfl) h1
  obtain ⟨x2, rfl, rfl, rfl, k2⟩ := open_int Try.underlying2 (hval 2 2 v2 rfl rfl) h2
  clear hA0 hval0
  refine (walk ao ao2 n cap m cap2 B S x1 x2 W hrow hn hm).mono fun e W' ⟨he, bel⟩ => ?_
  subst he
  exact ⟨_, rfl, _, _, _, [], _, [], hW', trodAll_mk1 (shut_bool Try.underlying4 _), (trodAll_cons_mk (Below.trod laidOut (by kernel_rfl) (of_decide_eq_true (by kernel_rfl)) k0 bel lt0) (trodAll_cons_mk (shut_int Try.underlying2 k1) (trodAll_cons_mk (shut_int Try.underlying2 k2) trodAll_mk0))), rfl, bel.frame _, fun h => by cases h⟩

theorem over : Rows.fnExactWhereAtRow.holds Try.pinned (OpenSpec.ofChange Rows.fnExactWhereAtSpec) :=
  OpenClaim.holds_of_wide 4 Try.f4 rfl rfl rfl rfl rfl rfl rfl ⟨rfl, rfl, rfl, rfl, rfl⟩ rfl rfl rfl rfl rfl (by kernel_rfl) Try.func4 (by kernel_rfl)
    (of_decide_eq_true (by kernel_rfl)) (by unfold Func.isWrapper; first | (rw [if_pos (by decide +kernel)]; kernel_rfl) | (rw [if_neg (by decide +kernel)]; exact ⟨rfl, rfl⟩))
    (fun os started H enc _ => lifted os started H enc)
end fnExactWhereAt
theorem fnExactWhereAt_holds : Rows.FnExactWhereAtSaid := fnExactWhereAt.over
end Go.Proofs.Ytpdlkkbnckjibam
