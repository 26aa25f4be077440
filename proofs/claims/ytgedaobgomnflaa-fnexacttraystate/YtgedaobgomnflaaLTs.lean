/-
  Proved: for every list of steps and every number of a tray, the program's TrayState answers as the specification's, and writes into no argument (FnExactTrayState returns true). No conditions.
-/
import Derived.Test.YtgedaobgomnflaaWd
import Derived.Test.YtgedaobgomnflaaWn
namespace Go.Proofs.Ytgedaobgomnflaa
open Go.RowKit Va Wa

namespace fnExactTrayState
open Go.ChangeShapes Go.WideShapes Go.ChangeAt Go.Joins
set_option linter.all false

theorem own : ownKnob Try.prog.godebug = none := by kernel_rfl
theorem laidOut : laidOutB Try.prog = true := by kernel_rfl

set_option maxRecDepth 20000 in
set_option maxHeartbeats 2000000 in
theorem walk (ao : Option Addr) (len cap : Nat) (l : List Stp) (t : Int) (w : World) (h : Rw 4 csT w (.slice ao len cap) l) (hl : l.length = len) (hm : len ≤ maxLen) :
    Calls Try.prog 5 #[.slice ao len cap, .int .i64 t] w fun e w' => e = .returned (.bool true) ∧ Below w.heap.size w w' := by
  have hS := fun W => szsteps_any ao len cap 1048576 W (by unfold maxLen at hm; omega) (by omega) (by omega)
  by_cases hbig : (1048576 : Int) < (len : Int)
  · simp only [if_pos hbig] at hS
    clear h
    go_enter Try.func5, Try.ntmps5
    go_wp2_with fail
    refine (hS _).mono ?_
    rintro e w1 ⟨rfl, rfl⟩
    go_wp2_with fail
    go_ret
    exact ⟨rfl, Below.refl _ _⟩
  simp only [if_neg hbig] at hS
  have hn : ¬ (1048576 : Int) - len < 0 := by omega
  have hll : l.length ≤ 1048576 := by omega
  have HT := hidden (fun W hW => tosteps_any (.slice ao len cap) l W hW hll)
  have HJ := hidden h
  have HL := hidden hll
  clear h hl hll
  go_enter Try.func5, Try.ntmps5
  go_wp2_with fail
  refine (hS _).mono ?_
  rintro e w1 ⟨rfl, rfl⟩
  clear hS
  go_wp2_with fail
  refine (HT.out _ HJ.out).mono ?_
  rintro e w1 ⟨v1, rfl, hj1, b1⟩
  obtain ⟨a1, c1, rfl⟩ := hj1.row.form
  have R1 := hidden hj1.row
  clear hj1
  go_wp2_with fail
  refine (straystate_any _ _ _ l t _ R1.out HL.out).mono ?_
  rintro e w2 ⟨rfl, hb2⟩
  have b2 := onto b1 hb2
  clear hb2 R1 b1
  go_wp2_with fail
  refine (HT.out _ (HJ.out.below b2)).mono ?_
  rintro e w3 ⟨v3, rfl, hj3, hb3⟩
  have b3 := onto b2 hb3
  obtain ⟨a3, c3, rfl⟩ := hj3.row.form
  have R3 := hidden hj3.row
  clear hb3 b2 hj3
  go_wp2_with fail
  refine (itraystate_any _ _ _ l t _ R3.out HL.out).mono ?_
  rintro e w4 ⟨rfl, hb4⟩
  have b4 := onto b3 hb4
  have R4 := hidden (R3.out.below hb4)
  clear hb4 R3 b3
  generalize trayState l t = z
  go_wp2_with fail
  refine (HT.out _ (HJ.out.below b4)).mono ?_
  rintro e w5 ⟨v5, rfl, hj5, hb5⟩
  have b5 := onto b4 hb5
  have R6 := hidden (R4.out.below hb5)
  obtain ⟨a5, c5, rfl⟩ := hj5.row.form
  have R5 := hidden hj5.row
  clear hb5 R4 b4 hj5
  go_wp2_with fail
  refine (eqsteps_any _ _ l _ R6.out R5.out HL.out).mono ?_
  rintro e w6 ⟨rfl, hb6⟩
  have b6 := onto b5 hb6
  clear hb6 R5 R6 b5
  go_wp2_with fail
  go_ret
  exact ⟨rfl, b6⟩

set_option maxRecDepth 100000 in
theorem lifted (os : Os) (started : os.Started) (H : Type) (enc : TypeId × Value → H) :
    ReturnsInHanded {} Try.checked os 5 .any (Rows.fnExactTrayStateSpec.pre6 enc Try.prog Try.f5 Rows.fnExactTrayStateRow.domain false) (Rows.fnExactTrayStateSpec.post enc Try.prog Try.f5 false true false false) := by
  refine returnsInHanded_of_change (C := Try.checked) own started (by kernel_rfl) Try.func5
    (ChangeSpec.witness6 (enc := enc) (C := Try.checked) false ⟨#[], #[.slice none 0 0, .int .i64 0], []⟩ 8 (by kernel_rfl) (by kernel_rfl) (by kernel_rfl) (by kernel_rfl)) ?_
  intro W base args ds gs before hval0 hW hcnd _
  have hval : ∀ (j : Nat) t v, Try.f5.params[j]? = some t → args[j]? = some v → Value.okWide Try.prog W .any base t v := hval0
  have hW' := hW
  obtain ⟨p, q, hA0, hV, rfl, hfz, hnd⟩ := hW
  have hA : DataW.TrodAll enc Try.prog W 0 (fun _ => true) true Try.f5.params.toList args.toList ds p := hA0
  rw [Try.params5] at hA hval
  obtain ⟨v0, vs0, d0, ds0, p0, q0, hargs, rfl, rfl, h0, r0⟩ := trodAll_cons hA
  obtain ⟨v1, vs1, d1, ds1, p1, q1, rfl, rfl, rfl, h1, r1⟩ := trodAll_cons r0
  obtain ⟨rfl, rfl, rfl⟩ := trodAll_nil r1
  obtain rfl : args = #[v0, v1] := by cases args; simp_all
  obtain ⟨rfl, rfl⟩ := trodVars_none hV
  obtain ⟨ao, len, cap, rfl⟩ := okWide_slice Try.underlying39 (hval 0 39 v0 rfl rfl)
  have k0 := h0
  have lt0 : ∀ x ∈ p0, x.block < W.heap.size := by obtain ⟨m, hm⟩ := k0; exact DataW.trod_lt m _ _ _ hm
  obtain ⟨l, hl, hm, hrow⟩ := steps_of_read h0
  obtain ⟨x1, rfl, rfl, rfl, k1⟩ := open_int Try.underlying2 (hval 1 2 v1 rfl rfl) h1
  clear hA0 hval0
  refine (walk ao len cap l x1 W hrow hl hm).mono fun e W' ⟨he, bel⟩ => ?_
  subst he
  exact ⟨_, rfl, _, _, _, [], _, [], hW', trodAll_mk1 (shut_bool Try.underlying4 _), (trodAll_cons_mk (Below.trod laidOut (by kernel_rfl) (of_decide_eq_true (by kernel_rfl)) k0 bel lt0) (trodAll_cons_mk (shut_int Try.underlying2 k1) trodAll_mk0)), rfl, bel.frame _, fun h => by cases h⟩

theorem over : Rows.fnExactTrayStateRow.holds Try.pinned (OpenSpec.ofChange Rows.fnExactTrayStateSpec) :=
  OpenClaim.holds_of_wide 5 Try.f5 rfl rfl rfl rfl rfl rfl rfl ⟨rfl, rfl, rfl, rfl, rfl⟩ rfl rfl rfl rfl rfl (by kernel_rfl) Try.func5 (by kernel_rfl)
    (of_decide_eq_true (by kernel_rfl)) (by unfold Func.isWrapper; first | (rw [if_pos (by decide +kernel)]; kernel_rfl) | (rw [if_neg (by decide +kernel)]; exact ⟨rfl, rfl⟩))
    (fun os started H enc _ => lifted os started H enc)
end fnExactTrayState
theorem fnExactTrayState_holds : Rows.FnExactTrayStateSaid := fnExactTrayState.over
end Go.Proofs.Ytgedaobgomnflaa
