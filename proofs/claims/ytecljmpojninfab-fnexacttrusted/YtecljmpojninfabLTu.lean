/-
  Proved: for every list of codes and every place, the program's Trusted answers as the specification's, and writes into no argument (FnExactTrusted returns true). No conditions.
-/
import Derived.Test.YtecljmpojninfabT3
namespace Go.Proofs.Ytecljmpojninfab
open Go.RowKit Va Lb

namespace fnExactTrusted
open Go.ChangeShapes Go.WideShapes Go.ChangeAt Go.Joins
set_option linter.all false

theorem own : ownKnob Try.prog.godebug = none := by kernel_rfl
theorem laidOut : laidOutB Try.prog = true := by kernel_rfl

set_option maxRecDepth 20000 in
set_option maxHeartbeats 8000000 in
theorem walk (ao0 : Option Addr) (len0 cap0 : Nat) (l : List Int) (at0 : Int) (w : World) (h0 : VRw 1 cvI w (.slice ao0 len0 cap0) l) (hl0 : l.length = len0) (hm0 : len0 ≤ maxLen) :
    Calls Try.prog 3 #[.slice ao0 len0 cap0, .int .i64 at0] w fun e w' => e = .returned (.bool true) ∧ Below w.heap.size w w' := by
  have hmm0 : (len0 : Int) ≤ 9223372036854775807 := by unfold maxLen at hm0; omega
  by_cases hb0 : (1048576 : Int) < (len0 : Int)
  · clear h0 hl0 hm0
    go_enter Try.func3, Try.ntmps3
    go_wp2_with fail
    go_ret
    exact ⟨rfl, Below.refl _ _⟩
  have hll0 : l.length ≤ 1048576 := by omega
  have HT0 := hidden (fun W hW => vtoints_any (.slice ao0 len0 cap0) l W hW hll0)
  have HJ0 := hidden h0
  have HL0 := hidden hll0
  have HSM := hidden (fun a0 n0 c0 W hW0 => strustedB_any a0 n0 c0 l at0 W hW0 hll0)
  have HIM := hidden (fun a0 n0 c0 W hW0 => itrustedB_any a0 n0 c0 l at0 W hW0 hll0)
  generalize trusted l at0 = L at *
  clear h0 hl0 hll0
  go_enter Try.func3, Try.ntmps3
  have K0 := hidden (Below.refl w.heap.size w)
  go_wp2_with fail
  with_reducible refine (HT0.out _ (HJ0.out.below K0.out)).mono ?_
  rintro e w_1 ⟨v_1, rfl, hj_1, hb_1⟩
  obtain ⟨a_1, k_1, rfl⟩ := hj_1.row.form
  have Q_1 := hidden (K0.out.trans (hb_1.mono K0.out.size))
  have S0 := hidden hj_1
  clear hb_1 hj_1 K0
  go_wp2_with fail
  with_reducible refine (HSM.out _ _ _ _ S0.out.row).mono ?_
  rintro e w_2 ⟨rfl, hb_2⟩
  have KS := hidden (Q_1.out.trans (hb_2.mono Q_1.out.size))
  clear Q_1 hb_2 S0
  have bS := KS.out
  have BR0 := hidden (fun W (hW : Below w_2.heap.size w_2 W) => HJ0.out.below (bS.trans (hW.mono bS.size)))
  clear bS
  have KK := hidden (Below.refl w_2.heap.size w_2)
  go_wp2_with fail
  with_reducible refine (HT0.out _ (BR0.out _ KK.out)).mono ?_
  rintro e w_3 ⟨v_3, rfl, hj_3, hb_3⟩
  obtain ⟨a_3, k_3, rfl⟩ := hj_3.row.form
  have Q_3 := hidden (KK.out.trans (hb_3.mono KK.out.size))
  have X0 := hidden hj_3
  have XB0 := hidden hj_3
  have zX0 := hb_3.size
  clear hb_3 hj_3 KK
  go_wp2_with fail
  with_reducible refine (HIM.out _ _ _ _ X0.out.row).mono ?_
  rintro e w_4 ⟨rfl, hb_4⟩
  have Q_4 := hidden (Q_3.out.trans (hb_4.mono Q_3.out.size))
  have zK := Q_3.out.size
  have X0' := hidden (X0.out.below hb_4)
  clear X0
  have X0 := X0'
  clear X0'
  clear hb_4 Q_3
  go_wp2_with fail
  with_reducible refine (HT0.out _ (BR0.out _ Q_4.out)).mono ?_
  rintro e w_5 ⟨v_5, rfl, hj_5, hb_5⟩
  obtain ⟨a_5, k_5, rfl⟩ := hj_5.row.form
  have Q_5 := hidden (Q_4.out.trans (hb_5.mono Q_4.out.size))
  have RR := hidden hj_5.row
  have X0' := hidden (X0.out.below hb_5)
  clear X0
  have X0 := X0'
  clear X0'
  clear hb_5 hj_5 Q_4
  go_wp2_with fail
  with_reducible refine (veqints_any _ _ l _ X0.out.row RR.out HL0.out).mono ?_
  rintro e w_6 ⟨rfl, hb_6⟩
  have Q_6 := hidden (Q_5.out.trans (hb_6.mono Q_5.out.size))
  have X0' := hidden (X0.out.below hb_6)
  clear X0
  have X0 := X0'
  clear X0'
  clear hb_6 Q_5
  clear RR
  go_wp2_with fail
  go_ret
  exact ⟨rfl, onto KS.out Q_6.out⟩

set_option maxRecDepth 100000 in
theorem lifted (os : Os) (started : os.Started) (H : Type) (enc : TypeId × Value → H) :
    ReturnsInHanded {} Try.checked os 3 .any (Rows.fnExactTrustedSpec.pre6 enc Try.prog Try.f3 Rows.fnExactTrustedRow.domain false) (Rows.fnExactTrustedSpec.post enc Try.prog Try.f3 false true false false) := by
  refine returnsInHanded_of_change (C := Try.checked) own started (by kernel_rfl) Try.func3
    (ChangeSpec.witness6 (enc := enc) (C := Try.checked) false ⟨#[], #[.slice none 0 0, .int .i64 0], []⟩ 8 (by kernel_rfl) (by kernel_rfl) (by kernel_rfl) (by kernel_rfl)) ?_
  intro W base args ds gs before hval0 hW hcnd _
  have hval : ∀ (j : Nat) t v, Try.f3.params[j]? = some t → args[j]? = some v → Value.okWide Try.prog W .any base t v := hval0
  have hW' := hW
  obtain ⟨p, q, hA0, hV, rfl, hfz, hnd⟩ := hW
  have hA : DataW.TrodAll enc Try.prog W 0 (fun _ => true) true Try.f3.params.toList args.toList ds p := hA0
  rw [Try.params3] at hA hval
  obtain ⟨v0, vs0, d0, ds0, p0, q0, hargs, rfl, rfl, h0, r0⟩ := trodAll_cons hA
  obtain ⟨v1, vs1, d1, ds1, p1, q1, rfl, rfl, rfl, h1, r1⟩ := trodAll_cons r0
  obtain ⟨rfl, rfl, rfl⟩ := trodAll_nil r1
  obtain rfl : args = #[v0, v1] := by cases args; simp_all
  obtain ⟨rfl, rfl⟩ := trodVars_none hV
  have k0 := h0
  have lt0 : ∀ x ∈ p0, x.block < W.heap.size := by obtain ⟨m, hm⟩ := k0; exact DataW.trod_lt m _ _ _ hm
  obtain ⟨ao0, len0, cap0, rfl⟩ := okWide_slice Try.underlying22 (hval 0 22 v0 rfl rfl)
  obtain ⟨l, hl0, hm0, hrow0⟩ := vints_of_read h0
  obtain ⟨at0, rfl, rfl, rfl, k1⟩ := open_int Try.underlying2 (hval 1 2 v1 rfl rfl) h1
  clear hA0 hval0
  refine (walk ao0 len0 cap0 l at0 W hrow0 hl0 hm0).mono fun e W' ⟨he, bel⟩ => ?_
  subst he
  exact ⟨_, rfl, _, _, _, [], _, [], hW', trodAll_mk1 (shut_bool Try.underlying4 _), (trodAll_cons_mk (Below.trod laidOut (by kernel_rfl) (of_decide_eq_true (by kernel_rfl)) k0 bel lt0) (trodAll_cons_mk (shut_int Try.underlying2 k1) trodAll_mk0)), rfl, bel.frame _, fun h => by cases h⟩

theorem over : Rows.fnExactTrustedRow.holds Try.pinned (OpenSpec.ofChange Rows.fnExactTrustedSpec) :=
  OpenClaim.holds_of_wide 3 Try.f3 rfl rfl rfl rfl rfl rfl rfl ⟨rfl, rfl, rfl, rfl, rfl⟩ rfl rfl rfl rfl rfl (by kernel_rfl) Try.func3 (by kernel_rfl)
    (of_decide_eq_true (by kernel_rfl)) (by unfold Func.isWrapper; first | (rw [if_pos (by decide +kernel)]; kernel_rfl) | (rw [if_neg (by decide +kernel)]; exact ⟨rfl, rfl⟩))
    (fun os started H enc _ => lifted os started H enc)
end fnExactTrusted
theorem fnExactTrusted_holds : Rows.FnExactTrustedSaid := fnExactTrusted.over
end Go.Proofs.Ytecljmpojninfab
