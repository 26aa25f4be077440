/-
  Proved: for every list of letters, the program's Fold answers as the specification's, writes into no argument, and its answer is its own (FnExactFold returns true). No conditions.
-/
import Derived.Test.YtbabknhccapaoabM30
import Derived.Test.YtbabknhccapaoabM33
import Derived.Test.YtbabknhccapaoabM2m
import Derived.Test.YtbabknhccapaoabM2f
namespace Go.Proofs.Ytbabknhccapaoab
open Go.RowKit Va Mg

namespace fnExactFold
open Go.ChangeShapes Go.WideShapes Go.ChangeAt Go.Joins
set_option linter.all false

theorem own : ownKnob Try.prog.godebug = none := by kernel_rfl
theorem laidOut : laidOutB Try.prog = true := by kernel_rfl

set_option maxRecDepth 20000 in
set_option maxHeartbeats 8000000 in
theorem walk (ao0 : Option Addr) (len0 cap0 : Nat) (l : List Lt) (w : World) (h0 : VRw 5 cvLt w (.slice ao0 len0 cap0) l) (hl0 : l.length = len0) (hm0 : len0 ≤ maxLen) (hwf0 : ∀ y ∈ l, WfL y) :
    Calls Try.prog 3 #[.slice ao0 len0 cap0] w fun e w' => e = .returned (.bool true) ∧ Below w.heap.size w w' := by
  have hmm0 : (len0 : Int) ≤ 9223372036854775807 := by unfold maxLen at hm0; omega
  have hS0 := fun W => szlts_any ao0 len0 cap0 (1048576) W hmm0 (by omega) (by omega)
  by_cases hb0 : (1048576 : Int) < (len0 : Int)
  · simp only [if_pos hb0] at hS0
    clear h0
    go_enter Try.func3, Try.ntmps3
    go_wp2_with fail
    with_reducible refine (hS0 _).mono ?_
    rintro e w1 ⟨rfl, hw1⟩
    subst hw1
    go_wp2_with fail
    go_ret
    exact ⟨rfl, Below.refl _ _⟩
  simp only [if_neg hb0] at hS0
  have hn0 : ¬ (1048576 : Int) - len0 < 0 := by omega
  have hll0 : l.length ≤ 1048576 := by omega
  have HT0 := hidden (fun W hW => tolts_any (.slice ao0 len0 cap0) l W hW hll0)
  have HJ0 := hidden h0
  have HL0 := hidden hll0
  have hLL : (fold l).length ≤ 1048576 := Nat.le_trans (fold_len l) (by decide)
  have HSM := hidden (fun a0 n0 c0 W hW0 => sfold_any a0 n0 c0 l W hW0 hll0)
  have HIM := hidden (fun a0 n0 c0 W hW0 => ifold_any a0 n0 c0 l W hW0 hll0 hwf0)
  generalize fold l = L at *
  clear h0 hl0 hll0 hwf0
  go_enter Try.func3, Try.ntmps3
  go_wp2_with fail
  with_reducible refine (hS0 _).mono ?_
  rintro e w1 ⟨rfl, hw1⟩
  subst hw1
  clear hS0
  have K0 := hidden (Below.refl w.heap.size w)
  go_wp2_with fail
  with_reducible refine (HT0.out _ (HJ0.out.below K0.out)).mono ?_
  rintro e w_1 ⟨v_1, rfl, hj_1, hb_1⟩
  obtain ⟨a_1, k_1, rfl⟩ := hj_1.row.form
  have Q_1 := hidden (K0.out.trans (hb_1.mono K0.out.size))
  have S0 := hidden hj_1
  clear hb_1 hj_1 K0
  go_wp2_with fail
  with_reducible refine (HSM.out _ _ _ _ S0.out.row).mono ?_
  rintro e w_2 ⟨v_2, rfl, ho_2, hb_2⟩
  obtain ⟨a_2, k_2, rfl⟩ := ho_2.row.form
  have V := hidden ho_2.row
  have KS := hidden (Q_1.out.trans (hb_2.mono Q_1.out.size))
  clear Q_1 hb_2 S0 ho_2
  have bS := KS.out
  have BR0 := hidden (fun W (hW : Below w_2.heap.size w_2 W) => HJ0.out.below (bS.trans (hW.mono bS.size)))
  clear bS
  have KK := hidden (Below.refl w_2.heap.size w_2)
  go_wp2_with fail
  with_reducible refine (HT0.out _ (BR0.out _ KK.out)).mono ?_
  rintro e w_3 ⟨v_3, rfl, hj_3, hb_3⟩
  obtain ⟨a_3, k_3, rfl⟩ := hj_3.row.form
  have Q_3 := hidden (KK.out.trans (hb_3.mono KK.out.size))
  have X0 := hidden hj_3
  have XB0 := hidden hj_3
  have zX0 := hb_3.size
  clear hb_3 hj_3 KK
  go_wp2_with fail
  with_reducible refine (HIM.out _ _ _ _ X0.out.row).mono ?_
  rintro e w_4 ⟨v_4, rfl, ho_4, hb_4⟩
  obtain ⟨a_4, k_4, rfl⟩ := ho_4.row.form
  have Q_4 := hidden (Q_3.out.trans (hb_4.mono Q_3.out.size))
  have zK := Q_3.out.size
  have X0' := hidden (X0.out.below hb_4)
  clear X0
  have X0 := X0'
  clear X0'
  have O := hidden ho_4
  clear hb_4 Q_3 ho_4
  go_wp2_with fail
  with_reducible refine (eqfcs_any _ _ L _ O.out.row (V.out.below Q_4.out) hLL).mono ?_
  rintro e w_5 ⟨rfl, hb_5⟩
  have Q_5 := hidden (Q_4.out.trans (hb_5.mono Q_4.out.size))
  have X0' := hidden (X0.out.below hb_5)
  clear X0
  have X0 := X0'
  clear X0'
  have O' := hidden (O.out.below hb_5)
  clear O
  have O := O'
  clear O'
  clear hb_5 Q_4
  go_wp2_with fail
  with_reducible refine (HT0.out _ (BR0.out _ Q_5.out)).mono ?_
  rintro e w_6 ⟨v_6, rfl, hj_6, hb_6⟩
  obtain ⟨a_6, k_6, rfl⟩ := hj_6.row.form
  have Q_6 := hidden (Q_5.out.trans (hb_6.mono Q_5.out.size))
  have RR := hidden hj_6.row
  have X0' := hidden (X0.out.below hb_6)
  clear X0
  have X0 := X0'
  clear X0'
  have O' := hidden (O.out.below hb_6)
  clear O
  have O := O'
  clear O'
  clear hb_6 hj_6 Q_5
  go_wp2_with fail
  with_reducible refine (eqlts_any _ _ l _ X0.out.row RR.out HL0.out).mono ?_
  rintro e w_7 ⟨rfl, hb_7⟩
  have Q_7 := hidden (Q_6.out.trans (hb_7.mono Q_6.out.size))
  have X0' := hidden (X0.out.below hb_7)
  clear X0
  have X0 := X0'
  clear X0'
  have O' := hidden (O.out.below hb_7)
  clear O
  have O := O'
  clear O'
  clear hb_7 Q_6
  clear RR
  have nk0 := HL0.out
  go_wp2_with fail
  with_reducible refine (marklt_any _ l _ (1) _ X0.out HL0.out (by omega) (by omega)).mono ?_
  rintro e w_8 ⟨rfl, -, ha_8, hz_8⟩
  have Q_8 := hidden (X0.out.mark_below ha_8 hz_8 Q_7.out (by omega))
  have O' := hidden (XB0.out.mark_own (by omega) ha_8 hz_8 O.out)
  clear O
  have O := O'
  clear O'
  clear ha_8 hz_8 X0 Q_7
  have nkk : ¬ (1 + 5 * (l.length : Int) : Int) < 0 := by omega
  go_wp2_with fail
  with_reducible refine (eqfcs_any _ _ L _ O.out.row (V.out.below Q_8.out) hLL).mono ?_
  rintro e w_9 ⟨rfl, hb_9⟩
  have Q_9 := hidden (Q_8.out.trans (hb_9.mono Q_8.out.size))
  have O' := hidden (O.out.below hb_9)
  clear O
  have O := O'
  clear O'
  clear hb_9 Q_8
  go_wp2_with fail
  with_reducible refine (markfc_any _ L _ 1 _ O.out hLL (by omega) (by omega)).mono ?_
  rintro e w_10 ⟨rfl, hm_10, ha_10, hz_10⟩
  have Q_10 := hidden (O.out.mark_below ha_10 hz_10 Q_9.out (by omega))
  have M := hidden hm_10
  have nL : ¬ (1 + 2 * (L.length : Int)) < 0 := by omega
  clear hm_10 ha_10 hz_10 O Q_9
  go_wp2_with fail
  with_reducible refine (heldfc_any _ 1 L.length _ M.out.row hLL (by omega) (by omega)).mono ?_
  rintro e w_11 ⟨rfl, hw_11⟩
  have hx_11 := hw_11.symm
  clear hw_11
  subst hx_11
  go_wp2_with fail
  with_reducible refine (HT0.out _ (BR0.out _ Q_10.out)).mono ?_
  rintro e w_12 ⟨v_12, rfl, hj_12, hb_12⟩
  obtain ⟨a_12, k_12, rfl⟩ := hj_12.row.form
  have Q_12 := hidden (Q_10.out.trans (hb_12.mono Q_10.out.size))
  have M' := hidden (M.out.below hb_12)
  clear M
  have M := M'
  clear M'
  have Y0 := hidden hj_12
  clear hb_12 hj_12 Q_10
  go_wp2_with fail
  with_reducible refine (HIM.out _ _ _ _ Y0.out.row).mono ?_
  rintro e w_13 ⟨v_13, rfl, ho_13, hb_13⟩
  obtain ⟨a_13, k_13, rfl⟩ := ho_13.row.form
  have Q_13 := hidden (Q_12.out.trans (hb_13.mono Q_12.out.size))
  have P := hidden ho_13.row
  have M' := hidden (M.out.below hb_13)
  clear M
  have M := M'
  clear M'
  clear hb_13 ho_13 Q_12 Y0
  go_wp2_with fail
  with_reducible refine (eqfcs_any _ _ L _ P.out (V.out.below Q_13.out) hLL).mono ?_
  rintro e w_14 ⟨rfl, hb_14⟩
  have Q_14 := hidden (Q_13.out.trans (hb_14.mono Q_13.out.size))
  have M' := hidden (M.out.below hb_14)
  clear M
  have M := M'
  clear M'
  clear hb_14 Q_13
  clear P
  go_wp2_with fail
  with_reducible refine (heldfc_any _ 1 L.length _ M.out.row hLL (by omega) (by omega)).mono ?_
  rintro e w_15 ⟨rfl, hw_15⟩
  have hx_15 := hw_15.symm
  clear hw_15
  subst hx_15
  go_wp2_with fail
  go_ret
  exact ⟨rfl, onto KS.out Q_14.out⟩

set_option maxRecDepth 100000 in
theorem lifted (os : Os) (started : os.Started) (H : Type) (enc : TypeId × Value → H) :
    ReturnsInHanded {} Try.checked os 3 .any (Rows.fnExactFoldSpec.pre6 enc Try.prog Try.f3 Rows.fnExactFoldRow.domain false) (Rows.fnExactFoldSpec.post enc Try.prog Try.f3 false true false false) := by
  refine returnsInHanded_of_change (C := Try.checked) own started (by kernel_rfl) Try.func3
    (ChangeSpec.witness6 (enc := enc) (C := Try.checked) false ⟨#[], #[.slice none 0 0], []⟩ 8 (by kernel_rfl) (by kernel_rfl) (by kernel_rfl) (by kernel_rfl)) ?_
  intro W base args ds gs before hval0 hW hcnd _
  have hval : ∀ (j : Nat) t v, Try.f3.params[j]? = some t → args[j]? = some v → Value.okWide Try.prog W .any base t v := hval0
  have hW' := hW
  obtain ⟨p, q, hA0, hV, rfl, hfz, hnd⟩ := hW
  have hA : DataW.TrodAll enc Try.prog W 0 (fun _ => true) true Try.f3.params.toList args.toList ds p := hA0
  rw [Try.params3] at hA hval
  obtain ⟨v0, vs0, d0, ds0, p0, q0, hargs, rfl, rfl, h0, r0⟩ := trodAll_cons hA
  obtain ⟨rfl, rfl, rfl⟩ := trodAll_nil r0
  obtain rfl : args = #[v0] := by cases args; simp_all
  obtain ⟨rfl, rfl⟩ := trodVars_none hV
  have k0 := h0
  have lt0 : ∀ x ∈ p0, x.block < W.heap.size := by obtain ⟨m, hm⟩ := k0; exact DataW.trod_lt m _ _ _ hm
  obtain ⟨ao0, len0, cap0, rfl⟩ := okWide_slice Try.underlying22 (hval 0 22 v0 rfl rfl)
  obtain ⟨l, hl0, hm0, hrow0, hwf0⟩ := lts_of_read h0
  clear hA0 hval0
  refine (walk ao0 len0 cap0 l W hrow0 hl0 hm0 hwf0).mono fun e W' ⟨he, bel⟩ => ?_
  subst he
  exact ⟨_, rfl, _, _, _, [], _, [], hW', trodAll_mk1 (shut_bool Try.underlying4 _), (trodAll_cons_mk (Below.trod laidOut (by kernel_rfl) (of_decide_eq_true (by kernel_rfl)) k0 bel lt0) trodAll_mk0), rfl, bel.frame _, fun h => by cases h⟩

theorem over : Rows.fnExactFoldRow.holds Try.pinned (OpenSpec.ofChange Rows.fnExactFoldSpec) :=
  OpenClaim.holds_of_wide 3 Try.f3 rfl rfl rfl rfl rfl rfl rfl ⟨rfl, rfl, rfl, rfl, rfl⟩ rfl rfl rfl rfl rfl (by kernel_rfl) Try.func3 (by kernel_rfl)
    (of_decide_eq_true (by kernel_rfl)) (by unfold Func.isWrapper; first | (rw [if_pos (by decide +kernel)]; kernel_rfl) | (rw [if_neg (by decide +kernel)]; exact ⟨rfl, rfl⟩))
    (fun os started H enc _ => lifted os started H enc)
end fnExactFold
theorem fnExactFold_holds : Rows.FnExactFoldSaid := fnExactFold.over
end Go.Proofs.Ytbabknhccapaoab
