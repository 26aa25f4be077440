/-
  Proved: for every volume, every list of asks and every list of needs, the program's Share answers as the specification's, writes into no argument, and its answer is its own (FnExactShare returns true). No conditions.
-/
import Derived.Test.YtecljmpojninfabT5
import Derived.Test.YtecljmpojninfabT6
namespace Go.Proofs.Ytecljmpojninfab
open Go.RowKit Va Lb

namespace fnExactShare
open Go.ChangeShapes Go.WideShapes Go.ChangeAt Go.Joins
set_option linter.all false

theorem own : ownKnob Try.prog.godebug = none := by kernel_rfl
theorem laidOut : laidOutB Try.prog = true := by kernel_rfl

set_option maxRecDepth 20000 in
set_option maxHeartbeats 8000000 in
theorem walk (vol : Int) (ao1 : Option Addr) (len1 cap1 : Nat) (l : List Int) (ao2 : Option Addr) (len2 cap2 : Nat) (m : List Int) (w : World) (h1 : VRw 1 cvI w (.slice ao1 len1 cap1) l) (hl1 : l.length = len1) (hm1 : len1 ≤ maxLen) (h2 : VRw 1 cvI w (.slice ao2 len2 cap2) m) (hl2 : m.length = len2) (hm2 : len2 ≤ maxLen) :
    Calls Try.prog 4 #[.int .i64 vol, .slice ao1 len1 cap1, .slice ao2 len2 cap2] w fun e w' => e = .returned (.bool true) ∧ Below w.heap.size w w' := by
  have hmm1 : (len1 : Int) ≤ 9223372036854775807 := by unfold maxLen at hm1; omega
  have hmm2 : (len2 : Int) ≤ 9223372036854775807 := by unfold maxLen at hm2; omega
  by_cases hb1 : (1048576 : Int) < (len1 : Int)
  · clear h1 hl1 hm1 h2 hl2 hm2
    go_enter Try.func4, Try.ntmps4
    go_wp2_with fail
    go_ret
    exact ⟨rfl, Below.refl _ _⟩
  by_cases hb2 : (1048576 : Int) < (len2 : Int)
  · clear h1 hl1 hm1 h2 hl2 hm2
    go_enter Try.func4, Try.ntmps4
    go_wp2_with fail
    go_ret
    exact ⟨rfl, Below.refl _ _⟩
  have hll1 : l.length ≤ 1048576 := by omega
  have HT1 := hidden (fun W hW => vtoints_any (.slice ao1 len1 cap1) l W hW hll1)
  have HJ1 := hidden h1
  have HL1 := hidden hll1
  have hll2 : m.length ≤ 1048576 := by omega
  have HT2 := hidden (fun W hW => vtoints_any (.slice ao2 len2 cap2) m W hW hll2)
  have HJ2 := hidden h2
  have HL2 := hidden hll2
  have hLL : (share vol l m).length ≤ 1048576 := Nat.le_trans (share_len vol l m) (by decide)
  have HSM := hidden (fun a1 n1 c1 a2 n2 c2 W hW1 hW2 => sshare_any vol a1 n1 c1 l a2 n2 c2 m W hW1 hW2 hll1 hll2)
  have HIM := hidden (fun a1 n1 c1 a2 n2 c2 W hW1 hW2 => ishare_any vol a1 n1 c1 l a2 n2 c2 m W hW1 hW2 hll1 hll2)
  generalize share vol l m = L at *
  clear h1 hl1 hll1 h2 hl2 hll2
  go_enter Try.func4, Try.ntmps4
  have K0 := hidden (Below.refl w.heap.size w)
  go_wp2_with fail
  with_reducible refine (HT1.out _ (HJ1.out.below K0.out)).mono ?_
  rintro e w_1 ⟨v_1, rfl, hj_1, hb_1⟩
  obtain ⟨a_1, k_1, rfl⟩ := hj_1.row.form
  have Q_1 := hidden (K0.out.trans (hb_1.mono K0.out.size))
  have S1 := hidden hj_1
  clear hb_1 hj_1 K0
  go_wp2_with fail
  with_reducible refine (HT2.out _ (HJ2.out.below Q_1.out)).mono ?_
  rintro e w_2 ⟨v_2, rfl, hj_2, hb_2⟩
  obtain ⟨a_2, k_2, rfl⟩ := hj_2.row.form
  have Q_2 := hidden (Q_1.out.trans (hb_2.mono Q_1.out.size))
  have S1' := hidden (S1.out.below hb_2)
  clear S1
  have S1 := S1'
  clear S1'
  have S2 := hidden hj_2
  clear hb_2 hj_2 Q_1
  go_wp2_with fail
  with_reducible refine (HSM.out _ _ _ _ _ _ _ S1.out.row S2.out.row).mono ?_
  rintro e w_3 ⟨v_3, rfl, ho_3, hb_3⟩
  obtain ⟨a_3, k_3, rfl⟩ := ho_3.row.form
  have V := hidden ho_3.row
  have KS := hidden (Q_2.out.trans (hb_3.mono Q_2.out.size))
  clear Q_2 hb_3 S1 S2 ho_3
  have bS := KS.out
  have BR1 := hidden (fun W (hW : Below w_3.heap.size w_3 W) => HJ1.out.below (bS.trans (hW.mono bS.size)))
  have BR2 := hidden (fun W (hW : Below w_3.heap.size w_3 W) => HJ2.out.below (bS.trans (hW.mono bS.size)))
  clear bS
  have KK := hidden (Below.refl w_3.heap.size w_3)
  go_wp2_with fail
  with_reducible refine (HT1.out _ (BR1.out _ KK.out)).mono ?_
  rintro e w_4 ⟨v_4, rfl, hj_4, hb_4⟩
  obtain ⟨a_4, k_4, rfl⟩ := hj_4.row.form
  have Q_4 := hidden (KK.out.trans (hb_4.mono KK.out.size))
  have X1 := hidden hj_4
  have XB1 := hidden hj_4
  have zX1 := hb_4.size
  clear hb_4 hj_4 KK
  go_wp2_with fail
  with_reducible refine (HT2.out _ (BR2.out _ Q_4.out)).mono ?_
  rintro e w_5 ⟨v_5, rfl, hj_5, hb_5⟩
  obtain ⟨a_5, k_5, rfl⟩ := hj_5.row.form
  have Q_5 := hidden (Q_4.out.trans (hb_5.mono Q_4.out.size))
  have X1' := hidden (X1.out.below hb_5)
  clear X1
  have X1 := X1'
  clear X1'
  have X2 := hidden hj_5
  have XB2 := hidden hj_5
  have zX2 := hb_5.size
  clear hb_5 hj_5 Q_4
  go_wp2_with fail
  with_reducible refine (HIM.out _ _ _ _ _ _ _ X1.out.row X2.out.row).mono ?_
  rintro e w_6 ⟨v_6, rfl, ho_6, hb_6⟩
  obtain ⟨a_6, k_6, rfl⟩ := ho_6.row.form
  have Q_6 := hidden (Q_5.out.trans (hb_6.mono Q_5.out.size))
  have zK := Q_5.out.size
  have X1' := hidden (X1.out.below hb_6)
  clear X1
  have X1 := X1'
  clear X1'
  have X2' := hidden (X2.out.below hb_6)
  clear X2
  have X2 := X2'
  clear X2'
  have O := hidden ho_6
  clear hb_6 Q_5 ho_6
  go_wp2_with fail
  with_reducible refine (veqints_any _ _ L _ O.out.row (V.out.below Q_6.out) hLL).mono ?_
  rintro e w_7 ⟨rfl, hb_7⟩
  have Q_7 := hidden (Q_6.out.trans (hb_7.mono Q_6.out.size))
  have X1' := hidden (X1.out.below hb_7)
  clear X1
  have X1 := X1'
  clear X1'
  have X2' := hidden (X2.out.below hb_7)
  clear X2
  have X2 := X2'
  clear X2'
  have O' := hidden (O.out.below hb_7)
  clear O
  have O := O'
  clear O'
  clear hb_7 Q_6
  go_wp2_with fail
  with_reducible refine (HT1.out _ (BR1.out _ Q_7.out)).mono ?_
  rintro e w_8 ⟨v_8, rfl, hj_8, hb_8⟩
  obtain ⟨a_8, k_8, rfl⟩ := hj_8.row.form
  have Q_8 := hidden (Q_7.out.trans (hb_8.mono Q_7.out.size))
  have RR := hidden hj_8.row
  have X1' := hidden (X1.out.below hb_8)
  clear X1
  have X1 := X1'
  clear X1'
  have X2' := hidden (X2.out.below hb_8)
  clear X2
  have X2 := X2'
  clear X2'
  have O' := hidden (O.out.below hb_8)
  clear O
  have O := O'
  clear O'
  clear hb_8 hj_8 Q_7
  go_wp2_with fail
  with_reducible refine (veqints_any _ _ l _ X1.out.row RR.out HL1.out).mono ?_
  rintro e w_9 ⟨rfl, hb_9⟩
  have Q_9 := hidden (Q_8.out.trans (hb_9.mono Q_8.out.size))
  have X1' := hidden (X1.out.below hb_9)
  clear X1
  have X1 := X1'
  clear X1'
  have X2' := hidden (X2.out.below hb_9)
  clear X2
  have X2 := X2'
  clear X2'
  have O' := hidden (O.out.below hb_9)
  clear O
  have O := O'
  clear O'
  clear hb_9 Q_8
  clear RR
  go_wp2_with fail
  with_reducible refine (HT2.out _ (BR2.out _ Q_9.out)).mono ?_
  rintro e w_10 ⟨v_10, rfl, hj_10, hb_10⟩
  obtain ⟨a_10, k_10, rfl⟩ := hj_10.row.form
  have Q_10 := hidden (Q_9.out.trans (hb_10.mono Q_9.out.size))
  have RR := hidden hj_10.row
  have X1' := hidden (X1.out.below hb_10)
  clear X1
  have X1 := X1'
  clear X1'
  have X2' := hidden (X2.out.below hb_10)
  clear X2
  have X2 := X2'
  clear X2'
  have O' := hidden (O.out.below hb_10)
  clear O
  have O := O'
  clear O'
  clear hb_10 hj_10 Q_9
  go_wp2_with fail
  with_reducible refine (veqints_any _ _ m _ X2.out.row RR.out HL2.out).mono ?_
  rintro e w_11 ⟨rfl, hb_11⟩
  have Q_11 := hidden (Q_10.out.trans (hb_11.mono Q_10.out.size))
  have X1' := hidden (X1.out.below hb_11)
  clear X1
  have X1 := X1'
  clear X1'
  have X2' := hidden (X2.out.below hb_11)
  clear X2
  have X2 := X2'
  clear X2'
  have O' := hidden (O.out.below hb_11)
  clear O
  have O := O'
  clear O'
  clear hb_11 Q_10
  clear RR
  have nk1 := HL1.out
  go_wp2_with fail
  with_reducible refine (vmarkint_any _ l _ (1) _ X1.out HL1.out (by omega) (by omega)).mono ?_
  rintro e w_12 ⟨rfl, -, ha_12, hz_12⟩
  have Q_12 := hidden (X1.out.mark_below ha_12 hz_12 Q_11.out (by omega))
  have X2' := hidden (XB1.out.mark_own (by omega) ha_12 hz_12 X2.out)
  clear X2
  have X2 := X2'
  clear X2'
  have O' := hidden (XB1.out.mark_own (by omega) ha_12 hz_12 O.out)
  clear O
  have O := O'
  clear O'
  clear ha_12 hz_12 X1 Q_11
  have nk2 := HL2.out
  go_wp2_with fail
  with_reducible refine (vmarkint_any _ m _ (1 + (l.length : Int)) _ X2.out HL2.out (by omega) (by omega)).mono ?_
  rintro e w_13 ⟨rfl, -, ha_13, hz_13⟩
  have Q_13 := hidden (X2.out.mark_below ha_13 hz_13 Q_12.out (by omega))
  have O' := hidden (XB2.out.mark_own (by omega) ha_13 hz_13 O.out)
  clear O
  have O := O'
  clear O'
  clear ha_13 hz_13 X2 Q_12
  have nkk : ¬ (1 + (l.length : Int) + (m.length : Int) : Int) < 0 := by omega
  go_wp2_with fail
  with_reducible refine (veqints_any _ _ L _ O.out.row (V.out.below Q_13.out) hLL).mono ?_
  rintro e w_14 ⟨rfl, hb_14⟩
  have Q_14 := hidden (Q_13.out.trans (hb_14.mono Q_13.out.size))
  have O' := hidden (O.out.below hb_14)
  clear O
  have O := O'
  clear O'
  clear hb_14 Q_13
  go_wp2_with fail
  with_reducible refine (vmarkint_any _ L _ 1 _ O.out hLL (by omega) (by omega)).mono ?_
  rintro e w_15 ⟨rfl, hm_15, ha_15, hz_15⟩
  have Q_15 := hidden (O.out.mark_below ha_15 hz_15 Q_14.out (by omega))
  have M := hidden hm_15
  have nL : ¬ (1 + (L.length : Int)) < 0 := by omega
  clear hm_15 ha_15 hz_15 O Q_14
  go_wp2_with fail
  with_reducible refine (heldint_any _ 1 L.length _ M.out.row hLL (by omega) (by omega)).mono ?_
  rintro e w_16 ⟨rfl, hw_16⟩
  have hx_16 := hw_16.symm
  clear hw_16
  subst hx_16
  go_wp2_with fail
  with_reducible refine (HT1.out _ (BR1.out _ Q_15.out)).mono ?_
  rintro e w_17 ⟨v_17, rfl, hj_17, hb_17⟩
  obtain ⟨a_17, k_17, rfl⟩ := hj_17.row.form
  have Q_17 := hidden (Q_15.out.trans (hb_17.mono Q_15.out.size))
  have M' := hidden (M.out.below hb_17)
  clear M
  have M := M'
  clear M'
  have Y1 := hidden hj_17
  clear hb_17 hj_17 Q_15
  go_wp2_with fail
  with_reducible refine (HT2.out _ (BR2.out _ Q_17.out)).mono ?_
  rintro e w_18 ⟨v_18, rfl, hj_18, hb_18⟩
  obtain ⟨a_18, k_18, rfl⟩ := hj_18.row.form
  have Q_18 := hidden (Q_17.out.trans (hb_18.mono Q_17.out.size))
  have M' := hidden (M.out.below hb_18)
  clear M
  have M := M'
  clear M'
  have Y1' := hidden (Y1.out.below hb_18)
  clear Y1
  have Y1 := Y1'
  clear Y1'
  have Y2 := hidden hj_18
  clear hb_18 hj_18 Q_17
  go_wp2_with fail
  with_reducible refine (HIM.out _ _ _ _ _ _ _ Y1.out.row Y2.out.row).mono ?_
  rintro e w_19 ⟨v_19, rfl, ho_19, hb_19⟩
  obtain ⟨a_19, k_19, rfl⟩ := ho_19.row.form
  have Q_19 := hidden (Q_18.out.trans (hb_19.mono Q_18.out.size))
  have P := hidden ho_19.row
  have M' := hidden (M.out.below hb_19)
  clear M
  have M := M'
  clear M'
  clear hb_19 ho_19 Q_18 Y1 Y2
  go_wp2_with fail
  with_reducible refine (veqints_any _ _ L _ P.out (V.out.below Q_19.out) hLL).mono ?_
  rintro e w_20 ⟨rfl, hb_20⟩
  have Q_20 := hidden (Q_19.out.trans (hb_20.mono Q_19.out.size))
  have M' := hidden (M.out.below hb_20)
  clear M
  have M := M'
  clear M'
  clear hb_20 Q_19
  clear P
  go_wp2_with fail
  with_reducible refine (heldint_any _ 1 L.length _ M.out.row hLL (by omega) (by omega)).mono ?_
  rintro e w_21 ⟨rfl, hw_21⟩
  have hx_21 := hw_21.symm
  clear hw_21
  subst hx_21
  go_wp2_with fail
  go_ret
  exact ⟨rfl, onto KS.out Q_20.out⟩

set_option maxRecDepth 100000 in
theorem lifted (os : Os) (started : os.Started) (H : Type) (enc : TypeId × Value → H) :
    ReturnsInHanded {} Try.checked os 4 .any (Rows.fnExactShareSpec.pre6 enc Try.prog Try.f4 Rows.fnExactShareRow.domain false) (Rows.fnExactShareSpec.post enc Try.prog Try.f4 false true false false) := by
  refine returnsInHanded_of_change (C := Try.checked) own started (by kernel_rfl) Try.func4
    (ChangeSpec.witness6 (enc := enc) (C := Try.checked) false ⟨#[], #[.int .i64 0, .slice none 0 0, .slice none 0 0], []⟩ 8 (by kernel_rfl) (by kernel_rfl) (by kernel_rfl) (by kernel_rfl)) ?_
  intro W base args ds gs before hval0 hW hcnd _
  have hval : ∀ (j : Nat) t v, Try.f4.params[j]? = some t → args[j]? = some v → Value.okWide Try.prog W .any base t v := hval0
  have hW' := hW
  obtain ⟨p, q, hA0, hV, rfl, hfz, hnd⟩ := hW
  have hA : DataW.TrodAll enc Try.prog W 0 (fun _ => true) true Try.f4.params.toList args.toList ds p := hA0
  rw [Try.params4] at hA hval
  obtain ⟨v0, vs0, d0, ds0, p0, q0, hargs, rfl, rfl, h0, r0⟩ := trodAll_cons hA
  obtain ⟨v1, vs1, d1, ds1, p1, q1, rfl, rfl, rfl, h1, r1⟩ := trodAll_cons r0
  obtain ⟨v2, vs2, d2, ds2, p2, q2, rfl, rfl, rfl, h2, r2⟩ := trodAll_cons r1
  obtain ⟨rfl, rfl, rfl⟩ := trodAll_nil r2
  obtain rfl : args = #[v0, v1, v2] := by cases args; simp_all
  obtain ⟨rfl, rfl⟩ := trodVars_none hV
  obtain ⟨vol, rfl, rfl, rfl, k0⟩ := open_int Try.underlying2 (hval 0 2 v0 rfl rfl) h0
  have k1 := h1
  have lt1 : ∀ x ∈ p1, x.block < W.heap.size := by obtain ⟨m, hm⟩ := k1; exact DataW.trod_lt m _ _ _ hm
  obtain ⟨ao1, len1, cap1, rfl⟩ := okWide_slice Try.underlying22 (hval 1 22 v1 rfl rfl)
  obtain ⟨l, hl1, hm1, hrow1⟩ := vints_of_read h1
  have k2 := h2
  have lt2 : ∀ x ∈ p2, x.block < W.heap.size := by obtain ⟨m, hm⟩ := k2; exact DataW.trod_lt m _ _ _ hm
  obtain ⟨ao2, len2, cap2, rfl⟩ := okWide_slice Try.underlying22 (hval 2 22 v2 rfl rfl)
  obtain ⟨m, hl2, hm2, hrow2⟩ := vints_of_read h2
  clear hA0 hval0
  refine (walk vol ao1 len1 cap1 l ao2 len2 cap2 m W hrow1 hl1 hm1 hrow2 hl2 hm2).mono fun e W' ⟨he, bel⟩ => ?_
  subst he
  exact ⟨_, rfl, _, _, _, [], _, [], hW', trodAll_mk1 (shut_bool Try.underlying4 _), (trodAll_cons_mk (shut_int Try.underlying2 k0) (trodAll_cons_mk (Below.trod laidOut (by kernel_rfl) (of_decide_eq_true (by kernel_rfl)) k1 bel lt1) (trodAll_cons_mk (Below.trod laidOut (by kernel_rfl) (of_decide_eq_true (by kernel_rfl)) k2 bel lt2) trodAll_mk0))), rfl, bel.frame _, fun h => by cases h⟩

theorem over : Rows.fnExactShareRow.holds Try.pinned (OpenSpec.ofChange Rows.fnExactShareSpec) :=
  OpenClaim.holds_of_wide 4 Try.f4 rfl rfl rfl rfl rfl rfl rfl ⟨rfl, rfl, rfl, rfl, rfl⟩ rfl rfl rfl rfl rfl (by kernel_rfl) Try.func4 (by kernel_rfl)
    (of_decide_eq_true (by kernel_rfl)) (by unfold Func.isWrapper; first | (rw [if_pos (by decide +kernel)]; kernel_rfl) | (rw [if_neg (by decide +kernel)]; exact ⟨rfl, rfl⟩))
    (fun os started H enc _ => lifted os started H enc)
end fnExactShare
theorem fnExactShare_holds : Rows.FnExactShareSaid := fnExactShare.over
end Go.Proofs.Ytecljmpojninfab
