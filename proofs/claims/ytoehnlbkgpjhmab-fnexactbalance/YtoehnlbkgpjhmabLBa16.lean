/-
  Proved: for every trial, the program's Balance answers as the specification's, writes into no argument, and its answer is its own (FnExactBalance returns true). No conditions.
-/
import Derived.Test.YtoehnlbkgpjhmabTr4
import Derived.Test.YtoehnlbkgpjhmabTr22
namespace Go.Proofs.Ytoehnlbkgpjhmab
open Go.RowKit Va Lb Tr

namespace fnExactBalance
open Go.ChangeShapes Go.WideShapes Go.ChangeAt Go.Joins
set_option linter.all false

theorem own : ownKnob Try.prog.godebug = none := by kernel_rfl
theorem laidOut : laidOutB Try.prog = true := by kernel_rfl

set_option maxRecDepth 20000 in
set_option maxHeartbeats 4000000 in
theorem walk (x : Tl) (ta : Option Addr) (tc : Nat) (w : World) (h : VRw 1 cvI w (.slice ta x.coins.length tc) x.coins) (hm : x.coins.length ≤ maxLen) :
    Calls Try.prog 5 #[aT x (.slice ta x.coins.length tc)] w fun e w' => e = .returned (.bool true) ∧ Below w.heap.size w w' := by
  have hS := fun W => sztrial_any x ta x.coins.length tc 1048576 W (by unfold maxLen at hm; omega) (by omega) (by omega)
  have HP := hidden (PB.new w #[.int .i64 x.arms, .int .i64 x.block, .slice ta x.coins.length tc, .int .i64 x.told] 24)
  have hb0 : Below w.heap.size w (w.alloc (.cells #[.int .i64 x.arms, .int .i64 x.block, .slice ta x.coins.length tc, .int .i64 x.told] 24)) := (Below.refl _ _).alloc (Nat.le_refl _) _
  have HA := hidden (h.below hb0)
  clear h
  unfold aT at hS ⊢
  go_enter Try.func5, Try.ntmps5
  go_upto_region 1 with fail
  generalize w.alloc (.cells #[.int .i64 x.arms, .int .i64 x.block, .slice ta x.coins.length tc, .int .i64 x.told] 24) = wA at *
  generalize hav : Value.agg #[.int .i64 x.arms, .int .i64 x.block, .slice ta x.coins.length tc, .int .i64 x.told] = av
  rw [hav] at hS
  obtain ⟨c0, c1, c2, c3⟩ := HP.out.four
  by_cases hbig : (1048576 : Int) < (x.coins.length : Int)
  · simp only [if_pos hbig] at hS
    go_wp2_with fail
    refine (hS _).mono ?_
    rintro e w1 ⟨rfl, hb1⟩
    go_wp2_with fail
    go_ret
    exact ⟨rfl, onto hb0 hb1⟩
  simp only [if_neg hbig] at hS
  have hn : ¬ (1048576 : Int) - x.coins.length < 0 := by omega
  have hll : x.coins.length ≤ 1048576 := by omega
  have HT := hidden (fun W hW => totrial_any x ta x.coins.length tc W hW hll)
  have HE := hidden (fun a n c a2 n2 c2 W hW hW2 => eqtrial_any x a n c a2 n2 c2 W hW hW2 hll)
  have hLL : (balance x).length ≤ 1048576 := Nat.le_trans (balance_len x) (by omega)
  have HSP := hidden (fun a n c W hW => sbalance_any x a n c W hW hll)
  have HIM := hidden (fun a n c W hW => ibalance_any x a n c W hW hll)
  have HMK := hidden (fun a n c base W hW => marktrial_any x a n c base 1 W hW hll (by omega) (by omega))
  generalize balance x = L at *
  unfold aT at *
  rw [hav] at HT
  have BW := hidden (fun W (hW : Below wA.heap.size wA W) => onto hb0 hW)
  clear hb0 hbig
  go_wp2_with fail
  refine (hS _).mono ?_
  rintro e w1 ⟨rfl, hb1⟩
  have K1 := hidden hb1
  clear hS hb1 c0 c1 c2 c3
  obtain ⟨c0, c1, c2, c3⟩ := (HP.out.below K1.out).four
  go_wp2_with fail
  refine (HT.out _ (HA.out.below K1.out)).mono ?_
  rintro e w2 ⟨G2, hG2, rfl, ho2, hb2⟩
  have R2 := hidden ho2.row
  have K2 := hidden (K1.out.trans (hb2.mono K1.out.size))
  clear ho2 hb2 K1 c0 c1 c2 c3
  go_wp2_with fail
  refine (HSP.out _ _ _ _ R2.out).mono ?_
  rintro e w3 ⟨v3, rfl, hv3, hb3⟩
  obtain ⟨a3, k3, rfl⟩ := hv3.row.form
  have V3 := hidden hv3.row
  have K3 := hidden (K2.out.trans (hb3.mono K2.out.size))
  have KB := hidden (Below.refl w3.heap.size w3)
  clear hb3 hv3 R2 K2
  obtain ⟨c0, c1, c2, c3⟩ := (HP.out.below (K3.out.trans (KB.out.mono K3.out.size))).four
  go_wp2_with fail
  refine (HT.out _ (HA.out.below (K3.out.trans (KB.out.mono K3.out.size)))).mono ?_
  rintro e w4 ⟨G4, hG4, rfl, ho4, hb4⟩
  have X4 := hidden ho4
  have XB := hidden ho4
  have z4 := hb4.size
  clear KB
  have KB := hidden hb4
  clear ho4 hb4 c0 c1 c2 c3
  go_upto_region 7 with fail
  have PX := hidden (PB.new w4 #[.int .i64 x.arms, .int .i64 x.block, .slice (some ⟨G4, 0, none⟩) x.coins.length x.coins.length, .int .i64 x.told] 27)
  have bx : Below w4.heap.size w4 (w4.alloc (.cells #[.int .i64 x.arms, .int .i64 x.block, .slice (some ⟨G4, 0, none⟩) x.coins.length x.coins.length, .int .i64 x.told] 27)) := (Below.refl _ _).alloc (Nat.le_refl _) _
  have zx : w4.heap.size < (w4.alloc (.cells #[.int .i64 x.arms, .int .i64 x.block, .slice (some ⟨G4, 0, none⟩) x.coins.length x.coins.length, .int .i64 x.told] 27)).heap.size := by simp
  have RX := hidden (X4.out.below bx)
  have KX := hidden (KB.out.trans (bx.mono KB.out.size))
  clear bx X4 KB
  generalize hwX : w4.alloc (.cells #[.int .i64 x.arms, .int .i64 x.block, .slice (some ⟨G4, 0, none⟩) x.coins.length x.coins.length, .int .i64 x.told] 27) = wX at *
  generalize hBX : w4.heap.size = BX at *
  clear hwX
  obtain ⟨d0, d1, d2, d3⟩ := PX.out.four
  go_wp2_with fail
  refine (HIM.out _ _ _ _ RX.out.row).mono ?_
  rintro e w5 ⟨v5, rfl, hv5, hb5⟩
  obtain ⟨a5, k5, rfl⟩ := hv5.row.form
  have O5 := hidden hv5
  have X5 := hidden (RX.out.below hb5)
  have P5 := hidden (PX.out.below hb5)
  have KB := hidden (KX.out.trans (hb5.mono KX.out.size))
  clear hb5 hv5 RX PX KX d0 d1 d2 d3
  go_wp2_with fail
  refine (veqints_any _ _ L _ O5.out.row (V3.out.below KB.out) hLL).mono ?_
  rintro e w6 ⟨rfl, hb6⟩
  have O6 := hidden (O5.out.below hb6)
  have X6 := hidden (X5.out.below hb6)
  have P6 := hidden (P5.out.below hb6)
  have KB' := hidden (KB.out.trans (hb6.mono KB.out.size))
  clear hb6 O5 X5 P5 KB
  have KB := KB'
  clear KB'
  obtain ⟨d0, d1, d2, d3⟩ := P6.out.four
  obtain ⟨c0, c1, c2, c3⟩ := (HP.out.below (K3.out.trans (KB.out.mono K3.out.size))).four
  have HRT := hidden (fun W (hW : Below w6.heap.size w6 W) => HT.out W (HA.out.below ((K3.out.trans (KB.out.mono K3.out.size)).trans (hW.mono (K3.out.trans (KB.out.mono K3.out.size)).size))))
  have HR6 := hidden (fun W (hW : Below w6.heap.size w6 W) => X6.out.row.below hW)
  have HP6 := hidden (fun W (hW : Below w6.heap.size w6 W) => P6.out.below hW)
  go_upto_region 10 with fail
  go_cut [31] from 27 (fun sv wc => sv = .bool false ∧ Below w6.heap.size w6 wc)
  case first =>
    first | go_region_with (first | (go_at_call 10; refine (HRT.out _ (by repeat (first | exact Below.refl _ _ | assumption | refine st_drew ?_ | refine st_drewN ?_ _ | refine Below.setCell ?_ (by first | omega | (simp; done) | (simp; omega)) _ | refine Below.alloc ?_ (by first | omega | (simp; done) | (simp; omega)) _))).mono ?_; rintro e w7 ⟨G6, hG6, rfl, ho6, hb6⟩; have b6 := onto (show Below w6.heap.size w6 _ from by repeat (first | exact Below.refl _ _ | assumption | refine st_drew ?_ | refine st_drewN ?_ _ | refine Below.setCell ?_ (by first | omega | (simp; done) | (simp; omega)) _ | refine Below.alloc ?_ (by first | omega | (simp; done) | (simp; omega)) _)) hb6; have R6 := hidden ho6.row; have b6s := b6; have K6 := hidden (HR6.out _ b6s); obtain ⟨e0, e1, e2, e3⟩ := (HP6.out _ b6s).four; clear ho6 hb6) | (go_at_call 12; refine (HE.out _ _ _ _ _ _ _ (VRw.below K6.out (by repeat (first | exact Below.refl _ _ | assumption | refine st_drew ?_ | refine st_drewN ?_ _ | refine Below.setCell ?_ (by first | omega | (simp; done) | (simp; omega)) _ | refine Below.alloc ?_ (by first | omega | (simp; done) | (simp; omega)) _))) (VRw.below R6.out (by repeat (first | exact Below.refl _ _ | assumption | refine st_drew ?_ | refine st_drewN ?_ _ | refine Below.setCell ?_ (by first | omega | (simp; done) | (simp; omega)) _ | refine Below.alloc ?_ (by first | omega | (simp; done) | (simp; omega)) _)))).mono ?_; rintro e w8 ⟨rfl, hb7⟩; have b7 := onto (show Below w6.heap.size w6 _ from by repeat (first | exact Below.refl _ _ | assumption | refine st_drew ?_ | refine st_drewN ?_ _ | refine Below.setCell ?_ (by first | omega | (simp; done) | (simp; omega)) _ | refine Below.alloc ?_ (by first | omega | (simp; done) | (simp; omega)) _)) hb7; clear hb7) | fail) | fail
    all_goals (first | go_meet | (go_wp2_with fail; go_meet))
    all_goals exact ⟨rfl, by repeat (first | exact Below.refl _ _ | assumption | refine st_drew ?_ | refine st_drewN ?_ _ | refine Below.setCell ?_ (by first | omega | (simp; done) | (simp; omega)) _ | refine Below.alloc ?_ (by first | omega | (simp; done) | (simp; omega)) _)⟩
  case rest =>
    obtain ⟨rfl, hbc⟩ := hcut
    clear HRT HR6 HP6 c0 c1 c2 c3 d0 d1 d2 d3
    have O7 := hidden (O6.out.below hbc)
    have X7 := hidden (X6.out.below hbc)
    have P7 := hidden (P6.out.below hbc)
    have KB' := hidden (KB.out.trans (hbc.mono KB.out.size))
    clear hbc O6 X6 P6 KB
    have KB := KB'
    clear KB'
    obtain ⟨d0, d1, d2, d3⟩ := P7.out.four
    go_wp2_with fail
    refine (HMK.out _ _ _ _ _ X7.out).mono ?_
    rintro e w8 ⟨rfl, wm, hbm, -, ha, hz⟩
    have nk8 : ¬ (1 : Int) + (x.coins.length : Int) < 0 := by omega
    have KBm := KB.out.trans (hbm.mono KB.out.size)
    have KB' := hidden ((X7.out.below hbm).mark_below ha hz KBm (Nat.le_refl _))
    have O8 := hidden (XB.out.mark_own (by omega) ha hz (O7.out.below hbm))
    clear hbm ha hz KBm O7 X7 P7 KB HMK d0 d1 d2 d3
    have KB := KB'
    clear KB'
    go_wp2_with fail
    refine (veqints_any _ _ L _ O8.out.row (V3.out.below KB.out) hLL).mono ?_
    rintro e w9 ⟨rfl, hb9⟩
    have O9 := hidden (O8.out.below hb9)
    have KB' := hidden (KB.out.trans (hb9.mono KB.out.size))
    clear hb9 O8 KB
    have KB := KB'
    clear KB'
    go_wp2_with fail
    refine (vmarkint_any _ L _ 1 _ O9.out hLL (by omega) (by omega)).mono ?_
    rintro e w10 ⟨rfl, hm, ha, hz⟩
    have M10 := hidden hm
    have KB' := hidden (O9.out.mark_below ha hz KB.out (by omega))
    have nL : ¬ (1 : Int) + (L.length : Int) < 0 := by omega
    clear hm ha hz O9 KB
    have KB := KB'
    clear KB'
    go_wp2_with fail
    refine (heldint_any _ 1 L.length _ M10.out.row hLL (by omega) (by omega)).mono ?_
    rintro e w11 ⟨rfl, hw11⟩
    have hx11 := hw11.symm
    clear hw11
    subst hx11
    obtain ⟨c0, c1, c2, c3⟩ := (HP.out.below (K3.out.trans (KB.out.mono K3.out.size))).four
    go_wp2_with fail
    refine (HT.out _ (HA.out.below (K3.out.trans (KB.out.mono K3.out.size)))).mono ?_
    rintro e w12 ⟨G12, hG12, rfl, ho12, hb12⟩
    have R12 := hidden ho12.row
    have M12 := hidden (M10.out.below hb12)
    have KB' := hidden (KB.out.trans (hb12.mono KB.out.size))
    clear ho12 hb12 M10 KB c0 c1 c2 c3
    have KB := KB'
    clear KB'
    go_wp2_with fail
    refine (HIM.out _ _ _ _ R12.out).mono ?_
    rintro e w13 ⟨v13, rfl, hv13, hb13⟩
    obtain ⟨a13, k13, rfl⟩ := hv13.row.form
    have Q13 := hidden hv13.row
    have M13 := hidden (M12.out.below hb13)
    have KB' := hidden (KB.out.trans (hb13.mono KB.out.size))
    clear hv13 hb13 M12 KB R12
    have KB := KB'
    clear KB'
    go_wp2_with fail
    refine (veqints_any _ _ L _ Q13.out (V3.out.below KB.out) hLL).mono ?_
    rintro e w14 ⟨rfl, hb14⟩
    have M14 := hidden (M13.out.below hb14)
    have KB' := hidden (KB.out.trans (hb14.mono KB.out.size))
    clear hb14 M13 KB Q13
    have KB := KB'
    clear KB'
    go_wp2_with fail
    refine (heldint_any _ 1 L.length _ M14.out.row hLL (by omega) (by omega)).mono ?_
    rintro e w15 ⟨rfl, hw15⟩
    have hx15 := hw15.symm
    clear hw15
    subst hx15
    go_wp2_with fail
    go_ret
    exact ⟨rfl, BW.out _ (K3.out.trans (KB.out.mono K3.out.size))⟩

set_option maxRecDepth 100000 in
theorem lifted (os : Os) (started : os.Started) (H : Type) (enc : TypeId × Value → H) :
    ReturnsInHanded {} Try.checked os 5 .any (Rows.fnExactBalanceSpec.pre6 enc Try.prog Try.f5 Rows.fnExactBalanceRow.domain false) (Rows.fnExactBalanceSpec.post enc Try.prog Try.f5 false true false false) := by
  refine returnsInHanded_of_change (C := Try.checked) own started (by kernel_rfl) Try.func5
    (ChangeSpec.witness6 (enc := enc) (C := Try.checked) false ⟨#[], #[.agg #[.int .i64 0, .int .i64 0, .slice none 0 0, .int .i64 0]], []⟩ 8 (by kernel_rfl) (by kernel_rfl) (by kernel_rfl) (by kernel_rfl)) ?_
  intro W base args ds gs before hval0 hW hcnd _
  have hval : ∀ (j : Nat) t v, Try.f5.params[j]? = some t → args[j]? = some v → Value.okWide Try.prog W .any base t v := hval0
  have hW' := hW
  obtain ⟨p, q, hA0, hV, rfl, hfz, hnd⟩ := hW
  have hA : DataW.TrodAll enc Try.prog W 0 (fun _ => true) true Try.f5.params.toList args.toList ds p := hA0
  rw [Try.params5] at hA hval
  obtain ⟨v0, vs0, d0, ds0, p0, q0, hargs, rfl, rfl, h0, r0⟩ := trodAll_cons hA
  obtain ⟨rfl, rfl, rfl⟩ := trodAll_nil r0
  obtain rfl : args = #[v0] := by cases args; simp_all
  obtain ⟨rfl, rfl⟩ := trodVars_none hV
  have k0 := h0
  have lt0 : ∀ x ∈ p0, x.block < W.heap.size := by obtain ⟨m, hm⟩ := k0; exact DataW.trod_lt m _ _ _ hm
  obtain ⟨x, ta, tc, rfl, hcl, hcr⟩ := trial_of_read (hval 0 24 v0 rfl rfl) h0
  clear hA0 hval0
  refine (walk x ta tc W hcr hcl).mono fun e W' ⟨he, bel⟩ => ?_
  subst he
  exact ⟨_, rfl, _, _, _, [], _, [], hW', trodAll_mk1 (shut_bool Try.underlying4 _), (trodAll_cons_mk (Below.trod laidOut (by kernel_rfl) (of_decide_eq_true (by kernel_rfl)) k0 bel lt0) trodAll_mk0), rfl, bel.frame _, fun h => by cases h⟩

theorem over : Rows.fnExactBalanceRow.holds Try.pinned (OpenSpec.ofChange Rows.fnExactBalanceSpec) :=
  OpenClaim.holds_of_wide 5 Try.f5 rfl rfl rfl rfl rfl rfl rfl ⟨rfl, rfl, rfl, rfl, rfl⟩ rfl rfl rfl rfl rfl (by kernel_rfl) Try.func5 (by kernel_rfl)
    (of_decide_eq_true (by kernel_rfl)) (by unfold Func.isWrapper; first | (rw [if_pos (by decide +kernel)]; kernel_rfl) | (rw [if_neg (by decide +kernel)]; exact ⟨rfl, rfl⟩))
    (fun os started H enc _ => lifted os started H enc)
end fnExactBalance
theorem fnExactBalance_holds : Rows.FnExactBalanceSaid := fnExactBalance.over
end Go.Proofs.Ytoehnlbkgpjhmab
