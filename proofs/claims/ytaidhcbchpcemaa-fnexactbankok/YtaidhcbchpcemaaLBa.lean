/-
  Proved: for every list of units, the program's BankOk answers as the specification's, and writes into no argument (FnExactBankOk returns true). No conditions.
-/
import Derived.Test.YtaidhcbchpcemaaQ15
import Derived.Test.YtaidhcbchpcemaaQ7
import Derived.Test.YtaidhcbchpcemaaQ3
namespace Go.Proofs.Ytaidhcbchpcemaa
open Go.RowKit Va Bl

namespace fnExactBankOk
open Go.ChangeShapes Go.WideShapes Go.ChangeAt Go.Joins
set_option linter.all false

theorem own : ownKnob Try.prog.godebug = none := by kernel_rfl
theorem laidOut : laidOutB Try.prog = true := by kernel_rfl

set_option maxRecDepth 20000 in
set_option maxHeartbeats 8000000 in
theorem walk (ad : Option Addr) (dlen dcap : Nat) (D : List Ut) (w : World) (hd : URw w (.slice ad dlen dcap) D) (hdm : dlen ≤ maxLen) (hdc : ∀ x ∈ D, x.ant.length ≤ maxLen) :
    Calls Try.prog 8 #[.slice ad dlen dcap] w fun e w' => e = .returned (.bool true) ∧ Below w.heap.size w w' := by
  obtain rfl := hd.len
  have hS := szunits_any ad D.length dcap D 1048576 w hd hdm hdc (by omega) (by omega)
  have HJ := hidden hd
  clear hd hdc
  go_enter Try.func8, Try.ntmps8
  go_wp2_with fail
  refine hS.mono ?_
  rintro e w0 ⟨q, rfl, hr, b0⟩
  clear hS
  rcases hr with hr | ⟨hr0, hr1, hll, hlt⟩
  · go_wp2_with fail
    go_ret
    exact ⟨rfl, b0⟩
  have hr2 : ¬ q < 0 := by omega
  have HT := hidden (fun W hW => tounits_any ad D.length dcap D W hW hll hlt)
  have HL := hidden hll
  have HM := hidden hlt
  have HSP := hidden (fun a n c W hW => sbank_any a n c D W hW hll hlt)
  have HIM := hidden (fun a n c W hW => ibank_any a n c D W hW hll hlt)
  generalize bankB D = R at *
  clear hll hlt
  go_wp2_with fail
  refine (HT.out _ (HJ.out.below b0)).mono ?_
  rintro e w1 ⟨rfl, hj1, hb1⟩
  have b1 := onto b0 hb1
  have R1 := hidden (hj1.drw D.length (Nat.le_refl _))
  clear hj1 hb1 b0
  go_wp2_with fail
  refine (HSP.out _ _ _ _ R1.out).mono ?_
  rintro e w3 ⟨rfl, hb3⟩
  have b3 := onto b1 hb3
  clear hb3 b1 R1
  go_wp2_with fail
  refine (HT.out _ (HJ.out.below b3)).mono ?_
  rintro e w4 ⟨rfl, hj4, hb4⟩
  have b4 := onto b3 hb4
  have X4 := hidden (hj4.drw D.length (Nat.le_refl _))
  clear hb4 b3 hj4
  go_wp2_with fail
  refine (HIM.out _ _ _ _ X4.out).mono ?_
  rintro e w6 ⟨rfl, hb6⟩
  have b6 := onto b4 hb6
  have X6 := hidden (X4.out.below hb6)
  clear hb6 b4 X4
  cases R
  all_goals
    go_wp2_with fail
    refine (HT.out _ (HJ.out.below b6)).mono ?_
    rintro e w8 ⟨rfl, hj8, hb8⟩
    have b8 := onto b6 hb8
    have X8 := hidden (X6.out.below hb8)
    have U8 := hidden (hj8.drw D.length (Nat.le_refl _))
    clear hb8 hj8 X6 b6
    go_wp2_with fail
    refine (equnits_any _ _ _ _ _ _ D _ X8.out U8.out HL.out HM.out).mono ?_
    rintro e w9 ⟨rfl, hb9⟩
    have b9 := onto b8 hb9
    clear hb9 b8 X8 U8
    go_wp2_with fail
    go_ret
    exact ⟨rfl, b9⟩

set_option maxRecDepth 100000 in
theorem lifted (os : Os) (started : os.Started) (H : Type) (enc : TypeId × Value → H) :
    ReturnsInHanded {} Try.checked os 8 .any (Rows.fnExactBankOkSpec.pre6 enc Try.prog Try.f8 Rows.fnExactBankOkRow.domain false) (Rows.fnExactBankOkSpec.post enc Try.prog Try.f8 false true false false) := by
  refine returnsInHanded_of_change (C := Try.checked) own started (by kernel_rfl) Try.func8
    (ChangeSpec.witness6 (enc := enc) (C := Try.checked) false ⟨#[], #[.slice none 0 0], []⟩ 8 (by kernel_rfl) (by kernel_rfl) (by kernel_rfl) (by kernel_rfl)) ?_
  intro W base args ds gs before hval0 hW hcnd _
  have hval : ∀ (j : Nat) t v, Try.f8.params[j]? = some t → args[j]? = some v → Value.okWide Try.prog W .any base t v := hval0
  have hW' := hW
  obtain ⟨p, q, hA0, hV, rfl, hfz, hnd⟩ := hW
  have hA : DataW.TrodAll enc Try.prog W 0 (fun _ => true) true Try.f8.params.toList args.toList ds p := hA0
  rw [Try.params8] at hA hval
  obtain ⟨v0, vs0, d0, ds0, p0, q0, hargs, rfl, rfl, h0, r0⟩ := trodAll_cons hA
  obtain ⟨rfl, rfl, rfl⟩ := trodAll_nil r0
  obtain rfl : args = #[v0] := by cases args; simp_all
  obtain ⟨rfl, rfl⟩ := trodVars_none hV
  have k0 := h0
  have lt0 : ∀ x ∈ p0, x.block < W.heap.size := by obtain ⟨m, hm⟩ := k0; exact DataW.trod_lt m _ _ _ hm
  obtain ⟨ad, dlen, dcap, rfl⟩ := okWide_slice Try.underlying45 (hval 0 45 v0 rfl rfl)
  obtain ⟨D, dl, dm, drow, dcl⟩ := units_of_read h0
  clear hA0 hval0
  refine (walk ad dlen dcap D W drow dm dcl).mono fun e W' ⟨he, bel⟩ => ?_
  subst he
  exact ⟨_, rfl, _, _, _, [], _, [], hW', trodAll_mk1 (shut_bool Try.underlying4 _), (trodAll_cons_mk (Below.trod laidOut (by kernel_rfl) (of_decide_eq_true (by kernel_rfl)) k0 bel lt0) trodAll_mk0), rfl, bel.frame _, fun h => by cases h⟩

theorem over : Rows.fnExactBankOkRow.holds Try.pinned (OpenSpec.ofChange Rows.fnExactBankOkSpec) :=
  OpenClaim.holds_of_wide 8 Try.f8 rfl rfl rfl rfl rfl rfl rfl ⟨rfl, rfl, rfl, rfl, rfl⟩ rfl rfl rfl rfl rfl (by kernel_rfl) Try.func8 (by kernel_rfl)
    (of_decide_eq_true (by kernel_rfl)) (by unfold Func.isWrapper; first | (rw [if_pos (by decide +kernel)]; kernel_rfl) | (rw [if_neg (by decide +kernel)]; exact ⟨rfl, rfl⟩))
    (fun os started H enc _ => lifted os started H enc)
end fnExactBankOk
theorem fnExactBankOk_holds : Rows.FnExactBankOkSaid := fnExactBankOk.over
end Go.Proofs.Ytaidhcbchpcemaa
