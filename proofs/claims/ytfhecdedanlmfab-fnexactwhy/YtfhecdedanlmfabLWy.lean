/-
  Proved: for all facts, all laws and every fact, the program's Why answers as the specification's, and writes into no argument (FnExactWhy returns true). No conditions.
-/
import Derived.Test.YtfhecdedanlmfabR8
import Derived.Test.YtfhecdedanlmfabR11
import Derived.Test.YtfhecdedanlmfabRA4
namespace Go.Proofs.Ytfhecdedanlmfab
open Go.RowKit Va Rc

namespace fnExactWhy
open Go.ChangeShapes Go.WideShapes Go.ChangeAt Go.Joins
set_option linter.all false

theorem own : ownKnob Try.prog.godebug = none := by kernel_rfl
theorem laidOut : laidOutB Try.prog = true := by kernel_rfl

set_option maxRecDepth 20000 in
set_option maxHeartbeats 16000000 in
theorem walk (ao : Option Addr) (len cap : Nat) (ad : Option Addr) (dlen dcap : Nat) (F : List Int) (D : List Lw) (x : Int) (w : World) (hr : IRw w (.slice ao len cap) F) (hd : LRw w (.slice ad dlen dcap) D) (hrm : len ≤ maxLen) (hdm : dlen ≤ maxLen) (hdc : ∀ x ∈ D, x.ifs.length ≤ maxLen ∧ x.nots.length ≤ maxLen) :
    Calls Try.prog 4 #[.slice ao len cap, .slice ad dlen dcap, .int .i64 x] w fun e w' => e = .returned (.bool true) ∧ Below w.heap.size w w' := by
  obtain rfl := hd.len
  obtain rfl := hr.len
  have hS := szlaws_any ad D.length dcap D 1048576 w hd hdm hdc (by omega) (by omega)
  have HJ := hidden hd
  have HI := hidden hr
  have hrm2 : (F.length : Int) ≤ 9223372036854775807 := by unfold maxLen at hrm; omega
  clear hd hdc hr hrm
  by_cases hq : (F.length : Int) > 1048576
  · go_enter Try.func4, Try.ntmps4
    go_wp2_with fail
    go_ret
    exact ⟨rfl, Below.refl _ _⟩
  have hFl : F.length ≤ 1048576 := by omega
  go_enter Try.func4, Try.ntmps4
  go_wp2_with fail
  refine hS.mono ?_
  rintro e w0 ⟨q, rfl, hr, b0⟩
  clear hS
  rcases hr with hr | ⟨hr0, hr1, hll, hlt⟩
  · go_wp2_with fail
    go_ret
    exact ⟨rfl, b0⟩
  have hr2 : ¬ q < 0 := by omega
  have HTI := hidden (fun W hW => toints_any ao F.length cap F W hW hFl)
  have HTL := hidden (fun W hW => tolaws_any ad D.length dcap D W hW hll hlt)
  have HL := hidden hll
  have HM := hidden hlt
  have HSP := hidden (fun a n c a' n' c' W hW hW' => swhy_any a n c a' n' c' F D x W hW hW' hFl hll hlt)
  have HIM := hidden (fun a n c a' n' c' W hW hW' => iwhy_any a n c a' n' c' F D x W hW hW' hFl hll hlt)
  generalize why F D x = R at *
  clear hll hlt
  go_wp2_with fail
  refine (HTI.out _ (HI.out.below b0)).mono ?_
  rintro e w1 ⟨rfl, ho1, hb1⟩
  have X1 := hidden (out_irw ho1 F.length (Nat.le_refl _))
  have b1 := onto b0 hb1
  have z1 := hb1.size
  clear hb1 b0 ho1
  go_wp2_with fail
  refine (HTL.out _ (HJ.out.below b1)).mono ?_
  rintro e w2 ⟨rfl, hj2, hb2⟩
  have Y2 := hidden (hj2.drw D.length (Nat.le_refl _))
  have b2 := onto b1 hb2
  have X2 := hidden (X1.out.below hb2)
  have z2 := hb2.size
  clear hj2 hb2 b1 X1
  go_wp2_with fail
  refine (HSP.out _ _ _ _ _ _ _ X2.out Y2.out).mono ?_
  rintro e w3 ⟨rfl, hb3⟩
  have b3 := onto b2 hb3
  have z3 := hb3.size
  clear hb3 b2 X2 Y2
  go_wp2_with fail
  refine (HTI.out _ (HI.out.below b3)).mono ?_
  rintro e w4 ⟨rfl, ho4, hb4⟩
  have X4 := hidden (out_irw ho4 F.length (Nat.le_refl _))
  have b4 := onto b3 hb4
  have z4 := hb4.size
  clear hb4 b3 ho4
  go_wp2_with fail
  refine (HTL.out _ (HJ.out.below b4)).mono ?_
  rintro e w5 ⟨rfl, hj5, hb5⟩
  have Y5 := hidden (hj5.drw D.length (Nat.le_refl _))
  have b5 := onto b4 hb5
  have X5 := hidden (X4.out.below hb5)
  have z5 := hb5.size
  clear hj5 hb5 b4 X4
  go_wp2_with fail
  refine (HIM.out _ _ _ _ _ _ _ X5.out Y5.out).mono ?_
  rintro e w6 ⟨rfl, hb6⟩
  have b6 := onto b5 hb6
  have X6 := hidden (X5.out.below hb6)
  have Y6 := hidden (Y5.out.below hb6)
  have z6 := hb6.size
  clear hb6 b5 X5 Y5
  go_wp2_with fail
  refine (HTI.out _ (HI.out.below b6)).mono ?_
  rintro e w7 ⟨rfl, ho7, hb7⟩
  have U7 := hidden (out_irw ho7 F.length (Nat.le_refl _))
  have b7 := onto b6 hb7
  have X7 := hidden (X6.out.below hb7)
  have Y7 := hidden (Y6.out.below hb7)
  have z7 := hb7.size
  clear hb7 b6 ho7 X6 Y6
  go_wp2_with fail
  refine (eqints_any _ _ _ _ _ _ F _ X7.out U7.out hFl).mono ?_
  rintro e w8 ⟨rfl, hb8⟩
  have b8 := onto b7 hb8
  have Y8 := hidden (Y7.out.below hb8)
  have z8 := hb8.size
  clear hb8 b7 Y7
  go_wp2_with fail
  refine (HTL.out _ (HJ.out.below b8)).mono ?_
  rintro e w9 ⟨rfl, hj9, hb9⟩
  have V9 := hidden (hj9.drw D.length (Nat.le_refl _))
  have b9 := onto b8 hb9
  have Y9 := hidden (Y8.out.below hb9)
  have z9 := hb9.size
  clear hb9 b8 hj9 Y8
  go_wp2_with fail
  refine (eqlaws_any _ _ _ _ _ _ D _ Y9.out V9.out HL.out HM.out).mono ?_
  rintro e w10 ⟨rfl, hb10⟩
  have b10 := onto b9 hb10
  have z10 := hb10.size
  clear hb10 b9
  go_wp2_with fail
  go_ret
  exact ⟨rfl, b10⟩

set_option maxRecDepth 100000 in
theorem lifted (os : Os) (started : os.Started) (H : Type) (enc : TypeId × Value → H) :
    ReturnsInHanded {} Try.checked os 4 .any (Rows.fnExactWhySpec.pre6 enc Try.prog Try.f4 Rows.fnExactWhyRow.domain false) (Rows.fnExactWhySpec.post enc Try.prog Try.f4 false true false false) := by
  refine returnsInHanded_of_change (C := Try.checked) own started (by kernel_rfl) Try.func4
    (ChangeSpec.witness6 (enc := enc) (C := Try.checked) false ⟨#[], #[.slice none 0 0, .slice none 0 0, .int .i64 0], []⟩ 8 (by kernel_rfl) (by kernel_rfl) (by kernel_rfl) (by kernel_rfl)) ?_
  intro W base args ds gs before hval0 hW hcnd _
  have hval : ∀ (j : Nat) t v, Try.f4.params[j]? = some t → args[j]? = some v → Value.okWide Try.prog W .any base t v := hval0
  have hW' := hW
  obtain ⟨p, q, hA0, hV, rfl, hfz, hnd⟩ := hW
  have hA : DataW.TrodAll enc Try.prog W 0 (fun _ => true) true Try.f4.params.toList args.toList ds p := hA0
  rw [Try.params4] at hA hval
  obtain ⟨v0, vs0, d0, ds0, p0, q0, hargs, rfl, rfl, h0, r0⟩ := trodAll_cons hA
  obtain ⟨v1, vs1, d1, ds1, p1, q1, rfl, rfl, rfl, h1, r1⟩ := trodAll_cons r0
  obtain ⟨v2, vs2, d2, ds2, p2, q2, rfl, rfl, rfl, h2, r2⟩ := trodAll_cons r1
  obtain ⟨rfl, rfl, rfl⟩ := trodAll_nil r2
  obtain rfl : args = #[v0, v1, v2] := by cases args; simp_all
  obtain ⟨rfl, rfl⟩ := trodVars_none hV
  have k0 := h0
  have lt0 : ∀ x ∈ p0, x.block < W.heap.size := by obtain ⟨m, hm⟩ := k0; exact DataW.trod_lt m _ _ _ hm
  obtain ⟨ao, len, cap, rfl⟩ := okWide_slice Try.underlying22 (hval 0 22 v0 rfl rfl)
  obtain ⟨F, hl, hm, hrow⟩ := ints_of_read h0
  have k1 := h1
  have lt1 : ∀ x ∈ p1, x.block < W.heap.size := by obtain ⟨m, hm⟩ := k1; exact DataW.trod_lt m _ _ _ hm
  obtain ⟨ad, dlen, dcap, rfl⟩ := okWide_slice Try.underlying23 (hval 1 23 v1 rfl rfl)
  obtain ⟨D, dl, dm, drow, dcl⟩ := laws_of_read h1
  obtain ⟨x, rfl, rfl, rfl, k2⟩ := open_int Try.underlying2 (hval 2 2 v2 rfl rfl) h2
  clear hA0 hval0
  refine (walk ao len cap ad dlen dcap F D x W hrow drow hm dm dcl).mono fun e W' ⟨he, bel⟩ => ?_
  subst he
  exact ⟨_, rfl, _, _, _, [], _, [], hW', trodAll_mk1 (shut_bool Try.underlying4 _), (trodAll_cons_mk (Below.trod laidOut (by kernel_rfl) (of_decide_eq_true (by kernel_rfl)) k0 bel lt0) (trodAll_cons_mk (Below.trod laidOut (by kernel_rfl) (of_decide_eq_true (by kernel_rfl)) k1 bel lt1) (trodAll_cons_mk (shut_int Try.underlying2 k2) trodAll_mk0))), rfl, bel.frame _, fun h => by cases h⟩

theorem over : Rows.fnExactWhyRow.holds Try.pinned (OpenSpec.ofChange Rows.fnExactWhySpec) :=
  OpenClaim.holds_of_wide 4 Try.f4 rfl rfl rfl rfl rfl rfl rfl ⟨rfl, rfl, rfl, rfl, rfl⟩ rfl rfl rfl rfl rfl (by kernel_rfl) Try.func4 (by kernel_rfl)
    (of_decide_eq_true (by kernel_rfl)) (by unfold Func.isWrapper; first | (rw [if_pos (by decide +kernel)]; kernel_rfl) | (rw [if_neg (by decide +kernel)]; exact ⟨rfl, rfl⟩))
    (fun os started H enc _ => lifted os started H enc)
end fnExactWhy
theorem fnExactWhy_holds : Rows.FnExactWhySaid := fnExactWhy.over
end Go.Proofs.Ytfhecdedanlmfab
