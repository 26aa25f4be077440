/-
  Proved: for every list of units and every number of a person, the program's TraceUnits answers as the specification's, writes into no argument and keeps none, and its answer is its own (FnExactTraceUnits returns true). No conditions.
-/
import Derived.Test.YtaidhcbchpcemabQ24
import Derived.Test.YtaidhcbchpcemabQ25
import Derived.Test.YtaidhcbchpcemabQ7
import Derived.Test.YtaidhcbchpcemabQ3
namespace Go.Proofs.Ytaidhcbchpcemab
open Go.RowKit Va Bl

namespace fnExactTraceUnits
open Go.ChangeShapes Go.WideShapes Go.ChangeAt Go.Joins
set_option linter.all false

theorem own : ownKnob Try.prog.godebug = none := by kernel_rfl
theorem laidOut : laidOutB Try.prog = true := by kernel_rfl

theorem trace_len (l : List Ut) (p : Int) (h : l.length ≤ 1048576) : (trace l p).length ≤ 1048576 := by
  unfold trace
  split
  · rw [traceL, List.length_map]
    have := List.length_filter_le (fun u : Ut => decide (u.st = 3) && decide (u.fr = p)) l
    omega
  · simp

set_option maxRecDepth 20000 in
set_option maxHeartbeats 8000000 in
theorem walk (ad : Option Addr) (dlen dcap : Nat) (D : List Ut) (p : Int) (w : World) (hd : URw w (.slice ad dlen dcap) D) (hdm : dlen ≤ maxLen) (hdc : ∀ x ∈ D, x.ant.length ≤ maxLen) :
    Calls Try.prog 6 #[.slice ad dlen dcap, .int .i64 p] w fun e w' => e = .returned (.bool true) ∧ Below w.heap.size w w' := by
  obtain rfl := hd.len
  have hS := szunits_any ad D.length dcap D 1048576 w hd hdm hdc (by omega) (by omega)
  have HJ := hidden hd
  clear hd hdc
  go_enter Try.func6, Try.ntmps6
  go_wp2_with fail
  refine hS.mono ?_
  rintro e w0 ⟨q, rfl, hr, b0⟩
  clear hS
  rcases hr with hr | ⟨hr0, hr1, hll, hlt⟩
  · go_wp2_with fail
    go_ret
    exact ⟨rfl, b0⟩
  have hr2 : ¬ q < 0 := by omega
  have HT := hidden (fun W hW => tounits_any ad D.length dcap D W hW hll hlt)
  have HL := hidden hll
  have HM := hidden hlt
  have hcl := trace_len D p hll
  have HSP := hidden (fun a n c W hW => strace_any a n c D p W hW hll hlt)
  have HIM := hidden (fun a n c W hW => itrace_any a n c D p W hW hll hlt)
  generalize trace D p = R at *
  clear hll hlt
  go_wp2_with fail
  refine (HT.out _ (HJ.out.below b0)).mono ?_
  rintro e w1 ⟨rfl, hj1, hb1⟩
  have b1 := onto b0 hb1
  have R1 := hidden (hj1.drw D.length (Nat.le_refl _))
  clear hj1 hb1 b0
  go_wp2_with fail
  refine (HSP.out _ _ _ _ R1.out).mono ?_
  rintro e w3 ⟨a3, k3, rfl, ho3, hb3⟩
  have b3 := onto b1 hb3
  have S3 := hidden ho3
  have Z3 := hidden (ownW_lt ho3)
  have hbz3 := b3.size
  clear ho3 hb3 b1 R1
  go_wp2_with fail
  refine (HT.out _ (HJ.out.below b3)).mono ?_
  rintro e w4 ⟨rfl, hj4, hb4⟩
  have b4 := onto b3 hb4
  have X4 := hidden (hj4.drw D.length (Nat.le_refl _))
  have M4 := hidden hj4.marked
  have S4 := hidden (ownW_below S3.out hb4)
  have z4 := hb4.size
  clear hb4 b3 hj4 S3
  go_wp2_with fail
  refine (HIM.out _ _ _ _ X4.out).mono ?_
  rintro e w6 ⟨a6, k6, rfl, ho6, hb6⟩
  have b6 := onto b4 hb6
  have X6 := hidden (X4.out.below hb6)
  have M6 := hidden (M4.out.below (Nat.le_refl _) hb6)
  have S6 := hidden (ownW_below S4.out hb6)
  have G6 := hidden ho6
  have Z6 := hidden (ownW_lt ho6)
  have z6 := hb6.size
  clear hb6 b4 ho6 X4 M4 S4
  go_wp2_with fail
  refine (eqints_any _ _ _ _ _ _ R _ (ownI_irw G6.out) (ownI_irw S6.out) (by omega)).mono ?_
  rintro e w7 ⟨rfl, hb7⟩
  have b7 := onto b6 hb7
  have X7 := hidden (X6.out.below hb7)
  have M7 := hidden (M6.out.below (by omega) hb7)
  have S7 := hidden (ownW_below S6.out hb7)
  have G7 := hidden (ownW_below G6.out hb7)
  have z7 := hb7.size
  clear hb7 b6 X6 M6 S6 G6
  go_wp2_with fail
  refine (HT.out _ (HJ.out.below b7)).mono ?_
  rintro e w8 ⟨rfl, hj8, hb8⟩
  have U8 := hidden (hj8.drw D.length (Nat.le_refl _))
  have b8 := onto b7 hb8
  have X8 := hidden (X7.out.below hb8)
  have M8 := hidden (M7.out.below (by omega) hb8)
  have S8 := hidden (ownW_below S7.out hb8)
  have G8 := hidden (ownW_below G7.out hb8)
  have z8 := hb8.size
  clear hb8 b7 X7 M7 S7 G7 hj8
  go_wp2_with fail
  refine (equnits_any _ _ _ _ _ _ D _ X8.out U8.out HL.out HM.out).mono ?_
  rintro e w9 ⟨rfl, hb9⟩
  have b9 := onto b8 hb9
  have M9 := hidden (M8.out.below (by omega) hb9)
  have S9 := hidden (ownW_below S8.out hb9)
  have G9 := hidden (ownW_below G8.out hb9)
  have z9 := hb9.size
  clear hb9 b8 X8 M8 S8 G8 U8
  go_wp2_with fail
  refine (markunits_any _ _ _ _ D 1 _ M9.out HL.out HM.out (by omega) (by omega)).mono ?_
  rintro e w12 ⟨k, rfl, ⟨hk0, hk1⟩, kp⟩
  have hDL := HL.out
  have b12 := kp.below b9 hbz3
  have S12 := hidden (kp_own kp S9.out (fun k hk => Or.inl (Z3.out k hk).2))
  have G12 := hidden (kp_own kp G9.out (fun k hk => Or.inr (Z6.out k hk).1))
  have n12 : ¬ k < 0 := by omega
  clear M9 S9 G9 b9 kp
  go_wp2_with fail
  refine (eqints_any _ _ _ _ _ _ R _ (ownI_irw G12.out) (ownI_irw S12.out) (by omega)).mono ?_
  rintro e w14 ⟨rfl, hb14⟩
  have b14 := onto b12 hb14
  have S14 := hidden (ownW_below S12.out hb14)
  have G14 := hidden (ownW_below G12.out hb14)
  have z14 := hb14.size
  clear hb14 b12 S12 G12
  go_wp2_with fail
  refine (markint_any _ R _ 1 _ (ownI_own G14.out) (by omega) (by omega) (by omega)).mono ?_
  rintro e w15 ⟨rfl, ho15, ha15, hz15⟩
  have b15 := (ownI_own G14.out).mark_below ha15 hz15 b14 (by omega)
  have S15 := hidden (aside_own ha15 S14.out (fun k hk hk2 => by have y1 := (Z3.out k hk).2; have y2 := (Z6.out k hk2).1; omega))
  have H15 := hidden ho15
  clear S14 G14 b14 ha15 hz15 ho15
  go_wp2_with fail
  refine (heldint_any _ 1 R.length _ H15.out.row (by omega) (by omega) (by omega)).mono ?_
  rintro e w16 ⟨rfl, hw16⟩
  have hw17 := hw16.symm
  clear hw16
  subst hw17
  have hkn : ¬ (1 : Int) + (R.length : Int) < 0 := by omega
  have HMK := hidden (marks_len 1 1 R.length)
  go_wp2_with fail
  refine (HT.out _ (HJ.out.below b15)).mono ?_
  rintro e w17 ⟨rfl, hj17, hb17⟩
  have U17 := hidden (hj17.drw D.length (Nat.le_refl _))
  have b17 := onto b15 hb17
  have S17 := hidden (ownW_below S15.out hb17)
  have H17 := hidden (H15.out.below hb17)
  have z17 := hb17.size
  clear hb17 b15 S15 H15 hj17
  go_wp2_with fail
  refine (HIM.out _ _ _ _ U17.out).mono ?_
  rintro e w19 ⟨a19, k19, rfl, ho19, hb19⟩
  have P19 := hidden ho19
  have b19 := onto b17 hb19
  have S19 := hidden (ownW_below S17.out hb19)
  have H19 := hidden (H17.out.below hb19)
  have z19 := hb19.size
  clear hb19 b17 S17 H17 ho19 U17
  go_wp2_with fail
  refine (eqints_any _ _ _ _ _ _ R _ (ownI_irw P19.out) (ownI_irw S19.out) (by omega)).mono ?_
  rintro e w20 ⟨rfl, hb20⟩
  have b20 := onto b19 hb20
  have H20 := hidden (H19.out.below hb20)
  have z20 := hb20.size
  clear hb20 b19 S19 H19 P19
  go_wp2_with fail
  refine (heldint_any _ 1 R.length _ H20.out.row (by omega) (by omega) (by omega)).mono ?_
  rintro e w21 ⟨rfl, hw21⟩
  have hw22 := hw21.symm
  clear hw21
  subst hw22
  go_wp2_with fail
  go_ret
  exact ⟨rfl, b20⟩

set_option maxRecDepth 100000 in
theorem lifted (os : Os) (started : os.Started) (H : Type) (enc : TypeId × Value → H) :
    ReturnsInHanded {} Try.checked os 6 .any (Rows.fnExactTraceUnitsSpec.pre6 enc Try.prog Try.f6 Rows.fnExactTraceUnitsRow.domain false) (Rows.fnExactTraceUnitsSpec.post enc Try.prog Try.f6 false true false false) := by
  refine returnsInHanded_of_change (C := Try.checked) own started (by kernel_rfl) Try.func6
    (ChangeSpec.witness6 (enc := enc) (C := Try.checked) false ⟨#[], #[.slice none 0 0, .int .i64 0], []⟩ 8 (by kernel_rfl) (by kernel_rfl) (by kernel_rfl) (by kernel_rfl)) ?_
  intro W base args ds gs before hval0 hW hcnd _
  have hval : ∀ (j : Nat) t v, Try.f6.params[j]? = some t → args[j]? = some v → Value.okWide Try.prog W .any base t v := hval0
  have hW' := hW
  obtain ⟨p, q, hA0, hV, rfl, hfz, hnd⟩ := hW
  have hA : DataW.TrodAll enc Try.prog W 0 (fun _ => true) true Try.f6.params.toList args.toList ds p := hA0
  rw [Try.params6] at hA hval
  obtain ⟨v0, vs0, d0, ds0, p0, q0, hargs, rfl, rfl, h0, r0⟩ := trodAll_cons hA
  obtain ⟨v1, vs1, d1, ds1, p1, q1, rfl, rfl, rfl, h1, r1⟩ := trodAll_cons r0
  obtain ⟨rfl, rfl, rfl⟩ := trodAll_nil r1
  obtain rfl : args = #[v0, v1] := by cases args; simp_all
  obtain ⟨rfl, rfl⟩ := trodVars_none hV
  have k0 := h0
  have lt0 : ∀ x ∈ p0, x.block < W.heap.size := by obtain ⟨m, hm⟩ := k0; exact DataW.trod_lt m _ _ _ hm
  obtain ⟨ad, dlen, dcap, rfl⟩ := okWide_slice Try.underlying37 (hval 0 37 v0 rfl rfl)
  obtain ⟨D, dl, dm, drow, dcl⟩ := units_of_read h0
  obtain ⟨p, rfl, rfl, rfl, k1⟩ := open_int Try.underlying2 (hval 1 2 v1 rfl rfl) h1
  clear hA0 hval0
  refine (walk ad dlen dcap D p W drow dm dcl).mono fun e W' ⟨he, bel⟩ => ?_
  subst he
  exact ⟨_, rfl, _, _, _, [], _, [], hW', trodAll_mk1 (shut_bool Try.underlying4 _), (trodAll_cons_mk (Below.trod laidOut (by kernel_rfl) (of_decide_eq_true (by kernel_rfl)) k0 bel lt0) (trodAll_cons_mk (shut_int Try.underlying2 k1) trodAll_mk0)), rfl, bel.frame _, fun h => by cases h⟩

theorem over : Rows.fnExactTraceUnitsRow.holds Try.pinned (OpenSpec.ofChange Rows.fnExactTraceUnitsSpec) :=
  OpenClaim.holds_of_wide 6 Try.f6 rfl rfl rfl rfl rfl rfl rfl ⟨rfl, rfl, rfl, rfl, rfl⟩ rfl rfl rfl rfl rfl (by kernel_rfl) Try.func6 (by kernel_rfl)
    (of_decide_eq_true (by kernel_rfl)) (by unfold Func.isWrapper; first | (rw [if_pos (by decide +kernel)]; kernel_rfl) | (rw [if_neg (by decide +kernel)]; exact ⟨rfl, rfl⟩))
    (fun os started H enc _ => lifted os started H enc)
end fnExactTraceUnits
theorem fnExactTraceUnits_holds : Rows.FnExactTraceUnitsSaid := fnExactTraceUnits.over
end Go.Proofs.Ytaidhcbchpcemab
