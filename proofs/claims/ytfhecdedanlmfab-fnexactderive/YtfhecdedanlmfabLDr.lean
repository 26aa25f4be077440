/-
  Proved: for all facts and all laws, the program's Derive answers as the specification's, writes into no argument and keeps none, and its answer is its own (FnExactDerive returns true). No conditions.
-/
import Derived.Test.YtfhecdedanlmfabR8
import Derived.Test.YtfhecdedanlmfabR11
import Derived.Test.YtfhecdedanlmfabRA5
namespace Go.Proofs.Ytfhecdedanlmfab
open Go.RowKit Va Rc

namespace fnExactDerive
open Go.ChangeShapes Go.WideShapes Go.ChangeAt Go.Joins
set_option linter.all false

theorem own : ownKnob Try.prog.godebug = none := by kernel_rfl
theorem laidOut : laidOutB Try.prog = true := by kernel_rfl

theorem derive_len (fs : List Int) (ls : List Lw) : (derive fs ls).length ≤ 64 := by
  unfold derive
  split
  · exact told_len fs ls 64
  · simp

set_option maxRecDepth 20000 in
set_option maxHeartbeats 16000000 in
theorem walk (ao : Option Addr) (len cap : Nat) (ad : Option Addr) (dlen dcap : Nat) (F : List Int) (D : List Lw) (w : World) (hr : IRw w (.slice ao len cap) F) (hd : LRw w (.slice ad dlen dcap) D) (hrm : len ≤ maxLen) (hdm : dlen ≤ maxLen) (hdc : ∀ x ∈ D, x.ifs.length ≤ maxLen ∧ x.nots.length ≤ maxLen) :
    Calls Try.prog 3 #[.slice ao len cap, .slice ad dlen dcap] w fun e w' => e = .returned (.bool true) ∧ Below w.heap.size w w' := by
  obtain rfl := hd.len
  obtain rfl := hr.len
  have hS := szlaws_any ad D.length dcap D 1048576 w hd hdm hdc (by omega) (by omega)
  have HJ := hidden hd
  have HI := hidden hr
  have hrm2 : (F.length : Int) ≤ 9223372036854775807 := by unfold maxLen at hrm; omega
  clear hd hdc hr hrm
  by_cases hq : (F.length : Int) > 1048576
  · go_enter Try.func3, Try.ntmps3
    go_wp2_with fail
    go_ret
    exact ⟨rfl, Below.refl _ _⟩
  have hFl : F.length ≤ 1048576 := by omega
  go_enter Try.func3, Try.ntmps3
  go_wp2_with fail
  refine hS.mono ?_
  rintro e w0 ⟨q, rfl, hr, b0⟩
  clear hS
  rcases hr with hr | ⟨hr0, hr1, hll, hlt⟩
  · go_wp2_with fail
    go_ret
    exact ⟨rfl, b0⟩
  have hr2 : ¬ q < 0 := by omega
  have HTI := hidden (fun W hW => toints_any ao F.length cap F W hW hFl)
  have HTL := hidden (fun W hW => tolaws_any ad D.length dcap D W hW hll hlt)
  have HL := hidden hll
  have HM := hidden hlt
  have hcl := derive_len F D
  have HSP := hidden (fun a n c a' n' c' W hW hW' => sderive_any a n c a' n' c' F D W hW hW' hFl hll hlt)
  have HIM := hidden (fun a n c a' n' c' W hW hW' => iderive_any a n c a' n' c' F D W hW hW' hFl hll hlt)
  generalize derive F D = R at *
  clear hll hlt
  go_wp2_with fail
  refine (HTI.out _ (HI.out.below b0)).mono ?_
  rintro e w1 ⟨rfl, ho1, hb1⟩
  have X1 := hidden (out_irw ho1 F.length (Nat.le_refl _))
  have b1 := onto b0 hb1
  have z1 := hb1.size
  clear hb1 b0 ho1
  go_wp2_with fail
  refine (HTL.out _ (HJ.out.below b1)).mono ?_
  rintro e w2 ⟨rfl, hj2, hb2⟩
  have Y2 := hidden (hj2.drw D.length (Nat.le_refl _))
  have b2 := onto b1 hb2
  have X2 := hidden (X1.out.below hb2)
  have z2 := hb2.size
  clear hj2 hb2 b1 X1
  go_wp2_with fail
  refine (HSP.out _ _ _ _ _ _ _ X2.out Y2.out).mono ?_
  rintro e w3 ⟨a3, k3, rfl, ho3, hb3⟩
  have S3 := hidden ho3
  have Z3 := hidden (ownW_lt ho3)
  have b3 := onto b2 hb3
  have z3 := hb3.size
  clear hb3 b2 ho3 X2 Y2
  have hbz3 := b3.size
  go_wp2_with fail
  refine (HTI.out _ (HI.out.below b3)).mono ?_
  rintro e w4 ⟨rfl, ho4, hb4⟩
  have X4 := hidden (out_irw ho4 F.length (Nat.le_refl _))
  have O4 := hidden ho4
  have hO4 := ho4.1
  have b4 := onto b3 hb4
  have S4 := hidden (ownW_below S3.out hb4)
  have z4 := hb4.size
  clear hb4 b3 ho4 S3
  go_wp2_with fail
  refine (HTL.out _ (HJ.out.below b4)).mono ?_
  rintro e w5 ⟨rfl, hj5, hb5⟩
  have Y5 := hidden (hj5.drw D.length (Nat.le_refl _))
  have M5 := hidden hj5.marked
  have b5 := onto b4 hb5
  have X5 := hidden (X4.out.below hb5)
  have O5 := hidden (O4.out.below hb5)
  have S5 := hidden (ownW_below S4.out hb5)
  have z5 := hb5.size
  clear hj5 hb5 b4 X4 O4 S4
  go_wp2_with fail
  refine (HIM.out _ _ _ _ _ _ _ X5.out Y5.out).mono ?_
  rintro e w6 ⟨a6, k6, rfl, ho6, hb6⟩
  have G6 := hidden ho6
  have Z6 := hidden (ownW_lt ho6)
  have b6 := onto b5 hb6
  have X6 := hidden (X5.out.below hb6)
  have Y6 := hidden (Y5.out.below hb6)
  have O6 := hidden (O5.out.below hb6)
  have M6 := hidden (M5.out.below (by omega) hb6)
  have S6 := hidden (ownW_below S5.out hb6)
  have z6 := hb6.size
  clear hb6 b5 ho6 X5 Y5 O5 M5 S5
  go_wp2_with fail
  refine (eqints_any _ _ _ _ _ _ R _ (ownI_irw G6.out) (ownI_irw S6.out) (by omega)).mono ?_
  rintro e w7 ⟨rfl, hb7⟩
  have b7 := onto b6 hb7
  have X7 := hidden (X6.out.below hb7)
  have Y7 := hidden (Y6.out.below hb7)
  have O7 := hidden (O6.out.below hb7)
  have M7 := hidden (M6.out.below (by omega) hb7)
  have S7 := hidden (ownW_below S6.out hb7)
  have G7 := hidden (ownW_below G6.out hb7)
  have z7 := hb7.size
  clear hb7 b6 X6 Y6 O6 M6 S6 G6
  go_wp2_with fail
  refine (HTI.out _ (HI.out.below b7)).mono ?_
  rintro e w8 ⟨rfl, ho8, hb8⟩
  have U8 := hidden (out_irw ho8 F.length (Nat.le_refl _))
  have b8 := onto b7 hb8
  have X8 := hidden (X7.out.below hb8)
  have Y8 := hidden (Y7.out.below hb8)
  have O8 := hidden (O7.out.below hb8)
  have M8 := hidden (M7.out.below (by omega) hb8)
  have S8 := hidden (ownW_below S7.out hb8)
  have G8 := hidden (ownW_below G7.out hb8)
  have z8 := hb8.size
  clear hb8 b7 ho8 X7 Y7 O7 M7 S7 G7
  go_wp2_with fail
  refine (eqints_any _ _ _ _ _ _ F _ X8.out U8.out hFl).mono ?_
  rintro e w9 ⟨rfl, hb9⟩
  have b9 := onto b8 hb9
  have Y9 := hidden (Y8.out.below hb9)
  have O9 := hidden (O8.out.below hb9)
  have M9 := hidden (M8.out.below (by omega) hb9)
  have S9 := hidden (ownW_below S8.out hb9)
  have G9 := hidden (ownW_below G8.out hb9)
  have z9 := hb9.size
  clear hb9 b8 Y8 O8 M8 S8 G8
  go_wp2_with fail
  refine (HTL.out _ (HJ.out.below b9)).mono ?_
  rintro e w10 ⟨rfl, hj10, hb10⟩
  have V10 := hidden (hj10.drw D.length (Nat.le_refl _))
  have b10 := onto b9 hb10
  have Y10 := hidden (Y9.out.below hb10)
  have O10 := hidden (O9.out.below hb10)
  have M10 := hidden (M9.out.below (by omega) hb10)
  have S10 := hidden (ownW_below S9.out hb10)
  have G10 := hidden (ownW_below G9.out hb10)
  have z10 := hb10.size
  clear hb10 b9 hj10 Y9 O9 M9 S9 G9
  go_wp2_with fail
  refine (eqlaws_any _ _ _ _ _ _ D _ Y10.out V10.out HL.out HM.out).mono ?_
  rintro e w11 ⟨rfl, hb11⟩
  have b11 := onto b10 hb11
  have O11 := hidden (O10.out.below hb11)
  have M11 := hidden (M10.out.below (by omega) hb11)
  have S11 := hidden (ownW_below S10.out hb11)
  have G11 := hidden (ownW_below G10.out hb11)
  have z11 := hb11.size
  clear hb11 b10 O10 M10 S10 G10
  go_wp2_with fail
  refine (markints_any _ F.length F.length 1 _ (fun m hm => O11.out.2.1 m (by omega)) hFl (by omega) (by omega)).mono ?_
  rintro e w12 ⟨rfl, kp⟩
  have b12 := kp.below b11 (by omega)
  have S12 := hidden (kp_own kp S11.out (fun k hk => Or.inl (Z3.out k hk).2))
  have G12 := hidden (kp_own kp G11.out (fun k hk => Or.inr (by have := (Z6.out k hk).1; omega)))
  have gM := M11.out.gl
  have M12 := hidden (M11.out.step kp (fun j hj => ⟨World.cell?_of_block (kp.block w4.heap.size (by omega)), World.cell?_of_block (kp.block w4.heap.size (by omega))⟩))
  have z12 := kp.size
  clear M11 S11 G11 O11 b11 kp gM
  go_wp2_with fail
  refine (marklaws_any _ _ _ _ D _ _ M12.out HL.out HM.out (by omega) (by omega)).mono ?_
  rintro e w13 ⟨k, rfl, ⟨hk0, hk1⟩, kp⟩
  have hDL := HL.out
  have b13 := kp.below b12 (by omega)
  have S13 := hidden (kp_own kp S12.out (fun k hk => Or.inl (by have := (Z3.out k hk).2; omega)))
  have G13 := hidden (kp_own kp G12.out (fun k hk => Or.inr (Z6.out k hk).1))
  have n13 : ¬ k < 0 := by omega
  have z13 := kp.size
  clear M12 S12 G12 b12 kp
  go_wp2_with fail
  refine (eqints_any _ _ _ _ _ _ R _ (ownI_irw G13.out) (ownI_irw S13.out) (by omega)).mono ?_
  rintro e w14 ⟨rfl, hb14⟩
  have b14 := onto b13 hb14
  have S14 := hidden (ownW_below S13.out hb14)
  have G14 := hidden (ownW_below G13.out hb14)
  have z14 := hb14.size
  clear hb14 b13 S13 G13
  go_wp2_with fail
  refine (markint_any _ R _ 1 _ (ownI_own G14.out) (by omega) (by omega) (by omega)).mono ?_
  rintro e w15 ⟨rfl, ho15, ha15, hz15⟩
  have b15 := (ownI_own G14.out).mark_below ha15 hz15 b14 (by omega)
  have S15 := hidden (aside_own ha15 S14.out (fun k hk hk2 => by have y1 := (Z3.out k hk).2; have y2 := (Z6.out k hk2).1; omega))
  have H15 := hidden ho15
  clear S14 G14 b14 ha15 hz15 ho15
  go_wp2_with fail
  refine (heldint_any _ 1 R.length _ H15.out.row (by omega) (by omega) (by omega)).mono ?_
  rintro e w16 ⟨rfl, hw16⟩
  have hw17 := hw16.symm
  clear hw16
  subst hw17
  have hkn : ¬ (1 : Int) + (R.length : Int) < 0 := by omega
  have HMK := hidden (marks_len 1 1 R.length)
  go_wp2_with fail
  refine (HTI.out _ (HI.out.below b15)).mono ?_
  rintro e w17 ⟨rfl, ho17, hb17⟩
  have U17 := hidden (out_irw ho17 F.length (Nat.le_refl _))
  have b17 := onto b15 hb17
  have S17 := hidden (ownW_below S15.out hb17)
  have H17 := hidden (H15.out.below hb17)
  have z17 := hb17.size
  clear hb17 b15 ho17 S15 H15
  go_wp2_with fail
  refine (HTL.out _ (HJ.out.below b17)).mono ?_
  rintro e w18 ⟨rfl, hj18, hb18⟩
  have V18 := hidden (hj18.drw D.length (Nat.le_refl _))
  have b18 := onto b17 hb18
  have S18 := hidden (ownW_below S17.out hb18)
  have H18 := hidden (H17.out.below hb18)
  have U18 := hidden (U17.out.below hb18)
  have z18 := hb18.size
  clear hb18 b17 hj18 S17 H17 U17
  go_wp2_with fail
  refine (HIM.out _ _ _ _ _ _ _ U18.out V18.out).mono ?_
  rintro e w19 ⟨a19, k19, rfl, ho19, hb19⟩
  have P19 := hidden ho19
  have b19 := onto b18 hb19
  have S19 := hidden (ownW_below S18.out hb19)
  have H19 := hidden (H18.out.below hb19)
  have z19 := hb19.size
  clear hb19 b18 ho19 U18 V18 S18 H18
  go_wp2_with fail
  refine (eqints_any _ _ _ _ _ _ R _ (ownI_irw P19.out) (ownI_irw S19.out) (by omega)).mono ?_
  rintro e w20 ⟨rfl, hb20⟩
  have b20 := onto b19 hb20
  have H20 := hidden (H19.out.below hb20)
  have z20 := hb20.size
  clear hb20 b19 H19
  go_wp2_with fail
  refine (heldint_any _ 1 R.length _ H20.out.row (by omega) (by omega) (by omega)).mono ?_
  rintro e w21 ⟨rfl, hw21⟩
  have hw22 := hw21.symm
  clear hw21
  subst hw22
  go_wp2_with fail
  go_ret
  exact ⟨rfl, b20⟩

set_option maxRecDepth 100000 in
theorem lifted (os : Os) (started : os.Started) (H : Type) (enc : TypeId × Value → H) :
    ReturnsInHanded {} Try.checked os 3 .any (Rows.fnExactDeriveSpec.pre6 enc Try.prog Try.f3 Rows.fnExactDeriveRow.domain false) (Rows.fnExactDeriveSpec.post enc Try.prog Try.f3 false true false false) := by
  refine returnsInHanded_of_change (C := Try.checked) own started (by kernel_rfl) Try.func3
    (ChangeSpec.witness6 (enc := enc) (C := Try.checked) false ⟨#[], #[.slice none 0 0, .slice none 0 0], []⟩ 8 (by kernel_rfl) (by kernel_rfl) (by kernel_rfl) (by kernel_rfl)) ?_
  intro W base args ds gs before hval0 hW hcnd _
  have hval : ∀ (j : Nat) t v, Try.f3.params[j]? = some t → args[j]? = some v → Value.okWide Try.prog W .any base t v := hval0
  have hW' := hW
  obtain ⟨p, q, hA0, hV, rfl, hfz, hnd⟩ := hW
  have hA : DataW.TrodAll enc Try.prog W 0 (fun _ => true) true Try.f3.params.toList args.toList ds p := hA0
  rw [Try.params3] at hA hval
  obtain ⟨v0, vs0, d0, ds0, p0, q0, hargs, rfl, rfl, h0, r0⟩ := trodAll_cons hA
  obtain ⟨v1, vs1, d1, ds1, p1, q1, rfl, rfl, rfl, h1, r1⟩ := trodAll_cons r0
  obtain ⟨rfl, rfl, rfl⟩ := trodAll_nil r1
  obtain rfl : args = #[v0, v1] := by cases args; simp_all
  obtain ⟨rfl, rfl⟩ := trodVars_none hV
  have k0 := h0
  have lt0 : ∀ x ∈ p0, x.block < W.heap.size := by obtain ⟨m, hm⟩ := k0; exact DataW.trod_lt m _ _ _ hm
  obtain ⟨ao, len, cap, rfl⟩ := okWide_slice Try.underlying22 (hval 0 22 v0 rfl rfl)
  obtain ⟨F, hl, hm, hrow⟩ := ints_of_read h0
  have k1 := h1
  have lt1 : ∀ x ∈ p1, x.block < W.heap.size := by obtain ⟨m, hm⟩ := k1; exact DataW.trod_lt m _ _ _ hm
  obtain ⟨ad, dlen, dcap, rfl⟩ := okWide_slice Try.underlying23 (hval 1 23 v1 rfl rfl)
  obtain ⟨D, dl, dm, drow, dcl⟩ := laws_of_read h1
  clear hA0 hval0
  refine (walk ao len cap ad dlen dcap F D W hrow drow hm dm dcl).mono fun e W' ⟨he, bel⟩ => ?_
  subst he
  exact ⟨_, rfl, _, _, _, [], _, [], hW', trodAll_mk1 (shut_bool Try.underlying4 _), (trodAll_cons_mk (Below.trod laidOut (by kernel_rfl) (of_decide_eq_true (by kernel_rfl)) k0 bel lt0) (trodAll_cons_mk (Below.trod laidOut (by kernel_rfl) (of_decide_eq_true (by kernel_rfl)) k1 bel lt1) trodAll_mk0)), rfl, bel.frame _, fun h => by cases h⟩

theorem over : Rows.fnExactDeriveRow.holds Try.pinned (OpenSpec.ofChange Rows.fnExactDeriveSpec) :=
  OpenClaim.holds_of_wide 3 Try.f3 rfl rfl rfl rfl rfl rfl rfl ⟨rfl, rfl, rfl, rfl, rfl⟩ rfl rfl rfl rfl rfl (by kernel_rfl) Try.func3 (by kernel_rfl)
    (of_decide_eq_true (by kernel_rfl)) (by unfold Func.isWrapper; first | (rw [if_pos (by decide +kernel)]; kernel_rfl) | (rw [if_neg (by decide +kernel)]; exact ⟨rfl, rfl⟩))
    (fun os started H enc _ => lifted os started H enc)
end fnExactDerive
theorem fnExactDerive_holds : Rows.FnExactDeriveSaid := fnExactDerive.over
end Go.Proofs.Ytfhecdedanlmfab
