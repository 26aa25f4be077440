/-
  Proved: for every list of drugs and every list of rules, the program's Interactions answers as the specification's, writes into no argument and keeps none, and its answer is its own (FnExactInteractions returns true). No conditions.
-/
import Derived.Test.YtcnhogghfedcdabGj
import Derived.Test.YtcnhogghfedcdabNe
import Derived.Test.YtcnhogghfedcdabNg
import Derived.Test.YtcnhogghfedcdabGd
namespace Go.Proofs.Ytcnhogghfedcdab
open Go.RowKit Va Ga

namespace fnExactInteractions
open Go.ChangeShapes Go.WideShapes Go.ChangeAt Go.Joins
set_option linter.unusedVariables false

theorem own : ownKnob Try.prog.godebug = none := by kernel_rfl
theorem laidOut : laidOutB Try.prog = true := by kernel_rfl

theorem kp_own {lo hi base e s n : Nat} {w w' : World} {v : Value} {xs : List Value} (h : Kp lo hi w w') (ho : w.ownsRow base e s v n xs) (hl : ∀ k, v.ownBlock = some k → k < lo ∨ hi ≤ k) : w'.ownsRow base e s v n xs := by
  obtain ⟨q, ⟨q1, q2⟩ | ⟨g, c, cur, rfl, hg, hh, r⟩⟩ := ho
  · exact ⟨q, Or.inl ⟨q1, q2⟩⟩
  · exact ⟨q, Or.inr ⟨g, c, cur, rfl, hg, (h.block g (hl g rfl)).trans hh, r⟩⟩
theorem kp_Own {α : Type} {s : Nat} {cs : α → Nat → Int} {lo hi base : Nat} {w w' : World} {v : Value} {l : List α} (h : Kp lo hi w w') (ho : Own s cs w base v l) (hl : hi ≤ base) : Own s cs w' base v l := by
  obtain ⟨ao, cap, rfl, hc, hh⟩ := ho
  refine ⟨ao, cap, rfl, hc, hh.imp_right ?_⟩
  rintro ⟨G, rfl, hG, h1, h2, h3⟩
  have e : ∀ o, w'.cell? ⟨G, o, none⟩ = w.cell? ⟨G, o, none⟩ := fun o => World.cell?_of_block (h.block G (by omega))
  exact ⟨G, rfl, hG, by rw [h.size]; exact h1, fun j hj => ⟨by rw [e]; exact (h2 j hj).1, (h.fro G j).trans (h2 j hj).2⟩, fun j x hj hx k hk => by rw [e]; exact h3 j x hj hx k hk⟩
theorem mark_row {α : Type} {s : Nat} {cs : α → Nat → Int} {wx w w' : World} {base b e s2 n : Nat} {v v2 : Value} {l : List α} {xs : List Value} (h : Own s cs wx base v l) (ha : Aside w w' v) (hz : l.length = 0 → w' = w) (ho : w.ownsRow b e s2 v2 n xs) (hl : ∀ k, v2.ownBlock = some k → k < base ∨ wx.heap.size ≤ k) : w'.ownsRow b e s2 v2 n xs := by
  rcases Nat.eq_zero_or_pos l.length with q | q
  · rw [hz q]; exact ho
  · obtain ⟨ao, cap, rfl, _, hh⟩ := h
    obtain ⟨G, rfl, hG, hO⟩ := hh.resolve_left (by omega)
    have hGl := hO.1
    obtain ⟨q1, ⟨q2, q3⟩ | ⟨g, c, cur, rfl, hg, hh, r⟩⟩ := ho
    · exact ⟨q1, Or.inl ⟨q2, q3⟩⟩
    · exact ⟨q1, Or.inr ⟨g, c, cur, rfl, hg, (ha.block g (by intro e; have e2 : G = g := Option.some.inj e; have := hl g rfl; omega)).trans hh, r⟩⟩
theorem aside_own {base e s n : Nat} {w w' : World} {v v2 : Value} {xs : List Value} (h : Aside w w' v) (ho : w.ownsRow base e s v2 n xs) (hl : ∀ k, v2.ownBlock = some k → v.ownBlock ≠ some k) : w'.ownsRow base e s v2 n xs := by
  obtain ⟨q, ⟨q1, q2⟩ | ⟨g, c, cur, rfl, hg, hh, r⟩⟩ := ho
  · exact ⟨q, Or.inl ⟨q1, q2⟩⟩
  · exact ⟨q, Or.inr ⟨g, c, cur, rfl, hg, (h.block g (hl g rfl)).trans hh, r⟩⟩

set_option maxRecDepth 20000 in
set_option maxHeartbeats 8000000 in
theorem walk (ad : Option Addr) (dlen dcap : Nat) (D : List Dg) (ao : Option Addr) (len cap : Nat) (rs : List Ru) (w : World) (hd : DRw w (.slice ad dlen dcap) D) (hdm : dlen ≤ maxLen) (hdc : ∀ x ∈ D, x.cls.length ≤ maxLen) (h : Rw 3 csRu w (.slice ao len cap) rs) (hl : rs.length = len) (hm : len ≤ maxLen) :
    Calls Try.prog 3 #[.slice ad dlen dcap, .slice ao len cap] w fun e w' => e = .returned (.bool true) ∧ Below w.heap.size w w' := by
  subst hl
  obtain rfl := hd.len
  have hS := szdrugs_any ad D.length dcap D 1048576 w hd hdm hdc (by omega) (by omega)
  have HJ := hidden hd
  have HK := hidden h
  clear hd h hdc
  go_enter Try.func3, Try.ntmps3
  go_wp2_with fail
  refine hS.mono ?_
  rintro e w0 ⟨q, rfl, hr, b0⟩
  clear hS
  rcases hr with hr | ⟨hr0, hr1, hll, hlt⟩
  · go_wp2_with fail
    go_ret
    exact ⟨rfl, b0⟩
  have hr2 : ¬ q < 0 := by omega
  have hG := fun W => szrus_any ao rs.length cap q W (by unfold maxLen at hm; omega) (by omega) (by omega)
  by_cases hlb : q < (rs.length : Int)
  · simp only [if_pos hlb] at hG
    go_wp2_with fail
    refine (hG _).mono ?_
    rintro e w1 ⟨rfl, rfl⟩
    go_wp2_with fail
    go_ret
    exact ⟨rfl, b0⟩
  simp only [if_neg hlb] at hG
  have hn2 : ¬ q - (rs.length : Int) < 0 := by omega
  have hlk : rs.length ≤ 1048576 := by omega
  have HT := hidden (fun W hW => todrugs_any ad D.length dcap D W hW hll hlt)
  have HI := hidden (fun W hW => torus_any (.slice ao rs.length cap) rs W hW hlk)
  have HL := hidden hll
  have HM := hidden hlt
  have HN := hidden hlk
  have hcl := warn_len rs D
  have HSP := hidden (fun a n c a2 n2 c2 W hW hW2 => sint_any a n c D a2 n2 c2 rs W hW hW2 hll hlt hlk)
  have HIM := hidden (fun a n c a2 n2 c2 W hW hW2 => iint_any a n c D a2 n2 c2 rs W hW hW2 hll hlt hlk)
  generalize warn rs D = R at *
  clear hll hlt hlk hlb
  go_wp2_with fail
  refine (hG _).mono ?_
  rintro e w9 ⟨rfl, rfl⟩
  clear hG
  go_wp2_with fail
  refine (HT.out _ (HJ.out.below b0)).mono ?_
  rintro e w1 ⟨rfl, hj1, hb1⟩
  have b1 := onto b0 hb1
  have R1 := hidden (hj1.drw D.length (Nat.le_refl _))
  clear hj1 hb1 b0
  go_wp2_with fail
  refine (HI.out _ (HK.out.below b1)).mono ?_
  rintro e w2 ⟨v2, rfl, hj2, hb2⟩
  obtain ⟨a2, k2, rfl⟩ := hj2.row.form
  have b2 := onto b1 hb2
  have R2 := hidden (R1.out.below hb2)
  have Q2 := hidden hj2.row
  clear hj2 hb2 b1 R1
  go_wp2_with fail
  refine (HSP.out _ _ _ _ _ _ _ R2.out Q2.out).mono ?_
  rintro e w3 ⟨v3, rfl, ho3, hb3⟩
  obtain ⟨a3, k3, rfl⟩ := ownW_slice ho3
  have b3 := onto b2 hb3
  have S3 := hidden ho3
  have Z3 := hidden (ownW_lt ho3)
  have hbz3 := b3.size
  clear ho3 hb3 b2 R2 Q2
  go_wp2_with fail
  refine (HT.out _ (HJ.out.below b3)).mono ?_
  rintro e w4 ⟨rfl, hj4, hb4⟩
  have b4 := onto b3 hb4
  have X4 := hidden (hj4.drw D.length (Nat.le_refl _))
  have M4 := hidden hj4.marked
  have S4 := hidden (ownW_below S3.out hb4)
  have z4 := hb4.size
  clear hb4 b3 hj4 S3
  go_wp2_with fail
  refine (HI.out _ (HK.out.below b4)).mono ?_
  rintro e w5 ⟨v5, rfl, hj5, hb5⟩
  obtain ⟨a5, k5, rfl⟩ := hj5.row.form
  have b5 := onto b4 hb5
  have X5 := hidden (X4.out.below hb5)
  have M5 := hidden (M4.out.below (Nat.le_refl _) hb5)
  have S5 := hidden (ownW_below S4.out hb5)
  have Y5 := hidden hj5
  have z5 := hb5.size
  clear hb5 b4 hj5 X4 M4 S4
  go_wp2_with fail
  refine (HIM.out _ _ _ _ _ _ _ X5.out Y5.out.row).mono ?_
  rintro e w6 ⟨v6, rfl, ho6, hb6⟩
  obtain ⟨a6, k6, rfl⟩ := ownW_slice ho6
  have b6 := onto b5 hb6
  have X6 := hidden (X5.out.below hb6)
  have M6 := hidden (M5.out.below z5 hb6)
  have S6 := hidden (ownW_below S5.out hb6)
  have Y6 := hidden (Y5.out.below hb6)
  have G6 := hidden ho6
  have Z6 := hidden (ownW_lt ho6)
  have z6 := hb6.size
  clear hb6 b5 ho6 X5 M5 S5
  go_wp2_with fail
  refine (eqwgs_any _ _ R _ (own_of rfl G6.out).row (own_of rfl S6.out).row (by omega)).mono ?_
  rintro e w7 ⟨rfl, hb7⟩
  have b7 := onto b6 hb7
  have X7 := hidden (X6.out.below hb7)
  have M7 := hidden (M6.out.below (by omega) hb7)
  have S7 := hidden (ownW_below S6.out hb7)
  have Y7 := hidden (Y6.out.below hb7)
  have G7 := hidden (ownW_below G6.out hb7)
  have z7 := hb7.size
  clear hb7 b6 X6 M6 S6 Y6 G6
  go_wp2_with fail
  refine (HT.out _ (HJ.out.below b7)).mono ?_
  rintro e w8 ⟨rfl, hj8, hb8⟩
  have U8 := hidden (hj8.drw D.length (Nat.le_refl _))
  have b8 := onto b7 hb8
  have X8 := hidden (X7.out.below hb8)
  have M8 := hidden (M7.out.below (by omega) hb8)
  have S8 := hidden (ownW_below S7.out hb8)
  have Y8 := hidden (Y7.out.below hb8)
  have G8 := hidden (ownW_below G7.out hb8)
  have z8 := hb8.size
  clear hb8 b7 X7 M7 S7 Y7 G7 hj8
  go_wp2_with fail
  refine (eqdrugs_any _ _ _ _ _ _ D _ X8.out U8.out HL.out HM.out).mono ?_
  rintro e w9 ⟨rfl, hb9⟩
  have b9 := onto b8 hb9
  have M9 := hidden (M8.out.below (by omega) hb9)
  have S9 := hidden (ownW_below S8.out hb9)
  have Y9 := hidden (Y8.out.below hb9)
  have G9 := hidden (ownW_below G8.out hb9)
  have z9 := hb9.size
  clear hb9 b8 X8 M8 S8 Y8 G8 U8
  go_wp2_with fail
  refine (HI.out _ (HK.out.below b9)).mono ?_
  rintro e w10 ⟨v10, rfl, hj10, hb10⟩
  obtain ⟨a10, k10, rfl⟩ := hj10.row.form
  have U10 := hidden hj10.row
  have b10 := onto b9 hb10
  have M10 := hidden (M9.out.below (by omega) hb10)
  have S10 := hidden (ownW_below S9.out hb10)
  have Y10 := hidden (Y9.out.below hb10)
  have G10 := hidden (ownW_below G9.out hb10)
  have z10 := hb10.size
  clear hb10 b9 M9 S9 Y9 G9 hj10
  go_wp2_with fail
  refine (eqrus_any _ _ rs _ Y10.out.row U10.out HN.out).mono ?_
  rintro e w11 ⟨rfl, hb11⟩
  have b11 := onto b10 hb11
  have M11 := hidden (M10.out.below (by omega) hb11)
  have S11 := hidden (ownW_below S10.out hb11)
  have Y11 := hidden (Y10.out.below hb11)
  have G11 := hidden (ownW_below G10.out hb11)
  have z11 := hb11.size
  clear hb11 b10 M10 S10 Y10 G10 U10
  go_wp2_with fail
  refine (markdrugs_any _ _ _ _ D 1 _ M11.out HL.out HM.out (by omega) (by omega)).mono ?_
  rintro e w12 ⟨k, rfl, ⟨hk0, hk1⟩, kp⟩
  have hDL := HL.out
  have b12 := kp.below b11 hbz3
  have S12 := hidden (kp_own kp S11.out (fun k hk => Or.inl (Z3.out k hk).2))
  have G12 := hidden (kp_own kp G11.out (fun k hk => Or.inr (Nat.le_trans z5 (Z6.out k hk).1)))
  have Y12 := hidden (kp_Own kp Y11.out (Nat.le_refl _))
  clear M11 S11 G11 Y11 b11 kp
  go_wp2_with fail
  refine (markru_any _ rs _ k _ Y12.out HN.out hk0 (by omega)).mono ?_
  rintro e w13 ⟨rfl, -, ha13, hz13⟩
  have b13 := Y12.out.mark_below ha13 hz13 b12 (by omega)
  have S13 := hidden (mark_row Y5.out ha13 hz13 S12.out (fun k hk => Or.inl (Nat.lt_of_lt_of_le (Z3.out k hk).2 z4)))
  have G13 := hidden (mark_row Y5.out ha13 hz13 G12.out (fun k hk => Or.inr (Z6.out k hk).1))
  have n13 : ¬ k + 3 * (rs.length : Int) < 0 := by omega
  clear b12 S12 G12 Y12 ha13 hz13 Y5
  go_wp2_with fail
  refine (eqwgs_any _ _ R _ (own_of rfl G13.out).row (own_of rfl S13.out).row (by omega)).mono ?_
  rintro e w14 ⟨rfl, hb14⟩
  have b14 := onto b13 hb14
  have S14 := hidden (ownW_below S13.out hb14)
  have G14 := hidden (ownW_below G13.out hb14)
  have z14 := hb14.size
  clear hb14 b13 S13 G13
  go_wp2_with fail
  refine (markwg_any _ R _ 1 _ (own_of rfl G14.out) (by omega) (by omega) (by omega)).mono ?_
  rintro e w15 ⟨rfl, ho15, ha15, hz15⟩
  have b15 := (own_of rfl G14.out).mark_below ha15 hz15 b14 (by omega)
  have S15 := hidden (aside_own ha15 S14.out (fun k hk hk2 => by have y1 := (Z3.out k hk).2; have y2 := (Z6.out k hk2).1; omega))
  have H15 := hidden ho15
  clear S14 G14 b14 ha15 hz15 ho15
  go_wp2_with fail
  refine (heldwg_any _ 1 R.length _ H15.out.row (by omega) (by omega) (by omega)).mono ?_
  rintro e w16 ⟨rfl, hw16⟩
  have hw17 := hw16.symm
  clear hw16
  subst hw17
  have hkn : ¬ (1 : Int) + 3 * (R.length : Int) < 0 := by omega
  have HMK := hidden (marks_len 3 1 R.length)
  go_wp2_with fail
  refine (HT.out _ (HJ.out.below b15)).mono ?_
  rintro e w17 ⟨rfl, hj17, hb17⟩
  have U17 := hidden (hj17.drw D.length (Nat.le_refl _))
  have b17 := onto b15 hb17
  have S17 := hidden (ownW_below S15.out hb17)
  have H17 := hidden (H15.out.below hb17)
  have z17 := hb17.size
  clear hb17 b15 S15 H15 hj17
  go_wp2_with fail
  refine (HI.out _ (HK.out.below b17)).mono ?_
  rintro e w18 ⟨v18, rfl, hj18, hb18⟩
  obtain ⟨a18, k18, rfl⟩ := hj18.row.form
  have V18 := hidden hj18.row
  have b18 := onto b17 hb18
  have S18 := hidden (ownW_below S17.out hb18)
  have H18 := hidden (H17.out.below hb18)
  have U18 := hidden (U17.out.below hb18)
  have z18 := hb18.size
  clear hb18 b17 S17 H17 hj18 U17
  go_wp2_with fail
  refine (HIM.out _ _ _ _ _ _ _ U18.out V18.out).mono ?_
  rintro e w19 ⟨v19, rfl, ho19, hb19⟩
  obtain ⟨a19, k19, rfl⟩ := ownW_slice ho19
  have P19 := hidden ho19
  have b19 := onto b18 hb19
  have S19 := hidden (ownW_below S18.out hb19)
  have H19 := hidden (H18.out.below hb19)
  have z19 := hb19.size
  clear hb19 b18 S18 H18 ho19 U18 V18
  go_wp2_with fail
  refine (eqwgs_any _ _ R _ (own_of rfl P19.out).row (own_of rfl S19.out).row (by omega)).mono ?_
  rintro e w20 ⟨rfl, hb20⟩
  have b20 := onto b19 hb20
  have H20 := hidden (H19.out.below hb20)
  have z20 := hb20.size
  clear hb20 b19 S19 H19 P19
  go_wp2_with fail
  refine (heldwg_any _ 1 R.length _ H20.out.row (by omega) (by omega) (by omega)).mono ?_
  rintro e w21 ⟨rfl, hw21⟩
  have hw22 := hw21.symm
  clear hw21
  subst hw22
  go_wp2_with fail
  go_ret
  exact ⟨rfl, b20⟩

set_option maxRecDepth 100000 in
theorem lifted (os : Os) (started : os.Started) (H : Type) (enc : TypeId × Value → H) :
    ReturnsInHanded {} Try.checked os 3 .any (Rows.fnExactInteractionsSpec.pre6 enc Try.prog Try.f3 Rows.fnExactInteractionsRow.domain false) (Rows.fnExactInteractionsSpec.post enc Try.prog Try.f3 false true false false) := by
  refine returnsInHanded_of_change (C := Try.checked) own started (by kernel_rfl) Try.func3
    (ChangeSpec.witness6 (enc := enc) (C := Try.checked) false ⟨#[], #[.slice none 0 0, .slice none 0 0], []⟩ 8 (by kernel_rfl) (by kernel_rfl) (by kernel_rfl) (by kernel_rfl)) ?_
  intro W base args ds gs before hval0 hW hcnd _
  have hval : ∀ (j : Nat) t v, Try.f3.params[j]? = some t → args[j]? = some v → Value.okWide Try.prog W .any base t v := hval0
  have hW' := hW
  obtain ⟨p, q, hA0, hV, rfl, hfz, hnd⟩ := hW
  have hA : DataW.TrodAll enc Try.prog W 0 (fun _ => true) true Try.f3.params.toList args.toList ds p := hA0
  rw [Try.params3] at hA hval
  obtain ⟨v0, vs0, d0, ds0, p0, q0, hargs, rfl, rfl, h0, r0⟩ := trodAll_cons hA
  obtain ⟨v1, vs1, d1, ds1, p1, q1, rfl, rfl, rfl, h1, r1⟩ := trodAll_cons r0
  obtain ⟨rfl, rfl, rfl⟩ := trodAll_nil r1
  obtain rfl : args = #[v0, v1] := by cases args; simp_all
  obtain ⟨rfl, rfl⟩ := trodVars_none hV
  have k0 := h0
  have lt0 : ∀ x ∈ p0, x.block < W.heap.size := by obtain ⟨m, hm⟩ := k0; exact DataW.trod_lt m _ _ _ hm
  obtain ⟨ad, dlen, dcap, rfl⟩ := okWide_slice Try.underlying22 (hval 0 22 v0 rfl rfl)
  obtain ⟨D, dl, dm, drow, dcl⟩ := drugs_of_read h0
  have k1 := h1
  have lt1 : ∀ x ∈ p1, x.block < W.heap.size := by obtain ⟨m, hm⟩ := k1; exact DataW.trod_lt m _ _ _ hm
  obtain ⟨ao, len, cap, rfl⟩ := okWide_slice Try.underlying23 (hval 1 23 v1 rfl rfl)
  obtain ⟨rs, hl, hm, hrow⟩ := rus_of_read h1
  clear hA0 hval0
  refine (walk ad dlen dcap D ao len cap rs W drow dm dcl hrow hl hm).mono fun e W' ⟨he, bel⟩ => ?_
  subst he
  exact ⟨_, rfl, _, _, _, [], _, [], hW', trodAll_mk1 (shut_bool Try.underlying4 _), (trodAll_cons_mk (Below.trod laidOut (by kernel_rfl) (of_decide_eq_true (by kernel_rfl)) k0 bel lt0) (trodAll_cons_mk (Below.trod laidOut (by kernel_rfl) (of_decide_eq_true (by kernel_rfl)) k1 bel lt1) trodAll_mk0)), rfl, bel.frame _, fun h => by cases h⟩

theorem over : Rows.fnExactInteractionsRow.holds Try.pinned (OpenSpec.ofChange Rows.fnExactInteractionsSpec) :=
  OpenClaim.holds_of_wide 3 Try.f3 rfl rfl rfl rfl rfl rfl rfl ⟨rfl, rfl, rfl, rfl, rfl⟩ rfl rfl rfl rfl rfl (by kernel_rfl) Try.func3 (by kernel_rfl)
    (of_decide_eq_true (by kernel_rfl)) (by unfold Func.isWrapper; first | (rw [if_pos (by decide +kernel)]; kernel_rfl) | (rw [if_neg (by decide +kernel)]; exact ⟨rfl, rfl⟩))
    (fun os started H enc _ => lifted os started H enc)
end fnExactInteractions
theorem fnExactInteractions_holds : Rows.FnExactInteractionsSaid := fnExactInteractions.over
end Go.Proofs.Ytcnhogghfedcdab
