/-
  Proved: for every list of operations and every rest, the program's Clashes answers as the specification's, writes into no argument and keeps nothing of one, and its answer owns its memory (FnExactClashes returns true). No conditions.
-/
import Derived.Test.YtcfghnffacdekanOn
import Derived.Test.YtcfghnffacdekanOr
namespace Go.Proofs.Ytcfghnffacdekan
open Go.RowKit Va Oa

namespace fnExactClashes
open Go.ChangeShapes Go.WideShapes Go.ChangeAt Go.Joins
set_option linter.unusedVariables false

theorem own : ownKnob Try.prog.godebug = none := by kernel_rfl
theorem laidOut : laidOutB Try.prog = true := by kernel_rfl

theorem kp_own {lo hi base e s n : Nat} {w w' : World} {v : Value} {xs : List Value} (h : Kp lo hi w w') (ho : w.ownsRow base e s v n xs) (hl : ∀ k, v.ownBlock = some k → k < lo ∨ hi ≤ k) : w'.ownsRow base e s v n xs := by
  obtain ⟨q, ⟨q1, q2⟩ | ⟨g, c, cur, rfl, hg, hh, r⟩⟩ := ho
  · exact ⟨q, Or.inl ⟨q1, q2⟩⟩
  · exact ⟨q, Or.inr ⟨g, c, cur, rfl, hg, (h.block g (hl g rfl)).trans hh, r⟩⟩
theorem aside_own {base e s n : Nat} {w w' : World} {v v2 : Value} {xs : List Value} (h : Aside w w' v) (ho : w.ownsRow base e s v2 n xs) (hl : ∀ k, v2.ownBlock = some k → v.ownBlock ≠ some k) : w'.ownsRow base e s v2 n xs := by
  obtain ⟨q, ⟨q1, q2⟩ | ⟨g, c, cur, rfl, hg, hh, r⟩⟩ := ho
  · exact ⟨q, Or.inl ⟨q1, q2⟩⟩
  · exact ⟨q, Or.inr ⟨g, c, cur, rfl, hg, (h.block g (hl g rfl)).trans hh, r⟩⟩

set_option maxRecDepth 20000 in
set_option maxHeartbeats 4000000 in
theorem walk (ao : Option Addr) (len cap : Nat) (l : List Opn) (r : Int) (w : World) (h : ORw w (.slice ao len cap) l) (hl : l.length = len) (hm : len ≤ maxLen) (htm : ∀ x ∈ l, x.team.length ≤ maxLen) :
    Calls Try.prog 8 #[.slice ao len cap, .int .i64 r] w fun e w' => e = .returned (.bool true) ∧ Below w.heap.size w w' := by
  have hS := szops_any ao len cap l 1048576 w h (by omega) htm (by omega) (by omega)
  have HJ := hidden h
  clear h htm
  go_enter Try.func8, Try.ntmps8
  go_wp2_with fail
  refine hS.mono ?_
  rintro e w0 ⟨q, rfl, hr, b0⟩
  clear hS
  rcases hr with hr | ⟨hr0, hr1, hll, hlt⟩
  · go_wp2_with fail
    go_ret
    exact ⟨rfl, b0⟩
  have hr2 : ¬ q < 0 := by omega
  have HT := hidden (fun W hW => toops_any ao len cap l W hW hll hlt)
  have HL := hidden hll
  have HM := hidden hlt
  have hcl := clash_len l r
  clear hll hlt hl
  go_wp2_with fail
  refine (HT.out _ (HJ.out.below b0)).mono ?_
  rintro e w1 ⟨rfl, hj1, hb1⟩
  have b1 := onto b0 hb1
  have R1 := hidden (hj1.orw l.length (Nat.le_refl _))
  clear hj1 hb1 b0
  go_wp2_with fail
  refine (sclash_any _ _ _ l r _ R1.out HL.out HM.out).mono ?_
  rintro e w2 ⟨a2, c2, rfl, ho2, hb2⟩
  have b2 := onto b1 hb2
  have S2 := hidden ho2
  have Z2 := hidden (ownO_lt ho2)
  clear hb2 R1 b1 ho2
  go_wp2_with fail
  refine (HT.out _ (HJ.out.below b2)).mono ?_
  rintro e w3 ⟨rfl, hj3, hb3⟩
  have b3 := onto b2 hb3
  have R3 := hidden (hj3.orw l.length (Nat.le_refl _))
  have M3 := hidden hj3.marked
  have S3 := hidden (ownO_below S2.out hb3)
  have z3 := hb3.size
  have hbz2 := b2.size
  clear hb3 b2 hj3 S2
  go_wp2_with fail
  refine (iclash_any _ _ _ l r _ R3.out HL.out HM.out).mono ?_
  rintro e w4 ⟨a4, c4, rfl, ho4, hb4⟩
  have b4 := onto b3 hb4
  have R4 := hidden (R3.out.below hb4)
  have M4 := hidden (M3.out.below (Nat.le_refl _) hb4)
  have S4 := hidden (ownO_below S3.out hb4)
  have G4 := hidden ho4
  have Z4 := hidden (ownO_lt ho4)
  have z4 := hb4.size
  clear hb4 R3 b3 S3 M3 ho4
  go_wp2_with fail
  refine (eqcls_any _ _ (clash l r) _ (own_of rfl G4.out).row (own_of rfl S4.out).row (by omega)).mono ?_
  rintro e w5 ⟨rfl, hb5⟩
  have b5 := onto b4 hb5
  have R5 := hidden (R4.out.below hb5)
  have M5 := hidden (M4.out.below z4 hb5)
  have S5 := hidden (ownO_below S4.out hb5)
  have G5 := hidden (ownO_below G4.out hb5)
  have z5 := hb5.size
  clear hb5 R4 b4 S4 M4 G4
  go_wp2_with fail
  refine (HT.out _ (HJ.out.below b5)).mono ?_
  rintro e w6 ⟨rfl, hj6, hb6⟩
  have b6 := onto b5 hb6
  have R6 := hidden (R5.out.below hb6)
  have M6 := hidden (M5.out.below (by omega) hb6)
  have S6 := hidden (ownO_below S5.out hb6)
  have G6 := hidden (ownO_below G5.out hb6)
  have Q6 := hidden (hj6.orw l.length (Nat.le_refl _))
  have z6 := hb6.size
  clear hb6 R5 b5 S5 M5 G5 hj6
  go_wp2_with fail
  refine (eqops_any _ _ _ _ _ _ l _ R6.out Q6.out HL.out HM.out).mono ?_
  rintro e w7 ⟨rfl, hb7⟩
  have b7 := onto b6 hb7
  have M7 := hidden (M6.out.below (by omega) hb7)
  have S7 := hidden (ownO_below S6.out hb7)
  have G7 := hidden (ownO_below G6.out hb7)
  clear hb7 R6 Q6 b6 S6 M6 G6
  go_wp2_with fail
  refine (markops_any _ _ _ _ l 1 _ M7.out HL.out HM.out (by omega) (by omega)).mono ?_
  rintro e w8 ⟨k, rfl, hk0, kp⟩
  have hk1 : ¬ k < 0 := by omega
  have b8 := kp.below b7 hbz2
  have S8 := hidden (kp_own kp S7.out (fun k hk => Or.inl (Z2.out k hk).2))
  have G8 := hidden (kp_own kp G7.out (fun k hk => Or.inr (Z4.out k hk).1))
  clear M7 S7 G7 b7 kp
  go_wp2_with fail
  refine (eqcls_any _ _ (clash l r) _ (own_of rfl G8.out).row (own_of rfl S8.out).row (by omega)).mono ?_
  rintro e w9 ⟨rfl, hb9⟩
  have b9 := onto b8 hb9
  have S9 := hidden (ownO_below S8.out hb9)
  have G9 := hidden (ownO_below G8.out hb9)
  clear hb9 b8 S8 G8
  go_wp2_with fail
  refine (markcl_any _ (clash l r) _ 1 _ (own_of rfl G9.out) (by omega) (by omega) (by omega)).mono ?_
  rintro e wA ⟨rfl, hoA, haA, heA⟩
  have bA := (own_of rfl G9.out).mark_below haA heA b9 (by omega)
  have SA := hidden (aside_own haA S9.out (fun k hk hk2 => by have z7 := (Z2.out k hk).2; have z8 := (Z4.out k hk2).1; omega))
  have GA := hidden hoA
  clear S9 G9 b9 haA heA hoA
  go_wp2_with fail
  refine (heldcl_any _ 1 (clash l r).length _ GA.out.row (by omega) (by omega) (by omega)).mono ?_
  rintro e wB ⟨rfl, rfl⟩
  have hkn : ¬ (1 : Int) + 3 * ((clash l r).length : Int) < 0 := by omega
  have HMK := hidden (marks_len 3 1 (clash l r).length)
  go_wp2_with fail
  refine (HT.out _ (HJ.out.below bA)).mono ?_
  rintro e wC ⟨rfl, hjC, hbC⟩
  have bC := onto bA hbC
  have RC := hidden (hjC.orw l.length (Nat.le_refl _))
  have SC := hidden (ownO_below SA.out hbC)
  have GC := hidden (GA.out.below hbC)
  clear hbC bA SA GA hjC
  go_wp2_with fail
  refine (iclash_any _ _ _ l r _ RC.out HL.out HM.out).mono ?_
  rintro e wD ⟨aD, cD, rfl, hoD, hbD⟩
  have bD := onto bC hbD
  have SD := hidden (ownO_below SC.out hbD)
  have GD := hidden (GC.out.below hbD)
  have PD := hidden hoD
  clear hbD bC SC GC RC hoD
  go_wp2_with fail
  refine (eqcls_any _ _ (clash l r) _ (own_of rfl PD.out).row (own_of rfl SD.out).row (by omega)).mono ?_
  rintro e wE ⟨rfl, hbE⟩
  have bE := onto bD hbE
  have GE := hidden (GD.out.below hbE)
  clear hbE bD SD GD PD
  go_wp2_with fail
  refine (heldcl_any _ 1 (clash l r).length _ GE.out.row (by omega) (by omega) (by omega)).mono ?_
  rintro e wF ⟨rfl, rfl⟩
  go_wp2_with fail
  go_ret
  exact ⟨rfl, bE⟩

set_option maxRecDepth 100000 in
theorem lifted (os : Os) (started : os.Started) (H : Type) (enc : TypeId × Value → H) :
    ReturnsInHanded {} Try.checked os 8 .any (Rows.fnExactClashesSpec.pre6 enc Try.prog Try.f8 Rows.fnExactClashesRow.domain false) (Rows.fnExactClashesSpec.post enc Try.prog Try.f8 false true false false) := by
  refine returnsInHanded_of_change (C := Try.checked) own started (by kernel_rfl) Try.func8
    (ChangeSpec.witness6 (enc := enc) (C := Try.checked) false ⟨#[], #[.slice none 0 0, .int .i64 0], []⟩ 8 (by kernel_rfl) (by kernel_rfl) (by kernel_rfl) (by kernel_rfl)) ?_
  intro W base args ds gs before hval0 hW hcnd _
  have hval : ∀ (j : Nat) t v, Try.f8.params[j]? = some t → args[j]? = some v → Value.okWide Try.prog W .any base t v := hval0
  have hW' := hW
  obtain ⟨p, q, hA0, hV, rfl, hfz, hnd⟩ := hW
  have hA : DataW.TrodAll enc Try.prog W 0 (fun _ => true) true Try.f8.params.toList args.toList ds p := hA0
  rw [Try.params8] at hA hval
  obtain ⟨v0, vs0, d0, ds0, p0, q0, hargs, rfl, rfl, h0, r0⟩ := trodAll_cons hA
  obtain ⟨v1, vs1, d1, ds1, p1, q1, rfl, rfl, rfl, h1, r1⟩ := trodAll_cons r0
  obtain ⟨rfl, rfl, rfl⟩ := trodAll_nil r1
  obtain rfl : args = #[v0, v1] := by cases args; simp_all
  obtain ⟨rfl, rfl⟩ := trodVars_none hV
  have k0 := h0
  have lt0 : ∀ x ∈ p0, x.block < W.heap.size := by obtain ⟨m, hm⟩ := k0; exact DataW.trod_lt m _ _ _ hm
  obtain ⟨ao, len, cap, rfl⟩ := okWide_slice Try.underlying48 (hval 0 48 v0 rfl rfl)
  obtain ⟨l, hl, hm, hrow, htm⟩ := ops_of_read h0
  obtain ⟨x1, rfl, rfl, rfl, k1⟩ := open_int Try.underlying2 (hval 1 2 v1 rfl rfl) h1
  clear hA0 hval0
  refine (walk ao len cap l x1 W hrow hl hm htm).mono fun e W' ⟨he, bel⟩ => ?_
  subst he
  exact ⟨_, rfl, _, _, _, [], _, [], hW', trodAll_mk1 (shut_bool Try.underlying4 _), (trodAll_cons_mk (Below.trod laidOut (by kernel_rfl) (of_decide_eq_true (by kernel_rfl)) k0 bel lt0) (trodAll_cons_mk (shut_int Try.underlying2 k1) trodAll_mk0)), rfl, bel.frame _, fun h => by cases h⟩

theorem over : Rows.fnExactClashesRow.holds Try.pinned (OpenSpec.ofChange Rows.fnExactClashesSpec) :=
  OpenClaim.holds_of_wide 8 Try.f8 rfl rfl rfl rfl rfl rfl rfl ⟨rfl, rfl, rfl, rfl, rfl⟩ rfl rfl rfl rfl rfl (by kernel_rfl) Try.func8 (by kernel_rfl)
    (of_decide_eq_true (by kernel_rfl)) (by unfold Func.isWrapper; first | (rw [if_pos (by decide +kernel)]; kernel_rfl) | (rw [if_neg (by decide +kernel)]; exact ⟨rfl, rfl⟩))
    (fun os started H enc _ => lifted os started H enc)
end fnExactClashes
theorem fnExactClashes_holds : Rows.FnExactClashesSaid := fnExactClashes.over
end Go.Proofs.Ytcfghnffacdekan
