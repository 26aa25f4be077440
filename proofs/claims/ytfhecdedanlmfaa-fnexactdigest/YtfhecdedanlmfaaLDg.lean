/-
  Proved: for all bytes, the program's Digest answers as the specification's, and writes into no argument (FnExactDigest returns true). No conditions.
-/
import Derived.Test.YtfhecdedanlmfaaE2
namespace Go.Proofs.Ytfhecdedanlmfaa
open Go.RowKit Va

namespace fnExactDigest
open Go.ChangeShapes Go.WideShapes Go.ChangeAt Go.Joins
set_option linter.all false

theorem own : ownKnob Try.prog.godebug = none := by kernel_rfl
theorem laidOut : laidOutB Try.prog = true := by kernel_rfl

set_option maxRecDepth 20000 in
set_option maxHeartbeats 8000000 in
theorem walk (ao : Option Addr) (len cap : Nat) (F : List Int) (w : World) (hr : BRw w (.slice ao len cap) F) (hrm : len ≤ maxLen) :
    Calls Try.prog 4 #[.slice ao len cap] w fun e w' => e = .returned (.bool true) ∧ Below w.heap.size w w' := by
  obtain rfl := hr.len
  have HI := hidden hr
  have hrm2 : (F.length : Int) ≤ 9223372036854775807 := by unfold maxLen at hrm; omega
  have HR : Hid (∀ x ∈ F, 0 ≤ x ∧ x ≤ 255) := by obtain ⟨_, _, _, _, h, _⟩ := hr; exact h
  clear hr hrm
  by_cases hq : (F.length : Int) > 1048576
  · go_enter Try.func4, Try.ntmps4
    go_wp2_with fail
    go_ret
    exact ⟨rfl, Below.refl _ _⟩
  have hFl : F.length ≤ 1048576 := by omega
  have HTI := hidden (fun W hW => tobytes_any ao F.length cap F W hW hFl)
  have HSP := hidden (fun a n c W hW => sdigest_any a n c F W hW (by omega))
  have HIM := hidden (fun a n c W hW h0 => idigest_any (some a) n c F W hW (by omega) h0)
  generalize digest F = R at *
  have b0 := Below.refl w.heap.size w
  go_enter Try.func4, Try.ntmps4
  go_wp2_with fail
  refine (HTI.out _ (HI.out.below b0)).mono ?_
  rintro e w1 ⟨rfl, ho1, hb1⟩
  have X1 := hidden (ho1.brw HR.out F.length (Nat.le_refl _))
  have b1 := onto b0 hb1
  have z1 := hb1.size
  clear hb1 b0 ho1
  go_wp2_with fail
  refine (HSP.out _ _ _ _ X1.out).mono ?_
  rintro e w2 ⟨rfl, hw2⟩
  obtain rfl := hw2
  clear X1
  go_wp2_with fail
  refine (HTI.out _ (HI.out.below b1)).mono ?_
  rintro e w4 ⟨rfl, ho4, hb4⟩
  have X4 := hidden (ho4.brw HR.out F.length (Nat.le_refl _))
  have b4 := onto b1 hb4
  have z4 := hb4.size
  clear hb4 b1 ho4
  go_wp2_with fail
  refine (HIM.out _ _ _ _ X4.out (fun e => by cases e)).mono ?_
  rintro e w5 ⟨rfl, hw5⟩
  obtain rfl := hw5
  go_wp2_with fail
  refine (HTI.out _ (HI.out.below b4)).mono ?_
  rintro e w6 ⟨rfl, ho6, hb6⟩
  have U6 := hidden (ho6.brw HR.out F.length (Nat.le_refl _))
  have b6 := onto b4 hb6
  have X6 := hidden (X4.out.below hb6)
  have z6 := hb6.size
  clear hb6 b4 ho6 X4
  go_wp2_with fail
  refine (eqbytes_any _ _ _ _ _ _ F _ X6.out U6.out hFl).mono ?_
  rintro e w7 ⟨rfl, hb7⟩
  have b7 := onto b6 hb7
  have z7 := hb7.size
  clear hb7 b6
  go_wp2_with fail
  go_ret
  exact ⟨rfl, b7⟩

set_option maxRecDepth 100000 in
theorem lifted (os : Os) (started : os.Started) (H : Type) (enc : TypeId × Value → H) :
    ReturnsInHanded {} Try.checked os 4 .any (Rows.fnExactDigestSpec.pre6 enc Try.prog Try.f4 Rows.fnExactDigestRow.domain false) (Rows.fnExactDigestSpec.post enc Try.prog Try.f4 false true false false) := by
  refine returnsInHanded_of_change (C := Try.checked) own started (by kernel_rfl) Try.func4
    (ChangeSpec.witness6 (enc := enc) (C := Try.checked) false ⟨#[], #[.slice none 0 0], []⟩ 8 (by kernel_rfl) (by kernel_rfl) (by kernel_rfl) (by kernel_rfl)) ?_
  intro W base args ds gs before hval0 hW hcnd _
  have hval : ∀ (j : Nat) t v, Try.f4.params[j]? = some t → args[j]? = some v → Value.okWide Try.prog W .any base t v := hval0
  have hW' := hW
  obtain ⟨p, q, hA0, hV, rfl, hfz, hnd⟩ := hW
  have hA : DataW.TrodAll enc Try.prog W 0 (fun _ => true) true Try.f4.params.toList args.toList ds p := hA0
  rw [Try.params4] at hA hval
  obtain ⟨v0, vs0, d0, ds0, p0, q0, hargs, rfl, rfl, h0, r0⟩ := trodAll_cons hA
  obtain ⟨rfl, rfl, rfl⟩ := trodAll_nil r0
  obtain rfl : args = #[v0] := by cases args; simp_all
  obtain ⟨rfl, rfl⟩ := trodVars_none hV
  have k0 := h0
  have lt0 : ∀ x ∈ p0, x.block < W.heap.size := by obtain ⟨m, hm⟩ := k0; exact DataW.trod_lt m _ _ _ hm
  obtain ⟨ao, len, cap, rfl⟩ := okWide_slice Try.underlying22 (hval 0 22 v0 rfl rfl)
  obtain ⟨F, hl, hm, hrow⟩ := brw_of_read h0
  clear hA0 hval0
  refine (walk ao len cap F W hrow.1 hm).mono fun e W' ⟨he, bel⟩ => ?_
  subst he
  exact ⟨_, rfl, _, _, _, [], _, [], hW', trodAll_mk1 (shut_bool Try.underlying4 _), (trodAll_cons_mk (Below.trod laidOut (by kernel_rfl) (of_decide_eq_true (by kernel_rfl)) k0 bel lt0) trodAll_mk0), rfl, bel.frame _, fun h => by cases h⟩

theorem over : Rows.fnExactDigestRow.holds Try.pinned (OpenSpec.ofChange Rows.fnExactDigestSpec) :=
  OpenClaim.holds_of_wide 4 Try.f4 rfl rfl rfl rfl rfl rfl rfl ⟨rfl, rfl, rfl, rfl, rfl⟩ rfl rfl rfl rfl rfl (by kernel_rfl) Try.func4 (by kernel_rfl)
    (of_decide_eq_true (by kernel_rfl)) (by unfold Func.isWrapper; first | (rw [if_pos (by decide +kernel)]; kernel_rfl) | (rw [if_neg (by decide +kernel)]; exact ⟨rfl, rfl⟩))
    (fun os started H enc _ => lifted os started H enc)
end fnExactDigest
theorem fnExactDigest_holds : Rows.FnExactDigestSaid := fnExactDigest.over
end Go.Proofs.Ytfhecdedanlmfaa
