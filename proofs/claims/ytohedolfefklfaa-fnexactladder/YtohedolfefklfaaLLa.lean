/-
  Proved: for every list of waits and every number of minutes, the program's Ladder answers as the specification's, and writes into no argument (FnExactLadder returns true). No conditions.
-/
import Derived.Test.YtohedolfefklfaaOm
import Derived.Test.YtohedolfefklfaaAc
namespace Go.Proofs.Ytohedolfefklfaa
open Go.RowKit Va Oa

theorem ints_of_read {H : Type} {enc : TypeId × Value → H} {W : World} {sp : Nat → Bool} {hd : Bool} {ao : Option Addr} {n cap : Nat} {d : DataW H} {p : List MemPlace}
    (h : DataW.Trod enc Try.prog W 0 sp hd 24 (.slice ao n cap) d p) : ∃ l : List Int, l.length = n ∧ n ≤ maxLen ∧ IRw W (.slice ao n cap) l := by
  obtain ⟨fuel, hf⟩ := h
  obtain ⟨tv, l, h1, h2, h3⟩ := irw_of_trod Try.underlying24 Try.underlying2 (by kernel_rfl) hf
  simp [Value.cells] at h1
  subst h1
  have := h3.len
  exact ⟨l, this.symm, by omega, h3⟩

namespace fnExactLadder
open Go.ChangeShapes Go.WideShapes Go.ChangeAt Go.Joins
set_option linter.unusedVariables false

theorem own : ownKnob Try.prog.godebug = none := by kernel_rfl
theorem laidOut : laidOutB Try.prog = true := by kernel_rfl

set_option maxRecDepth 20000 in
set_option maxHeartbeats 2000000 in
theorem walk (ao : Option Addr) (len cap : Nat) (l : List Int) (who : Int) (w : World) (h : IRw w (.slice ao len cap) l) (hl : l.length = len) (hm : len ≤ maxLen) :
    Calls Try.prog 7 #[.slice ao len cap, .int .i64 who] w fun e w' => e = .returned (.bool true) ∧ Below w.heap.size w w' := by
  have HJ := hidden h
  have hm2 : (len : Int) ≤ 9223372036854775807 := by unfold maxLen at hm; omega
  by_cases hb : 1048576 < len
  · have hb1 : (1048576 : Int) < (len : Int) := by omega
    clear h hl hm
    go_enter Try.func7, Try.ntmps7
    go_wp2_with fail
    go_ret
    exact ⟨rfl, Below.refl _ _⟩
  have hb1 : ¬ (1048576 : Int) < (len : Int) := by omega
  have HL : Hid (l.length ≤ 1048576) := by rw [hl]; exact Nat.le_of_not_lt hb
  have HT := hidden (fun W hW => toints_any ao len cap l W hW HL.out)
  clear h hl hm
  go_enter Try.func7, Try.ntmps7
  go_wp2_with fail
  refine (HT.out _ HJ.out).mono ?_
  rintro e w1 ⟨rfl, hj1, b1⟩
  have R1 := hidden (out_irw hj1 l.length (Nat.le_refl _))
  clear hj1
  go_wp2_with fail
  refine (sladder_any _ _ _ l who _ R1.out HL.out).mono ?_
  rintro e w2 ⟨rfl, rfl⟩
  clear R1
  go_wp2_with fail
  refine (HT.out _ (HJ.out.below b1)).mono ?_
  rintro e w3 ⟨rfl, hj3, hb3⟩
  have b3 := onto b1 hb3
  have R3 := hidden (out_irw hj3 l.length (Nat.le_refl _))
  clear hb3 b1 hj3
  go_wp2_with fail
  refine (iladder_any _ _ _ l who _ R3.out HL.out).mono ?_
  rintro e w4 ⟨rfl, rfl⟩
  generalize ladder l who = t
  go_wp2_with fail
  refine (HT.out _ (HJ.out.below b3)).mono ?_
  rintro e w5 ⟨rfl, hj5, hb5⟩
  have b5 := onto b3 hb5
  have R6 := hidden (R3.out.below hb5)
  have R5 := hidden (out_irw hj5 l.length (Nat.le_refl _))
  clear hb5 R3 b3 hj5
  go_wp2_with fail
  refine (eqints_any _ _ _ _ _ _ l _ R6.out R5.out HL.out).mono ?_
  rintro e w6 ⟨rfl, hb6⟩
  have b6 := onto b5 hb6
  clear hb6 R5 R6 b5
  go_wp2_with fail
  go_ret
  exact ⟨rfl, b6⟩

set_option maxRecDepth 100000 in
theorem lifted (os : Os) (started : os.Started) (H : Type) (enc : TypeId × Value → H) :
    ReturnsInHanded {} Try.checked os 7 .any (Rows.fnExactLadderSpec.pre6 enc Try.prog Try.f7 Rows.fnExactLadderRow.domain false) (Rows.fnExactLadderSpec.post enc Try.prog Try.f7 false true false false) := by
  refine returnsInHanded_of_change (C := Try.checked) own started (by kernel_rfl) Try.func7
    (ChangeSpec.witness6 (enc := enc) (C := Try.checked) false ⟨#[], #[.slice none 0 0, .int .i64 0], []⟩ 8 (by kernel_rfl) (by kernel_rfl) (by kernel_rfl) (by kernel_rfl)) ?_
  intro W base args ds gs before hval0 hW hcnd _
  have hval : ∀ (j : Nat) t v, Try.f7.params[j]? = some t → args[j]? = some v → Value.okWide Try.prog W .any base t v := hval0
  have hW' := hW
  obtain ⟨p, q, hA0, hV, rfl, hfz, hnd⟩ := hW
  have hA : DataW.TrodAll enc Try.prog W 0 (fun _ => true) true Try.f7.params.toList args.toList ds p := hA0
  rw [Try.params7] at hA hval
  obtain ⟨v0, vs0, d0, ds0, p0, q0, hargs, rfl, rfl, h0, r0⟩ := trodAll_cons hA
  obtain ⟨v1, vs1, d1, ds1, p1, q1, rfl, rfl, rfl, h1, r1⟩ := trodAll_cons r0
  obtain ⟨rfl, rfl, rfl⟩ := trodAll_nil r1
  obtain rfl : args = #[v0, v1] := by cases args; simp_all
  obtain ⟨rfl, rfl⟩ := trodVars_none hV
  have k0 := h0
  have lt0 : ∀ x ∈ p0, x.block < W.heap.size := by obtain ⟨m, hm⟩ := k0; exact DataW.trod_lt m _ _ _ hm
  obtain ⟨ao, len, cap, rfl⟩ := okWide_slice Try.underlying24 (hval 0 24 v0 rfl rfl)
  obtain ⟨l, hl, hm, hrow⟩ := ints_of_read h0
  obtain ⟨x1, rfl, rfl, rfl, k1⟩ := open_int Try.underlying2 (hval 1 2 v1 rfl rfl) h1
  clear hA0 hval0
  refine (walk ao len cap l x1 W hrow hl hm).mono fun e W' ⟨he, bel⟩ => ?_
  subst he
  exact ⟨_, rfl, _, _, _, [], _, [], hW', trodAll_mk1 (shut_bool Try.underlying4 _), (trodAll_cons_mk (Below.trod laidOut (by kernel_rfl) (of_decide_eq_true (by kernel_rfl)) k0 bel lt0) (trodAll_cons_mk (shut_int Try.underlying2 k1) trodAll_mk0)), rfl, bel.frame _, fun h => by cases h⟩

theorem over : Rows.fnExactLadderRow.holds Try.pinned (OpenSpec.ofChange Rows.fnExactLadderSpec) :=
  OpenClaim.holds_of_wide 7 Try.f7 rfl rfl rfl rfl rfl rfl rfl ⟨rfl, rfl, rfl, rfl, rfl⟩ rfl rfl rfl rfl rfl (by kernel_rfl) Try.func7 (by kernel_rfl)
    (of_decide_eq_true (by kernel_rfl)) (by unfold Func.isWrapper; first | (rw [if_pos (by decide +kernel)]; kernel_rfl) | (rw [if_neg (by decide +kernel)]; exact ⟨rfl, rfl⟩))
    (fun os started H enc _ => lifted os started H enc)
end fnExactLadder
theorem fnExactLadder_holds : Rows.FnExactLadderSaid := fnExactLadder.over
end Go.Proofs.Ytohedolfefklfaa
