/-
  Proved: for every list of joins and every number, the program's PersonOf answers as the specification's, and writes into no argument (FnExactPersonOf returns true). No conditions.
-/
import Derived.Test.YtdnnenklkfkhcalPj
namespace Go.Proofs.Ytdnnenklkfkhcal
open Go.RowKit Jn

namespace fnExactPersonOf
open Go.ChangeShapes Go.WideShapes Go.ChangeAt Go.Joins
set_option linter.unusedVariables false

theorem own : ownKnob Try.prog.godebug = none := by kernel_rfl
theorem laidOut : laidOutB Try.prog = true := by kernel_rfl

set_option maxRecDepth 20000 in
set_option maxHeartbeats 2000000 in
theorem walk (ao : Option Addr) (len cap : Nat) (l : List J) (x : Int) (w : World) (h : JRow w (.slice ao len cap) l) (hl : l.length = len) (hm : len ≤ maxLen) :
    Calls Try.prog 3 #[.slice ao len cap, .int .i64 x] w fun e w' => e = .returned (.bool true) ∧ Below w.heap.size w w' := by
  have hS := sz_any ao len cap w (by unfold maxLen at hm; omega)
  by_cases hbig : (1048576 : Int) < (len : Int)
  · rw [if_pos hbig] at hS
    clear h
    go_enter Try.func3, Try.ntmps3
    go_wp2_with fail
    refine hS.mono ?_
    rintro e w1 ⟨rfl, hw1⟩
    have hw2 := hw1.symm
    clear hw1
    subst hw2
    go_wp2_with fail
    go_ret
    exact ⟨rfl, Below.refl _ _⟩
  rw [if_neg hbig] at hS
  have hn : ¬ (1048576 : Int) - len < 0 := by omega
  have hll : l.length ≤ 1048576 := by omega
  have HT := hidden (fun W hW => tos_any (.slice ao len cap) l W hW hll)
  have HJ := hidden h
  have HL := hidden hll
  clear h hl hll
  go_enter Try.func3, Try.ntmps3
  go_wp2_with fail
  refine hS.mono ?_
  rintro e w1 ⟨rfl, hw1⟩
  have hw2 := hw1.symm
  clear hw1 hS
  subst hw2
  go_wp2_with fail
  refine (HT.out _ HJ.out).mono ?_
  rintro e w1 ⟨v1, rfl, hj1, b1⟩
  go_wp2_with fail
  refine (spers_any v1 l x _ hj1).mono ?_
  rintro e w2 ⟨rfl, hb2⟩
  have b2 := onto b1 hb2
  clear hb2 hj1 b1
  go_wp2_with fail
  refine (HT.out _ (HJ.out.below b2)).mono ?_
  rintro e w3 ⟨v3, rfl, hj3, hb3⟩
  have b3 := onto b2 hb3
  clear hb3 b2
  go_wp2_with fail
  refine (ipers_any v3 l x _ hj3).mono ?_
  rintro e w4 ⟨rfl, hb4⟩
  have b4 := onto b3 hb4
  have hj4 := hj3.below hb4
  clear hb4 hj3 b3
  generalize person l x = t
  go_wp2_with fail
  refine (HT.out _ (HJ.out.below b4)).mono ?_
  rintro e w5 ⟨v5, rfl, hj5, hb5⟩
  have b5 := onto b4 hb5
  have hj6 := hj4.below hb5
  clear hb5 hj4 b4
  go_wp2_with fail
  refine (eqs_any v3 v5 l _ hj6 hj5 HL.out).mono ?_
  rintro e w6 ⟨rfl, hb6⟩
  have b6 := onto b5 hb6
  clear hb6 hj5 hj6 b5
  go_wp2_with fail
  go_ret
  exact ⟨rfl, b6⟩

set_option maxRecDepth 100000 in
theorem lifted (os : Os) (started : os.Started) (H : Type) (enc : TypeId × Value → H) :
    ReturnsInHanded {} Try.checked os 3 .any (Rows.fnExactPersonOfSpec.pre6 enc Try.prog Try.f3 Rows.fnExactPersonOfRow.domain false) (Rows.fnExactPersonOfSpec.post enc Try.prog Try.f3 false true false false) := by
  refine returnsInHanded_of_change (C := Try.checked) own started (by kernel_rfl) Try.func3
    (ChangeSpec.witness6 (enc := enc) (C := Try.checked) false ⟨#[], #[.slice none 0 0, .int .i64 0], []⟩ 8 (by kernel_rfl) (by kernel_rfl) (by kernel_rfl) (by kernel_rfl)) ?_
  intro W base args ds gs before hval0 hW hcnd _
  have hval : ∀ (j : Nat) t v, Try.f3.params[j]? = some t → args[j]? = some v → Value.okWide Try.prog W .any base t v := hval0
  have hW' := hW
  obtain ⟨p, q, hA0, hV, rfl, hfz, hnd⟩ := hW
  have hA : DataW.TrodAll enc Try.prog W 0 (fun _ => true) true Try.f3.params.toList args.toList ds p := hA0
  rw [Try.params3] at hA hval
  obtain ⟨v0, vs0, d0, ds0, p0, q0, hargs, rfl, rfl, h0, r0⟩ := trodAll_cons hA
  obtain ⟨v1, vs1, d1, ds1, p1, q1, rfl, rfl, rfl, h1, r1⟩ := trodAll_cons r0
  obtain ⟨rfl, rfl, rfl⟩ := trodAll_nil r1
  obtain rfl : args = #[v0, v1] := by cases args; simp_all
  obtain ⟨rfl, rfl⟩ := trodVars_none hV
  obtain ⟨ao, len, cap, rfl⟩ := okWide_slice Try.underlying22 (hval 0 22 v0 rfl rfl)
  have k0 := h0
  have lt0 : ∀ x ∈ p0, x.block < W.heap.size := by obtain ⟨m, hm⟩ := k0; exact DataW.trod_lt m _ _ _ hm
  obtain ⟨l, hl, hm, hrow⟩ := joins_of_read Try.underlying22 Try.underlying43 (by kernel_rfl) rfl rfl (by kernel_rfl) (by kernel_rfl) Try.underlying2 Try.underlying2 h0
  obtain ⟨a1, rfl, rfl, rfl, w1⟩ := open_int Try.underlying2 (hval 1 2 v1 rfl rfl) h1
  clear hA0 hval0
  refine (walk ao len cap l a1 W hrow hl hm).mono fun e W' ⟨he, bel⟩ => ?_
  subst he
  exact ⟨_, rfl, _, _, _, [], _, [], hW', trodAll_mk1 (shut_bool Try.underlying4 _), (trodAll_cons_mk (Below.trod laidOut (by kernel_rfl) (of_decide_eq_true (by kernel_rfl)) k0 bel lt0) (trodAll_cons_mk (shut_int Try.underlying2 w1) trodAll_mk0)), rfl, bel.frame _, fun h => by cases h⟩

theorem over : Rows.fnExactPersonOfRow.holds Try.pinned (OpenSpec.ofChange Rows.fnExactPersonOfSpec) :=
  OpenClaim.holds_of_wide 3 Try.f3 rfl rfl rfl rfl rfl rfl rfl ⟨rfl, rfl, rfl, rfl, rfl⟩ rfl rfl rfl rfl rfl (by kernel_rfl) Try.func3 (by kernel_rfl)
    (of_decide_eq_true (by kernel_rfl)) (by unfold Func.isWrapper; first | (rw [if_pos (by decide +kernel)]; kernel_rfl) | (rw [if_neg (by decide +kernel)]; exact ⟨rfl, rfl⟩))
    (fun os started H enc _ => lifted os started H enc)
end fnExactPersonOf
theorem fnExactPersonOf_holds : Rows.FnExactPersonOfSaid := fnExactPersonOf.over
end Go.Proofs.Ytdnnenklkfkhcal
