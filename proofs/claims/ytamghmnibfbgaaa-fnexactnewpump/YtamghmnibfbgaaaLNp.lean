/-
  Proved: for every limit and every number, the program's NewPump answers as the specification's (FnExactNewPump returns true). No conditions.
-/
import Derived.Test.YtamghmnibfbgaaaCr
import Derived.Test.YtamghmnibfbgaaaCb
namespace Go.Proofs.Ytamghmnibfbgaaa
open Go.RowKit Va Ba

namespace fnExactNewPump
open Go.ChangeShapes Go.WideShapes Go.ChangeAt Go.Joins
set_option linter.unusedVariables false

theorem own : ownKnob Try.prog.godebug = none := by kernel_rfl
theorem laidOut : laidOutB Try.prog = true := by kernel_rfl

set_option maxRecDepth 20000 in
set_option maxHeartbeats 4000000 in
theorem walk (l : Lm) (n : Int) (w : World) : Calls Try.prog 7 #[aL l, .int .i64 n] w fun e w' => e = .returned (.bool true) ∧ Below w.heap.size w w' := by
  have hT := tolim_any l
  have hS := snew_any l n
  have hI := inew_any l n
  generalize Ba.new l n = R at *
  obtain ⟨q, b⟩ := R
  dsimp only at hS hI
  have hQ : ∀ w, Calls Try.prog 23 #[aPm q, aPm q] w fun r w' => r = .returned (.bool true) ∧ Below w.heap.size w w' := fun w => (eqpump_any q q w).mono fun e w' ⟨h1, h2⟩ => ⟨by rw [h1, pmEq_self], h2⟩
  unfold aPm at hS hI hQ
  unfold aL at *
  go_enter Try.func7, Try.ntmps7
  go_upto_region 1 with fail
  have hP := PB.new w #[.int .i64 l.sl, .int .i64 l.sh, .int .i64 l.hl, .int .i64 l.hh] 45
  have hb0 : Below w.heap.size w (w.alloc (.cells #[.int .i64 l.sl, .int .i64 l.sh, .int .i64 l.hl, .int .i64 l.hh] 45)) := (Below.refl _ _).alloc (Nat.le_refl _) _
  generalize w.alloc (.cells #[.int .i64 l.sl, .int .i64 l.sh, .int .i64 l.hl, .int .i64 l.hh] 45) = wA at *
  generalize hav : Value.agg #[.int .i64 l.sl, .int .i64 l.sh, .int .i64 l.hl, .int .i64 l.hh] = av
  rw [hav] at hT hS hI
  have HP := hidden hP
  have HB := hidden hb0
  obtain ⟨c0, c1, c2, c3⟩ := hP.four
  clear hP hb0
  go_wp2_with fail
  try rw [hav]
  refine (hT _).mono ?_
  rintro e w1 ⟨rfl, hb1⟩
  go_wp2_with fail
  refine (hS _).mono ?_
  rintro e w2 ⟨rfl, hb2⟩
  have hP2 := (HP.out.below hb1).below hb2
  have hB2 := onto (onto HB.out hb1) hb2
  go_upto_region 2 with fail
  have hQ1 := PB.new w2 #[.int .i64 q.lim.sl, .int .i64 q.lim.sh, .int .i64 q.lim.hl, .int .i64 q.lim.hh, .int .i64 q.rate, .int .i64 q.asked, .int .i64 q.st, .bool q.door, .int .i64 q.left, .int .i64 q.given] 27
  have hP3 := hP2.alloc (.cells #[.int .i64 q.lim.sl, .int .i64 q.lim.sh, .int .i64 q.lim.hl, .int .i64 q.lim.hh, .int .i64 q.rate, .int .i64 q.asked, .int .i64 q.st, .bool q.door, .int .i64 q.left, .int .i64 q.given] 27)
  have hB3 : Below w.heap.size w (w2.alloc (.cells #[.int .i64 q.lim.sl, .int .i64 q.lim.sh, .int .i64 q.lim.hl, .int .i64 q.lim.hh, .int .i64 q.rate, .int .i64 q.asked, .int .i64 q.st, .bool q.door, .int .i64 q.left, .int .i64 q.given] 27)) := hB2.alloc hB2.size _
  generalize w2.alloc (.cells #[.int .i64 q.lim.sl, .int .i64 q.lim.sh, .int .i64 q.lim.hl, .int .i64 q.lim.hh, .int .i64 q.rate, .int .i64 q.asked, .int .i64 q.st, .bool q.door, .int .i64 q.left, .int .i64 q.given] 27) = w3 at *
  clear hb1 hb2 hP2 hB2 c0 c1 c2 c3 HP HB
  have HQ1 := hidden hQ1
  have HB := hidden hB3
  obtain ⟨c0, c1, c2, c3⟩ := hP3.four
  clear hQ1 hB3 hP3
  generalize w2.heap.size = B1 at *
  go_wp2_with fail
  try rw [hav]
  refine (hT _).mono ?_
  rintro e w4 ⟨rfl, hb1⟩
  go_wp2_with fail
  refine (hI _).mono ?_
  rintro e w5 ⟨rfl, hb2⟩
  have hQ2 := (HQ1.out.below hb1).below hb2
  have hB2 := onto (onto HB.out hb1) hb2
  go_upto_region 3 with fail
  have hQ3 := PB.new w5 #[.int .i64 q.lim.sl, .int .i64 q.lim.sh, .int .i64 q.lim.hl, .int .i64 q.lim.hh, .int .i64 q.rate, .int .i64 q.asked, .int .i64 q.st, .bool q.door, .int .i64 q.left, .int .i64 q.given] 27
  have hQ4 := hQ2.alloc (.cells #[.int .i64 q.lim.sl, .int .i64 q.lim.sh, .int .i64 q.lim.hl, .int .i64 q.lim.hh, .int .i64 q.rate, .int .i64 q.asked, .int .i64 q.st, .bool q.door, .int .i64 q.left, .int .i64 q.given] 27)
  have hB3 : Below w.heap.size w (w5.alloc (.cells #[.int .i64 q.lim.sl, .int .i64 q.lim.sh, .int .i64 q.lim.hl, .int .i64 q.lim.hh, .int .i64 q.rate, .int .i64 q.asked, .int .i64 q.st, .bool q.door, .int .i64 q.left, .int .i64 q.given] 27)) := hB2.alloc hB2.size _
  generalize w5.alloc (.cells #[.int .i64 q.lim.sl, .int .i64 q.lim.sh, .int .i64 q.lim.hl, .int .i64 q.lim.hh, .int .i64 q.rate, .int .i64 q.asked, .int .i64 q.st, .bool q.door, .int .i64 q.left, .int .i64 q.given] 27) = w6 at *
  clear hb1 hb2 hQ2 hB2 c0 c1 c2 c3 HQ1 HB
  have HB := hidden hB3
  obtain ⟨d0, d1, d2, d3, d4, d5, d6, d7, d8, d9⟩ := hQ3.ten
  obtain ⟨e0, e1, e2, e3, e4, e5, e6, e7, e8, e9⟩ := hQ4.ten
  clear hQ3 hQ4 hB3
  generalize w5.heap.size = B2 at *
  go_wp2_with (with_reducible refine (hQ _).mono ?_; rintro e w7 ⟨rfl, hb7⟩)
  all_goals go_ret
  all_goals exact ⟨rfl, onto HB.out (by assumption)⟩

set_option maxRecDepth 100000 in
theorem lifted (os : Os) (started : os.Started) (H : Type) (enc : TypeId × Value → H) :
    ReturnsInHanded {} Try.checked os 7 .any (Rows.fnExactNewPumpSpec.pre6 enc Try.prog Try.f7 Rows.fnExactNewPumpRow.domain false) (Rows.fnExactNewPumpSpec.post enc Try.prog Try.f7 false true false false) := by
  refine returnsInHanded_of_change (C := Try.checked) own started (by kernel_rfl) Try.func7
    (ChangeSpec.witness6 (enc := enc) (C := Try.checked) false ⟨#[], #[.agg #[.int .i64 0, .int .i64 0, .int .i64 0, .int .i64 0], .int .i64 0], []⟩ 8 (by kernel_rfl) (by kernel_rfl) (by kernel_rfl) (by kernel_rfl)) ?_
  intro W base args ds gs before hval0 hW hcnd _
  have hval : ∀ (j : Nat) t v, Try.f7.params[j]? = some t → args[j]? = some v → Value.okWide Try.prog W .any base t v := hval0
  have hW' := hW
  obtain ⟨p, q, hA0, hV, rfl, hfz, hnd⟩ := hW
  have hA : DataW.TrodAll enc Try.prog W 0 (fun _ => true) true Try.f7.params.toList args.toList ds p := hA0
  rw [Try.params7] at hA hval
  obtain ⟨v0, vs0, d0, ds0, p0, q0, hargs, rfl, rfl, h0, r0⟩ := trodAll_cons hA
  obtain ⟨v1, vs1, d1, ds1, p1, q1, rfl, rfl, rfl, h1, r1⟩ := trodAll_cons r0
  obtain ⟨rfl, rfl, rfl⟩ := trodAll_nil r1
  obtain rfl : args = #[v0, v1] := by cases args; simp_all
  obtain ⟨rfl, rfl⟩ := trodVars_none hV
  have k0 := h0
  have lt0 : ∀ x ∈ p0, x.block < W.heap.size := by obtain ⟨m, hm⟩ := k0; exact DataW.trod_lt m _ _ _ hm
  obtain ⟨l, rfl⟩ := limit_of_read (hval 0 45 v0 rfl rfl) h0
  obtain ⟨n, rfl, rfl, rfl, k1⟩ := open_int Try.underlying2 (hval 1 2 v1 rfl rfl) h1
  clear hA0 hval0
  refine (walk l n W).mono fun e W' ⟨he, bel⟩ => ?_
  subst he
  exact ⟨_, rfl, _, _, _, [], _, [], hW', trodAll_mk1 (shut_bool Try.underlying4 _), (trodAll_cons_mk (Below.trod laidOut (by kernel_rfl) (of_decide_eq_true (by kernel_rfl)) k0 bel lt0) (trodAll_cons_mk (shut_int Try.underlying2 k1) trodAll_mk0)), rfl, bel.frame _, fun h => by cases h⟩

theorem over : Rows.fnExactNewPumpRow.holds Try.pinned (OpenSpec.ofChange Rows.fnExactNewPumpSpec) :=
  OpenClaim.holds_of_wide 7 Try.f7 rfl rfl rfl rfl rfl rfl rfl ⟨rfl, rfl, rfl, rfl, rfl⟩ rfl rfl rfl rfl rfl (by kernel_rfl) Try.func7 (by kernel_rfl)
    (of_decide_eq_true (by kernel_rfl)) (by unfold Func.isWrapper; first | (rw [if_pos (by decide +kernel)]; kernel_rfl) | (rw [if_neg (by decide +kernel)]; exact ⟨rfl, rfl⟩))
    (fun os started H enc _ => lifted os started H enc)
end fnExactNewPump
theorem fnExactNewPump_holds : Rows.FnExactNewPumpSaid := fnExactNewPump.over
end Go.Proofs.Ytamghmnibfbgaaa
