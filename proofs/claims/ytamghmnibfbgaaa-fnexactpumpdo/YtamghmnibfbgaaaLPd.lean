/-
  Proved: for every pump and every act, the program's PumpDo answers as the specification's (FnExactPumpDo returns true). No conditions.
-/
import Derived.Test.YtamghmnibfbgaaaCr
import Derived.Test.YtamghmnibfbgaaaCh
import Derived.Test.YtamghmnibfbgaaaCi
namespace Go.Proofs.Ytamghmnibfbgaaa
open Go.RowKit Va Ba

namespace fnExactPumpDo
open Go.ChangeShapes Go.WideShapes Go.ChangeAt Go.Joins
set_option linter.unusedVariables false

theorem own : ownKnob Try.prog.godebug = none := by kernel_rfl
theorem laidOut : laidOutB Try.prog = true := by kernel_rfl

set_option maxRecDepth 20000 in
set_option maxHeartbeats 4000000 in
theorem walk (p : Pm) (c : Ac) (w : World) : Calls Try.prog 8 #[aPm p, aAc c] w fun e w' => e = .returned (.bool true) ∧ Below w.heap.size w w' := by
  have hT := topump_any p
  have hU := toact_any c
  have hS := spdo_any p c
  have hI := ipdo_any p c
  generalize pdo p c = R at *
  obtain ⟨q, co⟩ := R
  dsimp only at hS hI
  have hQ : ∀ w, Calls Try.prog 23 #[aPm q, aPm q] w fun r w' => r = .returned (.bool true) ∧ Below w.heap.size w w' := fun w => (eqpump_any q q w).mono fun e w' ⟨h1, h2⟩ => ⟨by rw [h1, pmEq_self], h2⟩
  unfold aPm at hT hS hI hQ
  unfold aAc at hU hS hI
  unfold aPm aAc
  go_enter Try.func8, Try.ntmps8
  go_upto_region 1 with fail
  have hP := (PB.new w #[.int .i64 p.lim.sl, .int .i64 p.lim.sh, .int .i64 p.lim.hl, .int .i64 p.lim.hh, .int .i64 p.rate, .int .i64 p.asked, .int .i64 p.st, .bool p.door, .int .i64 p.left, .int .i64 p.given] 47).alloc (.cells #[.int .i64 c.kind, .int .i64 c.n] 53)
  have hA := PB.new (w.alloc (.cells #[.int .i64 p.lim.sl, .int .i64 p.lim.sh, .int .i64 p.lim.hl, .int .i64 p.lim.hh, .int .i64 p.rate, .int .i64 p.asked, .int .i64 p.st, .bool p.door, .int .i64 p.left, .int .i64 p.given] 47)) #[.int .i64 c.kind, .int .i64 c.n] 53
  have hb0 : Below w.heap.size w ((w.alloc (.cells #[.int .i64 p.lim.sl, .int .i64 p.lim.sh, .int .i64 p.lim.hl, .int .i64 p.lim.hh, .int .i64 p.rate, .int .i64 p.asked, .int .i64 p.st, .bool p.door, .int .i64 p.left, .int .i64 p.given] 47)).alloc (.cells #[.int .i64 c.kind, .int .i64 c.n] 53)) := by repeat (first | exact Below.refl _ _ | assumption | refine st_drew ?_ | refine st_drewN ?_ _ | refine Below.setCell ?_ (by first | omega | (simp; done) | (simp; omega)) _ | refine Below.alloc ?_ (by first | omega | (simp; done) | (simp; omega)) _)
  simp only [World.size_alloc] at hP hA
  generalize (w.alloc (.cells #[.int .i64 p.lim.sl, .int .i64 p.lim.sh, .int .i64 p.lim.hl, .int .i64 p.lim.hh, .int .i64 p.rate, .int .i64 p.asked, .int .i64 p.st, .bool p.door, .int .i64 p.left, .int .i64 p.given] 47)).alloc (.cells #[.int .i64 c.kind, .int .i64 c.n] 53) = wA at *
  generalize w.heap.size + 1 = B1 at *
  generalize Value.agg #[.int .i64 p.lim.sl, .int .i64 p.lim.sh, .int .i64 p.lim.hl, .int .i64 p.lim.hh, .int .i64 p.rate, .int .i64 p.asked, .int .i64 p.st, .bool p.door, .int .i64 p.left, .int .i64 p.given] = av
  generalize Value.agg #[.int .i64 c.kind, .int .i64 c.n] = av2
  go_cut [5, 6] (fun pv cv wx => ∃ B, pv = .pointer (some ⟨B, 0, none⟩) ∧ cv = .int .i64 co ∧ PB wx B #[.int .i64 q.lim.sl, .int .i64 q.lim.sh, .int .i64 q.lim.hl, .int .i64 q.lim.hh, .int .i64 q.rate, .int .i64 q.asked, .int .i64 q.st, .bool q.door, .int .i64 q.left, .int .i64 q.given] 27 ∧ Below wA.heap.size wA wx)
  case first =>
    refine regD1 (B0 := w.heap.size) (B1 := B1) (p := p) (q := q) (c := c) (co := co) rfl rfl rfl hP hA hT hU hS ?_
    rintro b' w7 hf hb7 ⟨B, h8, hB, hPB⟩ h10
    rw [layD1 hf, h8, h10]
    clear hT hU hS hI hQ
    generalize Rg.out (Rg.opsOf Try.f8 1) b' 0 = z0
    generalize Rg.out (Rg.opsOf Try.f8 1) b' 1 = z1
    generalize Rg.out (Rg.opsOf Try.f8 1) b' 2 = z2
    generalize Rg.out (Rg.opsOf Try.f8 1) b' 3 = z3
    generalize Rg.out (Rg.opsOf Try.f8 1) b' 4 = z4
    generalize Rg.out (Rg.opsOf Try.f8 1) b' 5 = z5
    generalize Rg.out (Rg.opsOf Try.f8 1) b' 6 = z6
    generalize Rg.out (Rg.opsOf Try.f8 1) b' 7 = z7
    generalize Rg.out (Rg.opsOf Try.f8 1) b' 9 = z9
    go_frame
    go_wp2_with fail
    go_meet
    case rel => exact ⟨B, rfl, rfl, hPB, hb7⟩
  case rest =>
  obtain ⟨B, rfl, rfl, hPB, hb1⟩ := hcut
  rename World => w1
  have hP1 := hP.below hb1
  have hA1 := hA.below hb1
  have hb2 := onto hb0 hb1
  clear hP hA hb0 hb1 hS
  go_upto_region 2 with fail
  go_cut [7, 8] (fun pv cv wx => ∃ B, pv = .pointer (some ⟨B, 0, none⟩) ∧ cv = .int .i64 co ∧ PB wx B #[.int .i64 q.lim.sl, .int .i64 q.lim.sh, .int .i64 q.lim.hl, .int .i64 q.lim.hh, .int .i64 q.rate, .int .i64 q.asked, .int .i64 q.st, .bool q.door, .int .i64 q.left, .int .i64 q.given] 27 ∧ Below w1.heap.size w1 wx)
  case first =>
    refine regD2 (B0 := w.heap.size) (B1 := B1) (p := p) (q := q) (c := c) (co := co) rfl rfl rfl hP1 hA1 hT hU hI ?_
    rintro b' w7 hf hb7 ⟨B, h8, hB, hPB⟩ h10
    rw [layD2 hf, h8, h10]
    clear hT hU hI hQ
    generalize Rg.out (Rg.opsOf Try.f8 2) b' 0 = z0
    generalize Rg.out (Rg.opsOf Try.f8 2) b' 1 = z1
    generalize Rg.out (Rg.opsOf Try.f8 2) b' 2 = z2
    generalize Rg.out (Rg.opsOf Try.f8 2) b' 3 = z3
    generalize Rg.out (Rg.opsOf Try.f8 2) b' 4 = z4
    generalize Rg.out (Rg.opsOf Try.f8 2) b' 5 = z5
    generalize Rg.out (Rg.opsOf Try.f8 2) b' 6 = z6
    generalize Rg.out (Rg.opsOf Try.f8 2) b' 7 = z7
    generalize Rg.out (Rg.opsOf Try.f8 2) b' 9 = z9
    go_frame
    go_wp2_with fail
    go_meet
    case rel => exact ⟨B, rfl, rfl, hPB, hb7⟩
  case rest =>
  obtain ⟨B', rfl, rfl, hPB', hb3⟩ := hcut
  rename World => w2
  have hPB2 := hPB.below hb3
  have HB := hidden (onto hb2 hb3)
  clear hP1 hA1 hb2 hb3 hPB hT hU hI
  obtain ⟨d0, d1, d2, d3, d4, d5, d6, d7, d8, d9⟩ := hPB2.ten
  obtain ⟨e0, e1, e2, e3, e4, e5, e6, e7, e8, e9⟩ := hPB'.ten
  clear hPB2 hPB'
  go_wp2_with (with_reducible refine (hQ _).mono ?_; rintro e w7 ⟨rfl, hb7⟩)
  all_goals go_ret
  all_goals exact ⟨rfl, onto HB.out (by assumption)⟩

set_option maxRecDepth 100000 in
theorem lifted (os : Os) (started : os.Started) (H : Type) (enc : TypeId × Value → H) :
    ReturnsInHanded {} Try.checked os 8 .any (Rows.fnExactPumpDoSpec.pre6 enc Try.prog Try.f8 Rows.fnExactPumpDoRow.domain false) (Rows.fnExactPumpDoSpec.post enc Try.prog Try.f8 false true false false) := by
  refine returnsInHanded_of_change (C := Try.checked) own started (by kernel_rfl) Try.func8
    (ChangeSpec.witness6 (enc := enc) (C := Try.checked) false ⟨#[], #[.agg #[.int .i64 0, .int .i64 0, .int .i64 0, .int .i64 0, .int .i64 0, .int .i64 0, .int .i64 0, .bool false, .int .i64 0, .int .i64 0], .agg #[.int .i64 0, .int .i64 0]], []⟩ 8 (by kernel_rfl) (by kernel_rfl) (by kernel_rfl) (by kernel_rfl)) ?_
  intro W base args ds gs before hval0 hW hcnd _
  have hval : ∀ (j : Nat) t v, Try.f8.params[j]? = some t → args[j]? = some v → Value.okWide Try.prog W .any base t v := hval0
  have hW' := hW
  obtain ⟨p, q, hA0, hV, rfl, hfz, hnd⟩ := hW
  have hA : DataW.TrodAll enc Try.prog W 0 (fun _ => true) true Try.f8.params.toList args.toList ds p := hA0
  rw [Try.params8] at hA hval
  obtain ⟨v0, vs0, d0, ds0, p0, q0, hargs, rfl, rfl, h0, r0⟩ := trodAll_cons hA
  obtain ⟨v1, vs1, d1, ds1, p1, q1, rfl, rfl, rfl, h1, r1⟩ := trodAll_cons r0
  obtain ⟨rfl, rfl, rfl⟩ := trodAll_nil r1
  obtain rfl : args = #[v0, v1] := by cases args; simp_all
  obtain ⟨rfl, rfl⟩ := trodVars_none hV
  have k0 := h0
  have lt0 : ∀ x ∈ p0, x.block < W.heap.size := by obtain ⟨m, hm⟩ := k0; exact DataW.trod_lt m _ _ _ hm
  obtain ⟨p, rfl⟩ := pump_of_read (hval 0 47 v0 rfl rfl) h0
  have k1 := h1
  have lt1 : ∀ x ∈ p1, x.block < W.heap.size := by obtain ⟨m, hm⟩ := k1; exact DataW.trod_lt m _ _ _ hm
  obtain ⟨c, rfl⟩ := act_of_read (hval 1 53 v1 rfl rfl) h1
  clear hA0 hval0
  refine (walk p c W).mono fun e W' ⟨he, bel⟩ => ?_
  subst he
  exact ⟨_, rfl, _, _, _, [], _, [], hW', trodAll_mk1 (shut_bool Try.underlying4 _), (trodAll_cons_mk (Below.trod laidOut (by kernel_rfl) (of_decide_eq_true (by kernel_rfl)) k0 bel lt0) (trodAll_cons_mk (Below.trod laidOut (by kernel_rfl) (of_decide_eq_true (by kernel_rfl)) k1 bel lt1) trodAll_mk0)), rfl, bel.frame _, fun h => by cases h⟩

theorem over : Rows.fnExactPumpDoRow.holds Try.pinned (OpenSpec.ofChange Rows.fnExactPumpDoSpec) :=
  OpenClaim.holds_of_wide 8 Try.f8 rfl rfl rfl rfl rfl rfl rfl ⟨rfl, rfl, rfl, rfl, rfl⟩ rfl rfl rfl rfl rfl (by kernel_rfl) Try.func8 (by kernel_rfl)
    (of_decide_eq_true (by kernel_rfl)) (by unfold Func.isWrapper; first | (rw [if_pos (by decide +kernel)]; kernel_rfl) | (rw [if_neg (by decide +kernel)]; exact ⟨rfl, rfl⟩))
    (fun os started H enc _ => lifted os started H enc)
end fnExactPumpDo
theorem fnExactPumpDo_holds : Rows.FnExactPumpDoSaid := fnExactPumpDo.over
end Go.Proofs.Ytamghmnibfbgaaa
