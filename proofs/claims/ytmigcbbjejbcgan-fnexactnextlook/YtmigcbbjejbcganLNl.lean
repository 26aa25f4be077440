/-
  Proved: for every vital and every time, the program's NextLook answers as the specification's (FnExactNextLook returns true). No conditions.
-/
import Derived.Test.YtmigcbbjejbcganVp
import Derived.Test.YtmigcbbjejbcganVj
namespace Go.Proofs.Ytmigcbbjejbcgan
open Go.RowKit Va

namespace fnExactNextLook
open Go.ChangeShapes Go.WideShapes Go.ChangeAt Go.Joins
set_option linter.unusedVariables false

theorem own : ownKnob Try.prog.godebug = none := by kernel_rfl
theorem laidOut : laidOutB Try.prog = true := by kernel_rfl

set_option maxRecDepth 20000 in
set_option maxHeartbeats 4000000 in
theorem walk (x : Vt) (t : Int) (w : World) : Calls Try.prog 3 #[aV x, .int .i64 t] w fun e w' => e = .returned (.bool true) ∧ Below w.heap.size w w' := by
  have hT := tovit_any x
  have hS := fun W => slook_any x t W
  have hI := fun W => ilook_any x t W
  unfold aV at *
  generalize Va.look x t = s at *
  go_enter Try.func3, Try.ntmps3
  have hb0 : Below w.heap.size w (w.alloc (.cells #[.int .i64 x.b, .int .i64 x.o, .int .i64 x.p, .int .i64 x.u, .int .i64 x.a, .int .i64 x.h] 23)) := (Below.refl _ _).alloc (Nat.le_refl _) _
  go_wp2_with fail
  refine (hT _).mono ?_
  rintro e w1 ⟨rfl, hb1⟩
  have b1 := onto hb0 hb1
  go_wp2_with fail
  refine (hS _).mono ?_
  rintro e w2 ⟨rfl, hb2⟩
  have b2 := onto b1 hb2
  have z1 := hb1.size
  have z2 := hb2.size
  simp only [World.size_alloc] at z1
  have c0 : w2.cell? ⟨w.heap.size, 0, none⟩ = some (.int .i64 x.b) := ((bcell hb2).1 _ _ (by omega)).trans (((bcell hb1).1 _ _ (by first | omega | (simp; done) | (simp; omega))).trans (by simp))
  have c1 : w2.cell? ⟨w.heap.size, 1, none⟩ = some (.int .i64 x.o) := ((bcell hb2).1 _ _ (by omega)).trans (((bcell hb1).1 _ _ (by first | omega | (simp; done) | (simp; omega))).trans (by simp))
  have c2 : w2.cell? ⟨w.heap.size, 2, none⟩ = some (.int .i64 x.p) := ((bcell hb2).1 _ _ (by omega)).trans (((bcell hb1).1 _ _ (by first | omega | (simp; done) | (simp; omega))).trans (by simp))
  have c3 : w2.cell? ⟨w.heap.size, 3, none⟩ = some (.int .i64 x.u) := ((bcell hb2).1 _ _ (by omega)).trans (((bcell hb1).1 _ _ (by first | omega | (simp; done) | (simp; omega))).trans (by simp))
  have c4 : w2.cell? ⟨w.heap.size, 4, none⟩ = some (.int .i64 x.a) := ((bcell hb2).1 _ _ (by omega)).trans (((bcell hb1).1 _ _ (by first | omega | (simp; done) | (simp; omega))).trans (by simp))
  have c5 : w2.cell? ⟨w.heap.size, 5, none⟩ = some (.int .i64 x.h) := ((bcell hb2).1 _ _ (by omega)).trans (((bcell hb1).1 _ _ (by first | omega | (simp; done) | (simp; omega))).trans (by simp))
  clear hb1 hb2 z1 z2 b1 hb0
  go_wp2_with fail
  refine (hT _).mono ?_
  rintro e w3 ⟨rfl, hb3⟩
  have b3 := onto b2 hb3
  go_wp2_with fail
  refine (hI _).mono ?_
  rintro e w4 ⟨rfl, hb4⟩
  have b4 := onto b3 hb4
  go_wp2_with fail
  go_ret
  exact ⟨rfl, b4⟩

set_option maxRecDepth 100000 in
theorem lifted (os : Os) (started : os.Started) (H : Type) (enc : TypeId × Value → H) :
    ReturnsInHanded {} Try.checked os 3 .any (Rows.fnExactNextLookSpec.pre6 enc Try.prog Try.f3 Rows.fnExactNextLookRow.domain false) (Rows.fnExactNextLookSpec.post enc Try.prog Try.f3 false true false false) := by
  refine returnsInHanded_of_change (C := Try.checked) own started (by kernel_rfl) Try.func3
    (ChangeSpec.witness6 (enc := enc) (C := Try.checked) false ⟨#[], #[.agg #[.int .i64 0, .int .i64 0, .int .i64 0, .int .i64 0, .int .i64 0, .int .i64 0], .int .i64 0], []⟩ 8 (by kernel_rfl) (by kernel_rfl) (by kernel_rfl) (by kernel_rfl)) ?_
  intro W base args ds gs before hval0 hW hcnd _
  have hval : ∀ (j : Nat) t v, Try.f3.params[j]? = some t → args[j]? = some v → Value.okWide Try.prog W .any base t v := hval0
  have hW' := hW
  obtain ⟨p, q, hA0, hV, rfl, hfz, hnd⟩ := hW
  have hA : DataW.TrodAll enc Try.prog W 0 (fun _ => true) true Try.f3.params.toList args.toList ds p := hA0
  rw [Try.params3] at hA hval
  obtain ⟨v0, vs0, d0, ds0, p0, q0, hargs, rfl, rfl, h0, r0⟩ := trodAll_cons hA
  obtain ⟨v1, vs1, d1, ds1, p1, q1, rfl, rfl, rfl, h1, r1⟩ := trodAll_cons r0
  obtain ⟨rfl, rfl, rfl⟩ := trodAll_nil r1
  obtain rfl : args = #[v0, v1] := by cases args; simp_all
  obtain ⟨rfl, rfl⟩ := trodVars_none hV
  have k0 := h0
  have lt0 : ∀ x ∈ p0, x.block < W.heap.size := by obtain ⟨m, hm⟩ := k0; exact DataW.trod_lt m _ _ _ hm
  obtain ⟨x, rfl⟩ := vital_of_read (hval 0 23 v0 rfl rfl) h0
  obtain ⟨x1, rfl, rfl, rfl, k1⟩ := open_int Try.underlying2 (hval 1 2 v1 rfl rfl) h1
  clear hA0 hval0
  refine (walk x x1 W).mono fun e W' ⟨he, bel⟩ => ?_
  subst he
  exact ⟨_, rfl, _, _, _, [], _, [], hW', trodAll_mk1 (shut_bool Try.underlying4 _), (trodAll_cons_mk (Below.trod laidOut (by kernel_rfl) (of_decide_eq_true (by kernel_rfl)) k0 bel lt0) (trodAll_cons_mk (shut_int Try.underlying2 k1) trodAll_mk0)), rfl, bel.frame _, fun h => by cases h⟩

theorem over : Rows.fnExactNextLookRow.holds Try.pinned (OpenSpec.ofChange Rows.fnExactNextLookSpec) :=
  OpenClaim.holds_of_wide 3 Try.f3 rfl rfl rfl rfl rfl rfl rfl ⟨rfl, rfl, rfl, rfl, rfl⟩ rfl rfl rfl rfl rfl (by kernel_rfl) Try.func3 (by kernel_rfl)
    (of_decide_eq_true (by kernel_rfl)) (by unfold Func.isWrapper; first | (rw [if_pos (by decide +kernel)]; kernel_rfl) | (rw [if_neg (by decide +kernel)]; exact ⟨rfl, rfl⟩))
    (fun os started H enc _ => lifted os started H enc)
end fnExactNextLook
theorem fnExactNextLook_holds : Rows.FnExactNextLookSaid := fnExactNextLook.over
end Go.Proofs.Ytmigcbbjejbcgan
