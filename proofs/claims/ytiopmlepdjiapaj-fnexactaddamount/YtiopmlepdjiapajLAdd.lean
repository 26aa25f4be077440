/-
  Proved: for every two amounts, the program's AddAmount answers as the specification's, field by field (FnExactAddAmount returns true). No conditions.
-/
import Derived.Test.YtiopmlepdjiapajSAdd
import Derived.Deep.DeepCutAuto
import Derived.ProofKit
import Derived.OpenShut
import Derived.ShutString
import Derived.ChangeOld
import Derived.Below
import Derived.Lib.SmallJoins
namespace Go.Proofs.Ytiopmlepdjiapaj
open Go.RowKit Am

set_option maxHeartbeats 400000 in
theorem to_any (n d u : Int) (w : World) :
    Calls Try.prog 13 #[.agg #[.int .i64 n, .int .i64 d, .int .i64 u]] w fun r w' => r = .returned (.agg #[.int .i64 n, .int .i64 d, .int .i64 u]) ∧ Below w.heap.size w w' := by
  go_enter Try.func13, Try.ntmps13
  go_wp2
  exact bodyPost_ret (v := .agg #[.int .i64 n, .int .i64 d, .int .i64 u]) (by simp [results, Try.results13, go_sem]) rfl
    ⟨rfl, by repeat (first | exact Below.refl _ _ | refine Below.setCell ?_ (by first | (simp; done) | (simp; omega)) _ | refine Below.alloc ?_ (by first | (simp; done) | (simp; omega)) _)⟩

set_option maxHeartbeats 400000 in
theorem eqa_same (n d u : Int) (w : World) :
    Calls Try.prog 11 #[.agg #[.int .i64 n, .int .i64 d, .int .i64 u], .agg #[.int .i64 n, .int .i64 d, .int .i64 u]] w fun e w' => e = .returned (.bool true) ∧ Below w.heap.size w w' := by
  go_enter Try.func11, Try.ntmps11
  go_wp2
  go_ret
  exact ⟨rfl, by repeat (first | exact Below.refl _ _ | refine Below.alloc ?_ (by simp) _)⟩

namespace fnExactAddAmount
open Go.ChangeShapes Go.WideShapes Go.ChangeAt Go.Joins
set_option linter.unusedVariables false

theorem own : ownKnob Try.prog.godebug = none := by kernel_rfl
theorem cells28 : Try.prog.cellsOf 28 = 3 := by kernel_rfl

set_option maxHeartbeats 8000000 in
theorem walk (n d u m e v : Int) (w : World) :
    Calls Try.prog 5 #[.agg #[.int .i64 n, .int .i64 d, .int .i64 u], .agg #[.int .i64 m, .int .i64 e, .int .i64 v]] w fun r w' => r = .returned (.bool true) ∧ Below w.heap.size w w' := by
  go_enter Try.func5, Try.ntmps5
  go_wp2_with fail
  go_cut [5, 6] (fun p q wx => ∃ b, p = .pointer (some ⟨b, 0, none⟩) ∧ q = .bool (aR n d u m e v) ∧ w.heap.size + 1 < b ∧ b < wx.heap.size ∧ (wx.cell? ⟨b, 0, none⟩ = some (.int .i64 (aN n d u m e v)) ∧ wx.cell? ⟨b, 1, none⟩ = some (.int .i64 (aD n d u m e v)) ∧ wx.cell? ⟨b, 2, none⟩ = some (.int .i64 (aU n d u m e v))) ∧ Below ((w.alloc (.cells #[.int .i64 n, .int .i64 d, .int .i64 u] 28)).alloc (.cells #[.int .i64 m, .int .i64 e, .int .i64 v] 28)).heap.size ((w.alloc (.cells #[.int .i64 n, .int .i64 d, .int .i64 u] 28)).alloc (.cells #[.int .i64 m, .int .i64 e, .int .i64 v] 28)) wx)
  case first =>
    go_region_held3 (fun w' => w'.cell? ⟨w.heap.size, 0, none⟩ = some (.int .i64 n) ∧ w'.cell? ⟨w.heap.size, 1, none⟩ = some (.int .i64 d) ∧ w'.cell? ⟨w.heap.size, 2, none⟩ = some (.int .i64 u) ∧ w'.cell? ⟨w.heap.size + 1, 0, none⟩ = some (.int .i64 m) ∧ w'.cell? ⟨w.heap.size + 1, 1, none⟩ = some (.int .i64 e) ∧ w'.cell? ⟨w.heap.size + 1, 2, none⟩ = some (.int .i64 v)) (first | (refine keep33 (by assumption) ?_ ?_ (by assumption) <;> first | (simp; done) | (simp; omega) | omega) | (refine keep33 ((Below.refl _ _).alloc (Nat.le_refl _) _) ?_ ?_ (by assumption) <;> first | (simp; done) | (simp; omega) | omega) | simp [*, go_sem, lt2, lt3])
    (first
      | (go_at_call_of 13 (Value.agg #[Value.int IntKind.i64 n, Value.int IntKind.i64 d, Value.int IntKind.i64 u]); refine (to_any _ _ _ _).mono ?_; rintro r w11 ⟨rfl, hb11⟩; obtain ⟨hc11, hf11⟩ := bcell hb11; have hy11 := hb11.size; (try simp at hy11); have hl11 : w.heap.size < w11.heap.size := (by omega); have hm11 : w.heap.size + 1 < w11.heap.size := (by omega); (try (have hq11 : w.heap.size + 1 + 1 < w11.heap.size := (by omega))))
      | (go_at_call 13; refine (to_any _ _ _ _).mono ?_; rintro r w12 ⟨rfl, hb12⟩; obtain ⟨hc12, hf12⟩ := bcell hb12; have hy12 := hb12.size; (try simp at hy12); have hl12 : w.heap.size < w12.heap.size := (by omega); have hm12 : w.heap.size + 1 < w12.heap.size := (by omega); (try (have hq12 : w.heap.size + 1 + 1 < w12.heap.size := (by omega))); (try (have hr12 : w11.heap.size < w12.heap.size := (by omega))))
      | (go_at_call 15; refine (sadd_any _ _ _ _ _ _ _).mono ?_; rintro r w13 ⟨rfl, hb13⟩; have hS13 := keep33 (b := w.heap.size) (c := w.heap.size + 1) (x := .int .i64 n) (y := .int .i64 d) (z := .int .i64 u) (x' := .int .i64 m) (y' := .int .i64 e) (z' := .int .i64 v) hb13 (by first | (simp; done) | (simp; omega) | omega) (by first | (simp; done) | (simp; omega) | omega) (by assumption); obtain ⟨hc13, hf13⟩ := bcell hb13; have hy13 := hb13.size; (try simp at hy13); have hl13 : w.heap.size < w13.heap.size := (by omega); have hm13 : w.heap.size + 1 < w13.heap.size := (by omega); (try (have hq13 : w.heap.size + 1 + 1 < w13.heap.size := (by omega))); (try (have hr13 : w11.heap.size < w13.heap.size := (by omega))); (try (have hs13 : w12.heap.size < w13.heap.size := (by omega)))))
    all_goals
      go_wp2_with fail
      go_meet
      case rel =>
        refine ⟨_, rfl, rfl, by omega, ?_, ?_, ?_⟩
        · first | omega | (simp; done) | (simp; omega)
        · simp [go_sem, *]
        · repeat (first | exact Below.refl _ _ | refine Below.setCell ?_ (by first | (simp; done) | (simp; omega) | omega) _ | refine Below.alloc ?_ (by first | (simp; done) | (simp; omega) | omega) _ | refine Below.drew ?_ | refine onto ?_ hb13 | refine onto ?_ hb12 | refine onto ?_ hb11)
  case rest =>
    obtain ⟨b, rfl, rfl, hlo, hhi, hcb, hBW⟩ := hcut
    obtain ⟨hcw, hfw⟩ := bcell hBW
    have hlw : w.heap.size < wc.heap.size := by omega
    have hmw : w.heap.size + 1 < wc.heap.size := by omega
    go_wp2_with fail
    go_cut [7, 8] (fun p q wx => ∃ c, p = .pointer (some ⟨c, 0, none⟩) ∧ q = .bool (aR n d u m e v) ∧ wc.heap.size ≤ c ∧ c < wx.heap.size ∧ (wx.cell? ⟨c, 0, none⟩ = some (.int .i64 (aN n d u m e v)) ∧ wx.cell? ⟨c, 1, none⟩ = some (.int .i64 (aD n d u m e v)) ∧ wx.cell? ⟨c, 2, none⟩ = some (.int .i64 (aU n d u m e v))) ∧ Below wc.heap.size wc wx)
    case first =>
      go_region_held3 (fun w' => w'.cell? ⟨w.heap.size, 0, none⟩ = some (.int .i64 n) ∧ w'.cell? ⟨w.heap.size, 1, none⟩ = some (.int .i64 d) ∧ w'.cell? ⟨w.heap.size, 2, none⟩ = some (.int .i64 u) ∧ w'.cell? ⟨w.heap.size + 1, 0, none⟩ = some (.int .i64 m) ∧ w'.cell? ⟨w.heap.size + 1, 1, none⟩ = some (.int .i64 e) ∧ w'.cell? ⟨w.heap.size + 1, 2, none⟩ = some (.int .i64 v)) (first | (refine keep33 (by assumption) ?_ ?_ (by assumption) <;> first | (simp; done) | (simp; omega) | omega) | (refine keep33 ((Below.refl _ _).alloc (Nat.le_refl _) _) ?_ ?_ (by assumption) <;> first | (simp; done) | (simp; omega) | omega) | simp [*, go_sem, lt2, lt3])
    (first
      | (go_at_call_of 13 (Value.agg #[Value.int IntKind.i64 n, Value.int IntKind.i64 d, Value.int IntKind.i64 u]); refine (to_any _ _ _ _).mono ?_; rintro r w21 ⟨rfl, hb21⟩; obtain ⟨hc21, hf21⟩ := bcell hb21; have hy21 := hb21.size; (try simp at hy21); have hl21 : w.heap.size < w21.heap.size := (by omega); have hm21 : w.heap.size + 1 < w21.heap.size := (by omega); (try (have hq21 : wc.heap.size < w21.heap.size := (by omega))))
      | (go_at_call 13; refine (to_any _ _ _ _).mono ?_; rintro r w22 ⟨rfl, hb22⟩; obtain ⟨hc22, hf22⟩ := bcell hb22; have hy22 := hb22.size; (try simp at hy22); have hl22 : w.heap.size < w22.heap.size := (by omega); have hm22 : w.heap.size + 1 < w22.heap.size := (by omega); (try (have hq22 : wc.heap.size < w22.heap.size := (by omega))); (try (have hr22 : w21.heap.size < w22.heap.size := (by omega))))
      | (go_at_call 16; refine (iadd_any _ _ _ _ _ _ _).mono ?_; rintro r w23 ⟨rfl, hb23⟩; have hS23 := keep33 (b := w.heap.size) (c := w.heap.size + 1) (x := .int .i64 n) (y := .int .i64 d) (z := .int .i64 u) (x' := .int .i64 m) (y' := .int .i64 e) (z' := .int .i64 v) hb23 (by first | (simp; done) | (simp; omega) | omega) (by first | (simp; done) | (simp; omega) | omega) (by assumption); obtain ⟨hc23, hf23⟩ := bcell hb23; have hy23 := hb23.size; (try simp at hy23); have hl23 : w.heap.size < w23.heap.size := (by omega); have hm23 : w.heap.size + 1 < w23.heap.size := (by omega); (try (have hq23 : wc.heap.size < w23.heap.size := (by omega))); (try (have hr23 : w21.heap.size < w23.heap.size := (by omega))); (try (have hs23 : w22.heap.size < w23.heap.size := (by omega)))))
      all_goals
        go_wp2_with fail
        go_meet
        case rel =>
          refine ⟨_, rfl, rfl, by omega, ?_, ?_, ?_⟩
          · first | omega | (simp; done) | (simp; omega)
          · simp [go_sem, *]
          · repeat (first | exact Below.refl _ _ | refine Below.setCell ?_ (by first | (simp; done) | (simp; omega) | omega) _ | refine Below.alloc ?_ (by first | (simp; done) | (simp; omega) | omega) _ | refine Below.drew ?_ | refine onto ?_ hb23 | refine onto ?_ hb22 | refine onto ?_ hb21)
    case rest =>
      obtain ⟨c, rfl, rfl, hlo2, hhi2, hcc, hB2⟩ := hcut
      have hcb2 := keep3 hB2 hhi hcb
      obtain ⟨c1, c2, c3⟩ := hcc
      obtain ⟨c4, c5, c6⟩ := hcb2
      clear hcb hcw hfw
      go_wp2_with fail
      refine (eqa_same _ _ _ _).mono ?_
      rintro r wz ⟨rfl, hbz⟩
      go_wp2
      go_ret
      exact ⟨rfl, onto (onto (onto (((Below.refl _ _).alloc (Nat.le_refl _) _).alloc (by simp) _) hBW) hB2) hbz⟩

set_option maxRecDepth 100000 in
theorem lifted (os : Os) (started : os.Started) (H : Type) (enc : TypeId × Value → H) :
    ReturnsInHanded {} Try.checked os 5 .any (Rows.fnExactAddAmountSpec.pre6 enc Try.prog Try.f5 Rows.fnExactAddAmountRow.domain false) (Rows.fnExactAddAmountSpec.post enc Try.prog Try.f5 false true false false) := by
  refine returnsInHanded_of_change (C := Try.checked) own started (by kernel_rfl) Try.func5
    (ChangeSpec.witness6 (enc := enc) (C := Try.checked) false ⟨#[], #[.agg #[.int .i64 0, .int .i64 0, .int .i64 0], .agg #[.int .i64 0, .int .i64 0, .int .i64 0]], []⟩ 8 (by kernel_rfl) (by kernel_rfl) (by kernel_rfl) (by kernel_rfl)) ?_
  intro W base args ds gs before hval0 hW hcnd _
  have hval : ∀ (j : Nat) t v, Try.f5.params[j]? = some t → args[j]? = some v → Value.okWide Try.prog W .any base t v := hval0
  have hW' := hW
  obtain ⟨p, q, hA0, hV, rfl, hfz, hnd⟩ := hW
  have hA : DataW.TrodAll enc Try.prog W 0 (fun _ => true) true Try.f5.params.toList args.toList ds p := hA0
  rw [Try.params5] at hA hval
  obtain ⟨v0, vs0, d0, ds0, p0, q0, hargs, rfl, rfl, h0, r0⟩ := trodAll_cons hA
  obtain ⟨v1, vs1, d1, ds1, p1, q1, rfl, rfl, rfl, h1, r1⟩ := trodAll_cons r0
  obtain ⟨rfl, rfl, rfl⟩ := trodAll_nil r1
  obtain rfl : args = #[v0, v1] := by cases args; simp_all
  obtain ⟨rfl, rfl⟩ := trodVars_none hV
  obtain ⟨c00, c01, c02, y00, y01, y02, m0, rfl, rfl, rfl, hy00, hy01, hy02⟩ := open_agg3 Try.underlying28 (by kernel_rfl) cells28 (hval 0 28 v0 rfl rfl) h0
  obtain ⟨a0n, e00, rfl, w0n⟩ := DataW.trod_int Try.underlying2 hy00
  obtain ⟨a0d, e01, rfl, w0d⟩ := DataW.trod_int Try.underlying2 hy01
  obtain ⟨a0u, e02, rfl, w0u⟩ := DataW.trod_int Try.underlying2 hy02
  simp at e00 e01 e02
  subst e00 e01 e02
  have sr0 : ∀ (W' : World) (sp : Nat → Bool), DataW.Trod enc Try.prog W' 0 sp true 28 (.agg #[.int .i64 a0n, .int .i64 a0d, .int .i64 a0u]) (.agg [.lit (.int .i64 a0n), .lit (.int .i64 a0d), .lit (.int .i64 a0u)]) [] := fun W' sp =>
    shut_agg3 (y0 := (.lit (.int .i64 a0n), [])) (y1 := (.lit (.int .i64 a0d), [])) (y2 := (.lit (.int .i64 a0u), [])) Try.underlying28 (by kernel_rfl) cells28 ⟨1, by simp [DataW.trod, Try.underlying2, w0n]⟩ ⟨1, by simp [DataW.trod, Try.underlying2, w0d]⟩ ⟨1, by simp [DataW.trod, Try.underlying2, w0u]⟩
  obtain ⟨c10, c11, c12, y10, y11, y12, m1, rfl, rfl, rfl, hy10, hy11, hy12⟩ := open_agg3 Try.underlying28 (by kernel_rfl) cells28 (hval 1 28 v1 rfl rfl) h1
  obtain ⟨a1n, e10, rfl, w1n⟩ := DataW.trod_int Try.underlying2 hy10
  obtain ⟨a1d, e11, rfl, w1d⟩ := DataW.trod_int Try.underlying2 hy11
  obtain ⟨a1u, e12, rfl, w1u⟩ := DataW.trod_int Try.underlying2 hy12
  simp at e10 e11 e12
  subst e10 e11 e12
  have sr1 : ∀ (W' : World) (sp : Nat → Bool), DataW.Trod enc Try.prog W' 0 sp true 28 (.agg #[.int .i64 a1n, .int .i64 a1d, .int .i64 a1u]) (.agg [.lit (.int .i64 a1n), .lit (.int .i64 a1d), .lit (.int .i64 a1u)]) [] := fun W' sp =>
    shut_agg3 (y0 := (.lit (.int .i64 a1n), [])) (y1 := (.lit (.int .i64 a1d), [])) (y2 := (.lit (.int .i64 a1u), [])) Try.underlying28 (by kernel_rfl) cells28 ⟨1, by simp [DataW.trod, Try.underlying2, w1n]⟩ ⟨1, by simp [DataW.trod, Try.underlying2, w1d]⟩ ⟨1, by simp [DataW.trod, Try.underlying2, w1u]⟩
  clear hA0 hval0
  refine (walk a0n a0d a0u a1n a1d a1u W).mono fun e W' ⟨he, bel⟩ => ?_
  subst he
  exact ⟨_, rfl, _, _, _, [], _, [], hW', trodAll_mk1 (shut_bool Try.underlying4 _), (trodAll_cons_mk (sr0 _ _) (trodAll_cons_mk (sr1 _ _) trodAll_mk0)), rfl, bel.frame _, fun h => by cases h⟩

theorem over : Rows.fnExactAddAmountRow.holds Try.pinned (OpenSpec.ofChange Rows.fnExactAddAmountSpec) :=
  OpenClaim.holds_of_wide 5 Try.f5 rfl rfl rfl rfl rfl rfl rfl ⟨rfl, rfl, rfl, rfl, rfl⟩ rfl rfl rfl rfl rfl (by kernel_rfl) Try.func5 (by kernel_rfl)
    (of_decide_eq_true (by kernel_rfl)) (by unfold Func.isWrapper; first | (rw [if_pos (by decide +kernel)]; kernel_rfl) | (rw [if_neg (by decide +kernel)]; exact ⟨rfl, rfl⟩))
    (fun os started H enc _ => lifted os started H enc)

end fnExactAddAmount
theorem fnExactAddAmount_holds : Rows.FnExactAddAmountSaid := fnExactAddAmount.over
end Go.Proofs.Ytiopmlepdjiapaj
