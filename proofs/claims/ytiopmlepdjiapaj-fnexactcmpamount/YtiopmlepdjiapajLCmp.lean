/-
  Proved: for every two amounts, the program's CmpAmount answers as the specification's (FnExactCmpAmount returns true). No conditions.
-/
import Derived.Test.YtiopmlepdjiapajSCmp
import Derived.ProofKit
import Derived.OpenShut
import Derived.ShutString
import Derived.ChangeOld
import Derived.Below
import Derived.Lib.SmallJoins
namespace Go.Proofs.Ytiopmlepdjiapaj
open Go.RowKit Am

theorem scmp_any (n d u m e v : Int) (w : World) :
    Calls Try.prog 19 #[.agg #[.int .i64 n, .int .i64 d, .int .i64 u], .agg #[.int .i64 m, .int .i64 e, .int .i64 v]] w fun r w' => r = .returned (.int .i64 (qC n d u m e v)) ∧ Below w.heap.size w w' := by
  unfold qC qB
  cases ho : okB n d u
  · simpa using scmp_out1 n d u m e v w ho
  cases hp : okB m e v
  · simpa using scmp_out2 n d u m e v w ho hp
  obtain ⟨h1, _, h3, _, h5, h6, _⟩ := okB_true ho
  obtain ⟨k1, _, k3, _, k5, k6, _⟩ := okB_true hp
  have q := kd_sk u v ⟨h5, h6⟩
  by_cases hk : kd u = kd v
  · have hs : (sk u != sk v) = false := by
      have := (q.1 hk).2
      simp [this]
    obtain ⟨z, l1, l2⟩ := p3_sz u v ⟨h5, h6⟩ hk
    obtain ⟨b1, b2⟩ := p3_bd (v - u).toNat (by omega)
    obtain ⟨s1, s2⟩ := sz_bd v
    have e1 : n * sz u * e * p3 (v - u).toNat = n * p3 (u - v).toNat * e * sz v := by
      have : n * sz u * e * p3 (v - u).toNat = n * e * (sz u * p3 (v - u).toNat) := by ac_rfl
      rw [this, ← z]; ac_rfl
    have e2 : m * sz v * d * p3 (v - u).toNat = m * p3 (v - u).toNat * d * sz v := by ac_rfl
    have e3 : cmpI (n * sz u * e) (m * sz v * d) = cmpI (n * p3 (u - v).toNat * e) (m * p3 (v - u).toNat * d) := by
      rw [← cmpI_scale (n * sz u * e) (m * sz v * d) (p3 (v - u).toNat) (by omega), e1, e2, cmpI_scale _ _ _ (by omega)]
    simpa [hk, e3] using scmp_in n d u m e v w ho hp hs l1 l2
  · have hs : (sk u != sk v) = true := by
      rw [bne_iff_ne]
      intro e'
      exact hk (q.2 ⟨sk_in ⟨k5, k6⟩, e'.symm⟩)
    simpa [hk] using scmp_out3 n d u m e v w ho hp hs

set_option maxHeartbeats 400000 in
theorem to_any (n d u : Int) (w : World) :
    Calls Try.prog 13 #[.agg #[.int .i64 n, .int .i64 d, .int .i64 u]] w fun r w' => r = .returned (.agg #[.int .i64 n, .int .i64 d, .int .i64 u]) ∧ Below w.heap.size w w' := by
  go_enter Try.func13, Try.ntmps13
  go_wp2
  exact bodyPost_ret (v := .agg #[.int .i64 n, .int .i64 d, .int .i64 u]) (by simp [results, Try.results13, go_sem]) rfl
    ⟨rfl, by repeat (first | exact Below.refl _ _ | refine Below.setCell ?_ (by first | (simp; done) | (simp; omega)) _ | refine Below.alloc ?_ (by first | (simp; done) | (simp; omega)) _)⟩

namespace fnExactCmpAmount
open Go.ChangeShapes Go.WideShapes Go.ChangeAt Go.Joins
set_option linter.unusedVariables false

theorem own : ownKnob Try.prog.godebug = none := by kernel_rfl
theorem cells28 : Try.prog.cellsOf 28 = 3 := by kernel_rfl

set_option maxHeartbeats 8000000 in
theorem walk (n d u m e v : Int) (w : World) :
    Calls Try.prog 7 #[.agg #[.int .i64 n, .int .i64 d, .int .i64 u], .agg #[.int .i64 m, .int .i64 e, .int .i64 v]] w fun r w' => r = .returned (.bool true) ∧ Below w.heap.size w w' := by
  go_enter Try.func7, Try.ntmps7
  go_wp2_with fail
  go_region_held3 (fun w' => w'.cell? ⟨w.heap.size, 0, none⟩ = some (.int .i64 n) ∧ w'.cell? ⟨w.heap.size, 1, none⟩ = some (.int .i64 d) ∧ w'.cell? ⟨w.heap.size, 2, none⟩ = some (.int .i64 u) ∧ w'.cell? ⟨w.heap.size + 1, 0, none⟩ = some (.int .i64 m) ∧ w'.cell? ⟨w.heap.size + 1, 1, none⟩ = some (.int .i64 e) ∧ w'.cell? ⟨w.heap.size + 1, 2, none⟩ = some (.int .i64 v)) (first | (refine keep33 (by assumption) ?_ ?_ (by assumption) <;> first | (simp; done) | (simp; omega) | omega) | simp [*, go_sem, lt2])
    (first
      | (go_at_call_of 13 (Value.agg #[Value.int IntKind.i64 n, Value.int IntKind.i64 d, Value.int IntKind.i64 u]); refine (to_any _ _ _ _).mono ?_; rintro r w11 ⟨rfl, hb11⟩; have hy11 := hb11.size; (try simp at hy11); have hl11 : w.heap.size < w11.heap.size := (by omega); have hm11 : w.heap.size + 1 < w11.heap.size := (by omega))
      | (go_at_call 13; refine (to_any _ _ _ _).mono ?_; rintro r w12 ⟨rfl, hb12⟩; have hy12 := hb12.size; (try simp at hy12); have hl12 : w.heap.size < w12.heap.size := (by omega); have hm12 : w.heap.size + 1 < w12.heap.size := (by omega))
      | (go_at_call 19; refine (scmp_any _ _ _ _ _ _ _).mono ?_; rintro r w13 ⟨rfl, hb13⟩; have hy13 := hb13.size; (try simp at hy13); have hl13 : w.heap.size < w13.heap.size := (by omega); have hm13 : w.heap.size + 1 < w13.heap.size := (by omega)))
  go_wp2_with fail
  go_region_held3 (fun w' => w'.cell? ⟨w.heap.size, 0, none⟩ = some (.int .i64 n) ∧ w'.cell? ⟨w.heap.size, 1, none⟩ = some (.int .i64 d) ∧ w'.cell? ⟨w.heap.size, 2, none⟩ = some (.int .i64 u) ∧ w'.cell? ⟨w.heap.size + 1, 0, none⟩ = some (.int .i64 m) ∧ w'.cell? ⟨w.heap.size + 1, 1, none⟩ = some (.int .i64 e) ∧ w'.cell? ⟨w.heap.size + 1, 2, none⟩ = some (.int .i64 v)) (first | (refine keep33 (by assumption) ?_ ?_ (by assumption) <;> first | (simp; done) | (simp; omega) | omega) | simp [*, go_sem])
    (first
      | (go_at_call_of 13 (Value.agg #[Value.int IntKind.i64 n, Value.int IntKind.i64 d, Value.int IntKind.i64 u]); refine (to_any _ _ _ _).mono ?_; rintro r w21 ⟨rfl, hb21⟩; have hy21 := hb21.size; (try simp at hy21); have hl21 : w.heap.size < w21.heap.size := (by omega); have hm21 : w.heap.size + 1 < w21.heap.size := (by omega))
      | (go_at_call 13; refine (to_any _ _ _ _).mono ?_; rintro r w22 ⟨rfl, hb22⟩; have hy22 := hb22.size; (try simp at hy22); have hl22 : w.heap.size < w22.heap.size := (by omega); have hm22 : w.heap.size + 1 < w22.heap.size := (by omega))
      | (go_at_call 20; refine (icmp_any _ _ _ _ _ _ _).mono ?_; rintro r w23 ⟨rfl, hb23⟩; have hy23 := hb23.size; (try simp at hy23); have hl23 : w.heap.size < w23.heap.size := (by omega); have hm23 : w.heap.size + 1 < w23.heap.size := (by omega)))
  go_wp2
  go_ret
  exact ⟨rfl, by repeat (first | exact Below.refl _ _ | refine Below.alloc ?_ (by simp) _ | refine Below.drew ?_ | refine below_drewN ?_ _ | refine onto ?_ hb23 | refine onto ?_ hb22 | refine onto ?_ hb21 | refine onto ?_ hb13 | refine onto ?_ hb12 | refine onto ?_ hb11)⟩

set_option maxRecDepth 100000 in
theorem lifted (os : Os) (started : os.Started) (H : Type) (enc : TypeId × Value → H) :
    ReturnsInHanded {} Try.checked os 7 .any (Rows.fnExactCmpAmountSpec.pre6 enc Try.prog Try.f7 Rows.fnExactCmpAmountRow.domain false) (Rows.fnExactCmpAmountSpec.post enc Try.prog Try.f7 false true false false) := by
  refine returnsInHanded_of_change (C := Try.checked) own started (by kernel_rfl) Try.func7
    (ChangeSpec.witness6 (enc := enc) (C := Try.checked) false ⟨#[], #[.agg #[.int .i64 0, .int .i64 0, .int .i64 0], .agg #[.int .i64 0, .int .i64 0, .int .i64 0]], []⟩ 8 (by kernel_rfl) (by kernel_rfl) (by kernel_rfl) (by kernel_rfl)) ?_
  intro W base args ds gs before hval0 hW hcnd _
  have hval : ∀ (j : Nat) t v, Try.f7.params[j]? = some t → args[j]? = some v → Value.okWide Try.prog W .any base t v := hval0
  have hW' := hW
  obtain ⟨p, q, hA0, hV, rfl, hfz, hnd⟩ := hW
  have hA : DataW.TrodAll enc Try.prog W 0 (fun _ => true) true Try.f7.params.toList args.toList ds p := hA0
  rw [Try.params7] at hA hval
  obtain ⟨v0, vs0, d0, ds0, p0, q0, hargs, rfl, rfl, h0, r0⟩ := trodAll_cons hA
  obtain ⟨v1, vs1, d1, ds1, p1, q1, rfl, rfl, rfl, h1, r1⟩ := trodAll_cons r0
  obtain ⟨rfl, rfl, rfl⟩ := trodAll_nil r1
  obtain rfl : args = #[v0, v1] := by cases args; simp_all
  obtain ⟨rfl, rfl⟩ := trodVars_none hV
  obtain ⟨c00, c01, c02, y00, y01, y02, m0, rfl, rfl, rfl, hy00, hy01, hy02⟩ := open_agg3 Try.underlying28 (by kernel_rfl) cells28 (hval 0 28 v0 rfl rfl) h0
  obtain ⟨a0n, e00, rfl, w0n⟩ := DataW.trod_int Try.underlying2 hy00
  obtain ⟨a0d, e01, rfl, w0d⟩ := DataW.trod_int Try.underlying2 hy01
  obtain ⟨a0u, e02, rfl, w0u⟩ := DataW.trod_int Try.underlying2 hy02
  simp at e00 e01 e02
  subst e00 e01 e02
  have sr0 : ∀ (W' : World) (sp : Nat → Bool), DataW.Trod enc Try.prog W' 0 sp true 28 (.agg #[.int .i64 a0n, .int .i64 a0d, .int .i64 a0u]) (.agg [.lit (.int .i64 a0n), .lit (.int .i64 a0d), .lit (.int .i64 a0u)]) [] := fun W' sp =>
    shut_agg3 (y0 := (.lit (.int .i64 a0n), [])) (y1 := (.lit (.int .i64 a0d), [])) (y2 := (.lit (.int .i64 a0u), [])) Try.underlying28 (by kernel_rfl) cells28 ⟨1, by simp [DataW.trod, Try.underlying2, w0n]⟩ ⟨1, by simp [DataW.trod, Try.underlying2, w0d]⟩ ⟨1, by simp [DataW.trod, Try.underlying2, w0u]⟩
  obtain ⟨c10, c11, c12, y10, y11, y12, m1, rfl, rfl, rfl, hy10, hy11, hy12⟩ := open_agg3 Try.underlying28 (by kernel_rfl) cells28 (hval 1 28 v1 rfl rfl) h1
  obtain ⟨a1n, e10, rfl, w1n⟩ := DataW.trod_int Try.underlying2 hy10
  obtain ⟨a1d, e11, rfl, w1d⟩ := DataW.trod_int Try.underlying2 hy11
  obtain ⟨a1u, e12, rfl, w1u⟩ := DataW.trod_int Try.underlying2 hy12
  simp at e10 e11 e12
  subst e10 e11 e12
  have sr1 : ∀ (W' : World) (sp : Nat → Bool), DataW.Trod enc Try.prog W' 0 sp true 28 (.agg #[.int .i64 a1n, .int .i64 a1d, .int .i64 a1u]) (.agg [.lit (.int .i64 a1n), .lit (.int .i64 a1d), .lit (.int .i64 a1u)]) [] := fun W' sp =>
    shut_agg3 (y0 := (.lit (.int .i64 a1n), [])) (y1 := (.lit (.int .i64 a1d), [])) (y2 := (.lit (.int .i64 a1u), [])) Try.underlying28 (by kernel_rfl) cells28 ⟨1, by simp [DataW.trod, Try.underlying2, w1n]⟩ ⟨1, by simp [DataW.trod, Try.underlying2, w1d]⟩ ⟨1, by simp [DataW.trod, Try.underlying2, w1u]⟩
  clear hA0 hval0
  refine (walk a0n a0d a0u a1n a1d a1u W).mono fun e W' ⟨he, bel⟩ => ?_
  subst he
  exact ⟨_, rfl, _, _, _, [], _, [], hW', trodAll_mk1 (shut_bool Try.underlying4 _), (trodAll_cons_mk (sr0 _ _) (trodAll_cons_mk (sr1 _ _) trodAll_mk0)), rfl, bel.frame _, fun h => by cases h⟩

theorem over : Rows.fnExactCmpAmountRow.holds Try.pinned (OpenSpec.ofChange Rows.fnExactCmpAmountSpec) :=
  OpenClaim.holds_of_wide 7 Try.f7 rfl rfl rfl rfl rfl rfl rfl ⟨rfl, rfl, rfl, rfl, rfl⟩ rfl rfl rfl rfl rfl (by kernel_rfl) Try.func7 (by kernel_rfl)
    (of_decide_eq_true (by kernel_rfl)) (by unfold Func.isWrapper; first | (rw [if_pos (by decide +kernel)]; kernel_rfl) | (rw [if_neg (by decide +kernel)]; exact ⟨rfl, rfl⟩))
    (fun os started H enc _ => lifted os started H enc)

end fnExactCmpAmount
theorem fnExactCmpAmount_holds : Rows.FnExactCmpAmountSaid := fnExactCmpAmount.over
end Go.Proofs.Ytiopmlepdjiapaj
