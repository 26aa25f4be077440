/-
  Proved: for every drug, every list of doses given and every two numbers, the program's MayGive answers as the specification's, and writes into no argument (FnExactMayGive returns true). No conditions.
-/
import Derived.Test.YtcnhogghfedcdabMl
import Derived.Test.YtcnhogghfedcdabMn
import Derived.Test.YtcnhogghfedcdabGg
import Derived.Test.YtcnhogghfedcdabGh
import Derived.Test.YtcnhogghfedcdabGh2
namespace Go.Proofs.Ytcnhogghfedcdab
open Go.RowKit Va Ga

namespace fnExactMayGive
open Go.ChangeShapes Go.WideShapes Go.ChangeAt Go.Joins
set_option linter.unusedVariables false

theorem own : ownKnob Try.prog.godebug = none := by kernel_rfl
theorem laidOut : laidOutB Try.prog = true := by kernel_rfl

set_option maxRecDepth 20000 in
set_option maxHeartbeats 4000000 in
theorem walk (x : Dg) (ta : Option Addr) (tc : Nat) (ao : Option Addr) (len cap : Nat) (l : List Gv) (t a : Int) (w : World) (h : IRw w (.slice ta x.cls.length tc) x.cls) (hm : x.cls.length ≤ maxLen) (h' : Rw 3 csGv w (.slice ao len cap) l) (hl : l.length = len) (hlm : len ≤ maxLen) :
    Calls Try.prog 5 #[aD x (.slice ta x.cls.length tc), .slice ao len cap, .int .i64 t, .int .i64 a] w fun e w' => e = .returned (.bool true) ∧ Below w.heap.size w w' := by
  subst hl
  have hS := fun W => szdrug_any x ta x.cls.length tc 1048576 W (by unfold maxLen at hm; omega) (by omega) (by omega)
  have HP := hidden (PB.new w #[.int .i64 x.id, .slice ta x.cls.length tc, .int .i64 x.pk, .int .i64 x.most, .int .i64 x.day, .int .i64 x.kid] 41)
  have hb0 : Below w.heap.size w (w.alloc (.cells #[.int .i64 x.id, .slice ta x.cls.length tc, .int .i64 x.pk, .int .i64 x.most, .int .i64 x.day, .int .i64 x.kid] 41)) := (Below.refl _ _).alloc (Nat.le_refl _) _
  have HA := hidden (h.below hb0)
  have HJ := hidden (h'.below hb0)
  clear h h'
  unfold aD at hS ⊢
  go_enter Try.func5, Try.ntmps5
  go_upto_region 1 with fail
  generalize w.alloc (.cells #[.int .i64 x.id, .slice ta x.cls.length tc, .int .i64 x.pk, .int .i64 x.most, .int .i64 x.day, .int .i64 x.kid] 41) = wA at *
  generalize hav : Value.agg #[.int .i64 x.id, .slice ta x.cls.length tc, .int .i64 x.pk, .int .i64 x.most, .int .i64 x.day, .int .i64 x.kid] = av
  rw [hav] at hS
  obtain ⟨c0, c1, c2, c3, c4, c5⟩ := HP.out.six
  by_cases hbig : (1048576 : Int) < (x.cls.length : Int)
  · simp only [if_pos hbig] at hS
    go_wp2_with fail
    refine (hS _).mono ?_
    rintro e w1 ⟨rfl, hb1⟩
    go_wp2_with fail
    go_ret
    exact ⟨rfl, onto hb0 hb1⟩
  simp only [if_neg hbig] at hS
  have hn : ¬ (1048576 : Int) - x.cls.length < 0 := by omega
  have hll : x.cls.length ≤ 1048576 := by omega
  have hG := fun W => szgvs_any ao l.length cap (1048576 - (x.cls.length : Int)) W (by unfold maxLen at hlm; omega) (by omega) (by omega)
  go_wp2_with fail
  refine (hS _).mono ?_
  rintro e w1 ⟨rfl, hb1⟩
  have K1 := hidden hb1
  clear hS hb1 c0 c1 c2 c3 c4 c5
  by_cases hlb : (1048576 : Int) - x.cls.length < (l.length : Int)
  · simp only [if_pos hlb] at hG
    go_wp2_with fail
    refine (hG _).mono ?_
    rintro e w2 ⟨rfl, rfl⟩
    go_wp2_with fail
    go_ret
    exact ⟨rfl, onto hb0 K1.out⟩
  simp only [if_neg hlb] at hG
  have hn2 : ¬ (1048576 : Int) - x.cls.length - l.length < 0 := by omega
  have hlk : l.length ≤ 1048576 := by omega
  have HT := hidden (fun W hW => todrug_any x ta x.cls.length tc W hW hll)
  have HI := hidden (fun W hW => togvs_any (.slice ao l.length cap) l W hW hlk)
  have HE := hidden (fun a n c a2 n2 c2 W hW hW2 => eqdrug_any x a n c a2 n2 c2 W hW hW2 hll)
  have HSP := hidden (fun a1 n c a2 n2 c2 W hW hW2 => smay_any x a1 n c a2 n2 c2 l t a W hW hll hW2 hlk)
  have HIM := hidden (fun a1 n c a2 n2 c2 W hW hW2 => imay_any x a1 n c a2 n2 c2 l t a W hW hll hW2 hlk)
  generalize (mayG x l t a).1 = r1 at *
  generalize (mayG x l t a).2 = r2 at *
  unfold aD at *
  rw [hav] at HT
  have BW := hidden (fun W (hW : Below wA.heap.size wA W) => onto hb0 hW)
  clear hb0 hbig hlb
  go_wp2_with fail
  refine (hG _).mono ?_
  rintro e w1b ⟨rfl, hw1b⟩
  subst hw1b
  clear hG
  obtain ⟨c0, c1, c2, c3, c4, c5⟩ := (HP.out.below K1.out).six
  go_wp2_with fail
  refine (HT.out _ (HA.out.below K1.out)).mono ?_
  rintro e w2 ⟨G2, hG2, hH2, rfl, ho2, hb2⟩
  have R2 := hidden (out_irw ho2 _ (Nat.le_refl _))
  have K2 := hidden (K1.out.trans (hb2.mono K1.out.size))
  clear ho2 hb2 K1 c0 c1 c2 c3 c4 c5
  go_wp2_with fail
  refine (HI.out _ (HJ.out.below K2.out)).mono ?_
  rintro e w2b ⟨v2, rfl, ho2, hb2⟩
  obtain ⟨av2, cv2, rfl⟩ := ho2.row.form
  have R2b := hidden (R2.out.below hb2)
  have S2 := hidden ho2.row
  have K2b := hidden (K2.out.trans (hb2.mono K2.out.size))
  clear ho2 hb2 K2 R2
  go_wp2_with fail
  refine (HSP.out _ _ _ _ _ _ _ R2b.out S2.out).mono ?_
  rintro e w3 ⟨rfl, hb3⟩
  have K3 := hidden (K2b.out.trans (hb3.mono K2b.out.size))
  clear hb3 R2b S2 K2b
  obtain ⟨c0, c1, c2, c3, c4, c5⟩ := (HP.out.below K3.out).six
  go_wp2_with fail
  refine (HT.out _ (HA.out.below K3.out)).mono ?_
  rintro e w4 ⟨G4, hG4, hH4, rfl, ho4, hb4⟩
  have R4 := hidden (out_irw ho4 _ (Nat.le_refl _))
  have K4 := hidden (K3.out.trans (hb4.mono K3.out.size))
  clear ho4 hb4 K3 c0 c1 c2 c3 c4 c5
  go_upto_region 10 with fail
  have PX := hidden (PB.new w4 #[.int .i64 x.id, .slice (some ⟨G4, 0, none⟩) x.cls.length x.cls.length, .int .i64 x.pk, .int .i64 x.most, .int .i64 x.day, .int .i64 x.kid] 44)
  have bx : Below w4.heap.size w4 (w4.alloc (.cells #[.int .i64 x.id, .slice (some ⟨G4, 0, none⟩) x.cls.length x.cls.length, .int .i64 x.pk, .int .i64 x.most, .int .i64 x.day, .int .i64 x.kid] 44)) := (Below.refl _ _).alloc (Nat.le_refl _) _
  have RX := hidden (R4.out.below bx)
  have KX := hidden (K4.out.trans (bx.mono K4.out.size))
  clear bx R4 K4
  generalize hwX : w4.alloc (.cells #[.int .i64 x.id, .slice (some ⟨G4, 0, none⟩) x.cls.length x.cls.length, .int .i64 x.pk, .int .i64 x.most, .int .i64 x.day, .int .i64 x.kid] 44) = wX at *
  generalize w4.heap.size = BX at *
  clear hwX
  go_wp2_with fail
  refine (HI.out _ (HJ.out.below KX.out)).mono ?_
  rintro e wY ⟨vY, rfl, hoY, hbY⟩
  obtain ⟨avY, cvY, rfl⟩ := hoY.row.form
  have PY := hidden (PX.out.below hbY)
  have RY := hidden (RX.out.below hbY)
  have SY := hidden hoY.row
  have KY := hidden (KX.out.trans (hbY.mono KX.out.size))
  clear hoY hbY PX RX KX
  obtain ⟨d0, d1, d2, d3, d4, d5⟩ := PY.out.six
  go_wp2_with fail
  refine (HIM.out _ _ _ _ _ _ _ RY.out SY.out).mono ?_
  rintro e w5 ⟨rfl, hb5⟩
  have K5 := hidden (KY.out.trans (hb5.mono KY.out.size))
  have P5 := hidden (PY.out.below hb5)
  have R5 := hidden (RY.out.below hb5)
  have S5 := hidden (SY.out.below hb5)
  clear hb5 d0 d1 d2 d3 d4 d5 RY KY PY SY
  obtain ⟨d0, d1, d2, d3, d4, d5⟩ := P5.out.six
  obtain ⟨c0, c1, c2, c3, c4, c5⟩ := (HP.out.below K5.out).six
  have HRT := hidden (fun W (hW : Below w5.heap.size w5 W) => HT.out W (HA.out.below (K5.out.trans (hW.mono K5.out.size))))
  have HRI := hidden (fun W (hW : Below w5.heap.size w5 W) => HI.out W (HJ.out.below (K5.out.trans (hW.mono K5.out.size))))
  have HR5 := hidden (fun W (hW : Below w5.heap.size w5 W) => R5.out.below hW)
  have HS5 := hidden (fun W (hW : Below w5.heap.size w5 W) => S5.out.below hW)
  have HP5 := hidden (fun W (hW : Below w5.heap.size w5 W) => P5.out.below hW)
  have HB5 := hidden (fun W (hW : Below w5.heap.size w5 W) => BW.out W (K5.out.trans (hW.mono K5.out.size)))
  clear HT HI HA HJ K5 R5 S5 P5 BW HP HSP HIM
  go_wp2_with fail
  first | go_region_with (first | (go_at_call 22; refine (HRT.out _ (by repeat (first | exact Below.refl _ _ | assumption | refine st_drew ?_ | refine st_drewN ?_ _ | refine Below.setCell ?_ (by first | omega | (simp; done) | (simp; omega)) _ | refine Below.alloc ?_ (by first | omega | (simp; done) | (simp; omega)) _))).mono ?_; rintro e w6 ⟨G6, hG6, hH6, rfl, ho6, hb6⟩; have b6 := onto (show Below w5.heap.size w5 _ from by repeat (first | exact Below.refl _ _ | assumption | refine st_drew ?_ | refine st_drewN ?_ _ | refine Below.setCell ?_ (by first | omega | (simp; done) | (simp; omega)) _ | refine Below.alloc ?_ (by first | omega | (simp; done) | (simp; omega)) _)) hb6; have R6 := hidden (out_irw ho6 _ (Nat.le_refl _)); have b6s := b6; have K6 := hidden (HR5.out _ b6s); obtain ⟨e0, e1, e2, e3, e4, e5⟩ := (HP5.out _ b6s).six; clear ho6 hb6) | (go_at_call 25; refine (HE.out _ _ _ _ _ _ _ (IRw.below K6.out (by repeat (first | exact Below.refl _ _ | assumption | refine st_drew ?_ | refine st_drewN ?_ _ | refine Below.setCell ?_ (by first | omega | (simp; done) | (simp; omega)) _ | refine Below.alloc ?_ (by first | omega | (simp; done) | (simp; omega)) _))) (IRw.below R6.out (by repeat (first | exact Below.refl _ _ | assumption | refine st_drew ?_ | refine st_drewN ?_ _ | refine Below.setCell ?_ (by first | omega | (simp; done) | (simp; omega)) _ | refine Below.alloc ?_ (by first | omega | (simp; done) | (simp; omega)) _)))).mono ?_; rintro e w7 ⟨rfl, hb7⟩; have b7 := onto (show Below w5.heap.size w5 _ from by repeat (first | exact Below.refl _ _ | assumption | refine st_drew ?_ | refine st_drewN ?_ _ | refine Below.setCell ?_ (by first | omega | (simp; done) | (simp; omega)) _ | refine Below.alloc ?_ (by first | omega | (simp; done) | (simp; omega)) _)) hb7; clear hb7) | fail) | fail
  all_goals (go_wp2_with fail)
  all_goals (refine (HRI.out _ (by repeat (first | exact Below.refl _ _ | assumption | refine st_drew ?_ | refine st_drewN ?_ _ | refine Below.setCell ?_ (by first | omega | (simp; done) | (simp; omega)) _ | refine Below.alloc ?_ (by first | omega | (simp; done) | (simp; omega)) _))).mono ?_)
  all_goals (rintro e w8 ⟨v8, rfl, ho8, hb8⟩)
  all_goals (obtain ⟨av8, cv8, rfl⟩ := ho8.row.form)
  all_goals (have b8 := onto (show Below w5.heap.size w5 _ from by repeat (first | exact Below.refl _ _ | assumption | refine st_drew ?_ | refine st_drewN ?_ _ | refine Below.setCell ?_ (by first | omega | (simp; done) | (simp; omega)) _ | refine Below.alloc ?_ (by first | omega | (simp; done) | (simp; omega)) _)) hb8)
  all_goals (have b8s := b8)
  all_goals (have T8 := hidden ho8.row)
  all_goals (clear ho8 hb8)
  all_goals (go_wp2_with fail)
  all_goals (refine (eqgvs_any _ _ l _ (HS5.out _ b8s) T8.out hlk).mono ?_)
  all_goals (rintro e w9 ⟨rfl, hb9⟩)
  all_goals (have b9 := onto b8s hb9)
  all_goals (go_wp2_with fail)
  all_goals go_ret
  all_goals exact ⟨rfl, HB5.out _ b9⟩

set_option maxRecDepth 100000 in
theorem lifted (os : Os) (started : os.Started) (H : Type) (enc : TypeId × Value → H) :
    ReturnsInHanded {} Try.checked os 5 .any (Rows.fnExactMayGiveSpec.pre6 enc Try.prog Try.f5 Rows.fnExactMayGiveRow.domain false) (Rows.fnExactMayGiveSpec.post enc Try.prog Try.f5 false true false false) := by
  refine returnsInHanded_of_change (C := Try.checked) own started (by kernel_rfl) Try.func5
    (ChangeSpec.witness6 (enc := enc) (C := Try.checked) false ⟨#[], #[.agg #[.int .i64 0, .slice none 0 0, .int .i64 0, .int .i64 0, .int .i64 0, .int .i64 0], .slice none 0 0, .int .i64 0, .int .i64 0], []⟩ 8 (by kernel_rfl) (by kernel_rfl) (by kernel_rfl) (by kernel_rfl)) ?_
  intro W base args ds gs before hval0 hW hcnd _
  have hval : ∀ (j : Nat) t v, Try.f5.params[j]? = some t → args[j]? = some v → Value.okWide Try.prog W .any base t v := hval0
  have hW' := hW
  obtain ⟨p, q, hA0, hV, rfl, hfz, hnd⟩ := hW
  have hA : DataW.TrodAll enc Try.prog W 0 (fun _ => true) true Try.f5.params.toList args.toList ds p := hA0
  rw [Try.params5] at hA hval
  obtain ⟨v0, vs0, d0, ds0, p0, q0, hargs, rfl, rfl, h0, r0⟩ := trodAll_cons hA
  obtain ⟨v1, vs1, d1, ds1, p1, q1, rfl, rfl, rfl, h1, r1⟩ := trodAll_cons r0
  obtain ⟨v2, vs2, d2, ds2, p2, q2, rfl, rfl, rfl, h2, r2⟩ := trodAll_cons r1
  obtain ⟨v3, vs3, d3, ds3, p3, q3, rfl, rfl, rfl, h3, r3⟩ := trodAll_cons r2
  obtain ⟨rfl, rfl, rfl⟩ := trodAll_nil r3
  obtain rfl : args = #[v0, v1, v2, v3] := by cases args; simp_all
  obtain ⟨rfl, rfl⟩ := trodVars_none hV
  have k0 := h0
  have lt0 : ∀ x ∈ p0, x.block < W.heap.size := by obtain ⟨m, hm⟩ := k0; exact DataW.trod_lt m _ _ _ hm
  obtain ⟨x, ta, tc, rfl, hcl, hcr⟩ := drug_of_read (hval 0 41 v0 rfl rfl) h0
  have k1 := h1
  have lt1 : ∀ x ∈ p1, x.block < W.heap.size := by obtain ⟨m, hm⟩ := k1; exact DataW.trod_lt m _ _ _ hm
  obtain ⟨ao, len, cap, rfl⟩ := okWide_slice Try.underlying50 (hval 1 50 v1 rfl rfl)
  obtain ⟨l, hl, hm, hrow⟩ := gvs_of_read h1
  obtain ⟨t, rfl, rfl, rfl, k2⟩ := open_int Try.underlying2 (hval 2 2 v2 rfl rfl) h2
  obtain ⟨a, rfl, rfl, rfl, k3⟩ := open_int Try.underlying2 (hval 3 2 v3 rfl rfl) h3
  clear hA0 hval0
  refine (walk x ta tc ao len cap l t a W hcr hcl hrow hl hm).mono fun e W' ⟨he, bel⟩ => ?_
  subst he
  exact ⟨_, rfl, _, _, _, [], _, [], hW', trodAll_mk1 (shut_bool Try.underlying4 _), (trodAll_cons_mk (Below.trod laidOut (by kernel_rfl) (of_decide_eq_true (by kernel_rfl)) k0 bel lt0) (trodAll_cons_mk (Below.trod laidOut (by kernel_rfl) (of_decide_eq_true (by kernel_rfl)) k1 bel lt1) (trodAll_cons_mk (shut_int Try.underlying2 k2) (trodAll_cons_mk (shut_int Try.underlying2 k3) trodAll_mk0)))), rfl, bel.frame _, fun h => by cases h⟩

theorem over : Rows.fnExactMayGiveRow.holds Try.pinned (OpenSpec.ofChange Rows.fnExactMayGiveSpec) :=
  OpenClaim.holds_of_wide 5 Try.f5 rfl rfl rfl rfl rfl rfl rfl ⟨rfl, rfl, rfl, rfl, rfl⟩ rfl rfl rfl rfl rfl (by kernel_rfl) Try.func5 (by kernel_rfl)
    (of_decide_eq_true (by kernel_rfl)) (by unfold Func.isWrapper; first | (rw [if_pos (by decide +kernel)]; kernel_rfl) | (rw [if_neg (by decide +kernel)]; exact ⟨rfl, rfl⟩))
    (fun os started H enc _ => lifted os started H enc)
end fnExactMayGive
theorem fnExactMayGive_holds : Rows.FnExactMayGiveSaid := fnExactMayGive.over
end Go.Proofs.Ytcnhogghfedcdab
