/-
  Proved: for every trial and number, the program's Allocation answers as the specification's, and writes into no argument (FnExactAllocation returns true). No conditions.
-/
import Derived.Test.YtoehnlbkgpjhmabTr4
import Derived.Test.YtoehnlbkgpjhmabTr9
import Derived.Test.YtoehnlbkgpjhmabTr13
namespace Go.Proofs.Ytoehnlbkgpjhmab
open Go.RowKit Va Lb Tr

namespace fnExactAllocation
open Go.ChangeShapes Go.WideShapes Go.ChangeAt Go.Joins
set_option linter.all false

theorem own : ownKnob Try.prog.godebug = none := by kernel_rfl
theorem laidOut : laidOutB Try.prog = true := by kernel_rfl

set_option maxRecDepth 20000 in
set_option maxHeartbeats 4000000 in
theorem walk (x : Tl) (ta : Option Addr) (tc : Nat) (i : Int) (w : World) (h : VRw 1 cvI w (.slice ta x.coins.length tc) x.coins) (hm : x.coins.length ≤ maxLen) :
    Calls Try.prog 3 #[aT x (.slice ta x.coins.length tc), .int .i64 i] w fun e w' => e = .returned (.bool true) ∧ Below w.heap.size w w' := by
  have hS := fun W => sztrial_any x ta x.coins.length tc 1048576 W (by unfold maxLen at hm; omega) (by omega) (by omega)
  have HP := hidden (PB.new w #[.int .i64 x.arms, .int .i64 x.block, .slice ta x.coins.length tc, .int .i64 x.told] 24)
  have hb0 : Below w.heap.size w (w.alloc (.cells #[.int .i64 x.arms, .int .i64 x.block, .slice ta x.coins.length tc, .int .i64 x.told] 24)) := (Below.refl _ _).alloc (Nat.le_refl _) _
  have HA := hidden (h.below hb0)
  clear h
  unfold aT at hS ⊢
  go_enter Try.func3, Try.ntmps3
  go_upto_region 1 with fail
  generalize w.alloc (.cells #[.int .i64 x.arms, .int .i64 x.block, .slice ta x.coins.length tc, .int .i64 x.told] 24) = wA at *
  generalize hav : Value.agg #[.int .i64 x.arms, .int .i64 x.block, .slice ta x.coins.length tc, .int .i64 x.told] = av
  rw [hav] at hS
  obtain ⟨c0, c1, c2, c3⟩ := HP.out.four
  by_cases hbig : (1048576 : Int) < (x.coins.length : Int)
  · simp only [if_pos hbig] at hS
    go_wp2_with fail
    refine (hS _).mono ?_
    rintro e w1 ⟨rfl, hb1⟩
    go_wp2_with fail
    go_ret
    exact ⟨rfl, onto hb0 hb1⟩
  simp only [if_neg hbig] at hS
  have hn : ¬ (1048576 : Int) - x.coins.length < 0 := by omega
  have hll : x.coins.length ≤ 1048576 := by omega
  have HT := hidden (fun W hW => totrial_any x ta x.coins.length tc W hW hll)
  have HE := hidden (fun a n c a2 n2 c2 W hW hW2 => eqtrial_any x a n c a2 n2 c2 W hW hW2 hll)
  have HSP := hidden (fun a n c W hW => salloc_any x a n c i W hW hll)
  have HIM := hidden (fun a n c W hW => ialloc_any x a n c i W hW hll)
  generalize allocation x i = t at *
  unfold aT at *
  rw [hav] at HT
  have BW := hidden (fun W (hW : Below wA.heap.size wA W) => onto hb0 hW)
  clear hb0 hbig
  go_wp2_with fail
  refine (hS _).mono ?_
  rintro e w1 ⟨rfl, hb1⟩
  have K1 := hidden hb1
  clear hS hb1 c0 c1 c2 c3
  obtain ⟨c0, c1, c2, c3⟩ := (HP.out.below K1.out).four
  go_wp2_with fail
  refine (HT.out _ (HA.out.below K1.out)).mono ?_
  rintro e w2 ⟨G2, hG2, rfl, ho2, hb2⟩
  have R2 := hidden ho2.row
  have K2 := hidden (K1.out.trans (hb2.mono K1.out.size))
  clear ho2 hb2 K1 c0 c1 c2 c3
  go_wp2_with fail
  refine (HSP.out _ _ _ _ R2.out).mono ?_
  rintro e w3 ⟨rfl, hb3⟩
  have K3 := hidden (K2.out.trans (hb3.mono K2.out.size))
  clear hb3
  clear R2 K2
  obtain ⟨c0, c1, c2, c3⟩ := (HP.out.below K3.out).four
  go_wp2_with fail
  refine (HT.out _ (HA.out.below K3.out)).mono ?_
  rintro e w4 ⟨G4, hG4, rfl, ho4, hb4⟩
  have R4 := hidden ho4.row
  have K4 := hidden (K3.out.trans (hb4.mono K3.out.size))
  clear ho4 hb4 K3 c0 c1 c2 c3
  go_upto_region 7 with fail
  have PX := hidden (PB.new w4 #[.int .i64 x.arms, .int .i64 x.block, .slice (some ⟨G4, 0, none⟩) x.coins.length x.coins.length, .int .i64 x.told] 27)
  have bx : Below w4.heap.size w4 (w4.alloc (.cells #[.int .i64 x.arms, .int .i64 x.block, .slice (some ⟨G4, 0, none⟩) x.coins.length x.coins.length, .int .i64 x.told] 27)) := (Below.refl _ _).alloc (Nat.le_refl _) _
  have RX := hidden (R4.out.below bx)
  have KX := hidden (K4.out.trans (bx.mono K4.out.size))
  clear bx R4 K4
  generalize hwX : w4.alloc (.cells #[.int .i64 x.arms, .int .i64 x.block, .slice (some ⟨G4, 0, none⟩) x.coins.length x.coins.length, .int .i64 x.told] 27) = wX at *
  generalize w4.heap.size = BX at *
  clear hwX
  obtain ⟨d0, d1, d2, d3⟩ := PX.out.four
  go_wp2_with fail
  refine (HIM.out _ _ _ _ RX.out).mono ?_
  rintro e w5 ⟨rfl, hb5⟩
  have K5 := hidden (KX.out.trans (hb5.mono KX.out.size))
  have P5 := hidden (PX.out.below hb5)
  have R5 := hidden (RX.out.below hb5)
  clear hb5
  clear d0 d1 d2 d3 RX KX PX
  obtain ⟨d0, d1, d2, d3⟩ := P5.out.four
  obtain ⟨c0, c1, c2, c3⟩ := (HP.out.below K5.out).four
  have HRT := hidden (fun W (hW : Below w5.heap.size w5 W) => HT.out W (HA.out.below (K5.out.trans (hW.mono K5.out.size))))
  have HR5 := hidden (fun W (hW : Below w5.heap.size w5 W) => R5.out.below hW)
  have HP5 := hidden (fun W (hW : Below w5.heap.size w5 W) => P5.out.below hW)
  have HB5 := hidden (fun W (hW : Below w5.heap.size w5 W) => BW.out W (K5.out.trans (hW.mono K5.out.size)))
  clear HT HA K5 R5 P5 BW HP
  go_wp2_with fail
  first | go_region_with (first | (go_at_call 10; refine (HRT.out _ (by repeat (first | exact Below.refl _ _ | assumption | refine st_drew ?_ | refine st_drewN ?_ _ | refine Below.setCell ?_ (by first | omega | (simp; done) | (simp; omega)) _ | refine Below.alloc ?_ (by first | omega | (simp; done) | (simp; omega)) _))).mono ?_; rintro e w6 ⟨G6, hG6, rfl, ho6, hb6⟩; have b6 := onto (show Below w5.heap.size w5 _ from by repeat (first | exact Below.refl _ _ | assumption | refine st_drew ?_ | refine st_drewN ?_ _ | refine Below.setCell ?_ (by first | omega | (simp; done) | (simp; omega)) _ | refine Below.alloc ?_ (by first | omega | (simp; done) | (simp; omega)) _)) hb6; have R6 := hidden ho6.row; have b6s := b6; have K6 := hidden (HR5.out _ b6s); obtain ⟨e0, e1, e2, e3⟩ := (HP5.out _ b6s).four; clear ho6 hb6) | (go_at_call 12; refine (HE.out _ _ _ _ _ _ _ (VRw.below K6.out (by repeat (first | exact Below.refl _ _ | assumption | refine st_drew ?_ | refine st_drewN ?_ _ | refine Below.setCell ?_ (by first | omega | (simp; done) | (simp; omega)) _ | refine Below.alloc ?_ (by first | omega | (simp; done) | (simp; omega)) _))) (VRw.below R6.out (by repeat (first | exact Below.refl _ _ | assumption | refine st_drew ?_ | refine st_drewN ?_ _ | refine Below.setCell ?_ (by first | omega | (simp; done) | (simp; omega)) _ | refine Below.alloc ?_ (by first | omega | (simp; done) | (simp; omega)) _)))).mono ?_; rintro e w7 ⟨rfl, hb7⟩; have b7 := onto (show Below w5.heap.size w5 _ from by repeat (first | exact Below.refl _ _ | assumption | refine st_drew ?_ | refine st_drewN ?_ _ | refine Below.setCell ?_ (by first | omega | (simp; done) | (simp; omega)) _ | refine Below.alloc ?_ (by first | omega | (simp; done) | (simp; omega)) _)) hb7; clear hb7) | fail) | fail
  all_goals go_wp2_with fail
  all_goals go_ret
  all_goals exact ⟨rfl, HB5.out _ (by repeat (first | exact Below.refl _ _ | assumption | refine st_drew ?_ | refine st_drewN ?_ _ | refine Below.setCell ?_ (by first | omega | (simp; done) | (simp; omega)) _ | refine Below.alloc ?_ (by first | omega | (simp; done) | (simp; omega)) _))⟩

set_option maxRecDepth 100000 in
theorem lifted (os : Os) (started : os.Started) (H : Type) (enc : TypeId × Value → H) :
    ReturnsInHanded {} Try.checked os 3 .any (Rows.fnExactAllocationSpec.pre6 enc Try.prog Try.f3 Rows.fnExactAllocationRow.domain false) (Rows.fnExactAllocationSpec.post enc Try.prog Try.f3 false true false false) := by
  refine returnsInHanded_of_change (C := Try.checked) own started (by kernel_rfl) Try.func3
    (ChangeSpec.witness6 (enc := enc) (C := Try.checked) false ⟨#[], #[.agg #[.int .i64 0, .int .i64 0, .slice none 0 0, .int .i64 0], .int .i64 0], []⟩ 8 (by kernel_rfl) (by kernel_rfl) (by kernel_rfl) (by kernel_rfl)) ?_
  intro W base args ds gs before hval0 hW hcnd _
  have hval : ∀ (j : Nat) t v, Try.f3.params[j]? = some t → args[j]? = some v → Value.okWide Try.prog W .any base t v := hval0
  have hW' := hW
  obtain ⟨p, q, hA0, hV, rfl, hfz, hnd⟩ := hW
  have hA : DataW.TrodAll enc Try.prog W 0 (fun _ => true) true Try.f3.params.toList args.toList ds p := hA0
  rw [Try.params3] at hA hval
  obtain ⟨v0, vs0, d0, ds0, p0, q0, hargs, rfl, rfl, h0, r0⟩ := trodAll_cons hA
  obtain ⟨v1, vs1, d1, ds1, p1, q1, rfl, rfl, rfl, h1, r1⟩ := trodAll_cons r0
  obtain ⟨rfl, rfl, rfl⟩ := trodAll_nil r1
  obtain rfl : args = #[v0, v1] := by cases args; simp_all
  obtain ⟨rfl, rfl⟩ := trodVars_none hV
  have k0 := h0
  have lt0 : ∀ x ∈ p0, x.block < W.heap.size := by obtain ⟨m, hm⟩ := k0; exact DataW.trod_lt m _ _ _ hm
  obtain ⟨x, ta, tc, rfl, hcl, hcr⟩ := trial_of_read (hval 0 24 v0 rfl rfl) h0
  obtain ⟨i, rfl, rfl, rfl, k1⟩ := open_int Try.underlying2 (hval 1 2 v1 rfl rfl) h1
  clear hA0 hval0
  refine (walk x ta tc i W hcr hcl).mono fun e W' ⟨he, bel⟩ => ?_
  subst he
  exact ⟨_, rfl, _, _, _, [], _, [], hW', trodAll_mk1 (shut_bool Try.underlying4 _), (trodAll_cons_mk (Below.trod laidOut (by kernel_rfl) (of_decide_eq_true (by kernel_rfl)) k0 bel lt0) (trodAll_cons_mk (shut_int Try.underlying2 k1) trodAll_mk0)), rfl, bel.frame _, fun h => by cases h⟩

theorem over : Rows.fnExactAllocationRow.holds Try.pinned (OpenSpec.ofChange Rows.fnExactAllocationSpec) :=
  OpenClaim.holds_of_wide 3 Try.f3 rfl rfl rfl rfl rfl rfl rfl ⟨rfl, rfl, rfl, rfl, rfl⟩ rfl rfl rfl rfl rfl (by kernel_rfl) Try.func3 (by kernel_rfl)
    (of_decide_eq_true (by kernel_rfl)) (by unfold Func.isWrapper; first | (rw [if_pos (by decide +kernel)]; kernel_rfl) | (rw [if_neg (by decide +kernel)]; exact ⟨rfl, rfl⟩))
    (fun os started H enc _ => lifted os started H enc)
end fnExactAllocation
theorem fnExactAllocation_holds : Rows.FnExactAllocationSaid := fnExactAllocation.over
end Go.Proofs.Ytoehnlbkgpjhmab
