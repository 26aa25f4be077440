/-
  Proved: for every unit and every need, the program's Fits answers as the specification's, and writes into no argument (FnExactFits returns true). No conditions.
-/
import Derived.Test.YtaidhcbchpcemabQ19
namespace Go.Proofs.Ytaidhcbchpcemab
open Go.RowKit Va Bl

namespace fnExactFits
open Go.ChangeShapes Go.WideShapes Go.ChangeAt Go.Joins
set_option linter.all false

theorem own : ownKnob Try.prog.godebug = none := by kernel_rfl
theorem laidOut : laidOutB Try.prog = true := by kernel_rfl

set_option maxRecDepth 20000 in
set_option maxHeartbeats 8000000 in
theorem walk (x : Ut) (ta : Option Addr) (tc : Nat) (n : Nd) (na : Option Addr) (nc : Nat) (w : World) (h : IRw w (.slice ta x.ant.length tc) x.ant) (hm : x.ant.length ≤ maxLen) (h' : IRw w (.slice na n.ag.length nc) n.ag) (hm' : n.ag.length ≤ maxLen) :
    Calls Try.prog 3 #[aU x (.slice ta x.ant.length tc), aN n (.slice na n.ag.length nc)] w fun e w' => e = .returned (.bool true) ∧ Below w.heap.size w w' := by
  have hS := fun W => szunit_any x ta x.ant.length tc 1048576 W (by unfold maxLen at hm; omega) (by omega) (by omega)
  have PU := hidden ((PB.new w #[.int .i64 x.id, .int .i64 x.grp, .slice ta x.ant.length tc, .int .i64 x.til, .int .i64 x.st, .int .i64 x.fr] 24).alloc (.cells #[.int .i64 n.p, .int .i64 n.g, .slice na n.ag.length nc] 26))
  have PN := hidden (PB.new (w.alloc (.cells #[.int .i64 x.id, .int .i64 x.grp, .slice ta x.ant.length tc, .int .i64 x.til, .int .i64 x.st, .int .i64 x.fr] 24)) #[.int .i64 n.p, .int .i64 n.g, .slice na n.ag.length nc] 26)
  have hb0 : Below w.heap.size w ((w.alloc (.cells #[.int .i64 x.id, .int .i64 x.grp, .slice ta x.ant.length tc, .int .i64 x.til, .int .i64 x.st, .int .i64 x.fr] 24)).alloc (.cells #[.int .i64 n.p, .int .i64 n.g, .slice na n.ag.length nc] 26)) := by repeat (first | exact Below.refl _ _ | assumption | refine st_drew ?_ | refine st_drewN ?_ _ | refine Below.setCell ?_ (by first | omega | (simp; done) | (simp; omega)) _ | refine Below.alloc ?_ (by first | omega | (simp; done) | (simp; omega)) _)
  simp only [World.size_alloc] at PU PN
  have HA := hidden (h.below hb0)
  have HJ := hidden (h'.below hb0)
  clear h h'
  unfold aU aN at *
  go_enter Try.func3, Try.ntmps3
  go_upto_region 1 with fail
  generalize (w.alloc (.cells #[.int .i64 x.id, .int .i64 x.grp, .slice ta x.ant.length tc, .int .i64 x.til, .int .i64 x.st, .int .i64 x.fr] 24)).alloc (.cells #[.int .i64 n.p, .int .i64 n.g, .slice na n.ag.length nc] 26) = wA at *
  obtain ⟨c0, c1, c2, c3, c4, c5⟩ := PU.out.six
  obtain ⟨d0, d1, d2⟩ := PN.out.three
  by_cases hbig : (1048576 : Int) < (x.ant.length : Int)
  · simp only [if_pos hbig] at hS
    go_wp2_with fail
    refine (hS _).mono ?_
    rintro e w1 ⟨rfl, hb1⟩
    go_wp2_with fail
    go_ret
    exact ⟨rfl, onto hb0 hb1⟩
  simp only [if_neg hbig] at hS
  have hn : ¬ (1048576 : Int) - x.ant.length < 0 := by omega
  have hll : x.ant.length ≤ 1048576 := by omega
  have hS2 := fun W => szneed_any n na n.ag.length nc (1048576 - x.ant.length) W (by unfold maxLen at hm'; omega) (by omega) (by omega)
  unfold aN at hS2
  by_cases hbig2 : (1048576 : Int) - x.ant.length < (n.ag.length : Int)
  · simp only [if_pos hbig2] at hS2
    go_wp2_with fail
    refine (hS _).mono ?_
    rintro e w1 ⟨rfl, hb1⟩
    clear c0 c1 c2 c3 c4 c5 d0 d1 d2
    obtain ⟨d0, d1, d2⟩ := (PN.out.below hb1).three
    go_wp2_with fail
    refine (hS2 _).mono ?_
    rintro e w2 ⟨rfl, hb2⟩
    go_wp2_with fail
    go_ret
    exact ⟨rfl, onto (onto hb0 hb1) hb2⟩
  simp only [if_neg hbig2] at hS2
  have hn2 : ¬ (1048576 : Int) - x.ant.length - n.ag.length < 0 := by omega
  have hlk : n.ag.length ≤ 1048576 := by omega
  have HT := hidden (fun W hW => tounit_any x ta x.ant.length tc W hW hll)
  have HU := hidden (fun W hW => toneed_any n na n.ag.length nc W hW hlk)
  have HQ := hidden (fun a m c a2 m2 c2 W hW hW2 => equnit_any x a m c a2 m2 c2 W hW hW2 hll)
  have HR := hidden (fun a m c a2 m2 c2 W hW hW2 => eqneed_any n a m c a2 m2 c2 W hW hW2 hlk)
  have HSP := hidden (fun a m c a2 m2 c2 W hW hW2 => sfits_any x a m c n a2 m2 c2 W hW hll hW2 hlk)
  have HIM := hidden (fun a m c a2 m2 c2 W hW hW2 => ifits_any x a m c n a2 m2 c2 W hW hll hW2 hlk)
  generalize fitsB x n = tb at *
  unfold aU aN at *
  go_wp2_with fail
  refine (hS _).mono ?_
  rintro e w1 ⟨rfl, hb1⟩
  have PU1 := hidden (PU.out.below hb1)
  have PN1 := hidden (PN.out.below hb1)
  have HA1 := hidden (HA.out.below hb1)
  have HJ1 := hidden (HJ.out.below hb1)
  have K1 := onto hb0 hb1
  clear hS hb1 hb0 c0 c1 c2 c3 c4 c5 d0 d1 d2 PU PN HA HJ
  obtain ⟨c0, c1, c2, c3, c4, c5⟩ := PU1.out.six
  obtain ⟨d0, d1, d2⟩ := PN1.out.three
  go_wp2_with fail
  refine (hS2 _).mono ?_
  rintro e w2 ⟨rfl, hb2⟩
  have PU2 := hidden (PU1.out.below hb2)
  have PN2 := hidden (PN1.out.below hb2)
  have HA2 := hidden (HA1.out.below hb2)
  have HJ2 := hidden (HJ1.out.below hb2)
  have K2 := onto K1 hb2
  clear hS2 hb2 K1 c0 c1 c2 c3 c4 c5 d0 d1 d2 PU1 PN1 HA1 HJ1
  go_upto_region 8 with fail
  refine regLf8 (tb := tb) rfl rfl rfl PU2.out PN2.out (fun W hW => HT.out W (HA2.out.below hW)) (fun W hW => HU.out W (HJ2.out.below hW)) (fun G1 G2 W h1 h2 => HSP.out _ _ _ _ _ _ W (out_irw h1 _ (Nat.le_refl _)) (out_irw h2 _ (Nat.le_refl _))) ?_
  intro b' w3 hf hb3 hv
  rw [layLf8 hf, hv]
  clear hv hf
  generalize Rg.out (Rg.opsOf Try.f3 8) b' 0 = y0
  generalize Rg.out (Rg.opsOf Try.f3 8) b' 1 = y1
  generalize Rg.out (Rg.opsOf Try.f3 8) b' 2 = y2
  generalize Rg.out (Rg.opsOf Try.f3 8) b' 3 = y3
  generalize Rg.out (Rg.opsOf Try.f3 8) b' 4 = y4
  have PU3 := hidden (PU2.out.below hb3)
  have PN3 := hidden (PN2.out.below hb3)
  have HA3 := hidden (HA2.out.below hb3)
  have HJ3 := hidden (HJ2.out.below hb3)
  have K3 := onto K2 hb3
  clear hb3 K2 PU2 PN2 HA2 HJ2
  go_frame
  obtain ⟨c0, c1, c2, c3, c4, c5⟩ := PU3.out.six
  go_wp2_with fail
  refine (HT.out _ HA3.out).mono ?_
  rintro e w4 ⟨G1, hG1, hG1l, rfl, ho1, hb4⟩
  have PU4 := hidden (PU3.out.below hb4)
  have PN4 := hidden (PN3.out.below hb4)
  have HA4 := hidden (HA3.out.below hb4)
  have HJ4 := hidden (HJ3.out.below hb4)
  have K4 := onto K3 hb4
  have O4 := hidden ho1
  clear hb4 K3 PU3 PN3 HA3 HJ3 c0 c1 c2 c3 c4 c5 ho1
  go_upto_region 10 with fail
  have PX5 := hidden (PB.new w4 #[.int .i64 x.id, .int .i64 x.grp, .slice (some ⟨G1, 0, none⟩) x.ant.length x.ant.length, .int .i64 x.til, .int .i64 x.st, .int .i64 x.fr] 30)
  have b5 : Below w4.heap.size w4 (w4.alloc (.cells #[.int .i64 x.id, .int .i64 x.grp, .slice (some ⟨G1, 0, none⟩) x.ant.length x.ant.length, .int .i64 x.til, .int .i64 x.st, .int .i64 x.fr] 30)) := by repeat (first | exact Below.refl _ _ | assumption | refine st_drew ?_ | refine st_drewN ?_ _ | refine Below.setCell ?_ (by first | omega | (simp; done) | (simp; omega)) _ | refine Below.alloc ?_ (by first | omega | (simp; done) | (simp; omega)) _)
  generalize w4.alloc (.cells #[.int .i64 x.id, .int .i64 x.grp, .slice (some ⟨G1, 0, none⟩) x.ant.length x.ant.length, .int .i64 x.til, .int .i64 x.st, .int .i64 x.fr] 30) = w5 at *
  have PU5 := hidden (PU4.out.below b5)
  have PN5 := hidden (PN4.out.below b5)
  have HA5 := hidden (HA4.out.below b5)
  have HJ5 := hidden (HJ4.out.below b5)
  have O5 := hidden (O4.out.below b5)
  have K5 := onto K4 b5
  clear b5 K4 PU4 PN4 HA4 HJ4 O4
  obtain ⟨d0, d1, d2⟩ := PN5.out.three
  go_wp2_with fail
  refine (HU.out _ HJ5.out).mono ?_
  rintro e w6 ⟨G2, hG2, hG2l, rfl, ho2, hb6⟩
  have PU6 := hidden (PU5.out.below hb6)
  have PN6 := hidden (PN5.out.below hb6)
  have PX6 := hidden (PX5.out.below hb6)
  have HA6 := hidden (HA5.out.below hb6)
  have HJ6 := hidden (HJ5.out.below hb6)
  have O6 := hidden (O5.out.below hb6)
  have K6 := onto K5 hb6
  have R6 := hidden ho2
  clear hb6 K5 PU5 PN5 PX5 HA5 HJ5 O5 ho2 d0 d1 d2
  go_upto_region 11 with fail
  have PY7 := hidden (PB.new w6 #[.int .i64 n.p, .int .i64 n.g, .slice (some ⟨G2, 0, none⟩) n.ag.length n.ag.length] 32)
  have b7 : Below w6.heap.size w6 (w6.alloc (.cells #[.int .i64 n.p, .int .i64 n.g, .slice (some ⟨G2, 0, none⟩) n.ag.length n.ag.length] 32)) := by repeat (first | exact Below.refl _ _ | assumption | refine st_drew ?_ | refine st_drewN ?_ _ | refine Below.setCell ?_ (by first | omega | (simp; done) | (simp; omega)) _ | refine Below.alloc ?_ (by first | omega | (simp; done) | (simp; omega)) _)
  generalize w6.alloc (.cells #[.int .i64 n.p, .int .i64 n.g, .slice (some ⟨G2, 0, none⟩) n.ag.length n.ag.length] 32) = w7 at *
  have PU7 := hidden (PU6.out.below b7)
  have PN7 := hidden (PN6.out.below b7)
  have PX7 := hidden (PX6.out.below b7)
  have HA7 := hidden (HA6.out.below b7)
  have HJ7 := hidden (HJ6.out.below b7)
  have O7 := hidden (O6.out.below b7)
  have R7 := hidden (R6.out.below b7)
  have K7 := onto K6 b7
  clear b7 K6 PU6 PN6 PX6 HA6 HJ6 O6 R6
  obtain ⟨c0, c1, c2, c3, c4, c5⟩ := PX7.out.six
  obtain ⟨d0, d1, d2⟩ := PY7.out.three
  go_wp2_with fail
  refine (HIM.out _ _ _ _ _ _ _ (out_irw O7.out _ (Nat.le_refl _)) (out_irw R7.out _ (Nat.le_refl _))).mono ?_
  rintro e w8 ⟨rfl, hb8⟩
  have PU8 := hidden (PU7.out.below hb8)
  have PN8 := hidden (PN7.out.below hb8)
  have PX8 := hidden (PX7.out.below hb8)
  have PY8 := hidden (PY7.out.below hb8)
  have HA8 := hidden (HA7.out.below hb8)
  have HJ8 := hidden (HJ7.out.below hb8)
  have O8 := hidden (O7.out.below hb8)
  have R8 := hidden (R7.out.below hb8)
  have K8 := onto K7 hb8
  clear hb8 K7 PU7 PN7 PX7 PY7 HA7 HJ7 O7 R7 c0 c1 c2 c3 c4 c5 d0 d1 d2
  cases tb
  all_goals
    go_upto_region 14 with fail
    refine regLf14 rfl rfl rfl PU8.out PX8.out O8.out (fun W hW => HT.out W (HA8.out.below hW)) (fun G W hW hG => HQ.out _ _ _ _ _ _ W (out_irw (O8.out.below hW) _ (Nat.le_refl _)) (out_irw hG _ (Nat.le_refl _))) ?_
    intro b' w9 hf hb9 hv
    rw [layLf14 hf, hv]
    clear hv hf
    generalize Rg.out (Rg.opsOf Try.f3 14) b' 0 = y0
    generalize Rg.out (Rg.opsOf Try.f3 14) b' 1 = y1
    generalize Rg.out (Rg.opsOf Try.f3 14) b' 2 = y2
    generalize Rg.out (Rg.opsOf Try.f3 14) b' 3 = y3
    have PN9 := hidden (PN8.out.below hb9)
    have PY9 := hidden (PY8.out.below hb9)
    have HJ9 := hidden (HJ8.out.below hb9)
    have R9 := hidden (R8.out.below hb9)
    have K9 := onto K8 hb9
    clear hb9
    go_frame
    go_upto_region 16 with fail
    refine regLf16 rfl rfl rfl PN9.out PY9.out (fun W hW => HU.out W (HJ9.out.below hW)) (fun G W hW hG => HR.out _ _ _ _ _ _ W (out_irw (R9.out.below hW) _ (Nat.le_refl _)) (out_irw hG _ (Nat.le_refl _))) ?_
    intro b' w10 hf hb10 hv
    rw [layLf16 hf, hv]
    clear hv hf
    generalize Rg.out (Rg.opsOf Try.f3 16) b' 0 = y0
    generalize Rg.out (Rg.opsOf Try.f3 16) b' 1 = y1
    generalize Rg.out (Rg.opsOf Try.f3 16) b' 2 = y2
    generalize Rg.out (Rg.opsOf Try.f3 16) b' 3 = y3
    have K10 := onto K9 hb10
    clear hb10
    go_frame
    go_wp2_with fail
    go_ret
    exact ⟨rfl, K10⟩

set_option maxRecDepth 100000 in
theorem lifted (os : Os) (started : os.Started) (H : Type) (enc : TypeId × Value → H) :
    ReturnsInHanded {} Try.checked os 3 .any (Rows.fnExactFitsSpec.pre6 enc Try.prog Try.f3 Rows.fnExactFitsRow.domain false) (Rows.fnExactFitsSpec.post enc Try.prog Try.f3 false true false false) := by
  refine returnsInHanded_of_change (C := Try.checked) own started (by kernel_rfl) Try.func3
    (ChangeSpec.witness6 (enc := enc) (C := Try.checked) false ⟨#[], #[.agg #[.int .i64 0, .int .i64 0, .slice none 0 0, .int .i64 0, .int .i64 0, .int .i64 0], .agg #[.int .i64 0, .int .i64 0, .slice none 0 0]], []⟩ 8 (by kernel_rfl) (by kernel_rfl) (by kernel_rfl) (by kernel_rfl)) ?_
  intro W base args ds gs before hval0 hW hcnd _
  have hval : ∀ (j : Nat) t v, Try.f3.params[j]? = some t → args[j]? = some v → Value.okWide Try.prog W .any base t v := hval0
  have hW' := hW
  obtain ⟨p, q, hA0, hV, rfl, hfz, hnd⟩ := hW
  have hA : DataW.TrodAll enc Try.prog W 0 (fun _ => true) true Try.f3.params.toList args.toList ds p := hA0
  rw [Try.params3] at hA hval
  obtain ⟨v0, vs0, d0, ds0, p0, q0, hargs, rfl, rfl, h0, r0⟩ := trodAll_cons hA
  obtain ⟨v1, vs1, d1, ds1, p1, q1, rfl, rfl, rfl, h1, r1⟩ := trodAll_cons r0
  obtain ⟨rfl, rfl, rfl⟩ := trodAll_nil r1
  obtain rfl : args = #[v0, v1] := by cases args; simp_all
  obtain ⟨rfl, rfl⟩ := trodVars_none hV
  have k0 := h0
  have lt0 : ∀ x ∈ p0, x.block < W.heap.size := by obtain ⟨m, hm⟩ := k0; exact DataW.trod_lt m _ _ _ hm
  obtain ⟨x, ua, uc, rfl, hul, hur⟩ := unit_of_read (hval 0 24 v0 rfl rfl) h0
  have k1 := h1
  have lt1 : ∀ x ∈ p1, x.block < W.heap.size := by obtain ⟨m, hm⟩ := k1; exact DataW.trod_lt m _ _ _ hm
  obtain ⟨n, na, nc, rfl, hnl, hnr⟩ := need_of_read (hval 1 26 v1 rfl rfl) h1
  clear hA0 hval0
  refine (walk x ua uc n na nc W hur hul hnr hnl).mono fun e W' ⟨he, bel⟩ => ?_
  subst he
  exact ⟨_, rfl, _, _, _, [], _, [], hW', trodAll_mk1 (shut_bool Try.underlying4 _), (trodAll_cons_mk (Below.trod laidOut (by kernel_rfl) (of_decide_eq_true (by kernel_rfl)) k0 bel lt0) (trodAll_cons_mk (Below.trod laidOut (by kernel_rfl) (of_decide_eq_true (by kernel_rfl)) k1 bel lt1) trodAll_mk0)), rfl, bel.frame _, fun h => by cases h⟩

theorem over : Rows.fnExactFitsRow.holds Try.pinned (OpenSpec.ofChange Rows.fnExactFitsSpec) :=
  OpenClaim.holds_of_wide 3 Try.f3 rfl rfl rfl rfl rfl rfl rfl ⟨rfl, rfl, rfl, rfl, rfl⟩ rfl rfl rfl rfl rfl (by kernel_rfl) Try.func3 (by kernel_rfl)
    (of_decide_eq_true (by kernel_rfl)) (by unfold Func.isWrapper; first | (rw [if_pos (by decide +kernel)]; kernel_rfl) | (rw [if_neg (by decide +kernel)]; exact ⟨rfl, rfl⟩))
    (fun os started H enc _ => lifted os started H enc)
end fnExactFits
theorem fnExactFits_holds : Rows.FnExactFitsSaid := fnExactFits.over
end Go.Proofs.Ytaidhcbchpcemab
