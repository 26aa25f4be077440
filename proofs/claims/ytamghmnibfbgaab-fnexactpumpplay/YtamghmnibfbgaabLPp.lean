/-
  Proved: for every limit, every number and every list of acts, the program's PumpPlay answers as the specification's, writes into no argument and keeps none, and its answer is its own (FnExactPumpPlay returns true). No conditions.
-/
import Derived.Test.YtamghmnibfbgaabEb
import Derived.Test.YtamghmnibfbgaabEd
namespace Go.Proofs.Ytamghmnibfbgaab
open Go.RowKit Va Ba

namespace fnExactPumpPlay
open Go.ChangeShapes Go.WideShapes Go.ChangeAt Go.Joins
set_option linter.unusedVariables false

theorem own : ownKnob Try.prog.godebug = none := by kernel_rfl
theorem laidOut : laidOutB Try.prog = true := by kernel_rfl

theorem pplay_len (l : Lm) (lf : Int) (acs : List Ac) : (pplay l lf acs).2.length ≤ 1048576 := by
  unfold pplay
  split
  · rename_i h
    rw [codes_len]
    have := h.2
    omega
  · simp
theorem mark_pb {α : Type} {s : Nat} {cs : α → Nat → Int} {wx w w' : World} {base B : Nat} {v : Value} {l : List α} {vs : Array Value} {t : TypeId} (h : Own s cs wx base v l) (hx : wx.heap.size ≤ B) (ha : Aside w w' v) (hz : l.length = 0 → w' = w) (h2 : PB w B vs t) : PB w' B vs t := by
  rcases Nat.eq_zero_or_pos l.length with q | q
  · rw [hz q]; exact h2
  · obtain ⟨ao, cap, rfl, _, hh⟩ := h
    obtain ⟨G, rfl, hG, ho⟩ := hh.resolve_left (by omega)
    refine (ha.block B ?_).trans h2
    intro e
    have e2 : G = B := Option.some.inj e
    have := ho.1
    omega

set_option maxRecDepth 20000 in
set_option maxHeartbeats 8000000 in
theorem walk (l : Lm) (lf : Int) (ao : Option Addr) (len cap : Nat) (acs : List Ac) (w : World) (h : Rw 2 csA w (.slice ao len cap) acs) (hl : acs.length = len) (hm : len ≤ maxLen) :
    Calls Try.prog 3 #[aL l, .int .i64 lf, .slice ao len cap] w fun e w' => e = .returned (.bool true) ∧ Below w.heap.size w w' := by
  have hS := fun W => szacts_any ao len cap 1048576 W (by unfold maxLen at hm; omega) (by omega) (by omega)
  have hP := PB.new w #[.int .i64 l.sl, .int .i64 l.sh, .int .i64 l.hl, .int .i64 l.hh] 23
  have hb0 : Below w.heap.size w (w.alloc (.cells #[.int .i64 l.sl, .int .i64 l.sh, .int .i64 l.hl, .int .i64 l.hh] 23)) := (Below.refl _ _).alloc (Nat.le_refl _) _
  by_cases hbig : (1048576 : Int) < (len : Int)
  · simp only [if_pos hbig] at hS
    clear h hP
    unfold aL
    go_enter Try.func3, Try.ntmps3
    go_wp2_with fail
    refine (hS _).mono ?_
    rintro e w1 ⟨rfl, rfl⟩
    go_wp2_with fail
    go_ret
    exact ⟨rfl, hb0⟩
  simp only [if_neg hbig] at hS
  have hn : ¬ (1048576 : Int) - len < 0 := by omega
  have hll : acs.length ≤ 1048576 := by omega
  have hTL := tolim_any l
  have HT := hidden (fun W hW => toacts_any (.slice ao len cap) acs W hW hll)
  have HJ := hidden h
  have HL := hidden hll
  have hLL := pplay_len l lf acs
  have HSM := hidden (fun a n c W hW => splay_any l lf a n c acs W hW hll)
  have HIM := hidden (fun a n c W hW => iplay_any l lf a n c acs W hW hll)
  generalize pplay l lf acs = R at *
  obtain ⟨q, L⟩ := R
  dsimp only at hLL HSM HIM
  have hQ : ∀ w, Calls Try.prog 9 #[aPm q, aPm q] w fun r w' => r = .returned (.bool true) ∧ Below w.heap.size w w' := fun w => (eqpump_any q q w).mono fun e w' ⟨h1, h2⟩ => ⟨by rw [h1, pmEq_self], h2⟩
  unfold aPm at hQ HSM HIM
  unfold aL at *
  clear h hl hll
  go_enter Try.func3, Try.ntmps3
  go_upto_region 1 with fail
  generalize w.alloc (.cells #[.int .i64 l.sl, .int .i64 l.sh, .int .i64 l.hl, .int .i64 l.hh] 23) = wA at *
  generalize hav : Value.agg #[.int .i64 l.sl, .int .i64 l.sh, .int .i64 l.hl, .int .i64 l.hh] = av
  rw [hav] at hTL HSM HIM
  have HP := hidden hP
  have HB := hidden hb0
  clear hb0
  obtain ⟨c0, c1, c2, c3⟩ := hP.four
  clear hP
  go_wp2_with fail
  refine (hS _).mono ?_
  rintro e w1 ⟨rfl, rfl⟩
  clear hS
  go_wp2_with fail
  refine (hTL _).mono ?_
  rintro e w1 ⟨rfl, hb1⟩
  have B1 := onto HB.out hb1
  go_wp2_with fail
  refine (HT.out _ (HJ.out.below B1)).mono ?_
  rintro e w2 ⟨v2, rfl, hj2, hb2⟩
  obtain ⟨a2, k2, rfl⟩ := hj2.row.form
  have R2 := hidden hj2.row
  have B2 := onto B1 hb2
  go_wp2_with fail
  refine (HSM.out _ _ _ _ R2.out).mono ?_
  rintro e w3 ⟨v3, rfl, ho3, hb3⟩
  obtain ⟨ad3, k3, rfl⟩ := ownW_slice ho3
  have HL3 := hidden (((HP.out.below hb1).below hb2).below hb3)
  have B3 := onto B2 hb3
  have V3 := hidden (ownI ho3).row
  clear hb1 hb2 hb3 B1 B2 R2 hj2 ho3 c0 c1 c2 c3 HP HB
  go_upto_region 6 with fail
  have PW := hidden (PB.new w3 #[.int .i64 q.lim.sl, .int .i64 q.lim.sh, .int .i64 q.lim.hl, .int .i64 q.lim.hh, .int .i64 q.rate, .int .i64 q.asked, .int .i64 q.st, .bool q.door, .int .i64 q.left, .int .i64 q.given] 28)
  have PL := hidden (HL3.out.alloc (.cells #[.int .i64 q.lim.sl, .int .i64 q.lim.sh, .int .i64 q.lim.hl, .int .i64 q.lim.hh, .int .i64 q.rate, .int .i64 q.asked, .int .i64 q.st, .bool q.door, .int .i64 q.left, .int .i64 q.given] 28))
  have bx : Below w3.heap.size w3 (w3.alloc (.cells #[.int .i64 q.lim.sl, .int .i64 q.lim.sh, .int .i64 q.lim.hl, .int .i64 q.lim.hh, .int .i64 q.rate, .int .i64 q.asked, .int .i64 q.st, .bool q.door, .int .i64 q.left, .int .i64 q.given] 28)) := (Below.refl _ _).alloc (Nat.le_refl _) _
  have V3x := hidden (V3.out.below bx)
  have b3 : Below w.heap.size w (w3.alloc (.cells #[.int .i64 q.lim.sl, .int .i64 q.lim.sh, .int .i64 q.lim.hl, .int .i64 q.lim.hh, .int .i64 q.rate, .int .i64 q.asked, .int .i64 q.st, .bool q.door, .int .i64 q.left, .int .i64 q.given] 28)) := B3.alloc B3.size _
  clear bx V3 HL3 B3
  generalize w3.alloc (.cells #[.int .i64 q.lim.sl, .int .i64 q.lim.sh, .int .i64 q.lim.hl, .int .i64 q.lim.hh, .int .i64 q.rate, .int .i64 q.asked, .int .i64 q.st, .bool q.door, .int .i64 q.left, .int .i64 q.given] 28) = wX at *
  generalize w3.heap.size = W0 at *
  have BW := hidden (fun W (hW : Below wX.heap.size wX W) => b3.trans (hW.mono b3.size))
  have BR := hidden (fun W (hW : Below wX.heap.size wX W) => HJ.out.below (b3.trans (hW.mono b3.size)))
  go_wp2_with fail
  refine (HT.out _ (HJ.out.below b3)).mono ?_
  rintro e w4 ⟨v4, rfl, hj4, hb4⟩
  obtain ⟨a4, k4, rfl⟩ := hj4.row.form
  have O4 := hidden hj4
  have z4 := hb4.size
  obtain ⟨c0, c1, c2, c3⟩ := (PL.out.below hb4).four
  clear hj4 b3
  go_wp2_with fail
  refine (hTL _).mono ?_
  rintro e w5 ⟨rfl, hb5⟩
  have O5 := hidden (O4.out.below hb5)
  have K5 := hidden (hb4.trans (hb5.mono z4))
  have z5 := hb5.size
  go_wp2_with fail
  refine (HIM.out _ _ _ _ O5.out.row).mono ?_
  rintro e w6 ⟨v6, rfl, ho6, hb6⟩
  obtain ⟨ad6, k6, rfl⟩ := ownW_slice ho6
  have z6 := hb6.size
  clear hb4 hb5 c0 c1 c2 c3
  go_upto_region 8 with fail
  have PG := hidden (PB.new w6 #[.int .i64 q.lim.sl, .int .i64 q.lim.sh, .int .i64 q.lim.hl, .int .i64 q.lim.hh, .int .i64 q.rate, .int .i64 q.asked, .int .i64 q.st, .bool q.door, .int .i64 q.left, .int .i64 q.given] 28)
  have bx : Below w6.heap.size w6 (w6.alloc (.cells #[.int .i64 q.lim.sl, .int .i64 q.lim.sh, .int .i64 q.lim.hl, .int .i64 q.lim.hh, .int .i64 q.rate, .int .i64 q.asked, .int .i64 q.st, .bool q.door, .int .i64 q.left, .int .i64 q.given] 28)) := (Below.refl _ _).alloc (Nat.le_refl _) _
  have HG6 := hidden (ownI ho6)
  have K7 := hidden (K5.out.trans ((hb6.trans (bx.mono z6)).mono K5.out.size))
  have X7 := hidden ((O5.out.below hb6).below bx)
  have O7 := hidden ((ownI ho6).below bx)
  have PW7 := hidden (PW.out.below K7.out)
  clear hb6 ho6 bx O5 K5
  have hG0 : w6.heap.size ≤ w6.heap.size := Nat.le_refl _
  generalize hWY : w6.alloc (.cells #[.int .i64 q.lim.sl, .int .i64 q.lim.sh, .int .i64 q.lim.hl, .int .i64 q.lim.hh, .int .i64 q.rate, .int .i64 q.asked, .int .i64 q.st, .bool q.door, .int .i64 q.left, .int .i64 q.given] 28) = w7 at *
  clear hWY
  obtain ⟨d0, d1, d2, d3, d4, d5, d6, d7, d8, d9⟩ := PG.out.ten
  obtain ⟨e0, e1, e2, e3, e4, e5, e6, e7, e8, e9⟩ := PW7.out.ten
  go_wp2_with fail
  refine (hQ _).mono ?_
  rintro e w8 ⟨rfl, hb8⟩
  have K8 := hidden (K7.out.trans (hb8.mono K7.out.size))
  have X8 := hidden (X7.out.below hb8)
  have O8 := hidden (O7.out.below hb8)
  have G8 := hidden (PG.out.below hb8)
  clear hb8 X7 O7 K7 PG PW7 d0 d1 d2 d3 d4 d5 d6 d7 d8 d9 e0 e1 e2 e3 e4 e5 e6 e7 e8 e9
  go_wp2_with fail
  refine (eqints_any _ _ L _ O8.out.row (V3x.out.below K8.out) hLL).mono ?_
  rintro e w9 ⟨rfl, hb9⟩
  have K9 := hidden (K8.out.trans (hb9.mono K8.out.size))
  have X9 := hidden (X8.out.below hb9)
  have O9 := hidden (O8.out.below hb9)
  have G9 := hidden (G8.out.below hb9)
  clear hb9 X8 O8 K8 G8
  go_wp2_with fail
  refine (HT.out _ (BR.out _ K9.out)).mono ?_
  rintro e w10 ⟨v10, rfl, hj10, hb10⟩
  obtain ⟨a10, k10, rfl⟩ := hj10.row.form
  have K10 := hidden (K9.out.trans (hb10.mono K9.out.size))
  have X10 := hidden (X9.out.below hb10)
  have O10 := hidden (O9.out.below hb10)
  have G10 := hidden (G9.out.below hb10)
  have R10 := hidden hj10.row
  clear hb10 hj10 X9 O9 K9 G9
  go_wp2_with fail
  refine (eqacts_any _ _ acs _ X10.out.row R10.out HL.out).mono ?_
  rintro e w11 ⟨rfl, hb11⟩
  have K11 := hidden (K10.out.trans (hb11.mono K10.out.size))
  have X11 := hidden (X10.out.below hb11)
  have O11 := hidden (O10.out.below hb11)
  have G11 := hidden (G10.out.below hb11)
  clear hb11 R10 X10 O10 K10 G10
  go_wp2_with fail
  refine (markact_any _ acs _ 1 _ X11.out HL.out (by omega) (by omega)).mono ?_
  rintro e w12 ⟨rfl, -, ha12, hz12⟩
  have K12 := hidden (X11.out.mark_below ha12 hz12 K11.out (Nat.le_refl _))
  have O12 := hidden (O4.out.mark_own z5 ha12 hz12 O11.out)
  have G12 := hidden (mark_pb O4.out (Nat.le_trans z5 z6) ha12 hz12 G11.out)
  have PW12 := hidden (PW.out.below K12.out)
  have n12 : ¬ (1 + 2 * (acs.length : Int)) < 0 := by omega
  clear ha12 hz12 X11 O11 K11 G11
  obtain ⟨d0, d1, d2, d3, d4, d5, d6, d7, d8, d9⟩ := G12.out.ten
  obtain ⟨e0, e1, e2, e3, e4, e5, e6, e7, e8, e9⟩ := PW12.out.ten
  go_wp2_with fail
  refine (hQ _).mono ?_
  rintro e w13 ⟨rfl, hb13⟩
  have K13 := hidden (K12.out.trans (hb13.mono K12.out.size))
  have O13 := hidden (O12.out.below hb13)
  clear hb13 O12 K12 G12 PW12 d0 d1 d2 d3 d4 d5 d6 d7 d8 d9 e0 e1 e2 e3 e4 e5 e6 e7 e8 e9
  go_wp2_with fail
  refine (eqints_any _ _ L _ O13.out.row (V3x.out.below K13.out) hLL).mono ?_
  rintro e w14 ⟨rfl, hb14⟩
  have K14 := hidden (K13.out.trans (hb14.mono K13.out.size))
  have O14 := hidden (O13.out.below hb14)
  clear hb14 O13 K13
  go_wp2_with fail
  refine (markint_any _ L _ 1 _ O14.out hLL (by omega) (by omega)).mono ?_
  rintro e w15 ⟨rfl, hm15, ha15, hz15⟩
  have K15 := hidden (O14.out.mark_below ha15 hz15 K14.out (Nat.le_trans z4 z5))
  have HM15 := hidden hm15
  have n15 : ¬ (1 + (L.length : Int)) < 0 := by omega
  clear hm15 ha15 hz15 O14 K14
  go_wp2_with fail
  refine (heldint_any _ 1 L.length _ HM15.out.row hLL (by omega) (by omega)).mono ?_
  rintro e w16 ⟨rfl, hw16⟩
  have hw17 := hw16.symm
  clear hw16
  subst hw17
  obtain ⟨c0, c1, c2, c3⟩ := (PL.out.below K15.out).four
  go_wp2_with fail
  refine (hTL _).mono ?_
  rintro e w17 ⟨rfl, hb17⟩
  have K17 := hidden (K15.out.trans (hb17.mono K15.out.size))
  have HM17 := hidden (HM15.out.below hb17)
  clear hb17 K15 HM15 c0 c1 c2 c3
  go_wp2_with fail
  refine (HT.out _ (BR.out _ K17.out)).mono ?_
  rintro e w18 ⟨v18, rfl, hj18, hb18⟩
  obtain ⟨a18, k18, rfl⟩ := hj18.row.form
  have K18 := hidden (K17.out.trans (hb18.mono K17.out.size))
  have HM18 := hidden (HM17.out.below hb18)
  have R18 := hidden hj18.row
  clear hb18 hj18 K17 HM17
  go_wp2_with fail
  refine (HIM.out _ _ _ _ R18.out).mono ?_
  rintro e w19 ⟨v19, rfl, ho19, hb19⟩
  obtain ⟨ad19, k19, rfl⟩ := ownW_slice ho19
  have K19 := hidden (K18.out.trans (hb19.mono K18.out.size))
  have HM19 := hidden (HM18.out.below hb19)
  have V19 := hidden (ownI ho19).row
  clear hb19 ho19 K18 HM18 R18
  go_upto_region 25 with fail
  have PH := hidden (PB.new w19 #[.int .i64 q.lim.sl, .int .i64 q.lim.sh, .int .i64 q.lim.hl, .int .i64 q.lim.hh, .int .i64 q.rate, .int .i64 q.asked, .int .i64 q.st, .bool q.door, .int .i64 q.left, .int .i64 q.given] 28)
  have bx : Below w19.heap.size w19 (w19.alloc (.cells #[.int .i64 q.lim.sl, .int .i64 q.lim.sh, .int .i64 q.lim.hl, .int .i64 q.lim.hh, .int .i64 q.rate, .int .i64 q.asked, .int .i64 q.st, .bool q.door, .int .i64 q.left, .int .i64 q.given] 28)) := (Below.refl _ _).alloc (Nat.le_refl _) _
  have K20 := hidden (K19.out.trans (bx.mono K19.out.size))
  have HM20 := hidden (HM19.out.below bx)
  have V20 := hidden (V19.out.below bx)
  have PW20 := hidden (PW.out.below K20.out)
  clear bx K19 HM19 V19
  generalize hWZ : w19.alloc (.cells #[.int .i64 q.lim.sl, .int .i64 q.lim.sh, .int .i64 q.lim.hl, .int .i64 q.lim.hh, .int .i64 q.rate, .int .i64 q.asked, .int .i64 q.st, .bool q.door, .int .i64 q.left, .int .i64 q.given] 28) = w20 at *
  clear hWZ
  obtain ⟨d0, d1, d2, d3, d4, d5, d6, d7, d8, d9⟩ := PH.out.ten
  obtain ⟨e0, e1, e2, e3, e4, e5, e6, e7, e8, e9⟩ := PW20.out.ten
  go_wp2_with fail
  refine (hQ _).mono ?_
  rintro e w21 ⟨rfl, hb21⟩
  have K21 := hidden (K20.out.trans (hb21.mono K20.out.size))
  have HM21 := hidden (HM20.out.below hb21)
  have V21 := hidden (V20.out.below hb21)
  clear hb21 K20 HM20 V20 PH PW20 d0 d1 d2 d3 d4 d5 d6 d7 d8 d9 e0 e1 e2 e3 e4 e5 e6 e7 e8 e9
  go_wp2_with fail
  refine (eqints_any _ _ L _ V21.out (V3x.out.below K21.out) hLL).mono ?_
  rintro e w22 ⟨rfl, hb22⟩
  have K22 := hidden (K21.out.trans (hb22.mono K21.out.size))
  have HM22 := hidden (HM21.out.below hb22)
  clear hb22 K21 HM21 V21
  go_wp2_with fail
  refine (heldint_any _ 1 L.length _ HM22.out.row hLL (by omega) (by omega)).mono ?_
  rintro e w23 ⟨rfl, hw23⟩
  have hw24 := hw23.symm
  clear hw23
  subst hw24
  go_wp2_with fail
  go_ret
  exact ⟨rfl, BW.out _ K22.out⟩

set_option maxRecDepth 100000 in
theorem lifted (os : Os) (started : os.Started) (H : Type) (enc : TypeId × Value → H) :
    ReturnsInHanded {} Try.checked os 3 .any (Rows.fnExactPumpPlaySpec.pre6 enc Try.prog Try.f3 Rows.fnExactPumpPlayRow.domain false) (Rows.fnExactPumpPlaySpec.post enc Try.prog Try.f3 false true false false) := by
  refine returnsInHanded_of_change (C := Try.checked) own started (by kernel_rfl) Try.func3
    (ChangeSpec.witness6 (enc := enc) (C := Try.checked) false ⟨#[], #[.agg #[.int .i64 0, .int .i64 0, .int .i64 0, .int .i64 0], .int .i64 0, .slice none 0 0], []⟩ 8 (by kernel_rfl) (by kernel_rfl) (by kernel_rfl) (by kernel_rfl)) ?_
  intro W base args ds gs before hval0 hW hcnd _
  have hval : ∀ (j : Nat) t v, Try.f3.params[j]? = some t → args[j]? = some v → Value.okWide Try.prog W .any base t v := hval0
  have hW' := hW
  obtain ⟨p, q, hA0, hV, rfl, hfz, hnd⟩ := hW
  have hA : DataW.TrodAll enc Try.prog W 0 (fun _ => true) true Try.f3.params.toList args.toList ds p := hA0
  rw [Try.params3] at hA hval
  obtain ⟨v0, vs0, d0, ds0, p0, q0, hargs, rfl, rfl, h0, r0⟩ := trodAll_cons hA
  obtain ⟨v1, vs1, d1, ds1, p1, q1, rfl, rfl, rfl, h1, r1⟩ := trodAll_cons r0
  obtain ⟨v2, vs2, d2, ds2, p2, q2, rfl, rfl, rfl, h2, r2⟩ := trodAll_cons r1
  obtain ⟨rfl, rfl, rfl⟩ := trodAll_nil r2
  obtain rfl : args = #[v0, v1, v2] := by cases args; simp_all
  obtain ⟨rfl, rfl⟩ := trodVars_none hV
  have k0 := h0
  have lt0 : ∀ x ∈ p0, x.block < W.heap.size := by obtain ⟨m, hm⟩ := k0; exact DataW.trod_lt m _ _ _ hm
  obtain ⟨l, rfl⟩ := limit_of_read (hval 0 23 v0 rfl rfl) h0
  obtain ⟨lf, rfl, rfl, rfl, k1⟩ := open_int Try.underlying2 (hval 1 2 v1 rfl rfl) h1
  have k2 := h2
  have lt2 : ∀ x ∈ p2, x.block < W.heap.size := by obtain ⟨m, hm⟩ := k2; exact DataW.trod_lt m _ _ _ hm
  obtain ⟨ao, len, cap, rfl⟩ := okWide_slice Try.underlying24 (hval 2 24 v2 rfl rfl)
  obtain ⟨acs, hl, hm, hrow⟩ := acts_of_read h2
  clear hA0 hval0
  refine (walk l lf ao len cap acs W hrow hl hm).mono fun e W' ⟨he, bel⟩ => ?_
  subst he
  exact ⟨_, rfl, _, _, _, [], _, [], hW', trodAll_mk1 (shut_bool Try.underlying4 _), (trodAll_cons_mk (Below.trod laidOut (by kernel_rfl) (of_decide_eq_true (by kernel_rfl)) k0 bel lt0) (trodAll_cons_mk (shut_int Try.underlying2 k1) (trodAll_cons_mk (Below.trod laidOut (by kernel_rfl) (of_decide_eq_true (by kernel_rfl)) k2 bel lt2) trodAll_mk0))), rfl, bel.frame _, fun h => by cases h⟩

theorem over : Rows.fnExactPumpPlayRow.holds Try.pinned (OpenSpec.ofChange Rows.fnExactPumpPlaySpec) :=
  OpenClaim.holds_of_wide 3 Try.f3 rfl rfl rfl rfl rfl rfl rfl ⟨rfl, rfl, rfl, rfl, rfl⟩ rfl rfl rfl rfl rfl (by kernel_rfl) Try.func3 (by kernel_rfl)
    (of_decide_eq_true (by kernel_rfl)) (by unfold Func.isWrapper; first | (rw [if_pos (by decide +kernel)]; kernel_rfl) | (rw [if_neg (by decide +kernel)]; exact ⟨rfl, rfl⟩))
    (fun os started H enc _ => lifted os started H enc)
end fnExactPumpPlay
theorem fnExactPumpPlay_holds : Rows.FnExactPumpPlaySaid := fnExactPumpPlay.over
end Go.Proofs.Ytamghmnibfbgaab
