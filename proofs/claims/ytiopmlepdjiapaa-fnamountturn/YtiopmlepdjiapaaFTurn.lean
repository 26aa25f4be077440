/-
  FnAmountTurn, walked.
-/
import Derived.Test.YtiopmlepdjiapaaCursC
import Derived.Test.YtiopmlepdjiapaaTurnM
import Derived.Deep.RegionHeld3
import Derived.Deep.DrawnRows
namespace Go.Proofs.Ytiopmlepdjiapaa
open Go.RowKit Am

def G3 (w : World) (SS X Y : Nat) (sN sD sU n2 d2 u2 m2 f2 : Int) (W : World) : Prop := Amt W SS sN sD sU ∧ Amt W X n2 d2 u2 ∧ Amt W Y m2 f2 u2 ∧ Below w.heap.size w W
theorem G3.drew {w W : World} {SS X Y : Nat} {sN sD sU n2 d2 u2 m2 f2 : Int} (h : G3 w SS X Y sN sD sU n2 d2 u2 m2 f2 W) : G3 w SS X Y sN sD sU n2 d2 u2 m2 f2 W.drew := ⟨h.1, h.2.1, h.2.2.1, bel_drew h.2.2.2⟩
theorem G3.below {w W W' : World} {SS X Y : Nat} {sN sD sU n2 d2 u2 m2 f2 : Int} (h : G3 w SS X Y sN sD sU n2 d2 u2 m2 f2 W) (hb : Below W.heap.size W W') : G3 w SS X Y sN sD sU n2 d2 u2 m2 f2 W' := ⟨h.1.below hb, h.2.1.below hb, h.2.2.1.below hb, onto h.2.2.2 hb⟩
theorem G3.all {w W : World} {SS X Y : Nat} {sN sD sU n2 d2 u2 m2 f2 : Int} (h : G3 w SS X Y sN sD sU n2 d2 u2 m2 f2 W) : G3 w SS X Y sN sD sU n2 d2 u2 m2 f2 W ∧ W.cell? ⟨SS, 0, none⟩ = some (.int .i64 sN) ∧ W.cell? ⟨SS, 1, none⟩ = some (.int .i64 sD) ∧ W.cell? ⟨SS, 2, none⟩ = some (.int .i64 sU) ∧ W.cell? ⟨X, 0, none⟩ = some (.int .i64 n2) ∧ W.cell? ⟨X, 1, none⟩ = some (.int .i64 d2) ∧ W.cell? ⟨X, 2, none⟩ = some (.int .i64 u2) ∧ W.cell? ⟨Y, 0, none⟩ = some (.int .i64 m2) :=
  ⟨h, h.1.2.1, h.1.2.2.1, h.1.2.2.2.1, h.2.1.2.1, h.2.1.2.2.1, h.2.1.2.2.2.1, h.2.2.1.2.1⟩
theorem Hid.mk' {p : Prop} (h : p) : Hid p := h

set_option maxHeartbeats 4000000 in
theorem fnTurn_walk (ao : Option Addr) (cap : Nat) (bs : List Int) (w : World) (hb : Bytes w w.heap.size ao bs) :
    Calls Try.prog 3 #[.slice ao bs.length cap] w fun e w' => e = .returned (.bool true) ∧ Below w.heap.size w w' := by
  by_cases hbig : (4096 : Int) < (bs.length : Int)
  · clear hb
    go_enter Try.func3, Try.ntmps3
    go_wp2_with (go_at_call 5; refine (big_any _ _ _ _).mono ?_; rintro e w' ⟨rfl, hw'⟩; have hw2 := hw'.symm; clear hw'; subst hw2; rw [decide_eq_true hbig])
    go_ret
    exact ⟨rfl, Below.refl _ _⟩
  go_enter Try.func3, Try.ntmps3
  go_wp2_with (go_at_call 5; refine (big_any _ _ _ _).mono ?_; rintro e w' ⟨rfl, hw'⟩; have hw2 := hw'.symm; clear hw'; subst hw2; rw [decide_eq_false hbig])
  refine (dconv_any ao cap bs _ hb (by omega)).mono ?_
  rintro e w1 ⟨n, d, u, t, rfl, hb1⟩
  have hA1 := Amt.new w1 n d u
  have hb1' := onto hb1 (bel_alloc w1 (Obj.cells #[.int .i64 n, .int .i64 d, .int .i64 u] 25))
  go_wp2_with fail
  generalize w1.alloc (Obj.cells #[.int .i64 n, .int .i64 d, .int .i64 u] 25) = w2 at *
  clear hb1
  generalize w1.heap.size = A at *
  refine (iconv_any n d u t _).mono ?_
  rintro e w3 ⟨rfl, hb3⟩
  have hA3 := hA1.below hb3
  have hb3' := onto hb1' hb3
  clear hA1 hb1' hb3
  cases hv : vR n d u t
  · have S1 := sconv_any n d u t
    rw [hv] at S1
    generalize vN n d u t = p at S1 ⊢
    generalize vD n d u t = q at S1 ⊢
    generalize vU n d u t = r at S1 ⊢
    have HS1 := Hid.mk' S1
    clear S1
    obtain ⟨_, a1, a2, a3, a4, a5, a6⟩ := id hA3
    go_wp2_with fail
    have hB3 := Amt.new w3 p q r
    have hz := bel_alloc w3 (Obj.cells #[.int .i64 p, .int .i64 q, .int .i64 r] 25)
    have hb4' := onto hb3' hz
    generalize w3.alloc (Obj.cells #[.int .i64 p, .int .i64 q, .int .i64 r] 25) = w4 at *
    clear hA3 hb3' hz a1 a2 a3 a4 a5 a6
    generalize w3.heap.size = B at *
    refine (HS1.out w4).mono ?_
    rintro e w5 ⟨rfl, hb5⟩
    have hB5 := hB3.below hb5
    have hb5' := onto hb4' hb5
    clear hB3 hb4' hb5 HS1
    have hC := Amt.new w5 p q r
    have hz := bel_alloc w5 (Obj.cells #[.int .i64 p, .int .i64 q, .int .i64 r] 25)
    have hB6 := hB5.below hz
    have hb10' := onto hb5' hz
    obtain ⟨_, b1, b2, b3, b4, b5, b6⟩ := id hB6
    obtain ⟨_, c1, c2, c3, c4, c5, c6⟩ := id hC
    go_wp2_with fail
    clear b1 b2 b3 b4 b5 b6 c1 c2 c3 c4 c5 c6 hB5 hB6 hC hz hb5'
    generalize w5.alloc (Obj.cells #[.int .i64 p, .int .i64 q, .int .i64 r] 25) = w10 at *
    have hby := (hb.below hb10').up hb10'.size
    refine (dadd_any ao cap bs w10 hby (by omega)).mono ?_
    rintro e w11 ⟨n2, d2, u2, m2, f2, v2, rfl, hb11⟩
    have hb11' := onto hb10' hb11
    clear hb11 hb10' hby hb
    go_wp2_with fail
    have hz1 := bel_alloc w11 (Obj.cells #[.int .i64 n2, .int .i64 d2, .int .i64 u2] 25)
    have hz2 := bel_alloc (w11.alloc (Obj.cells #[.int .i64 n2, .int .i64 d2, .int .i64 u2] 25)) (Obj.cells #[.int .i64 m2, .int .i64 f2, .int .i64 u2] 25)
    have hX := (Amt.new w11 n2 d2 u2).below hz2
    have hY := Amt.new (w11.alloc (Obj.cells #[.int .i64 n2, .int .i64 d2, .int .i64 u2] 25)) m2 f2 u2
    rw [show (w11.alloc (Obj.cells #[.int .i64 n2, .int .i64 d2, .int .i64 u2] 25)).heap.size = w11.heap.size + 1 by simp] at hY
    have hb12' := onto (onto hb11' hz1) hz2
    generalize (w11.alloc (Obj.cells #[.int .i64 n2, .int .i64 d2, .int .i64 u2] 25)).alloc (Obj.cells #[.int .i64 m2, .int .i64 f2, .int .i64 u2] 25) = w12 at *
    clear hz1 hz2 hb11'
    generalize w11.heap.size + 1 = Y at *
    generalize w11.heap.size = X at *
    have J1 := iadd_any n2 d2 u2 m2 f2 u2
    have J2 := iadd_any m2 f2 u2 n2 d2 u2
    have J3 := sadd_any n2 d2 u2 m2 f2 u2
    obtain ⟨z1, z2, z3, z4⟩ := add_comm' n2 d2 m2 f2 u2
    rw [z1, z2, z3, z4] at J2
    have J4 := fun h => @add_grows n2 d2 m2 f2 u2 h
    clear z1 z2 z3 z4
    generalize aN n2 d2 u2 m2 f2 u2 = sN at *
    generalize aD n2 d2 u2 m2 f2 u2 = sD at *
    generalize aU n2 d2 u2 m2 f2 u2 = sU at *
    generalize aR n2 d2 u2 m2 f2 u2 = one at *
    have HJ1 := Hid.mk' J1
    have HJ2 := Hid.mk' J2
    have HJ3 := Hid.mk' J3
    have HJ4 := Hid.mk' J4
    clear J1 J2 J3 J4
    refine (HJ1.out w12).mono ?_
    rintro e w13 ⟨rfl, hb13⟩
    have hz := bel_alloc w13 (Obj.cells #[.int .i64 sN, .int .i64 sD, .int .i64 sU] 25)
    have hS := Amt.new w13 sN sD sU
    have hX14 := (hX.below hb13).below hz
    have hY14 := (hY.below hb13).below hz
    have hb14' := onto (onto hb12' hb13) hz
    clear hX hY hb12' hb13 hz HJ1
    obtain ⟨_, x1, x2, x3, x4, x5, x6⟩ := id hX14
    obtain ⟨_, y1, y2, y3, y4, y5, y6⟩ := id hY14
    go_wp2_with fail
    clear x1 x2 x3 x4 x5 x6 y1 y2 y3 y4 y5 y6
    generalize w13.alloc (Obj.cells #[.int .i64 sN, .int .i64 sD, .int .i64 sU] 25) = w14 at *
    generalize w13.heap.size = SS at *
    refine (HJ2.out w14).mono ?_
    rintro e w15 ⟨rfl, hb15⟩
    have hz := bel_alloc w15 (Obj.cells #[.int .i64 sN, .int .i64 sD, .int .i64 sU] 25)
    have hR := Amt.new w15 sN sD sU
    have hX16 := (hX14.below hb15).below hz
    have hY16 := (hY14.below hb15).below hz
    have hS16 := (hS.below hb15).below hz
    have hb16' := onto (onto hb14' hb15) hz
    clear hX14 hY14 hS hb14' hb15 hz HJ2
    obtain ⟨_, x1, x2, x3, x4, x5, x6⟩ := id hX16
    obtain ⟨_, y1, y2, y3, y4, y5, y6⟩ := id hY16
    go_wp2_with fail
    clear x1 x2 x3 x4 x5 x6 y1 y2 y3 y4 y5 y6
    generalize w15.alloc (Obj.cells #[.int .i64 sN, .int .i64 sD, .int .i64 sU] 25) = w16 at *
    generalize w15.heap.size = RR at *
    refine (HJ3.out w16).mono ?_
    rintro e w17 ⟨rfl, hb17⟩
    have hz := bel_alloc w17 (Obj.cells #[.int .i64 sN, .int .i64 sD, .int .i64 sU] 25)
    have hW := Amt.new w17 sN sD sU
    have hX18 := (hX16.below hb17).below hz
    have hY18 := (hY16.below hb17).below hz
    have hS18 := (hS16.below hb17).below hz
    have hR18 := (hR.below hb17).below hz
    have hb18' := onto (onto hb16' hb17) hz
    clear hX16 hY16 hS16 hb16' hb17 hz HJ3 hR
    obtain ⟨_, x1, x2, x3, x4, x5, x6⟩ := id hX18
    obtain ⟨_, y1, y2, y3, y4, y5, y6⟩ := id hY18
    obtain ⟨_, s1, s2, s3, s4, s5, s6⟩ := id hS18
    obtain ⟨_, r1, r2, r3, r4, r5, r6⟩ := id hR18
    obtain ⟨_, v1, v2, v3, v4, v5, v6⟩ := id hW
    have hG : G3 w SS X Y sN sD sU n2 d2 u2 m2 f2 _ := ⟨hS18, hX18, hY18, hb18'⟩
    cases one
    · have C4 := Hid.mk' (icmp_any sN sD sU n2 d2 u2)
      go_wp2_with fail
      first | go_region_with (fail) | go_region_held3 (fun _ => True) (trivial) (fail) | go_region | fail
      all_goals go_wp2_with fail
      all_goals go_ret
      all_goals exact ⟨rfl, by first | exact hG.2.2.2 | exact hG.drew.2.2.2⟩
    · obtain ⟨c, hc, hcm⟩ := HJ4.out rfl
      have C4 := icmp_any sN sD sU n2 d2 u2
      rw [hc] at C4
      have C4 := Hid.mk' C4
      clear hc HJ4
      rcases hcm with ⟨rfl, rfl⟩ | ⟨rfl, hm⟩
      · go_wp2_with fail
        go_region_held3 (fun w' => G3 w SS X Y sN sD sU n2 d2 u2 0 f2 w' ∧ w'.cell? ⟨SS, 0, none⟩ = some (.int .i64 sN) ∧ w'.cell? ⟨SS, 1, none⟩ = some (.int .i64 sD) ∧ w'.cell? ⟨SS, 2, none⟩ = some (.int .i64 sU) ∧ w'.cell? ⟨X, 0, none⟩ = some (.int .i64 n2) ∧ w'.cell? ⟨X, 1, none⟩ = some (.int .i64 d2) ∧ w'.cell? ⟨X, 2, none⟩ = some (.int .i64 u2) ∧ w'.cell? ⟨Y, 0, none⟩ = some (.int .i64 0))
          (first | exact hG.drew.all | exact hG.all | exact hG19.all | exact hG19.drew.all)
          (first
            | (go_at_call 10; refine (C4.out _).mono ?_; rintro e w19 ⟨rfl, hb19⟩; have hG19 : G3 w SS X Y sN sD sU n2 d2 u2 0 f2 w19 := G3.below (by first | exact hG19 | exact hG19.drew | exact hG | exact hG.drew) hb19)
            | fail)
        all_goals go_wp2_with fail
        all_goals go_ret
        all_goals exact ⟨rfl, by first | exact hG19.2.2.2 | exact hG19.drew.2.2.2⟩
      · have hm' : (m2 == 0) = false := by simpa using hm
        go_wp2_with fail
        go_region_held3 (fun w' => G3 w SS X Y sN sD sU n2 d2 u2 m2 f2 w' ∧ w'.cell? ⟨SS, 0, none⟩ = some (.int .i64 sN) ∧ w'.cell? ⟨SS, 1, none⟩ = some (.int .i64 sD) ∧ w'.cell? ⟨SS, 2, none⟩ = some (.int .i64 sU) ∧ w'.cell? ⟨X, 0, none⟩ = some (.int .i64 n2) ∧ w'.cell? ⟨X, 1, none⟩ = some (.int .i64 d2) ∧ w'.cell? ⟨X, 2, none⟩ = some (.int .i64 u2) ∧ w'.cell? ⟨Y, 0, none⟩ = some (.int .i64 m2))
          (first | exact hG.drew.all | exact hG.all | exact hG19.all | exact hG19.drew.all)
          (first
            | (go_at_call 10; refine (C4.out _).mono ?_; rintro e w19 ⟨rfl, hb19⟩; have hG19 : G3 w SS X Y sN sD sU n2 d2 u2 m2 f2 w19 := G3.below (by first | exact hG19 | exact hG19.drew | exact hG | exact hG.drew) hb19)
            | fail)
        all_goals go_wp2_with fail
        all_goals go_ret
        all_goals exact ⟨by first | rfl | simp [hm'], by first | exact hG19.2.2.2 | exact hG19.drew.2.2.2⟩
  · obtain ⟨p, q, g, e1, e2, e3, hok, hg, f1, f2⟩ := turn_parts hv
    obtain ⟨ho, hk, _⟩ := v_true hv
    obtain ⟨k1, k2, k3, k4, k5⟩ := turn_back ho hk hok hg f1 f2
    have S1 := sconv_any n d u t
    rw [hv, e1, e2, e3] at S1
    have I2 := iconv_any p q t u
    rw [k1, k2, k3, k4] at I2
    have O2 := iok_any p q t
    rw [hok] at O2
    have C2 := icmp_any n d u p q t
    rw [k5] at C2
    rw [e1, e2, e3]
    have HS1 := Hid.mk' S1
    have HI2 := Hid.mk' I2
    have HO2 := Hid.mk' O2
    have HC2 := Hid.mk' C2
    clear S1 I2 O2 C2
    obtain ⟨_, a1, a2, a3, a4, a5, a6⟩ := id hA3
    go_wp2_with fail
    have hB3 := Amt.new w3 p q t
    have hz := bel_alloc w3 (Obj.cells #[.int .i64 p, .int .i64 q, .int .i64 t] 25)
    have hA4 := hA3.below hz
    have hb4' := onto hb3' hz
    generalize w3.alloc (Obj.cells #[.int .i64 p, .int .i64 q, .int .i64 t] 25) = w4 at *
    clear hA3 hb3' hz a1 a2 a3 a4 a5 a6
    generalize w3.heap.size = B at *
    refine (HS1.out w4).mono ?_
    rintro e w5 ⟨rfl, hb5⟩
    have hA5 := hA4.below hb5
    have hB5 := hB3.below hb5
    have hb5' := onto hb4' hb5
    clear hA4 hB3 hb4' hb5 HS1
    have hC := Amt.new w5 p q t
    have hz := bel_alloc w5 (Obj.cells #[.int .i64 p, .int .i64 q, .int .i64 t] 25)
    have hA6 := hA5.below hz
    have hB6 := hB5.below hz
    have hb6' := onto hb5' hz
    obtain ⟨_, a1, a2, a3, a4, a5, a6⟩ := id hA6
    obtain ⟨_, b1, b2, b3, b4, b5, b6⟩ := id hB6
    obtain ⟨_, c1, c2, c3, c4, c5, c6⟩ := id hC
    go_wp2_with fail
    clear a1 a2 a3 a4 a5 a6 b1 b2 b3 b4 b5 b6 c1 c2 c3 c4 c5 c6
    generalize w5.alloc (Obj.cells #[.int .i64 p, .int .i64 q, .int .i64 t] 25) = w6 at *
    clear hA5 hB5 hb5' hz hC
    refine (HI2.out w6).mono ?_
    rintro e w7 ⟨rfl, hb7⟩
    have hA7 := hA6.below hb7
    have hB7 := hB6.below hb7
    have hb7' := onto hb6' hb7
    clear hA6 hB6 hb6' hb7 HI2
    have hz := bel_alloc w7 (Obj.cells #[.int .i64 n, .int .i64 d, .int .i64 u] 25)
    have hC8 := Amt.new w7 n d u
    have hA8 := hA7.below hz
    have hB8 := hB7.below hz
    have hb8' := onto hb7' hz
    obtain ⟨_, a1, a2, a3, a4, a5, a6⟩ := id hA8
    obtain ⟨_, b1, b2, b3, b4, b5, b6⟩ := id hB8
    obtain ⟨_, c1, c2, c3, c4, c5, c6⟩ := id hC8
    go_wp2_with fail
    clear a1 a2 a3 a4 a5 a6 b1 b2 b3 b4 b5 b6 c1 c2 c3 c4 c5 c6
    generalize w7.alloc (Obj.cells #[.int .i64 n, .int .i64 d, .int .i64 u] 25) = w8 at *
    clear hA7 hB7 hb7' hz
    generalize w7.heap.size = C at *
    refine (HO2.out w8).mono ?_
    rintro e w9 ⟨rfl, hb9⟩
    have hA9 := hA8.below hb9
    have hB9 := hB8.below hb9
    have hC9 := hC8.below hb9
    have hb9' := onto hb8' hb9
    clear hA8 hB8 hb8' hb9 HO2 hC8
    obtain ⟨_, a1, a2, a3, a4, a5, a6⟩ := id hA9
    obtain ⟨_, b1, b2, b3, b4, b5, b6⟩ := id hB9
    obtain ⟨_, c1, c2, c3, c4, c5, c6⟩ := id hC9
    go_wp2_with fail
    refine (HC2.out w9).mono ?_
    rintro e w10 ⟨rfl, hb10⟩
    have hb10' := onto hb9' hb10
    clear a1 a2 a3 a4 a5 a6 b1 b2 b3 b4 b5 b6 c1 c2 c3 c4 c5 c6 hA9 hB9 hC9 hb10 HC2
    have hby := (hb.below hb10').up hb10'.size
    go_wp2_with fail
    refine (dadd_any ao cap bs w10 hby (by omega)).mono ?_
    rintro e w11 ⟨n2, d2, u2, m2, f2, v2, rfl, hb11⟩
    have hb11' := onto hb10' hb11
    clear hb11 hb10' hby hb
    go_wp2_with fail
    have hz1 := bel_alloc w11 (Obj.cells #[.int .i64 n2, .int .i64 d2, .int .i64 u2] 25)
    have hz2 := bel_alloc (w11.alloc (Obj.cells #[.int .i64 n2, .int .i64 d2, .int .i64 u2] 25)) (Obj.cells #[.int .i64 m2, .int .i64 f2, .int .i64 u2] 25)
    have hX := (Amt.new w11 n2 d2 u2).below hz2
    have hY := Amt.new (w11.alloc (Obj.cells #[.int .i64 n2, .int .i64 d2, .int .i64 u2] 25)) m2 f2 u2
    rw [show (w11.alloc (Obj.cells #[.int .i64 n2, .int .i64 d2, .int .i64 u2] 25)).heap.size = w11.heap.size + 1 by simp] at hY
    have hb12' := onto (onto hb11' hz1) hz2
    generalize (w11.alloc (Obj.cells #[.int .i64 n2, .int .i64 d2, .int .i64 u2] 25)).alloc (Obj.cells #[.int .i64 m2, .int .i64 f2, .int .i64 u2] 25) = w12 at *
    clear hz1 hz2 hb11'
    generalize w11.heap.size + 1 = Y at *
    generalize w11.heap.size = X at *
    have J1 := iadd_any n2 d2 u2 m2 f2 u2
    have J2 := iadd_any m2 f2 u2 n2 d2 u2
    have J3 := sadd_any n2 d2 u2 m2 f2 u2
    obtain ⟨z1, z2, z3, z4⟩ := add_comm' n2 d2 m2 f2 u2
    rw [z1, z2, z3, z4] at J2
    have J4 := fun h => @add_grows n2 d2 m2 f2 u2 h
    clear z1 z2 z3 z4
    generalize aN n2 d2 u2 m2 f2 u2 = sN at *
    generalize aD n2 d2 u2 m2 f2 u2 = sD at *
    generalize aU n2 d2 u2 m2 f2 u2 = sU at *
    generalize aR n2 d2 u2 m2 f2 u2 = one at *
    have HJ1 := Hid.mk' J1
    have HJ2 := Hid.mk' J2
    have HJ3 := Hid.mk' J3
    have HJ4 := Hid.mk' J4
    clear J1 J2 J3 J4
    refine (HJ1.out w12).mono ?_
    rintro e w13 ⟨rfl, hb13⟩
    have hz := bel_alloc w13 (Obj.cells #[.int .i64 sN, .int .i64 sD, .int .i64 sU] 25)
    have hS := Amt.new w13 sN sD sU
    have hX14 := (hX.below hb13).below hz
    have hY14 := (hY.below hb13).below hz
    have hb14' := onto (onto hb12' hb13) hz
    clear hX hY hb12' hb13 hz HJ1
    obtain ⟨_, x1, x2, x3, x4, x5, x6⟩ := id hX14
    obtain ⟨_, y1, y2, y3, y4, y5, y6⟩ := id hY14
    go_wp2_with fail
    clear x1 x2 x3 x4 x5 x6 y1 y2 y3 y4 y5 y6
    generalize w13.alloc (Obj.cells #[.int .i64 sN, .int .i64 sD, .int .i64 sU] 25) = w14 at *
    generalize w13.heap.size = SS at *
    refine (HJ2.out w14).mono ?_
    rintro e w15 ⟨rfl, hb15⟩
    have hz := bel_alloc w15 (Obj.cells #[.int .i64 sN, .int .i64 sD, .int .i64 sU] 25)
    have hR := Amt.new w15 sN sD sU
    have hX16 := (hX14.below hb15).below hz
    have hY16 := (hY14.below hb15).below hz
    have hS16 := (hS.below hb15).below hz
    have hb16' := onto (onto hb14' hb15) hz
    clear hX14 hY14 hS hb14' hb15 hz HJ2
    obtain ⟨_, x1, x2, x3, x4, x5, x6⟩ := id hX16
    obtain ⟨_, y1, y2, y3, y4, y5, y6⟩ := id hY16
    go_wp2_with fail
    clear x1 x2 x3 x4 x5 x6 y1 y2 y3 y4 y5 y6
    generalize w15.alloc (Obj.cells #[.int .i64 sN, .int .i64 sD, .int .i64 sU] 25) = w16 at *
    generalize w15.heap.size = RR at *
    refine (HJ3.out w16).mono ?_
    rintro e w17 ⟨rfl, hb17⟩
    have hz := bel_alloc w17 (Obj.cells #[.int .i64 sN, .int .i64 sD, .int .i64 sU] 25)
    have hW := Amt.new w17 sN sD sU
    have hX18 := (hX16.below hb17).below hz
    have hY18 := (hY16.below hb17).below hz
    have hS18 := (hS16.below hb17).below hz
    have hR18 := (hR.below hb17).below hz
    have hb18' := onto (onto hb16' hb17) hz
    clear hX16 hY16 hS16 hb16' hb17 hz HJ3 hR
    obtain ⟨_, x1, x2, x3, x4, x5, x6⟩ := id hX18
    obtain ⟨_, y1, y2, y3, y4, y5, y6⟩ := id hY18
    obtain ⟨_, s1, s2, s3, s4, s5, s6⟩ := id hS18
    obtain ⟨_, r1, r2, r3, r4, r5, r6⟩ := id hR18
    obtain ⟨_, v1, v2, v3, v4, v5, v6⟩ := id hW
    have hG : G3 w SS X Y sN sD sU n2 d2 u2 m2 f2 _ := ⟨hS18, hX18, hY18, hb18'⟩
    cases one
    · have C4 := Hid.mk' (icmp_any sN sD sU n2 d2 u2)
      go_wp2_with fail
      first | go_region_with (fail) | go_region_held3 (fun _ => True) (trivial) (fail) | go_region | fail
      all_goals go_wp2_with fail
      all_goals go_ret
      all_goals exact ⟨rfl, by first | exact hG.2.2.2 | exact hG.drew.2.2.2⟩
    · obtain ⟨c, hc, hcm⟩ := HJ4.out rfl
      have C4 := icmp_any sN sD sU n2 d2 u2
      rw [hc] at C4
      have C4 := Hid.mk' C4
      clear hc HJ4
      rcases hcm with ⟨rfl, rfl⟩ | ⟨rfl, hm⟩
      · go_wp2_with fail
        go_region_held3 (fun w' => G3 w SS X Y sN sD sU n2 d2 u2 0 f2 w' ∧ w'.cell? ⟨SS, 0, none⟩ = some (.int .i64 sN) ∧ w'.cell? ⟨SS, 1, none⟩ = some (.int .i64 sD) ∧ w'.cell? ⟨SS, 2, none⟩ = some (.int .i64 sU) ∧ w'.cell? ⟨X, 0, none⟩ = some (.int .i64 n2) ∧ w'.cell? ⟨X, 1, none⟩ = some (.int .i64 d2) ∧ w'.cell? ⟨X, 2, none⟩ = some (.int .i64 u2) ∧ w'.cell? ⟨Y, 0, none⟩ = some (.int .i64 0))
          (first | exact hG.drew.all | exact hG.all | exact hG19.all | exact hG19.drew.all)
          (first
            | (go_at_call 10; refine (C4.out _).mono ?_; rintro e w19 ⟨rfl, hb19⟩; have hG19 : G3 w SS X Y sN sD sU n2 d2 u2 0 f2 w19 := G3.below (by first | exact hG19 | exact hG19.drew | exact hG | exact hG.drew) hb19)
            | fail)
        all_goals go_wp2_with fail
        all_goals go_ret
        all_goals exact ⟨rfl, by first | exact hG19.2.2.2 | exact hG19.drew.2.2.2⟩
      · have hm' : (m2 == 0) = false := by simpa using hm
        go_wp2_with fail
        go_region_held3 (fun w' => G3 w SS X Y sN sD sU n2 d2 u2 m2 f2 w' ∧ w'.cell? ⟨SS, 0, none⟩ = some (.int .i64 sN) ∧ w'.cell? ⟨SS, 1, none⟩ = some (.int .i64 sD) ∧ w'.cell? ⟨SS, 2, none⟩ = some (.int .i64 sU) ∧ w'.cell? ⟨X, 0, none⟩ = some (.int .i64 n2) ∧ w'.cell? ⟨X, 1, none⟩ = some (.int .i64 d2) ∧ w'.cell? ⟨X, 2, none⟩ = some (.int .i64 u2) ∧ w'.cell? ⟨Y, 0, none⟩ = some (.int .i64 m2))
          (first | exact hG.drew.all | exact hG.all | exact hG19.all | exact hG19.drew.all)
          (first
            | (go_at_call 10; refine (C4.out _).mono ?_; rintro e w19 ⟨rfl, hb19⟩; have hG19 : G3 w SS X Y sN sD sU n2 d2 u2 m2 f2 w19 := G3.below (by first | exact hG19 | exact hG19.drew | exact hG | exact hG.drew) hb19)
            | fail)
        all_goals go_wp2_with fail
        all_goals go_ret
        all_goals exact ⟨by first | rfl | simp [hm'], by first | exact hG19.2.2.2 | exact hG19.drew.2.2.2⟩
end Go.Proofs.Ytiopmlepdjiapaa
