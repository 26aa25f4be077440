/-
  Somebody more, as the specification says.
-/
import Derived.Test.YtoehnlbkgpjhmaaTr24a
namespace Go.Proofs.Ytoehnlbkgpjhmaa
open Go.RowKit Go.WideShapes Va Lb Tr Go.Maps
set_option linter.all false

set_option maxRecDepth 20000 in
set_option maxHeartbeats 8000000 in
theorem senrol_any (x : Tl) (ta : Option Addr) (tn tc : Nat) (w : World) (h : VRw 1 cvI w (.slice ta tn tc) x.coins) (hn : x.coins.length ≤ 1048576) :
    Calls Try.prog 17 #[aT x (.slice ta tn tc)] w fun e w' => ∃ ad c, e = .returned (.tuple #[aT (enr x).1 (.slice ad (enr x).1.coins.length c), .int .i64 (enr x).2]) ∧ VOwn 1 cvI w' w.heap.size (.slice ad (enr x).1.coins.length c) (enr x).1.coins ∧ Below w.heap.size w w' := by
  obtain rfl := h.len
  have HTO := hidden (fun W hW => strial_any x ta x.coins.length tc W hW hn)
  have HAL := hidden (fun W hW => salloc_any x ta x.coins.length tc x.told W hW hn)
  have P0 := hidden ((PB.new w #[.int .i64 x.arms, .int .i64 x.block, .slice ta x.coins.length tc, .int .i64 x.told] 26).alloc (.cells #[.int .i64 0, .int .i64 0, .slice none 0 0, .int .i64 0] 26))
  have P1 := hidden (PB.new (w.alloc (.cells #[.int .i64 x.arms, .int .i64 x.block, .slice ta x.coins.length tc, .int .i64 x.told] 26)) #[.int .i64 0, .int .i64 0, .slice none 0 0, .int .i64 0] 26)
  simp only [World.size_alloc] at P1
  have hbA : Below w.heap.size w ((w.alloc (.cells #[.int .i64 x.arms, .int .i64 x.block, .slice ta x.coins.length tc, .int .i64 x.told] 26)).alloc (.cells #[.int .i64 0, .int .i64 0, .slice none 0 0, .int .i64 0] 26)) := by repeat (first | exact Below.refl _ _ | assumption | refine st_drew ?_ | refine st_drewN ?_ _ | refine Below.setCell ?_ (by first | omega | (simp; done) | (simp; omega)) _ | refine Below.alloc ?_ (by first | omega | (simp; done) | (simp; omega)) _)
  have hsA : w.heap.size + 1 < ((w.alloc (.cells #[.int .i64 x.arms, .int .i64 x.block, .slice ta x.coins.length tc, .int .i64 x.told] 26)).alloc (.cells #[.int .i64 0, .int .i64 0, .slice none 0 0, .int .i64 0] 26)).heap.size := by simp
  have HH := hidden h
  clear h
  unfold aT at *
  by_cases q0 : trialB x = true ∧ x.told ≤ 999
  case neg =>
    obtain ⟨e1, e2⟩ := enr_no q0
    rw [e1]
    clear e1 e2 HAL
    go_enter Try.func17, Try.ntmps17
    go_upto_region 1 with fail
    generalize (w.alloc (.cells #[.int .i64 x.arms, .int .i64 x.block, .slice ta x.coins.length tc, .int .i64 x.told] 26)).alloc (.cells #[.int .i64 0, .int .i64 0, .slice none 0 0, .int .i64 0] 26) = wA at *
    have hK := HTO.out wA (HH.out.below hbA)
    obtain ⟨c0, c1, c2, c3⟩ := P0.out.four
    by_cases q1 : trialB x = true
    · have q2 : x.told = 1000 := by have := (trialB_iff.1 q1).2.2.2.2.1; have : ¬ x.told ≤ 999 := fun hh => q0 ⟨q1, hh⟩; omega
      rw [q1] at hK
      have q3 : (x.told == 1000) = true := by rw [q2]; rfl
      have HQ2 := hidden q2
      clear q0 q1 q2 HTO
      go_wp2_with (with_reducible refine hK.mono ?_; rintro e w1 ⟨rfl, hb1⟩; have HB1 := hidden hb1; obtain ⟨p0, p1, p2, p3⟩ := (P1.out.below hb1).four; obtain ⟨f0, f1, f2, f3, -⟩ := (P1.out.below hb1).cold; obtain ⟨r0, r1, r2, r3⟩ := (P0.out.below hb1).four; clear hb1)
      have b0 := hbA.trans (HB1.out.mono hbA.size)
      have b4 := (((b0.setCell (p := ⟨w.heap.size + 1, 0, none⟩) (by show w.heap.size ≤ w.heap.size + 1; omega) (.int .i64 0)).setCell (p := ⟨w.heap.size + 1, 1, none⟩) (by show w.heap.size ≤ w.heap.size + 1; omega) (.int .i64 0)).setCell (p := ⟨w.heap.size + 1, 2, none⟩) (by show w.heap.size ≤ w.heap.size + 1; omega) (.slice none 0 0)).setCell (p := ⟨w.heap.size + 1, 3, none⟩) (by show w.heap.size ≤ w.heap.size + 1; omega) (.int .i64 0)
      obtain ⟨y0, y1, y2, y3⟩ := ((P1.out.below HB1.out).fill4 (.int .i64 0) (.int .i64 0) (.slice none 0 0) (.int .i64 0)).four
      exact bodyPost_ret (v := .tuple #[.agg #[.int .i64 0, .int .i64 0, .slice none 0 0, .int .i64 0], .int .i64 (-1)]) (by simp [results, Try.results17, go_sem, y0, y1, y2, y3]) rfl ⟨none, 0, rfl, VOwn.nil _ _ _ _, b4⟩
    · have q2 : trialB x = false := by simpa using q1
      rw [q2] at hK
      clear q0 q1 q2 HTO
      go_wp2_with (with_reducible refine hK.mono ?_; rintro e w1 ⟨rfl, hb1⟩; have HB1 := hidden hb1; obtain ⟨p0, p1, p2, p3⟩ := (P1.out.below hb1).four; obtain ⟨f0, f1, f2, f3, -⟩ := (P1.out.below hb1).cold; clear hb1)
      have b0 := hbA.trans (HB1.out.mono hbA.size)
      have b4 := (((b0.setCell (p := ⟨w.heap.size + 1, 0, none⟩) (by show w.heap.size ≤ w.heap.size + 1; omega) (.int .i64 0)).setCell (p := ⟨w.heap.size + 1, 1, none⟩) (by show w.heap.size ≤ w.heap.size + 1; omega) (.int .i64 0)).setCell (p := ⟨w.heap.size + 1, 2, none⟩) (by show w.heap.size ≤ w.heap.size + 1; omega) (.slice none 0 0)).setCell (p := ⟨w.heap.size + 1, 3, none⟩) (by show w.heap.size ≤ w.heap.size + 1; omega) (.int .i64 0)
      obtain ⟨y0, y1, y2, y3⟩ := ((P1.out.below HB1.out).fill4 (.int .i64 0) (.int .i64 0) (.slice none 0 0) (.int .i64 0)).four
      exact bodyPost_ret (v := .tuple #[.agg #[.int .i64 0, .int .i64 0, .slice none 0 0, .int .i64 0], .int .i64 (-1)]) (by simp [results, Try.results17, go_sem, y0, y1, y2, y3]) rfl ⟨none, 0, rfl, VOwn.nil _ _ _ _, b4⟩
  obtain ⟨e1, e2, e3⟩ := enr_yes q0.1 q0.2
  rw [e1]
  rw [e2] at HAL
  have t9 := q0.2
  have t0 := (trialB_iff.1 q0.1).2.2.2.2.1.1
  have hq1 := q0.1
  clear e1 e2 q0
  generalize alloc x x.told.toNat = A at *
  have q3 : (x.told == 1000) = false := by rw [beq_eq_false_iff_ne]; omega
  have q4 : ¬ x.told = 1000 := by omega
  show Calls _ _ _ _ (fun e w' => ∃ ad c, e = .returned (.tuple #[.agg #[.int .i64 x.arms, .int .i64 x.block, .slice ad x.coins.length c, .int .i64 (x.told + 1)], .int .i64 A]) ∧ VOwn 1 cvI w' w.heap.size (.slice ad x.coins.length c) x.coins ∧ Below w.heap.size w w')
  go_enter Try.func17, Try.ntmps17
  go_upto_region 1 with fail
  generalize (w.alloc (.cells #[.int .i64 x.arms, .int .i64 x.block, .slice ta x.coins.length tc, .int .i64 x.told] 26)).alloc (.cells #[.int .i64 0, .int .i64 0, .slice none 0 0, .int .i64 0] 26) = wA at *
  have hK := HTO.out wA (HH.out.below hbA)
  rw [hq1] at hK
  obtain ⟨c0, c1, c2, c3⟩ := P0.out.four
  go_upto_region 3 with (with_reducible refine hK.mono ?_; rintro e w1 ⟨rfl, hb1⟩; obtain ⟨r0, r1, r2, r3⟩ := (P0.out.below hb1).four)
  clear c0 c1 c2 c3 hK HTO
  have hz1 := hb1.size
  have ba : Below w1.heap.size w1 ((w1.alloc (.cells #[.int .i64 x.arms, .int .i64 x.block, .slice ta x.coins.length tc, .int .i64 x.told] 26)).alloc (.cells #[] 2)) := by repeat (first | exact Below.refl _ _ | assumption | refine st_drew ?_ | refine st_drewN ?_ _ | refine Below.setCell ?_ (by first | omega | (simp; done) | (simp; omega)) _ | refine Below.alloc ?_ (by first | omega | (simp; done) | (simp; omega)) _)
  have Q0 := hidden ((P0.out.below hb1).below ba)
  have Q1 := hidden ((P1.out.below hb1).below ba)
  have Q2 := hidden ((PB.new w1 #[.int .i64 x.arms, .int .i64 x.block, .slice ta x.coins.length tc, .int .i64 x.told] 26).alloc (.cells #[] 2))
  have QN := hidden (PB.new (w1.alloc (.cells #[.int .i64 x.arms, .int .i64 x.block, .slice ta x.coins.length tc, .int .i64 x.told] 26)) #[] 2)
  simp only [World.size_alloc] at QN
  have HB1 := hidden (hbA.trans (hb1.mono hbA.size))
  have HBA := hidden (HB1.out.trans (ba.mono (Nat.le_trans hbA.size hz1)))
  have HR := hidden (HH.out.below HBA.out)
  have hzs : w1.heap.size + 1 < ((w1.alloc (.cells #[.int .i64 x.arms, .int .i64 x.block, .slice ta x.coins.length tc, .int .i64 x.told] 26)).alloc (.cells #[] 2)).heap.size := by simp
  have s0 := r0
  have s1 := r1
  have s2 := r2
  have s3 := r3
  generalize hW3 : (w1.alloc (.cells #[.int .i64 x.arms, .int .i64 x.block, .slice ta x.coins.length tc, .int .i64 x.told] 26)).alloc (.cells #[] 2) = W3 at *
  obtain ⟨c0, c1, c2, c3⟩ := Q0.out.four
  clear P0 P1 ba hb1 hbA
  go_upto_region 6 with (at_builtin; refine wpList_newT rfl (.tmp 15) (.tmp 17) rfl (w1.heap.size + 1) rfl QN.out ta x.coins.length tc x.coins rfl HR.out hn ?_; intro v4 w4 ho4 hg4; have hO4 := hidden (vownI (base := w1.heap.size + 1) ho4); obtain ⟨ad4, c4, rfl⟩ := ownW_slice ho4; have T0 := hidden (Q0.out.grownT hg4 (fun k hk => by have := Option.some.inj hk; omega)); have T1 := hidden (Q1.out.grownT hg4 (fun k hk => by have := Option.some.inj hk; omega)); have T2 := hidden (Q2.out.grownT hg4 (fun k hk => by have := Option.some.inj hk; omega)); have b4 := hidden (HBA.out.grown hg4 (by have := HBA.out.size; omega) (fun k hk => by have := Option.some.inj hk; omega)); clear c0 c1 c2 c3; obtain ⟨p0, p1, p2, p3⟩ := T0.out.four; obtain ⟨q0, q1, q2, q3'⟩ := T2.out.four; obtain ⟨g0, g1, g2, g3, -⟩ := T2.out.cold; clear ho4 hg4)
  have o2 := own_farT (own_farT hO4.out (b := w1.heap.size) (by omega) 2 (.slice ad4 x.coins.length c4)) (b := w1.heap.size) (by omega) 3 (.int .i64 (x.told + 1))
  have d2 := (b4.out.setCell (p := ⟨w1.heap.size, 2, none⟩) (by show w.heap.size ≤ w1.heap.size; omega) (.slice ad4 x.coins.length c4)).setCell (p := ⟨w1.heap.size, 3, none⟩) (by show w.heap.size ≤ w1.heap.size; omega) (.int .i64 (x.told + 1))
  have e0 := (T0.out.far (b := w1.heap.size) (by omega) 2 (.slice ad4 x.coins.length c4)).far (b := w1.heap.size) (by omega) 3 (.int .i64 (x.told + 1))
  have e1 := (T1.out.far (b := w1.heap.size) (by omega) 2 (.slice ad4 x.coins.length c4)).far (b := w1.heap.size) (by omega) 3 (.int .i64 (x.told + 1))
  have e2 := (T2.out.put 2 (.slice ad4 x.coins.length c4) (vs' := #[.int .i64 x.arms, .int .i64 x.block, .slice ad4 x.coins.length c4, .int .i64 x.told]) (by simp)).put 3 (.int .i64 (x.told + 1)) (vs' := #[.int .i64 x.arms, .int .i64 x.block, .slice ad4 x.coins.length c4, .int .i64 (x.told + 1)]) (by simp)
  generalize hW5 : (w4.setCell ⟨w1.heap.size, 2, none⟩ (.slice ad4 x.coins.length c4)).setCell ⟨w1.heap.size, 3, none⟩ (.int .i64 (x.told + 1)) = w5 at *
  have hei : EI x ta ad4 tc c4 w.heap.size (w1.heap.size + 1) w.heap.size (w.heap.size + 1) w1.heap.size false w5 { w5 with drawn := w5.drawn + 1 } :=
    ⟨st_drew (Below.refl _ _), e0, e2, fun _ => e1, (fun q => by cases q), o2, HH.out.below (st_drew d2), fun W hW => HH.out.below ((st_drew d2).trans hW), by omega, by omega, by omega, by omega, d2.size⟩
  refine regSn6 (x := x) (ta := ta) (ad := ad4) (tc := tc) (c := c4) (base := w.heap.size) (gb := w1.heap.size + 1) (A := A) rfl rfl rfl rfl (by exact hei) HAL.out ?_
  intro b' w9 hf hI hv
  rw [laySn6 hf, hv]
  clear hv hf
  generalize Rg.out (Rg.opsOf Try.f17 6) b' 0 = y0y
  generalize Rg.out (Rg.opsOf Try.f17 6) b' 1 = y1y
  generalize Rg.out (Rg.opsOf Try.f17 6) b' 2 = y2y
  generalize Rg.out (Rg.opsOf Try.f17 6) b' 3 = y3y
  generalize Rg.out (Rg.opsOf Try.f17 6) b' 4 = y4y
  generalize Rg.out (Rg.opsOf Try.f17 6) b' 5 = y5y
  go_frame
  obtain ⟨y0, y1, y2, y3⟩ := (hI.p1t rfl).four
  have HOW := hidden (hI.own.base_le (show w.heap.size ≤ w1.heap.size + 1 by omega))
  have HBF := hidden (d2.trans hI.bel)
  clear hI hei o2 d2 e0 e1 e2 p0 p1 p2 p3 q0 q1 q2 q3' g0 g1 g2 g3 s0 s1 s2 s3 r0 r1 r2 r3
  go_wp2_with fail
  exact bodyPost_ret (v := .tuple #[.agg #[.int .i64 x.arms, .int .i64 x.block, .slice ad4 x.coins.length c4, .int .i64 (x.told + 1)], .int .i64 A]) (by simp [results, Try.results17, go_sem, y0, y1, y2, y3]) rfl ⟨ad4, c4, rfl, HOW.out, HBF.out⟩
end Go.Proofs.Ytoehnlbkgpjhmaa
