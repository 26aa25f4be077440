/-
  The program's PumpDo.
-/
import Derived.Test.YtamghmnibfbgaaaCf
namespace Go.Proofs.Ytamghmnibfbgaaa
open Go.RowKit Va Ba
set_option linter.unusedVariables false

set_option maxHeartbeats 4000000 in
theorem iact_any (a : Ac) (w : World) : Calls Try.prog 30 #[aAc a] w fun e w' => e = .returned (.bool (actOk a)) ∧ Below w.heap.size w w' := by
  obtain ⟨k, n⟩ := a
  have HV : Hid (actOk ⟨k, n⟩ = (decide (1 ≤ k) && (decide (k ≤ 10) && (!(decide (k = 1) || (decide (k = 7) || decide (k = 10))) || (decide (0 ≤ n) && decide (n ≤ 100000)))))) := by
    unfold Hid actOk counts rng
    rw [Bool.and_assoc]
  generalize actOk ⟨k, n⟩ = R at *
  unfold aAc
  dsimp only
  go_enter Try.func30, Try.ntmps30
  go_wp2
  all_goals go_ret
  all_goals refine ⟨ret_bool ?_, by repeat (first | exact Below.refl _ _ | assumption | refine st_drew ?_ | refine st_drewN ?_ _ | refine Below.setCell ?_ (by first | omega | (simp; done) | (simp; omega)) _ | refine Below.alloc ?_ (by first | omega | (simp; done) | (simp; omega)) _)⟩
  all_goals (rw [HV.out]; first | (simp_all; done) | (rw [Bool.eq_iff_iff]; simp_all; done) | (rw [Bool.eq_iff_iff]; simp; omega) | (rw [Bool.eq_iff_iff]; simp_all; omega))

set_option maxRecDepth 20000 in
set_option maxHeartbeats 8000000 in
theorem ipdo_any (p : Pm) (a : Ac) (w : World) : Calls Try.prog 11 #[aPm p, aAc a] w fun e w' => e = .returned (.tuple #[aPm (pdo p a).1, .int .i64 (pdo p a).2]) ∧ Below w.heap.size w w' := by
  have h1 := ipumpof_any p
  have h2 := iright_any p
  have h3 := iact_any a
  have h4 := fun (h : pmOk p = true) (h' : actOk a = true) => ibehind_any p a (right_iff.1 h) h'
  have HV : Hid (pdo p a = if pmOk p = true then Ba.step p a else (zeroP, 1)) := rfl
  have HW : Hid (actOk a = false → Ba.step p a = (p, 2)) := fun h => by rw [Ba.step, if_neg (by simp [h])]
  generalize pmOk p = b at *
  generalize actOk a = b' at *
  generalize pdo p a = R at *
  generalize Ba.step p a = S at *
  obtain ⟨s1, s2⟩ := S
  have h5 := itold_any s1
  dsimp only at h4
  unfold aPm at h1 h2 h4 h5
  unfold aAc at h3 h4
  have hE : aPm p = .agg #[.int .i64 p.lim.sl, .int .i64 p.lim.sh, .int .i64 p.lim.hl, .int .i64 p.lim.hh, .int .i64 p.rate, .int .i64 p.asked, .int .i64 p.st, .bool p.door, .int .i64 p.left, .int .i64 p.given] := rfl
  rw [hE]
  clear hE
  unfold aAc
  go_enter Try.func11, Try.ntmps11
  go_upto_region 1 with fail
  have hP := ((PB.new w #[.int .i64 p.lim.sl, .int .i64 p.lim.sh, .int .i64 p.lim.hl, .int .i64 p.lim.hh, .int .i64 p.rate, .int .i64 p.asked, .int .i64 p.st, .bool p.door, .int .i64 p.left, .int .i64 p.given] 27).alloc (.cells #[.int .i64 a.kind, .int .i64 a.n] 29)).alloc (.cells #[.int .i64 0, .int .i64 0, .int .i64 0, .int .i64 0, .int .i64 0, .int .i64 0, .int .i64 0, .bool false, .int .i64 0, .int .i64 0] 27)
  have hA := (PB.new (w.alloc (.cells #[.int .i64 p.lim.sl, .int .i64 p.lim.sh, .int .i64 p.lim.hl, .int .i64 p.lim.hh, .int .i64 p.rate, .int .i64 p.asked, .int .i64 p.st, .bool p.door, .int .i64 p.left, .int .i64 p.given] 27)) #[.int .i64 a.kind, .int .i64 a.n] 29).alloc (.cells #[.int .i64 0, .int .i64 0, .int .i64 0, .int .i64 0, .int .i64 0, .int .i64 0, .int .i64 0, .bool false, .int .i64 0, .int .i64 0] 27)
  have hZ := PB.new ((w.alloc (.cells #[.int .i64 p.lim.sl, .int .i64 p.lim.sh, .int .i64 p.lim.hl, .int .i64 p.lim.hh, .int .i64 p.rate, .int .i64 p.asked, .int .i64 p.st, .bool p.door, .int .i64 p.left, .int .i64 p.given] 27)).alloc (.cells #[.int .i64 a.kind, .int .i64 a.n] 29)) #[.int .i64 0, .int .i64 0, .int .i64 0, .int .i64 0, .int .i64 0, .int .i64 0, .int .i64 0, .bool false, .int .i64 0, .int .i64 0] 27
  have hb0 : Below w.heap.size w (((w.alloc (.cells #[.int .i64 p.lim.sl, .int .i64 p.lim.sh, .int .i64 p.lim.hl, .int .i64 p.lim.hh, .int .i64 p.rate, .int .i64 p.asked, .int .i64 p.st, .bool p.door, .int .i64 p.left, .int .i64 p.given] 27)).alloc (.cells #[.int .i64 a.kind, .int .i64 a.n] 29)).alloc (.cells #[.int .i64 0, .int .i64 0, .int .i64 0, .int .i64 0, .int .i64 0, .int .i64 0, .int .i64 0, .bool false, .int .i64 0, .int .i64 0] 27)) := by repeat (first | exact Below.refl _ _ | assumption | refine st_drew ?_ | refine st_drewN ?_ _ | refine Below.setCell ?_ (by first | omega | (simp; done) | (simp; omega)) _ | refine Below.alloc ?_ (by first | omega | (simp; done) | (simp; omega)) _)
  simp only [World.size_alloc] at hP hA hZ
  generalize ((w.alloc (.cells #[.int .i64 p.lim.sl, .int .i64 p.lim.sh, .int .i64 p.lim.hl, .int .i64 p.lim.hh, .int .i64 p.rate, .int .i64 p.asked, .int .i64 p.st, .bool p.door, .int .i64 p.left, .int .i64 p.given] 27)).alloc (.cells #[.int .i64 a.kind, .int .i64 a.n] 29)).alloc (.cells #[.int .i64 0, .int .i64 0, .int .i64 0, .int .i64 0, .int .i64 0, .int .i64 0, .int .i64 0, .bool false, .int .i64 0, .int .i64 0] 27) = wA at *
  have hle : w.heap.size ≤ w.heap.size + 1 + 1 := by omega
  generalize w.heap.size + 1 = B1 at *
  generalize B1 + 1 = B2 at *
  obtain ⟨c0, c1, c2, c3, c4, c5, c6, c7, c8, c9⟩ := hP.ten
  have HP := hidden hP
  have HA := hidden hA
  have HZ := hidden hZ
  have HB := hidden hb0
  clear hP hA hZ hb0
  have H2 := hidden h2
  have H3 := hidden h3
  have H4 := hidden h4
  have H5 := hidden h5
  clear h2 h3 h4 h5
  go_upto_region 2 with (with_reducible refine (h1 _).mono ?_; rintro e w1 ⟨rfl, hb1⟩)
  have hN := PB.new w1 #[.int .i64 p.lim.sl, .int .i64 p.lim.sh, .int .i64 p.lim.hl, .int .i64 p.lim.hh, .int .i64 p.rate, .int .i64 p.asked, .int .i64 p.st, .bool p.door, .int .i64 p.left, .int .i64 p.given] 61
  have hP := (HP.out.below hb1).alloc (.cells #[.int .i64 p.lim.sl, .int .i64 p.lim.sh, .int .i64 p.lim.hl, .int .i64 p.lim.hh, .int .i64 p.rate, .int .i64 p.asked, .int .i64 p.st, .bool p.door, .int .i64 p.left, .int .i64 p.given] 61)
  have hA := (HA.out.below hb1).alloc (.cells #[.int .i64 p.lim.sl, .int .i64 p.lim.sh, .int .i64 p.lim.hl, .int .i64 p.lim.hh, .int .i64 p.rate, .int .i64 p.asked, .int .i64 p.st, .bool p.door, .int .i64 p.left, .int .i64 p.given] 61)
  have hZ := (HZ.out.below hb1).alloc (.cells #[.int .i64 p.lim.sl, .int .i64 p.lim.sh, .int .i64 p.lim.hl, .int .i64 p.lim.hh, .int .i64 p.rate, .int .i64 p.asked, .int .i64 p.st, .bool p.door, .int .i64 p.left, .int .i64 p.given] 61)
  have hb0 : Below w.heap.size w (w1.alloc (.cells #[.int .i64 p.lim.sl, .int .i64 p.lim.sh, .int .i64 p.lim.hl, .int .i64 p.lim.hh, .int .i64 p.rate, .int .i64 p.asked, .int .i64 p.st, .bool p.door, .int .i64 p.left, .int .i64 p.given] 61)) := (onto HB.out hb1).alloc (onto HB.out hb1).size _
  generalize w1.alloc (.cells #[.int .i64 p.lim.sl, .int .i64 p.lim.sh, .int .i64 p.lim.hl, .int .i64 p.lim.hh, .int .i64 p.rate, .int .i64 p.asked, .int .i64 p.st, .bool p.door, .int .i64 p.left, .int .i64 p.given] 61) = wB at *
  clear c0 c1 c2 c3 c4 c5 c6 c7 c8 c9 HP HA HZ HB hb1 h1
  obtain ⟨n0, n1, n2, n3, n4, n5, n6, n7, n8, n9⟩ := hN.ten
  have HN := hidden hN
  have HP := hidden hP
  have HA := hidden hA
  have HZ := hidden hZ
  have HB := hidden hb0
  clear hN hP hA hZ hb0
  generalize w1.heap.size = B3 at *
  have h2 := H2.out
  clear H2
  cases b with
  | false =>
    go_wp2_with (with_reducible refine (h2 _).mono ?_; rintro e w2 ⟨rfl, hb2⟩; obtain ⟨z0, z1, z2, z3, z4, z5, z6, z7, z8, z9⟩ := (HZ.out.below hb2).ten; obtain ⟨f0, f1, f2, f3, f4, f5, f6, f7, f8, f9⟩ := (HZ.out.below hb2).cold)
    try simp only [Exit.inBlock, Exit.then]
    refine pair_end (q' := zeroP) Try.results11 (PB.fill' zeroP (HZ.out.below hb2)) rfl rfl ⟨?_, fill_below (onto HB.out hb2) hle _ _ _ _ _ _ _ _ _ _⟩
    rw [HV.out]
    rfl
  | true =>
    go_upto_region 4 with (with_reducible refine (h2 _).mono ?_; rintro e w2 ⟨rfl, hb2⟩)
    have HN2 := hidden (HN.out.below hb2)
    have HP2 := hidden (HP.out.below hb2)
    have HA2 := hidden (HA.out.below hb2)
    have HZ2 := hidden (HZ.out.below hb2)
    have HB2 := hidden (onto HB.out hb2)
    clear n0 n1 n2 n3 n4 n5 n6 n7 n8 n9 HN HP HA HZ HB hb2 h2
    have HN := HN2
    have HP := HP2
    have HA := HA2
    have HZ := HZ2
    have HB := HB2
    clear HN2 HP2 HA2 HZ2 HB2
    obtain ⟨a0, a1⟩ := HA.out.two
    have h3 := H3.out
    clear H3
    cases b' with
    | false =>
      go_wp2_with (with_reducible refine (h3 _).mono ?_; rintro e w3 ⟨rfl, hb2⟩; obtain ⟨c0, c1, c2, c3, c4, c5, c6, c7, c8, c9⟩ := (HP.out.below hb2).ten; obtain ⟨z0, z1, z2, z3, z4, z5, z6, z7, z8, z9⟩ := (HZ.out.below hb2).ten; obtain ⟨f0, f1, f2, f3, f4, f5, f6, f7, f8, f9⟩ := (HZ.out.below hb2).cold)
      try simp only [Exit.inBlock, Exit.then]
      refine pair_end (q' := p) Try.results11 (PB.fill' p (HZ.out.below hb2)) rfl rfl ⟨?_, fill_below (onto HB.out hb2) hle _ _ _ _ _ _ _ _ _ _⟩
      rw [HV.out, if_pos (by simp), HW.out (by simp)]
      rfl
    | true =>
      have H4' : Hid (∀ w, Calls Try.prog 31 #[.agg #[.int .i64 p.lim.sl, .int .i64 p.lim.sh, .int .i64 p.lim.hl, .int .i64 p.lim.hh, .int .i64 p.rate, .int .i64 p.asked, .int .i64 p.st, .bool p.door, .int .i64 p.left, .int .i64 p.given], .agg #[.int .i64 a.kind, .int .i64 a.n]] w fun e w' => e = .returned (.tuple #[.agg #[.int .i64 s1.lim.sl, .int .i64 s1.lim.sh, .int .i64 s1.lim.hl, .int .i64 s1.lim.hh, .int .i64 s1.rate, .int .i64 s1.asked, .int .i64 s1.st, .bool s1.door, .int .i64 s1.left, .int .i64 s1.given], .int .i64 s2]) ∧ Below w.heap.size w w') := by first | exact H4.out | exact H4.out (by simp) | exact H4.out (by simp) (by simp)
      clear H4
      go_upto_region 6 with (with_reducible refine (h3 _).mono ?_; rintro e w3 ⟨rfl, hb2⟩)
      have HN2 := hidden (HN.out.below hb2)
      have HA2 := hidden (HA.out.below hb2)
      have HZ2 := hidden (HZ.out.below hb2)
      have HB2 := hidden (onto HB.out hb2)
      clear a0 a1 HN HP HA HZ HB hb2 h3
      have HZ := HZ2
      have HB := HB2
      obtain ⟨a0, a1⟩ := HA2.out.two
      obtain ⟨n0, n1, n2, n3, n4, n5, n6, n7, n8, n9⟩ := HN2.out.ten
      clear HN2 HA2 HZ2 HB2
      have h4 := H4'.out
      clear H4'
      go_upto_region 7 with (with_reducible refine (h4 _).mono ?_; rintro e w4 ⟨rfl, hb2⟩)
      have hM := PB.new w4 #[.int .i64 s1.lim.sl, .int .i64 s1.lim.sh, .int .i64 s1.lim.hl, .int .i64 s1.lim.hh, .int .i64 s1.rate, .int .i64 s1.asked, .int .i64 s1.st, .bool s1.door, .int .i64 s1.left, .int .i64 s1.given] 61
      have hZ := (HZ.out.below hb2).alloc (.cells #[.int .i64 s1.lim.sl, .int .i64 s1.lim.sh, .int .i64 s1.lim.hl, .int .i64 s1.lim.hh, .int .i64 s1.rate, .int .i64 s1.asked, .int .i64 s1.st, .bool s1.door, .int .i64 s1.left, .int .i64 s1.given] 61)
      have hb0 : Below w.heap.size w (w4.alloc (.cells #[.int .i64 s1.lim.sl, .int .i64 s1.lim.sh, .int .i64 s1.lim.hl, .int .i64 s1.lim.hh, .int .i64 s1.rate, .int .i64 s1.asked, .int .i64 s1.st, .bool s1.door, .int .i64 s1.left, .int .i64 s1.given] 61)) := (onto HB.out hb2).alloc (onto HB.out hb2).size _
      generalize w4.alloc (.cells #[.int .i64 s1.lim.sl, .int .i64 s1.lim.sh, .int .i64 s1.lim.hl, .int .i64 s1.lim.hh, .int .i64 s1.rate, .int .i64 s1.asked, .int .i64 s1.st, .bool s1.door, .int .i64 s1.left, .int .i64 s1.given] 61) = wC at *
      clear a0 a1 n0 n1 n2 n3 n4 n5 n6 n7 n8 n9 HZ HB hb2 h4
      obtain ⟨m0, m1, m2, m3, m4, m5, m6, m7, m8, m9⟩ := hM.ten
      have HZ := hidden hZ
      have HB := hidden hb0
      clear hM hZ hb0
      generalize w4.heap.size = B4 at *
      have h5 := H5.out
      clear H5
      go_wp2_with (with_reducible refine (h5 _).mono ?_; rintro e w5 ⟨rfl, hb2⟩; obtain ⟨z0, z1, z2, z3, z4, z5, z6, z7, z8, z9⟩ := (HZ.out.below hb2).ten; obtain ⟨f0, f1, f2, f3, f4, f5, f6, f7, f8, f9⟩ := (HZ.out.below hb2).cold)
      try simp only [Exit.inBlock, Exit.then]
      refine pair_end (q' := s1) Try.results11 (PB.fill' s1 (HZ.out.below hb2)) rfl rfl ⟨?_, fill_below (onto HB.out hb2) hle _ _ _ _ _ _ _ _ _ _⟩
      rw [HV.out, if_pos (by simp)]
      rfl
end Go.Proofs.Ytamghmnibfbgaaa
