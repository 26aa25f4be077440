/-
  The program's pumps: copied into pumps with their limit inside and back; PumpOk and NewPump.
-/
import Derived.Test.YtamghmnibfbgaaaCa
import Derived.Test.YtamghmnibfbgaaaBw
namespace Go.Proofs.Ytamghmnibfbgaaa
open Go.RowKit Va Ba
set_option linter.unusedVariables false

set_option maxRecDepth 20000 in
set_option maxHeartbeats 2000000 in
theorem ipumpof_any (p : Pm) (w : World) : Calls Try.prog 28 #[aPm p] w fun r w' => r = .returned (aPm p) ∧ Below w.heap.size w w' := by
  unfold aPm
  go_enter Try.func28, Try.ntmps28
  go_upto_region 1 with fail
  have hP := (PB.new w #[.int .i64 p.lim.sl, .int .i64 p.lim.sh, .int .i64 p.lim.hl, .int .i64 p.lim.hh, .int .i64 p.rate, .int .i64 p.asked, .int .i64 p.st, .bool p.door, .int .i64 p.left, .int .i64 p.given] 27).alloc (.cells #[.int .i64 0, .int .i64 0, .int .i64 0, .int .i64 0, .int .i64 0, .int .i64 0, .int .i64 0, .bool false, .int .i64 0, .int .i64 0] 61)
  have hZ := PB.new (w.alloc (.cells #[.int .i64 p.lim.sl, .int .i64 p.lim.sh, .int .i64 p.lim.hl, .int .i64 p.lim.hh, .int .i64 p.rate, .int .i64 p.asked, .int .i64 p.st, .bool p.door, .int .i64 p.left, .int .i64 p.given] 27)) #[.int .i64 0, .int .i64 0, .int .i64 0, .int .i64 0, .int .i64 0, .int .i64 0, .int .i64 0, .bool false, .int .i64 0, .int .i64 0] 61
  have hb0 : Below w.heap.size w ((w.alloc (.cells #[.int .i64 p.lim.sl, .int .i64 p.lim.sh, .int .i64 p.lim.hl, .int .i64 p.lim.hh, .int .i64 p.rate, .int .i64 p.asked, .int .i64 p.st, .bool p.door, .int .i64 p.left, .int .i64 p.given] 27)).alloc (.cells #[.int .i64 0, .int .i64 0, .int .i64 0, .int .i64 0, .int .i64 0, .int .i64 0, .int .i64 0, .bool false, .int .i64 0, .int .i64 0] 61)) := by repeat (first | exact Below.refl _ _ | assumption | refine st_drew ?_ | refine st_drewN ?_ _ | refine Below.setCell ?_ (by first | omega | (simp; done) | (simp; omega)) _ | refine Below.alloc ?_ (by first | omega | (simp; done) | (simp; omega)) _)
  simp only [World.size_alloc] at hP hZ
  generalize (w.alloc (.cells #[.int .i64 p.lim.sl, .int .i64 p.lim.sh, .int .i64 p.lim.hl, .int .i64 p.lim.hh, .int .i64 p.rate, .int .i64 p.asked, .int .i64 p.st, .bool p.door, .int .i64 p.left, .int .i64 p.given] 27)).alloc (.cells #[.int .i64 0, .int .i64 0, .int .i64 0, .int .i64 0, .int .i64 0, .int .i64 0, .int .i64 0, .bool false, .int .i64 0, .int .i64 0] 61) = wA at *
  have hle : w.heap.size ≤ w.heap.size + 1 := by omega
  generalize w.heap.size + 1 = B1 at *
  obtain ⟨c0, c1, c2, c3, c4, c5, c6, c7, c8, c9⟩ := hP.ten
  obtain ⟨z0, z1, z2, z3, z4, z5, z6, z7, z8, z9⟩ := hZ.ten
  obtain ⟨f0, f1, f2, f3, f4, f5, f6, f7, f8, f9⟩ := hZ.cold
  have HZ := hidden hZ
  have HB := hidden hb0
  clear hP hZ hb0
  go_wp2_with fail
  try simp only [Exit.inBlock, Exit.then]
  exact bodyPost_ret (v := aPm p) (results_cell_row Try.results28 _ _ B1 61 _ (0, 0) _ rfl (PB.fill' p HZ.out) Try.underlying61 rfl (by kernel_rfl)) rfl ⟨rfl, fill_below HB.out hle _ _ _ _ _ _ _ _ _ _⟩

set_option maxRecDepth 20000 in
set_option maxHeartbeats 2000000 in
theorem itold_any (p : Pm) (w : World) : Calls Try.prog 32 #[aPm p] w fun r w' => r = .returned (aPm p) ∧ Below w.heap.size w w' := by
  unfold aPm
  go_enter Try.func32, Try.ntmps32
  go_upto_region 1 with fail
  have hP := (PB.new w #[.int .i64 p.lim.sl, .int .i64 p.lim.sh, .int .i64 p.lim.hl, .int .i64 p.lim.hh, .int .i64 p.rate, .int .i64 p.asked, .int .i64 p.st, .bool p.door, .int .i64 p.left, .int .i64 p.given] 61).alloc (.cells #[.int .i64 0, .int .i64 0, .int .i64 0, .int .i64 0, .int .i64 0, .int .i64 0, .int .i64 0, .bool false, .int .i64 0, .int .i64 0] 27)
  have hZ := PB.new (w.alloc (.cells #[.int .i64 p.lim.sl, .int .i64 p.lim.sh, .int .i64 p.lim.hl, .int .i64 p.lim.hh, .int .i64 p.rate, .int .i64 p.asked, .int .i64 p.st, .bool p.door, .int .i64 p.left, .int .i64 p.given] 61)) #[.int .i64 0, .int .i64 0, .int .i64 0, .int .i64 0, .int .i64 0, .int .i64 0, .int .i64 0, .bool false, .int .i64 0, .int .i64 0] 27
  have hb0 : Below w.heap.size w ((w.alloc (.cells #[.int .i64 p.lim.sl, .int .i64 p.lim.sh, .int .i64 p.lim.hl, .int .i64 p.lim.hh, .int .i64 p.rate, .int .i64 p.asked, .int .i64 p.st, .bool p.door, .int .i64 p.left, .int .i64 p.given] 61)).alloc (.cells #[.int .i64 0, .int .i64 0, .int .i64 0, .int .i64 0, .int .i64 0, .int .i64 0, .int .i64 0, .bool false, .int .i64 0, .int .i64 0] 27)) := by repeat (first | exact Below.refl _ _ | assumption | refine st_drew ?_ | refine st_drewN ?_ _ | refine Below.setCell ?_ (by first | omega | (simp; done) | (simp; omega)) _ | refine Below.alloc ?_ (by first | omega | (simp; done) | (simp; omega)) _)
  simp only [World.size_alloc] at hP hZ
  generalize (w.alloc (.cells #[.int .i64 p.lim.sl, .int .i64 p.lim.sh, .int .i64 p.lim.hl, .int .i64 p.lim.hh, .int .i64 p.rate, .int .i64 p.asked, .int .i64 p.st, .bool p.door, .int .i64 p.left, .int .i64 p.given] 61)).alloc (.cells #[.int .i64 0, .int .i64 0, .int .i64 0, .int .i64 0, .int .i64 0, .int .i64 0, .int .i64 0, .bool false, .int .i64 0, .int .i64 0] 27) = wA at *
  have hle : w.heap.size ≤ w.heap.size + 1 := by omega
  generalize w.heap.size + 1 = B1 at *
  obtain ⟨c0, c1, c2, c3, c4, c5, c6, c7, c8, c9⟩ := hP.ten
  obtain ⟨z0, z1, z2, z3, z4, z5, z6, z7, z8, z9⟩ := hZ.ten
  obtain ⟨f0, f1, f2, f3, f4, f5, f6, f7, f8, f9⟩ := hZ.cold
  have HZ := hidden hZ
  have HB := hidden hb0
  clear hP hZ hb0
  go_wp2_with fail
  try simp only [Exit.inBlock, Exit.then]
  exact bodyPost_ret (v := aPm p) (results_cell_row Try.results32 _ _ B1 27 _ (0, 0) _ rfl (PB.fill' p HZ.out) Try.underlying27 rfl (by kernel_rfl)) rfl ⟨rfl, fill_below HB.out hle _ _ _ _ _ _ _ _ _ _⟩

set_option maxRecDepth 20000 in
set_option maxHeartbeats 2000000 in
theorem iok_any (p : Pm) (w : World) : Calls Try.prog 21 #[aPm p] w fun e w' => e = .returned (.bool (pmOk p)) ∧ Below w.heap.size w w' := by
  have h1 := ipumpof_any p
  have h2 := iright_any p
  generalize pmOk p = b at *
  unfold aPm at *
  go_enter Try.func21, Try.ntmps21
  have hb0 : Below w.heap.size w (w.alloc (.cells #[.int .i64 p.lim.sl, .int .i64 p.lim.sh, .int .i64 p.lim.hl, .int .i64 p.lim.hh, .int .i64 p.rate, .int .i64 p.asked, .int .i64 p.st, .bool p.door, .int .i64 p.left, .int .i64 p.given] 27)) := (Below.refl _ _).alloc (Nat.le_refl _) _
  go_wp2_with fail
  refine (h1 _).mono ?_
  rintro e w1 ⟨rfl, hb1⟩
  have b1 := onto hb0 hb1
  go_wp2_with fail
  refine (h2 _).mono ?_
  rintro e w2 ⟨rfl, hb2⟩
  have b2 := onto b1 hb2
  go_wp2_with fail
  go_ret
  exact ⟨rfl, b2⟩

set_option maxRecDepth 20000 in
set_option maxHeartbeats 2000000 in
theorem inew_any (l : Lm) (n : Int) (w : World) : Calls Try.prog 15 #[aL l, .int .i64 n] w fun e w' => e = .returned (.tuple #[aPm (Ba.new l n).1, .bool (Ba.new l n).2]) ∧ Below w.heap.size w w' := by
  have h1 := iok_any (newP l n)
  have HV : Hid (Ba.new l n = if pmOk (newP l n) = true then (newP l n, true) else (zeroP, false)) := rfl
  generalize pmOk (newP l n) = b at *
  generalize Ba.new l n = R at *
  unfold aPm newP at h1
  dsimp only at h1
  unfold aL
  go_enter Try.func15, Try.ntmps15
  go_upto_region 2 with fail
  have hZ := (PB.new (w.alloc (.cells #[.int .i64 l.sl, .int .i64 l.sh, .int .i64 l.hl, .int .i64 l.hh] 25)) #[.int .i64 0, .int .i64 0, .int .i64 0, .int .i64 0, .int .i64 0, .int .i64 0, .int .i64 0, .bool false, .int .i64 0, .int .i64 0] 27).alloc (.cells #[.int .i64 l.sl, .int .i64 l.sh, .int .i64 l.hl, .int .i64 l.hh, .int .i64 0, .int .i64 0, .int .i64 1, .bool false, .int .i64 n, .int .i64 0] 27)
  have hQ := PB.new ((w.alloc (.cells #[.int .i64 l.sl, .int .i64 l.sh, .int .i64 l.hl, .int .i64 l.hh] 25)).alloc (.cells #[.int .i64 0, .int .i64 0, .int .i64 0, .int .i64 0, .int .i64 0, .int .i64 0, .int .i64 0, .bool false, .int .i64 0, .int .i64 0] 27)) #[.int .i64 l.sl, .int .i64 l.sh, .int .i64 l.hl, .int .i64 l.hh, .int .i64 0, .int .i64 0, .int .i64 1, .bool false, .int .i64 n, .int .i64 0] 27
  have hb0 : Below w.heap.size w (((w.alloc (.cells #[.int .i64 l.sl, .int .i64 l.sh, .int .i64 l.hl, .int .i64 l.hh] 25)).alloc (.cells #[.int .i64 0, .int .i64 0, .int .i64 0, .int .i64 0, .int .i64 0, .int .i64 0, .int .i64 0, .bool false, .int .i64 0, .int .i64 0] 27)).alloc (.cells #[.int .i64 l.sl, .int .i64 l.sh, .int .i64 l.hl, .int .i64 l.hh, .int .i64 0, .int .i64 0, .int .i64 1, .bool false, .int .i64 n, .int .i64 0] 27)) := by repeat (first | exact Below.refl _ _ | assumption | refine st_drew ?_ | refine st_drewN ?_ _ | refine Below.setCell ?_ (by first | omega | (simp; done) | (simp; omega)) _ | refine Below.alloc ?_ (by first | omega | (simp; done) | (simp; omega)) _)
  simp only [World.size_alloc] at hZ hQ
  generalize ((w.alloc (.cells #[.int .i64 l.sl, .int .i64 l.sh, .int .i64 l.hl, .int .i64 l.hh] 25)).alloc (.cells #[.int .i64 0, .int .i64 0, .int .i64 0, .int .i64 0, .int .i64 0, .int .i64 0, .int .i64 0, .bool false, .int .i64 0, .int .i64 0] 27)).alloc (.cells #[.int .i64 l.sl, .int .i64 l.sh, .int .i64 l.hl, .int .i64 l.hh, .int .i64 0, .int .i64 0, .int .i64 1, .bool false, .int .i64 n, .int .i64 0] 27) = wA at *
  have hle : w.heap.size ≤ w.heap.size + 1 := by omega
  generalize w.heap.size + 1 = B1 at *
  generalize B1 + 1 = B2 at *
  obtain ⟨q0, q1, q2, q3, q4, q5, q6, q7, q8, q9⟩ := hQ.ten
  have HZ := hidden hZ
  have HQ := hidden hQ
  have HB := hidden hb0
  clear hZ hQ hb0
  cases b with
  | false =>
    go_wp2_with (refine (h1 _).mono ?_; rintro e w2 ⟨rfl, hb2⟩; obtain ⟨z0, z1, z2, z3, z4, z5, z6, z7, z8, z9⟩ := (HZ.out.below hb2).ten; obtain ⟨f0, f1, f2, f3, f4, f5, f6, f7, f8, f9⟩ := (HZ.out.below hb2).cold)
    try simp only [Exit.inBlock, Exit.then]
    refine pair_end (q' := zeroP) Try.results15 (PB.fill' zeroP (HZ.out.below hb2)) rfl rfl ⟨?_, fill_below (HB.out.trans (hb2.mono HB.out.size)) hle _ _ _ _ _ _ _ _ _ _⟩
    rw [HV.out]
    rfl
  | true =>
    go_wp2_with (refine (h1 _).mono ?_; rintro e w2 ⟨rfl, hb2⟩; obtain ⟨z0, z1, z2, z3, z4, z5, z6, z7, z8, z9⟩ := (HZ.out.below hb2).ten; obtain ⟨f0, f1, f2, f3, f4, f5, f6, f7, f8, f9⟩ := (HZ.out.below hb2).cold; obtain ⟨g0, g1, g2, g3, g4, g5, g6, g7, g8, g9⟩ := (HQ.out.below hb2).ten)
    try simp only [Exit.inBlock, Exit.then]
    refine pair_end (q' := newP l n) Try.results15 (PB.fill' (newP l n) (HZ.out.below hb2)) rfl rfl ⟨?_, fill_below (HB.out.trans (hb2.mono HB.out.size)) hle _ _ _ _ _ _ _ _ _ _⟩
    rw [HV.out]
    rfl

end Go.Proofs.Ytamghmnibfbgaaa
