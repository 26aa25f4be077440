/-
  The program's acts: resetting.
-/
import Derived.Test.YtamghmnibfbgaaaCc
namespace Go.Proofs.Ytamghmnibfbgaaa
open Go.RowKit Va Ba
set_option linter.unusedVariables false

set_option maxRecDepth 20000 in
set_option maxHeartbeats 8000000 in
theorem ireset_any (p : Pm) (n : Int) (q : Pm) (co : Int) (hq : (q, co) = xReset p n) (w : World) : Calls Try.prog 55 #[aPm p, .int .i64 n] w fun e w' => e = .returned (.tuple #[aPm q, .int .i64 co]) ∧ Below w.heap.size w w' := by
  have HK := hidden hq
  clear hq
  have hE : aPm p = .agg #[.int .i64 p.lim.sl, .int .i64 p.lim.sh, .int .i64 p.lim.hl, .int .i64 p.lim.hh, .int .i64 p.rate, .int .i64 p.asked, .int .i64 p.st, .bool p.door, .int .i64 p.left, .int .i64 p.given] := rfl
  rw [hE]
  clear hE
  go_enter Try.func55, Try.ntmps55
  go_upto_region 2 with fail
  have hP := (PB.new w #[.int .i64 p.lim.sl, .int .i64 p.lim.sh, .int .i64 p.lim.hl, .int .i64 p.lim.hh, .int .i64 p.rate, .int .i64 p.asked, .int .i64 p.st, .bool p.door, .int .i64 p.left, .int .i64 p.given] 61).alloc (.cells #[.int .i64 0, .int .i64 0, .int .i64 0, .int .i64 0, .int .i64 0, .int .i64 0, .int .i64 0, .bool false, .int .i64 0, .int .i64 0] 61)
  have hZ := PB.new (w.alloc (.cells #[.int .i64 p.lim.sl, .int .i64 p.lim.sh, .int .i64 p.lim.hl, .int .i64 p.lim.hh, .int .i64 p.rate, .int .i64 p.asked, .int .i64 p.st, .bool p.door, .int .i64 p.left, .int .i64 p.given] 61)) #[.int .i64 0, .int .i64 0, .int .i64 0, .int .i64 0, .int .i64 0, .int .i64 0, .int .i64 0, .bool false, .int .i64 0, .int .i64 0] 61
  have hb0 : Below w.heap.size w ((w.alloc (.cells #[.int .i64 p.lim.sl, .int .i64 p.lim.sh, .int .i64 p.lim.hl, .int .i64 p.lim.hh, .int .i64 p.rate, .int .i64 p.asked, .int .i64 p.st, .bool p.door, .int .i64 p.left, .int .i64 p.given] 61)).alloc (.cells #[.int .i64 0, .int .i64 0, .int .i64 0, .int .i64 0, .int .i64 0, .int .i64 0, .int .i64 0, .bool false, .int .i64 0, .int .i64 0] 61)) := by repeat (first | exact Below.refl _ _ | assumption | refine st_drew ?_ | refine st_drewN ?_ _ | refine Below.setCell ?_ (by first | omega | (simp; done) | (simp; omega)) _ | refine Below.alloc ?_ (by first | omega | (simp; done) | (simp; omega)) _)
  simp only [World.size_alloc] at hP hZ
  generalize (w.alloc (.cells #[.int .i64 p.lim.sl, .int .i64 p.lim.sh, .int .i64 p.lim.hl, .int .i64 p.lim.hh, .int .i64 p.rate, .int .i64 p.asked, .int .i64 p.st, .bool p.door, .int .i64 p.left, .int .i64 p.given] 61)).alloc (.cells #[.int .i64 0, .int .i64 0, .int .i64 0, .int .i64 0, .int .i64 0, .int .i64 0, .int .i64 0, .bool false, .int .i64 0, .int .i64 0] 61) = wA at *
  generalize Value.agg #[.int .i64 p.lim.sl, .int .i64 p.lim.sh, .int .i64 p.lim.hl, .int .i64 p.lim.hh, .int .i64 p.rate, .int .i64 p.asked, .int .i64 p.st, .bool p.door, .int .i64 p.left, .int .i64 p.given] = av
  have hle : w.heap.size ≤ w.heap.size + 1 := by omega
  have hl0 : w.heap.size ≤ w.heap.size := Nat.le_refl _
  have hne : w.heap.size ≠ w.heap.size + 1 := by omega
  generalize w.heap.size + 1 = B1 at *
  obtain ⟨c0, c1, c2, c3, c4, c5, c6, c7, c8, c9⟩ := hP.ten
  obtain ⟨g0, g1, g2, g3, g4, g5, g6, g7, g8, g9⟩ := hP.cold
  obtain ⟨z0, z1, z2, z3, z4, z5, z6, z7, z8, z9⟩ := hZ.ten
  obtain ⟨f0, f1, f2, f3, f4, f5, f6, f7, f8, f9⟩ := hZ.cold
  have HP := hidden hP
  have HZ := hidden hZ
  have HB := hidden hb0
  clear hP hZ hb0
  by_cases h : p.st = 5
  · by_cases hr : 0 < p.rate
    · go_wp2_with fail
      try simp only [Exit.inBlock, Exit.then]
      exact iend (q' := { p with st := 4 }) (c := 0) Try.results55 (HK.out.trans (by rw [xReset, if_neg (by simp [h]), if_pos hr])) (PB.fill' { p with st := 4 } (by repeat (first | exact HZ.out | refine PB.far ?_ hne _ _))) rfl rfl (fill_below (by repeat (first | exact HB.out | refine Below.setCell ?_ hl0 _)) hle _ _ _ _ _ _ _ _ _ _)
    · go_wp2_with fail
      try simp only [Exit.inBlock, Exit.then]
      exact iend (q' := { p with st := 2 }) (c := 0) Try.results55 (HK.out.trans (by rw [xReset, if_neg (by simp [h]), if_neg (by omega)])) (PB.fill' { p with st := 2 } (by repeat (first | exact HZ.out | refine PB.far ?_ hne _ _))) rfl rfl (fill_below (by repeat (first | exact HB.out | refine Below.setCell ?_ hl0 _)) hle _ _ _ _ _ _ _ _ _ _)
  · go_wp2_with fail
    try simp only [Exit.inBlock, Exit.then]
    exact iend (q' := p) (c := 3) Try.results55 (HK.out.trans (by rw [xReset, if_pos h])) (PB.fill' p (by repeat (first | exact HZ.out | refine PB.far ?_ hne _ _))) rfl rfl (fill_below (by repeat (first | exact HB.out | refine Below.setCell ?_ hl0 _)) hle _ _ _ _ _ _ _ _ _ _)

end Go.Proofs.Ytamghmnibfbgaaa
