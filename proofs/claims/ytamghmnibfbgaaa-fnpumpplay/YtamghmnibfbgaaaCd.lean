/-
  The program's acts: ticks.
-/
import Derived.Test.YtamghmnibfbgaaaCc
import Derived.Lib.MinMax
namespace Go.Proofs.Ytamghmnibfbgaaa
open Go.RowKit Va Ba
set_option linter.unusedVariables false

set_option maxRecDepth 20000 in
set_option maxHeartbeats 8000000 in
theorem itick_any (p : Pm) (n : Int) (hR : Right p) (hn : 0 ≤ n ∧ n ≤ 100000) (q : Pm) (co : Int) (hq : (q, co) = xTick p n) (w : World) : Calls Try.prog 54 #[aPm p, .int .i64 n] w fun e w' => e = .returned (.tuple #[aPm q, .int .i64 co]) ∧ Below w.heap.size w w' := by
  have HK := hidden hq
  clear hq
  have hE : aPm p = .agg #[.int .i64 p.lim.sl, .int .i64 p.lim.sh, .int .i64 p.lim.hl, .int .i64 p.lim.hh, .int .i64 p.rate, .int .i64 p.asked, .int .i64 p.st, .bool p.door, .int .i64 p.left, .int .i64 p.given] := rfl
  rw [hE]
  clear hE
  go_enter Try.func54, Try.ntmps54
  go_upto_region 1 with fail
  have hP := (PB.new w #[.int .i64 p.lim.sl, .int .i64 p.lim.sh, .int .i64 p.lim.hl, .int .i64 p.lim.hh, .int .i64 p.rate, .int .i64 p.asked, .int .i64 p.st, .bool p.door, .int .i64 p.left, .int .i64 p.given] 61).alloc (.cells #[.int .i64 0, .int .i64 0, .int .i64 0, .int .i64 0, .int .i64 0, .int .i64 0, .int .i64 0, .bool false, .int .i64 0, .int .i64 0] 61)
  have hZ := PB.new (w.alloc (.cells #[.int .i64 p.lim.sl, .int .i64 p.lim.sh, .int .i64 p.lim.hl, .int .i64 p.lim.hh, .int .i64 p.rate, .int .i64 p.asked, .int .i64 p.st, .bool p.door, .int .i64 p.left, .int .i64 p.given] 61)) #[.int .i64 0, .int .i64 0, .int .i64 0, .int .i64 0, .int .i64 0, .int .i64 0, .int .i64 0, .bool false, .int .i64 0, .int .i64 0] 61
  have hb0 : Below w.heap.size w ((w.alloc (.cells #[.int .i64 p.lim.sl, .int .i64 p.lim.sh, .int .i64 p.lim.hl, .int .i64 p.lim.hh, .int .i64 p.rate, .int .i64 p.asked, .int .i64 p.st, .bool p.door, .int .i64 p.left, .int .i64 p.given] 61)).alloc (.cells #[.int .i64 0, .int .i64 0, .int .i64 0, .int .i64 0, .int .i64 0, .int .i64 0, .int .i64 0, .bool false, .int .i64 0, .int .i64 0] 61)) := by repeat (first | exact Below.refl _ _ | assumption | refine st_drew ?_ | refine st_drewN ?_ _ | refine Below.setCell ?_ (by first | omega | (simp; done) | (simp; omega)) _ | refine Below.alloc ?_ (by first | omega | (simp; done) | (simp; omega)) _)
  simp only [World.size_alloc] at hP hZ
  generalize (w.alloc (.cells #[.int .i64 p.lim.sl, .int .i64 p.lim.sh, .int .i64 p.lim.hl, .int .i64 p.lim.hh, .int .i64 p.rate, .int .i64 p.asked, .int .i64 p.st, .bool p.door, .int .i64 p.left, .int .i64 p.given] 61)).alloc (.cells #[.int .i64 0, .int .i64 0, .int .i64 0, .int .i64 0, .int .i64 0, .int .i64 0, .int .i64 0, .bool false, .int .i64 0, .int .i64 0] 61) = wA at *
  generalize Value.agg #[.int .i64 p.lim.sl, .int .i64 p.lim.sh, .int .i64 p.lim.hl, .int .i64 p.lim.hh, .int .i64 p.rate, .int .i64 p.asked, .int .i64 p.st, .bool p.door, .int .i64 p.left, .int .i64 p.given] = av
  have hle : w.heap.size ≤ w.heap.size + 1 := by omega
  have hl0 : w.heap.size ≤ w.heap.size := Nat.le_refl _
  have hne : w.heap.size ≠ w.heap.size + 1 := by omega
  generalize w.heap.size + 1 = B1 at *
  obtain ⟨c0, c1, c2, c3, c4, c5, c6, c7, c8, c9⟩ := hP.ten
  obtain ⟨g0, g1, g2, g3, g4, g5, g6, g7, g8, g9⟩ := hP.cold
  obtain ⟨z0, z1, z2, z3, z4, z5, z6, z7, z8, z9⟩ := hZ.ten
  obtain ⟨f0, f1, f2, f3, f4, f5, f6, f7, f8, f9⟩ := hZ.cold
  have HP := hidden hP
  have HZ := hidden hZ
  have HB := hidden hb0
  clear hP hZ hb0
  have hl := hR.left
  have hg := hR.given
  by_cases h : p.st = 3
  · have hr : 0 ≤ p.rate ∧ p.rate ≤ 100000 := by have h1 := hR.lim; have h2 := hR.rate; omega
    have hm0 : 0 ≤ p.rate * n := Int.mul_nonneg hr.1 hn.1
    have hm1 : p.rate * n ≤ 100000 * 100000 := Int.mul_le_mul hr.2 hn.2 hn.1 (by omega)
    have hb1 : 0 ≤ min (p.rate * n) p.left ∧ min (p.rate * n) p.left ≤ p.left := by omega
    have HK7 : Hid ((q, co) = if p.st ≠ 3 then (p, 3) else if 100000000 < p.given + min (p.rate * n) p.left then (p, 8) else ({ p with left := p.left - min (p.rate * n) p.left, given := p.given + min (p.rate * n) p.left, st := if p.left - min (p.rate * n) p.left = 0 then 5 else p.st }, 0)) := HK.out
    clear HK
    have HK := HK7
    clear HK7
    go_upto_region 4 with fail
    generalize min (p.rate * n) p.left = m at *
    by_cases hs : 100000000 < p.given + m
    · go_wp2_with fail
      try simp only [Exit.inBlock, Exit.then]
      exact iend (q' := { p with st := 3 }) (c := 8) Try.results54 (HK.out.trans (by rw [if_neg (by simp [h]), if_pos hs, ← st_eq h])) (PB.fill' { p with st := 3 } (by repeat (first | exact HZ.out | refine PB.far ?_ hne _ _))) rfl rfl (fill_below (by repeat (first | exact HB.out | refine Below.setCell ?_ hl0 _)) hle _ _ _ _ _ _ _ _ _ _)
    by_cases he : p.left - m = 0
    · go_wp2_with fail
      try simp only [Exit.inBlock, Exit.then]
      exact iend (q' := { p with left := 0, given := p.given + m, st := 5 }) (c := 0) Try.results54 (HK.out.trans (by rw [if_neg (by simp [h]), if_neg (by omega), if_pos (by omega), show p.left - m = 0 by omega])) (PB.fill' { p with left := 0, given := p.given + m, st := 5 } (by repeat (first | exact HZ.out | refine PB.far ?_ hne _ _))) rfl rfl (fill_below (by repeat (first | exact HB.out | refine Below.setCell ?_ hl0 _)) hle _ _ _ _ _ _ _ _ _ _)
    · go_wp2_with fail
      try simp only [Exit.inBlock, Exit.then]
      exact iend (q' := { p with left := p.left - m, given := p.given + m, st := 3 }) (c := 0) Try.results54 (HK.out.trans (by rw [if_neg (by simp [h]), if_neg (by omega), if_neg (by omega), h])) (PB.fill' { p with left := p.left - m, given := p.given + m, st := 3 } (by repeat (first | exact HZ.out | refine PB.far ?_ hne _ _))) rfl rfl (fill_below (by repeat (first | exact HB.out | refine Below.setCell ?_ hl0 _)) hle _ _ _ _ _ _ _ _ _ _)
  · go_wp2_with fail
    try simp only [Exit.inBlock, Exit.then]
    exact iend (q' := p) (c := 3) Try.results54 (HK.out.trans (by rw [xTick, if_pos h])) (PB.fill' p (by repeat (first | exact HZ.out | refine PB.far ?_ hne _ _))) rfl rfl (fill_below (by repeat (first | exact HB.out | refine Below.setCell ?_ hl0 _)) hle _ _ _ _ _ _ _ _ _ _)

end Go.Proofs.Ytamghmnibfbgaaa
