/-
  The program's acts: confirming and holding.
-/
import Derived.Test.YtamghmnibfbgaaaCc
namespace Go.Proofs.Ytamghmnibfbgaaa
open Go.RowKit Va Ba
set_option linter.unusedVariables false

set_option maxRecDepth 20000 in
set_option maxHeartbeats 8000000 in
theorem iconfirm_any (p : Pm) (n : Int) (q : Pm) (co : Int) (hq : (q, co) = xConfirm p n) (w : World) : Calls Try.prog 49 #[aPm p, .int .i64 n] w fun e w' => e = .returned (.tuple #[aPm q, .int .i64 co]) ∧ Below w.heap.size w w' := by
  have HK := hidden hq
  clear hq
  have hE : aPm p = .agg #[.int .i64 p.lim.sl, .int .i64 p.lim.sh, .int .i64 p.lim.hl, .int .i64 p.lim.hh, .int .i64 p.rate, .int .i64 p.asked, .int .i64 p.st, .bool p.door, .int .i64 p.left, .int .i64 p.given] := rfl
  rw [hE]
  clear hE
  go_enter Try.func49, Try.ntmps49
  go_upto_region 1 with fail
  have hP := (PB.new w #[.int .i64 p.lim.sl, .int .i64 p.lim.sh, .int .i64 p.lim.hl, .int .i64 p.lim.hh, .int .i64 p.rate, .int .i64 p.asked, .int .i64 p.st, .bool p.door, .int .i64 p.left, .int .i64 p.given] 61).alloc (.cells #[.int .i64 0, .int .i64 0, .int .i64 0, .int .i64 0, .int .i64 0, .int .i64 0, .int .i64 0, .bool false, .int .i64 0, .int .i64 0] 61)
  have hZ := PB.new (w.alloc (.cells #[.int .i64 p.lim.sl, .int .i64 p.lim.sh, .int .i64 p.lim.hl, .int .i64 p.lim.hh, .int .i64 p.rate, .int .i64 p.asked, .int .i64 p.st, .bool p.door, .int .i64 p.left, .int .i64 p.given] 61)) #[.int .i64 0, .int .i64 0, .int .i64 0, .int .i64 0, .int .i64 0, .int .i64 0, .int .i64 0, .bool false, .int .i64 0, .int .i64 0] 61
  have hb0 : Below w.heap.size w ((w.alloc (.cells #[.int .i64 p.lim.sl, .int .i64 p.lim.sh, .int .i64 p.lim.hl, .int .i64 p.lim.hh, .int .i64 p.rate, .int .i64 p.asked, .int .i64 p.st, .bool p.door, .int .i64 p.left, .int .i64 p.given] 61)).alloc (.cells #[.int .i64 0, .int .i64 0, .int .i64 0, .int .i64 0, .int .i64 0, .int .i64 0, .int .i64 0, .bool false, .int .i64 0, .int .i64 0] 61)) := by repeat (first | exact Below.refl _ _ | assumption | refine st_drew ?_ | refine st_drewN ?_ _ | refine Below.setCell ?_ (by first | omega | (simp; done) | (simp; omega)) _ | refine Below.alloc ?_ (by first | omega | (simp; done) | (simp; omega)) _)
  simp only [World.size_alloc] at hP hZ
  generalize (w.alloc (.cells #[.int .i64 p.lim.sl, .int .i64 p.lim.sh, .int .i64 p.lim.hl, .int .i64 p.lim.hh, .int .i64 p.rate, .int .i64 p.asked, .int .i64 p.st, .bool p.door, .int .i64 p.left, .int .i64 p.given] 61)).alloc (.cells #[.int .i64 0, .int .i64 0, .int .i64 0, .int .i64 0, .int .i64 0, .int .i64 0, .int .i64 0, .bool false, .int .i64 0, .int .i64 0] 61) = wA at *
  generalize Value.agg #[.int .i64 p.lim.sl, .int .i64 p.lim.sh, .int .i64 p.lim.hl, .int .i64 p.lim.hh, .int .i64 p.rate, .int .i64 p.asked, .int .i64 p.st, .bool p.door, .int .i64 p.left, .int .i64 p.given] = av
  have hle : w.heap.size ≤ w.heap.size + 1 := by omega
  have hl0 : w.heap.size ≤ w.heap.size := Nat.le_refl _
  have hne : w.heap.size ≠ w.heap.size + 1 := by omega
  generalize w.heap.size + 1 = B1 at *
  obtain ⟨c0, c1, c2, c3, c4, c5, c6, c7, c8, c9⟩ := hP.ten
  obtain ⟨g0, g1, g2, g3, g4, g5, g6, g7, g8, g9⟩ := hP.cold
  obtain ⟨z0, z1, z2, z3, z4, z5, z6, z7, z8, z9⟩ := hZ.ten
  obtain ⟨f0, f1, f2, f3, f4, f5, f6, f7, f8, f9⟩ := hZ.cold
  have HP := hidden hP
  have HZ := hidden hZ
  have HB := hidden hb0
  clear hP hZ hb0
  by_cases h : p.asked = 0
  · go_wp2_with fail
    try simp only [Exit.inBlock, Exit.then]
    exact iend (q' := { p with asked := 0 }) (c := 3) Try.results49 (HK.out.trans (by rw [xConfirm, if_pos h, ← asked_eq h])) (PB.fill' { p with asked := 0 } (by repeat (first | exact HZ.out | refine PB.far ?_ hne _ _))) rfl rfl (fill_below (by repeat (first | exact HB.out | refine Below.setCell ?_ hl0 _)) hle _ _ _ _ _ _ _ _ _ _)
  · go_wp2_with fail
    try simp only [Exit.inBlock, Exit.then]
    exact iend (q' := { p with rate := p.asked, asked := 0 }) (c := 0) Try.results49 (HK.out.trans (by rw [xConfirm, if_neg h])) (PB.fill' { p with rate := p.asked, asked := 0 } (by repeat (first | exact HZ.out | refine PB.far ?_ hne _ _))) rfl rfl (fill_below (by repeat (first | exact HB.out | refine Below.setCell ?_ hl0 _)) hle _ _ _ _ _ _ _ _ _ _)

set_option maxRecDepth 20000 in
set_option maxHeartbeats 8000000 in
theorem ihold_any (p : Pm) (n : Int) (q : Pm) (co : Int) (hq : (q, co) = xHold p n) (w : World) : Calls Try.prog 51 #[aPm p, .int .i64 n] w fun e w' => e = .returned (.tuple #[aPm q, .int .i64 co]) ∧ Below w.heap.size w w' := by
  have HK := hidden hq
  clear hq
  have hE : aPm p = .agg #[.int .i64 p.lim.sl, .int .i64 p.lim.sh, .int .i64 p.lim.hl, .int .i64 p.lim.hh, .int .i64 p.rate, .int .i64 p.asked, .int .i64 p.st, .bool p.door, .int .i64 p.left, .int .i64 p.given] := rfl
  rw [hE]
  clear hE
  go_enter Try.func51, Try.ntmps51
  go_upto_region 1 with fail
  have hP := (PB.new w #[.int .i64 p.lim.sl, .int .i64 p.lim.sh, .int .i64 p.lim.hl, .int .i64 p.lim.hh, .int .i64 p.rate, .int .i64 p.asked, .int .i64 p.st, .bool p.door, .int .i64 p.left, .int .i64 p.given] 61).alloc (.cells #[.int .i64 0, .int .i64 0, .int .i64 0, .int .i64 0, .int .i64 0, .int .i64 0, .int .i64 0, .bool false, .int .i64 0, .int .i64 0] 61)
  have hZ := PB.new (w.alloc (.cells #[.int .i64 p.lim.sl, .int .i64 p.lim.sh, .int .i64 p.lim.hl, .int .i64 p.lim.hh, .int .i64 p.rate, .int .i64 p.asked, .int .i64 p.st, .bool p.door, .int .i64 p.left, .int .i64 p.given] 61)) #[.int .i64 0, .int .i64 0, .int .i64 0, .int .i64 0, .int .i64 0, .int .i64 0, .int .i64 0, .bool false, .int .i64 0, .int .i64 0] 61
  have hb0 : Below w.heap.size w ((w.alloc (.cells #[.int .i64 p.lim.sl, .int .i64 p.lim.sh, .int .i64 p.lim.hl, .int .i64 p.lim.hh, .int .i64 p.rate, .int .i64 p.asked, .int .i64 p.st, .bool p.door, .int .i64 p.left, .int .i64 p.given] 61)).alloc (.cells #[.int .i64 0, .int .i64 0, .int .i64 0, .int .i64 0, .int .i64 0, .int .i64 0, .int .i64 0, .bool false, .int .i64 0, .int .i64 0] 61)) := by repeat (first | exact Below.refl _ _ | assumption | refine st_drew ?_ | refine st_drewN ?_ _ | refine Below.setCell ?_ (by first | omega | (simp; done) | (simp; omega)) _ | refine Below.alloc ?_ (by first | omega | (simp; done) | (simp; omega)) _)
  simp only [World.size_alloc] at hP hZ
  generalize (w.alloc (.cells #[.int .i64 p.lim.sl, .int .i64 p.lim.sh, .int .i64 p.lim.hl, .int .i64 p.lim.hh, .int .i64 p.rate, .int .i64 p.asked, .int .i64 p.st, .bool p.door, .int .i64 p.left, .int .i64 p.given] 61)).alloc (.cells #[.int .i64 0, .int .i64 0, .int .i64 0, .int .i64 0, .int .i64 0, .int .i64 0, .int .i64 0, .bool false, .int .i64 0, .int .i64 0] 61) = wA at *
  generalize Value.agg #[.int .i64 p.lim.sl, .int .i64 p.lim.sh, .int .i64 p.lim.hl, .int .i64 p.lim.hh, .int .i64 p.rate, .int .i64 p.asked, .int .i64 p.st, .bool p.door, .int .i64 p.left, .int .i64 p.given] = av
  have hle : w.heap.size ≤ w.heap.size + 1 := by omega
  have hl0 : w.heap.size ≤ w.heap.size := Nat.le_refl _
  have hne : w.heap.size ≠ w.heap.size + 1 := by omega
  generalize w.heap.size + 1 = B1 at *
  obtain ⟨c0, c1, c2, c3, c4, c5, c6, c7, c8, c9⟩ := hP.ten
  obtain ⟨g0, g1, g2, g3, g4, g5, g6, g7, g8, g9⟩ := hP.cold
  obtain ⟨z0, z1, z2, z3, z4, z5, z6, z7, z8, z9⟩ := hZ.ten
  obtain ⟨f0, f1, f2, f3, f4, f5, f6, f7, f8, f9⟩ := hZ.cold
  have HP := hidden hP
  have HZ := hidden hZ
  have HB := hidden hb0
  clear hP hZ hb0
  by_cases h : p.st = 3
  · go_wp2_with fail
    try simp only [Exit.inBlock, Exit.then]
    exact iend (q' := { p with st := 4 }) (c := 0) Try.results51 (HK.out.trans (by rw [xHold, if_neg (by simp [h])])) (PB.fill' { p with st := 4 } (by repeat (first | exact HZ.out | refine PB.far ?_ hne _ _))) rfl rfl (fill_below (by repeat (first | exact HB.out | refine Below.setCell ?_ hl0 _)) hle _ _ _ _ _ _ _ _ _ _)
  · go_wp2_with fail
    try simp only [Exit.inBlock, Exit.then]
    exact iend (q' := p) (c := 3) Try.results51 (HK.out.trans (by rw [xHold, if_pos h])) (PB.fill' p (by repeat (first | exact HZ.out | refine PB.far ?_ hne _ _))) rfl rfl (fill_below (by repeat (first | exact HB.out | refine Below.setCell ?_ hl0 _)) hle _ _ _ _ _ _ _ _ _ _)

end Go.Proofs.Ytamghmnibfbgaaa
