/-
  The program's acts: starting.
-/
import Derived.Test.YtamghmnibfbgaaaCc
namespace Go.Proofs.Ytamghmnibfbgaaa
open Go.RowKit Va Ba
set_option linter.unusedVariables false

set_option maxRecDepth 20000 in
set_option maxHeartbeats 8000000 in
theorem istart_any (p : Pm) (n : Int) (q : Pm) (co : Int) (hq : (q, co) = xStart p n) (w : World) : Calls Try.prog 50 #[aPm p, .int .i64 n] w fun e w' => e = .returned (.tuple #[aPm q, .int .i64 co]) ∧ Below w.heap.size w w' := by
  have HK := hidden hq
  clear hq
  have hE : aPm p = .agg #[.int .i64 p.lim.sl, .int .i64 p.lim.sh, .int .i64 p.lim.hl, .int .i64 p.lim.hh, .int .i64 p.rate, .int .i64 p.asked, .int .i64 p.st, .bool p.door, .int .i64 p.left, .int .i64 p.given] := rfl
  rw [hE]
  clear hE
  go_enter Try.func50, Try.ntmps50
  go_upto_region 1 with fail
  have hP := (PB.new w #[.int .i64 p.lim.sl, .int .i64 p.lim.sh, .int .i64 p.lim.hl, .int .i64 p.lim.hh, .int .i64 p.rate, .int .i64 p.asked, .int .i64 p.st, .bool p.door, .int .i64 p.left, .int .i64 p.given] 61).alloc (.cells #[.int .i64 0, .int .i64 0, .int .i64 0, .int .i64 0, .int .i64 0, .int .i64 0, .int .i64 0, .bool false, .int .i64 0, .int .i64 0] 61)
  have hZ := PB.new (w.alloc (.cells #[.int .i64 p.lim.sl, .int .i64 p.lim.sh, .int .i64 p.lim.hl, .int .i64 p.lim.hh, .int .i64 p.rate, .int .i64 p.asked, .int .i64 p.st, .bool p.door, .int .i64 p.left, .int .i64 p.given] 61)) #[.int .i64 0, .int .i64 0, .int .i64 0, .int .i64 0, .int .i64 0, .int .i64 0, .int .i64 0, .bool false, .int .i64 0, .int .i64 0] 61
  have hb0 : Below w.heap.size w ((w.alloc (.cells #[.int .i64 p.lim.sl, .int .i64 p.lim.sh, .int .i64 p.lim.hl, .int .i64 p.lim.hh, .int .i64 p.rate, .int .i64 p.asked, .int .i64 p.st, .bool p.door, .int .i64 p.left, .int .i64 p.given] 61)).alloc (.cells #[.int .i64 0, .int .i64 0, .int .i64 0, .int .i64 0, .int .i64 0, .int .i64 0, .int .i64 0, .bool false, .int .i64 0, .int .i64 0] 61)) := by repeat (first | exact Below.refl _ _ | assumption | refine st_drew ?_ | refine st_drewN ?_ _ | refine Below.setCell ?_ (by first | omega | (simp; done) | (simp; omega)) _ | refine Below.alloc ?_ (by first | omega | (simp; done) | (simp; omega)) _)
  simp only [World.size_alloc] at hP hZ
  generalize (w.alloc (.cells #[.int .i64 p.lim.sl, .int .i64 p.lim.sh, .int .i64 p.lim.hl, .int .i64 p.lim.hh, .int .i64 p.rate, .int .i64 p.asked, .int .i64 p.st, .bool p.door, .int .i64 p.left, .int .i64 p.given] 61)).alloc (.cells #[.int .i64 0, .int .i64 0, .int .i64 0, .int .i64 0, .int .i64 0, .int .i64 0, .int .i64 0, .bool false, .int .i64 0, .int .i64 0] 61) = wA at *
  generalize Value.agg #[.int .i64 p.lim.sl, .int .i64 p.lim.sh, .int .i64 p.lim.hl, .int .i64 p.lim.hh, .int .i64 p.rate, .int .i64 p.asked, .int .i64 p.st, .bool p.door, .int .i64 p.left, .int .i64 p.given] = av
  have hle : w.heap.size ≤ w.heap.size + 1 := by omega
  have hl0 : w.heap.size ≤ w.heap.size := Nat.le_refl _
  have hne : w.heap.size ≠ w.heap.size + 1 := by omega
  generalize w.heap.size + 1 = B1 at *
  obtain ⟨c0, c1, c2, c3, c4, c5, c6, c7, c8, c9⟩ := hP.ten
  obtain ⟨g0, g1, g2, g3, g4, g5, g6, g7, g8, g9⟩ := hP.cold
  obtain ⟨z0, z1, z2, z3, z4, z5, z6, z7, z8, z9⟩ := hZ.ten
  obtain ⟨f0, f1, f2, f3, f4, f5, f6, f7, f8, f9⟩ := hZ.cold
  have HP := hidden hP
  have HZ := hidden hZ
  have HB := hidden hb0
  clear hP hZ hb0
  by_cases h2 : p.st = 2
  · by_cases hr : p.rate = 0
    · go_wp2_with fail
      try simp only [Exit.inBlock, Exit.then]
      exact iend (q' := { p with st := 2, rate := 0 }) (c := 3) Try.results50 (HK.out.trans (by rw [xStart, if_pos (.inr hr), ← st_eq (p := { p with rate := 0 }) h2, ← rate_eq hr])) (PB.fill' { p with st := 2, rate := 0 } (by repeat (first | exact HZ.out | refine PB.far ?_ hne _ _))) rfl rfl (fill_below (by repeat (first | exact HB.out | refine Below.setCell ?_ hl0 _)) hle _ _ _ _ _ _ _ _ _ _)
    cases hd : p.door with
    | true =>
      go_wp2_with fail
      try simp only [Exit.inBlock, Exit.then]
      exact iend (q' := { p with st := 2, door := true }) (c := 6) Try.results50 (HK.out.trans (by rw [xStart, if_neg (by simp [h2, hr]), if_pos hd, ← st_eq (p := { p with door := true }) h2, ← door_eq hd])) (PB.fill' { p with st := 2, door := true } (by repeat (first | exact HZ.out | refine PB.far ?_ hne _ _))) rfl rfl (fill_below (by repeat (first | exact HB.out | refine Below.setCell ?_ hl0 _)) hle _ _ _ _ _ _ _ _ _ _)
    | false =>
      by_cases hl : p.left = 0
      · go_wp2_with fail
        try simp only [Exit.inBlock, Exit.then]
        exact iend (q' := { p with st := 2, door := false, left := 0 }) (c := 7) Try.results50 (HK.out.trans (by rw [xStart, if_neg (by simp [h2, hr]), if_neg (by simp [hd]), if_pos hl, ← st_eq (p := { p with door := false, left := 0 }) h2, ← door_eq (p := { p with left := 0 }) hd, ← left_eq hl])) (PB.fill' { p with st := 2, door := false, left := 0 } (by repeat (first | exact HZ.out | refine PB.far ?_ hne _ _))) rfl rfl (fill_below (by repeat (first | exact HB.out | refine Below.setCell ?_ hl0 _)) hle _ _ _ _ _ _ _ _ _ _)
      · go_wp2_with fail
        try simp only [Exit.inBlock, Exit.then]
        exact iend (q' := { p with st := 3, asked := 0, door := false }) (c := 0) Try.results50 (HK.out.trans (by rw [xStart, if_neg (by simp [h2, hr]), if_neg (by simp [hd]), if_neg hl, ← door_eq (p := { p with st := 3, asked := 0 }) hd])) (PB.fill' { p with st := 3, asked := 0, door := false } (by repeat (first | exact HZ.out | refine PB.far ?_ hne _ _))) rfl rfl (fill_below (by repeat (first | exact HB.out | refine Below.setCell ?_ hl0 _)) hle _ _ _ _ _ _ _ _ _ _)
  by_cases h4 : p.st = 4
  · by_cases hr : p.rate = 0
    · go_wp2_with fail
      try simp only [Exit.inBlock, Exit.then]
      exact iend (q' := { p with st := 4, rate := 0 }) (c := 3) Try.results50 (HK.out.trans (by rw [xStart, if_pos (.inr hr), ← st_eq (p := { p with rate := 0 }) h4, ← rate_eq hr])) (PB.fill' { p with st := 4, rate := 0 } (by repeat (first | exact HZ.out | refine PB.far ?_ hne _ _))) rfl rfl (fill_below (by repeat (first | exact HB.out | refine Below.setCell ?_ hl0 _)) hle _ _ _ _ _ _ _ _ _ _)
    cases hd : p.door with
    | true =>
      go_wp2_with fail
      try simp only [Exit.inBlock, Exit.then]
      exact iend (q' := { p with st := 4, door := true }) (c := 6) Try.results50 (HK.out.trans (by rw [xStart, if_neg (by simp [h4, hr]), if_pos hd, ← st_eq (p := { p with door := true }) h4, ← door_eq hd])) (PB.fill' { p with st := 4, door := true } (by repeat (first | exact HZ.out | refine PB.far ?_ hne _ _))) rfl rfl (fill_below (by repeat (first | exact HB.out | refine Below.setCell ?_ hl0 _)) hle _ _ _ _ _ _ _ _ _ _)
    | false =>
      by_cases hl : p.left = 0
      · go_wp2_with fail
        try simp only [Exit.inBlock, Exit.then]
        exact iend (q' := { p with st := 4, door := false, left := 0 }) (c := 7) Try.results50 (HK.out.trans (by rw [xStart, if_neg (by simp [h4, hr]), if_neg (by simp [hd]), if_pos hl, ← st_eq (p := { p with door := false, left := 0 }) h4, ← door_eq (p := { p with left := 0 }) hd, ← left_eq hl])) (PB.fill' { p with st := 4, door := false, left := 0 } (by repeat (first | exact HZ.out | refine PB.far ?_ hne _ _))) rfl rfl (fill_below (by repeat (first | exact HB.out | refine Below.setCell ?_ hl0 _)) hle _ _ _ _ _ _ _ _ _ _)
      · go_wp2_with fail
        try simp only [Exit.inBlock, Exit.then]
        exact iend (q' := { p with st := 3, asked := 0, door := false }) (c := 0) Try.results50 (HK.out.trans (by rw [xStart, if_neg (by simp [h4, hr]), if_neg (by simp [hd]), if_neg hl, ← door_eq (p := { p with st := 3, asked := 0 }) hd])) (PB.fill' { p with st := 3, asked := 0, door := false } (by repeat (first | exact HZ.out | refine PB.far ?_ hne _ _))) rfl rfl (fill_below (by repeat (first | exact HB.out | refine Below.setCell ?_ hl0 _)) hle _ _ _ _ _ _ _ _ _ _)
  have hx : (p.st != 2 && p.st != 4) = true := by simp [h2, h4]
  go_wp2_with fail
  try simp only [Exit.inBlock, Exit.then]
  exact iend (q' := p) (c := 3) Try.results50 (HK.out.trans (by rw [xStart, if_pos (.inl ⟨h2, h4⟩)])) (PB.fill' p (by repeat (first | exact HZ.out | refine PB.far ?_ hne _ _))) rfl rfl (fill_below (by repeat (first | exact HB.out | refine Below.setCell ?_ hl0 _)) hle _ _ _ _ _ _ _ _ _ _)

end Go.Proofs.Ytamghmnibfbgaaa
