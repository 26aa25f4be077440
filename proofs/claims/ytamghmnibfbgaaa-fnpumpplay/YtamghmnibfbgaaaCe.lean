/-
  The program's acts: rates.
-/
import Derived.Test.YtamghmnibfbgaaaCc
namespace Go.Proofs.Ytamghmnibfbgaaa
open Go.RowKit Va Ba
set_option linter.unusedVariables false

set_option maxRecDepth 20000 in
set_option maxHeartbeats 8000000 in
theorem iset_any (p : Pm) (n : Int) (q : Pm) (co : Int) (hq : (q, co) = xSet p n) (w : World) : Calls Try.prog 48 #[aPm p, .int .i64 n] w fun e w' => e = .returned (.tuple #[aPm q, .int .i64 co]) ∧ Below w.heap.size w w' := by
  have HK := hidden hq
  clear hq
  have hE : aPm p = .agg #[.int .i64 p.lim.sl, .int .i64 p.lim.sh, .int .i64 p.lim.hl, .int .i64 p.lim.hh, .int .i64 p.rate, .int .i64 p.asked, .int .i64 p.st, .bool p.door, .int .i64 p.left, .int .i64 p.given] := rfl
  rw [hE]
  clear hE
  go_enter Try.func48, Try.ntmps48
  go_upto_region 1 with fail
  have hP := (PB.new w #[.int .i64 p.lim.sl, .int .i64 p.lim.sh, .int .i64 p.lim.hl, .int .i64 p.lim.hh, .int .i64 p.rate, .int .i64 p.asked, .int .i64 p.st, .bool p.door, .int .i64 p.left, .int .i64 p.given] 61).alloc (.cells #[.int .i64 0, .int .i64 0, .int .i64 0, .int .i64 0, .int .i64 0, .int .i64 0, .int .i64 0, .bool false, .int .i64 0, .int .i64 0] 61)
  have hZ := PB.new (w.alloc (.cells #[.int .i64 p.lim.sl, .int .i64 p.lim.sh, .int .i64 p.lim.hl, .int .i64 p.lim.hh, .int .i64 p.rate, .int .i64 p.asked, .int .i64 p.st, .bool p.door, .int .i64 p.left, .int .i64 p.given] 61)) #[.int .i64 0, .int .i64 0, .int .i64 0, .int .i64 0, .int .i64 0, .int .i64 0, .int .i64 0, .bool false, .int .i64 0, .int .i64 0] 61
  have hb0 : Below w.heap.size w ((w.alloc (.cells #[.int .i64 p.lim.sl, .int .i64 p.lim.sh, .int .i64 p.lim.hl, .int .i64 p.lim.hh, .int .i64 p.rate, .int .i64 p.asked, .int .i64 p.st, .bool p.door, .int .i64 p.left, .int .i64 p.given] 61)).alloc (.cells #[.int .i64 0, .int .i64 0, .int .i64 0, .int .i64 0, .int .i64 0, .int .i64 0, .int .i64 0, .bool false, .int .i64 0, .int .i64 0] 61)) := by repeat (first | exact Below.refl _ _ | assumption | refine st_drew ?_ | refine st_drewN ?_ _ | refine Below.setCell ?_ (by first | omega | (simp; done) | (simp; omega)) _ | refine Below.alloc ?_ (by first | omega | (simp; done) | (simp; omega)) _)
  simp only [World.size_alloc] at hP hZ
  generalize (w.alloc (.cells #[.int .i64 p.lim.sl, .int .i64 p.lim.sh, .int .i64 p.lim.hl, .int .i64 p.lim.hh, .int .i64 p.rate, .int .i64 p.asked, .int .i64 p.st, .bool p.door, .int .i64 p.left, .int .i64 p.given] 61)).alloc (.cells #[.int .i64 0, .int .i64 0, .int .i64 0, .int .i64 0, .int .i64 0, .int .i64 0, .int .i64 0, .bool false, .int .i64 0, .int .i64 0] 61) = wA at *
  generalize Value.agg #[.int .i64 p.lim.sl, .int .i64 p.lim.sh, .int .i64 p.lim.hl, .int .i64 p.lim.hh, .int .i64 p.rate, .int .i64 p.asked, .int .i64 p.st, .bool p.door, .int .i64 p.left, .int .i64 p.given] = av
  have hle : w.heap.size ≤ w.heap.size + 1 := by omega
  have hl0 : w.heap.size ≤ w.heap.size := Nat.le_refl _
  have hne : w.heap.size ≠ w.heap.size + 1 := by omega
  generalize w.heap.size + 1 = B1 at *
  obtain ⟨c0, c1, c2, c3, c4, c5, c6, c7, c8, c9⟩ := hP.ten
  obtain ⟨g0, g1, g2, g3, g4, g5, g6, g7, g8, g9⟩ := hP.cold
  obtain ⟨z0, z1, z2, z3, z4, z5, z6, z7, z8, z9⟩ := hZ.ten
  obtain ⟨f0, f1, f2, f3, f4, f5, f6, f7, f8, f9⟩ := hZ.cold
  have HP := hidden hP
  have HZ := hidden hZ
  have HB := hidden hb0
  clear hP hZ hb0
  have hM := imay_any p.lim n
  have hU := iusual_any p.lim n
  unfold aL at hM hU
  by_cases h3 : p.st = 3
  · go_wp2_with fail
    try simp only [Exit.inBlock, Exit.then]
    exact iend (q' := { p with st := 3 }) (c := 3) Try.results48 (HK.out.trans (by rw [xSet, if_pos (.inl h3), ← st_eq h3])) (PB.fill' { p with st := 3 } (by repeat (first | exact HZ.out | refine PB.far ?_ hne _ _))) rfl rfl (fill_below (by repeat (first | exact HB.out | refine Below.setCell ?_ hl0 _)) hle _ _ _ _ _ _ _ _ _ _)
  by_cases h5 : p.st = 5
  · go_wp2_with fail
    try simp only [Exit.inBlock, Exit.then]
    exact iend (q' := { p with st := 5 }) (c := 3) Try.results48 (HK.out.trans (by rw [xSet, if_pos (.inr h5), ← st_eq h5])) (PB.fill' { p with st := 5 } (by repeat (first | exact HZ.out | refine PB.far ?_ hne _ _))) rfl rfl (fill_below (by repeat (first | exact HB.out | refine Below.setCell ?_ hl0 _)) hle _ _ _ _ _ _ _ _ _ _)
  have HK1 : Hid ((q, co) = if may p.lim n = false then (p, 4) else if soft p.lim n = false then ({ p with st := if p.st = 1 then 2 else p.st, asked := n }, 5) else ({ p with st := if p.st = 1 then 2 else p.st, rate := n, asked := 0 }, 0)) := HK.out.trans (by rw [xSet, if_neg (by simp [h3, h5])])
  clear HK
  have HK := HK1
  clear HK1
  generalize may p.lim n = b1 at *
  generalize soft p.lim n = b2 at *
  have hx : (p.st == 3 || p.st == 5) = false := by simp [h3, h5]
  cases b1 with
  | false =>
    go_wp2_with (with_reducible refine (hM _).mono ?_; rintro e w2 ⟨rfl, hb2⟩; obtain ⟨c0, c1, c2, c3, c4, c5, c6, c7, c8, c9⟩ := (HP.out.below hb2).ten; obtain ⟨g0, g1, g2, g3, g4, g5, g6, g7, g8, g9⟩ := (HP.out.below hb2).cold; obtain ⟨z0, z1, z2, z3, z4, z5, z6, z7, z8, z9⟩ := (HZ.out.below hb2).ten; obtain ⟨f0, f1, f2, f3, f4, f5, f6, f7, f8, f9⟩ := (HZ.out.below hb2).cold)
    try simp only [Exit.inBlock, Exit.then]
    exact iend (q' := p) (c := 4) Try.results48 (HK.out.trans (by simp)) (PB.fill' p (by repeat (first | exact HZ.out.below hb2 | refine PB.far ?_ hne _ _))) rfl rfl (fill_below (by repeat (first | exact HB.out.trans (hb2.mono HB.out.size) | refine Below.setCell ?_ hl0 _)) hle _ _ _ _ _ _ _ _ _ _)
  | true =>
    have HK1 : Hid ((q, co) = if b2 = false then ({ p with st := if p.st = 1 then 2 else p.st, asked := n }, 5) else ({ p with st := if p.st = 1 then 2 else p.st, rate := n, asked := 0 }, 0)) := HK.out.trans (by rw [if_neg (by simp)])
    clear HK
    have HK := HK1
    clear HK1
    have HU := hidden hU
    clear hU
    go_upto_region 5 with (with_reducible refine (hM _).mono ?_; rintro e w2 ⟨rfl, hb2⟩)
    have HP2 := hidden (HP.out.below hb2)
    have HZ2 := hidden (HZ.out.below hb2)
    have HB2 := hidden (HB.out.trans (hb2.mono HB.out.size))
    clear c0 c1 c2 c3 c4 c5 c6 c7 c8 c9 g0 g1 g2 g3 g4 g5 g6 g7 g8 g9 z0 z1 z2 z3 z4 z5 z6 z7 z8 z9 f0 f1 f2 f3 f4 f5 f6 f7 f8 f9 HP HZ HB hb2 hM
    obtain ⟨c0, c1, c2, c3, c4, c5, c6, c7, c8, c9⟩ := HP2.out.ten
    obtain ⟨g0, g1, g2, g3, g4, g5, g6, g7, g8, g9⟩ := HP2.out.cold
    by_cases h1 : p.st = 1
    · go_upto_region 7 with fail
      have hP := HP2.out.put 6 (.int .i64 2) (vs' := #[.int .i64 p.lim.sl, .int .i64 p.lim.sh, .int .i64 p.lim.hl, .int .i64 p.lim.hh, .int .i64 p.rate, .int .i64 p.asked, .int .i64 2, .bool p.door, .int .i64 p.left, .int .i64 p.given]) (by simp)
      have hZ := HZ2.out.far hne 6 (.int .i64 2)
      have hB := HB2.out.setCell (p := ⟨w.heap.size, 6, none⟩) hl0 (.int .i64 2)
      generalize w2.setCell ⟨w.heap.size, 6, none⟩ (.int .i64 2) = w3 at *
      clear c0 c1 c2 c3 c4 c5 c6 c7 c8 c9 g0 g1 g2 g3 g4 g5 g6 g7 g8 g9
      obtain ⟨c0, c1, c2, c3, c4, c5, c6, c7, c8, c9⟩ := hP.ten
      have HP := hidden hP
      have HZ := hidden hZ
      have HB := hidden hB
      clear hP hZ hB
      have hU := HU.out
      clear HU HP2 HZ2 HB2
      cases b2 with
      | false =>
        go_wp2_with (with_reducible refine (hU _).mono ?_; rintro e w4 ⟨rfl, hb2⟩; obtain ⟨c0, c1, c2, c3, c4, c5, c6, c7, c8, c9⟩ := (HP.out.below hb2).ten; obtain ⟨g0, g1, g2, g3, g4, g5, g6, g7, g8, g9⟩ := (HP.out.below hb2).cold; obtain ⟨z0, z1, z2, z3, z4, z5, z6, z7, z8, z9⟩ := (HZ.out.below hb2).ten; obtain ⟨f0, f1, f2, f3, f4, f5, f6, f7, f8, f9⟩ := (HZ.out.below hb2).cold)
        try simp only [Exit.inBlock, Exit.then]
        exact iend (q' := { p with st := 2, asked := n }) (c := 5) Try.results48 (HK.out.trans (by simp [h1])) (PB.fill' { p with st := 2, asked := n } (by repeat (first | exact HZ.out.below hb2 | refine PB.far ?_ hne _ _))) rfl rfl (fill_below (by repeat (first | exact HB.out.trans (hb2.mono HB.out.size) | refine Below.setCell ?_ hl0 _)) hle _ _ _ _ _ _ _ _ _ _)
      | true =>
        go_wp2_with (with_reducible refine (hU _).mono ?_; rintro e w4 ⟨rfl, hb2⟩; obtain ⟨c0, c1, c2, c3, c4, c5, c6, c7, c8, c9⟩ := (HP.out.below hb2).ten; obtain ⟨g0, g1, g2, g3, g4, g5, g6, g7, g8, g9⟩ := (HP.out.below hb2).cold; obtain ⟨z0, z1, z2, z3, z4, z5, z6, z7, z8, z9⟩ := (HZ.out.below hb2).ten; obtain ⟨f0, f1, f2, f3, f4, f5, f6, f7, f8, f9⟩ := (HZ.out.below hb2).cold)
        try simp only [Exit.inBlock, Exit.then]
        exact iend (q' := { p with st := 2, rate := n, asked := 0 }) (c := 0) Try.results48 (HK.out.trans (by simp [h1])) (PB.fill' { p with st := 2, rate := n, asked := 0 } (by repeat (first | exact HZ.out.below hb2 | refine PB.far ?_ hne _ _))) rfl rfl (fill_below (by repeat (first | exact HB.out.trans (hb2.mono HB.out.size) | refine Below.setCell ?_ hl0 _)) hle _ _ _ _ _ _ _ _ _ _)
    · go_upto_region 7 with fail
      have HP := HP2
      have HZ := HZ2
      have HB := HB2
      have hU := HU.out
      clear HU HP2 HZ2 HB2
      cases b2 with
      | false =>
        go_wp2_with (with_reducible refine (hU _).mono ?_; rintro e w4 ⟨rfl, hb2⟩; obtain ⟨c0, c1, c2, c3, c4, c5, c6, c7, c8, c9⟩ := (HP.out.below hb2).ten; obtain ⟨g0, g1, g2, g3, g4, g5, g6, g7, g8, g9⟩ := (HP.out.below hb2).cold; obtain ⟨z0, z1, z2, z3, z4, z5, z6, z7, z8, z9⟩ := (HZ.out.below hb2).ten; obtain ⟨f0, f1, f2, f3, f4, f5, f6, f7, f8, f9⟩ := (HZ.out.below hb2).cold)
        try simp only [Exit.inBlock, Exit.then]
        exact iend (q' := { p with asked := n }) (c := 5) Try.results48 (HK.out.trans (by simp [h1])) (PB.fill' { p with asked := n } (by repeat (first | exact HZ.out.below hb2 | refine PB.far ?_ hne _ _))) rfl rfl (fill_below (by repeat (first | exact HB.out.trans (hb2.mono HB.out.size) | refine Below.setCell ?_ hl0 _)) hle _ _ _ _ _ _ _ _ _ _)
      | true =>
        go_wp2_with (with_reducible refine (hU _).mono ?_; rintro e w4 ⟨rfl, hb2⟩; obtain ⟨c0, c1, c2, c3, c4, c5, c6, c7, c8, c9⟩ := (HP.out.below hb2).ten; obtain ⟨g0, g1, g2, g3, g4, g5, g6, g7, g8, g9⟩ := (HP.out.below hb2).cold; obtain ⟨z0, z1, z2, z3, z4, z5, z6, z7, z8, z9⟩ := (HZ.out.below hb2).ten; obtain ⟨f0, f1, f2, f3, f4, f5, f6, f7, f8, f9⟩ := (HZ.out.below hb2).cold)
        try simp only [Exit.inBlock, Exit.then]
        exact iend (q' := { p with rate := n, asked := 0 }) (c := 0) Try.results48 (HK.out.trans (by simp [h1])) (PB.fill' { p with rate := n, asked := 0 } (by repeat (first | exact HZ.out.below hb2 | refine PB.far ?_ hne _ _))) rfl rfl (fill_below (by repeat (first | exact HB.out.trans (hb2.mono HB.out.size) | refine Below.setCell ?_ hl0 _)) hle _ _ _ _ _ _ _ _ _ _)
end Go.Proofs.Ytamghmnibfbgaaa
