/-
  A new pump; an act on a pump that may be wrong.
-/
import Derived.Test.YtamghmnibfbgaaaBz
namespace Go.Proofs.Ytamghmnibfbgaaa
open Go.RowKit Va Ba
set_option linter.unusedVariables false

theorem pair_end {fn : Func} (hres : fn.results = #[.cell 4 27, .tmp 5]) {W : World} {tm : Array Value} {B : Nat} {q' : Pm} {v : Value} {Q : Ending → World → Prop} (hN : PB W B (cP q') 27) (h4 : tm.getD 4 undef = .pointer (some ⟨B, 0, none⟩)) (h5 : tm.getD 5 undef = v) (hQ : Q (.returned (.tuple #[aPm q', v])) W) :
    bodyPost Try.prog fn Q Exit.ret ⟨tm, []⟩ W := by
  refine bodyPost_ret (results_ct hres _ _ B 27 _ _ h4 hN Try.underlying27 rfl (by kernel_rfl)) rfl ?_
  rw [h5]
  exact hQ

set_option maxRecDepth 20000 in
set_option maxHeartbeats 2000000 in
theorem snew_any (l : Lm) (n : Int) (w : World) : Calls Try.prog 16 #[aL l, .int .i64 n] w fun e w' => e = .returned (.tuple #[aPm (Ba.new l n).1, .bool (Ba.new l n).2]) ∧ Below w.heap.size w w' := by
  have h1 := spok_any (newP l n)
  have HV : Hid (Ba.new l n = if pmOk (newP l n) = true then (newP l n, true) else (zeroP, false)) := rfl
  generalize pmOk (newP l n) = b at *
  generalize Ba.new l n = R at *
  unfold aPm newP at h1
  dsimp only at h1
  unfold aL
  go_enter Try.func16, Try.ntmps16
  go_upto_region 2 with fail
  have hZ := (PB.new (w.alloc (.cells #[.int .i64 l.sl, .int .i64 l.sh, .int .i64 l.hl, .int .i64 l.hh] 25)) #[.int .i64 0, .int .i64 0, .int .i64 0, .int .i64 0, .int .i64 0, .int .i64 0, .int .i64 0, .bool false, .int .i64 0, .int .i64 0] 27).alloc (.cells #[.int .i64 l.sl, .int .i64 l.sh, .int .i64 l.hl, .int .i64 l.hh, .int .i64 0, .int .i64 0, .int .i64 1, .bool false, .int .i64 n, .int .i64 0] 27)
  have hQ := PB.new ((w.alloc (.cells #[.int .i64 l.sl, .int .i64 l.sh, .int .i64 l.hl, .int .i64 l.hh] 25)).alloc (.cells #[.int .i64 0, .int .i64 0, .int .i64 0, .int .i64 0, .int .i64 0, .int .i64 0, .int .i64 0, .bool false, .int .i64 0, .int .i64 0] 27)) #[.int .i64 l.sl, .int .i64 l.sh, .int .i64 l.hl, .int .i64 l.hh, .int .i64 0, .int .i64 0, .int .i64 1, .bool false, .int .i64 n, .int .i64 0] 27
  have hb0 : Below w.heap.size w (((w.alloc (.cells #[.int .i64 l.sl, .int .i64 l.sh, .int .i64 l.hl, .int .i64 l.hh] 25)).alloc (.cells #[.int .i64 0, .int .i64 0, .int .i64 0, .int .i64 0, .int .i64 0, .int .i64 0, .int .i64 0, .bool false, .int .i64 0, .int .i64 0] 27)).alloc (.cells #[.int .i64 l.sl, .int .i64 l.sh, .int .i64 l.hl, .int .i64 l.hh, .int .i64 0, .int .i64 0, .int .i64 1, .bool false, .int .i64 n, .int .i64 0] 27)) := by repeat (first | exact Below.refl _ _ | assumption | refine st_drew ?_ | refine st_drewN ?_ _ | refine Below.setCell ?_ (by first | omega | (simp; done) | (simp; omega)) _ | refine Below.alloc ?_ (by first | omega | (simp; done) | (simp; omega)) _)
  simp only [World.size_alloc] at hZ hQ
  generalize ((w.alloc (.cells #[.int .i64 l.sl, .int .i64 l.sh, .int .i64 l.hl, .int .i64 l.hh] 25)).alloc (.cells #[.int .i64 0, .int .i64 0, .int .i64 0, .int .i64 0, .int .i64 0, .int .i64 0, .int .i64 0, .bool false, .int .i64 0, .int .i64 0] 27)).alloc (.cells #[.int .i64 l.sl, .int .i64 l.sh, .int .i64 l.hl, .int .i64 l.hh, .int .i64 0, .int .i64 0, .int .i64 1, .bool false, .int .i64 n, .int .i64 0] 27) = wA at *
  have hle : w.heap.size ≤ w.heap.size + 1 := by omega
  generalize w.heap.size + 1 = B1 at *
  generalize B1 + 1 = B2 at *
  obtain ⟨q0, q1, q2, q3, q4, q5, q6, q7, q8, q9⟩ := hQ.ten
  have HZ := hidden hZ
  have HQ := hidden hQ
  have HB := hidden hb0
  clear hZ hQ hb0
  cases b with
  | false =>
    go_wp2_with (refine (h1 _).mono ?_; rintro e w2 ⟨rfl, hb2⟩; obtain ⟨z0, z1, z2, z3, z4, z5, z6, z7, z8, z9⟩ := (HZ.out.below hb2).ten; obtain ⟨f0, f1, f2, f3, f4, f5, f6, f7, f8, f9⟩ := (HZ.out.below hb2).cold)
    try simp only [Exit.inBlock, Exit.then]
    refine pair_end (q' := zeroP) Try.results16 (PB.fill' zeroP (HZ.out.below hb2)) rfl rfl ⟨?_, fill_below (HB.out.trans (hb2.mono HB.out.size)) hle _ _ _ _ _ _ _ _ _ _⟩
    rw [HV.out]
    rfl
  | true =>
    go_wp2_with (refine (h1 _).mono ?_; rintro e w2 ⟨rfl, hb2⟩; obtain ⟨z0, z1, z2, z3, z4, z5, z6, z7, z8, z9⟩ := (HZ.out.below hb2).ten; obtain ⟨f0, f1, f2, f3, f4, f5, f6, f7, f8, f9⟩ := (HZ.out.below hb2).cold; obtain ⟨g0, g1, g2, g3, g4, g5, g6, g7, g8, g9⟩ := (HQ.out.below hb2).ten)
    try simp only [Exit.inBlock, Exit.then]
    refine pair_end (q' := newP l n) Try.results16 (PB.fill' (newP l n) (HZ.out.below hb2)) rfl rfl ⟨?_, fill_below (HB.out.trans (hb2.mono HB.out.size)) hle _ _ _ _ _ _ _ _ _ _⟩
    rw [HV.out]
    rfl

set_option maxRecDepth 20000 in
set_option maxHeartbeats 1000000 in
theorem spdo_any (p : Pm) (a : Ac) (w : World) : Calls Try.prog 12 #[aPm p, aAc a] w fun e w' => e = .returned (.tuple #[aPm (pdo p a).1, .int .i64 (pdo p a).2]) ∧ Below w.heap.size w w' := by
  have h1 := spok_any p
  have h2 := fun h : pmOk p = true => sdo_any p a (right_iff.1 h)
  have HV : Hid (pdo p a = if pmOk p = true then Ba.step p a else (zeroP, 1)) := rfl
  generalize pmOk p = b at *
  generalize pdo p a = R at *
  generalize Ba.step p a = S at *
  obtain ⟨s1, s2⟩ := S
  dsimp only at h2
  have h2' := h2
  unfold aPm at h1
  unfold aPm aAc at h2 ⊢
  go_enter Try.func12, Try.ntmps12
  go_upto_region 1 with fail
  have hP := ((PB.new w #[.int .i64 p.lim.sl, .int .i64 p.lim.sh, .int .i64 p.lim.hl, .int .i64 p.lim.hh, .int .i64 p.rate, .int .i64 p.asked, .int .i64 p.st, .bool p.door, .int .i64 p.left, .int .i64 p.given] 27).alloc (.cells #[.int .i64 a.kind, .int .i64 a.n] 29)).alloc (.cells #[.int .i64 0, .int .i64 0, .int .i64 0, .int .i64 0, .int .i64 0, .int .i64 0, .int .i64 0, .bool false, .int .i64 0, .int .i64 0] 27)
  have hA := (PB.new (w.alloc (.cells #[.int .i64 p.lim.sl, .int .i64 p.lim.sh, .int .i64 p.lim.hl, .int .i64 p.lim.hh, .int .i64 p.rate, .int .i64 p.asked, .int .i64 p.st, .bool p.door, .int .i64 p.left, .int .i64 p.given] 27)) #[.int .i64 a.kind, .int .i64 a.n] 29).alloc (.cells #[.int .i64 0, .int .i64 0, .int .i64 0, .int .i64 0, .int .i64 0, .int .i64 0, .int .i64 0, .bool false, .int .i64 0, .int .i64 0] 27)
  have hZ := PB.new ((w.alloc (.cells #[.int .i64 p.lim.sl, .int .i64 p.lim.sh, .int .i64 p.lim.hl, .int .i64 p.lim.hh, .int .i64 p.rate, .int .i64 p.asked, .int .i64 p.st, .bool p.door, .int .i64 p.left, .int .i64 p.given] 27)).alloc (.cells #[.int .i64 a.kind, .int .i64 a.n] 29)) #[.int .i64 0, .int .i64 0, .int .i64 0, .int .i64 0, .int .i64 0, .int .i64 0, .int .i64 0, .bool false, .int .i64 0, .int .i64 0] 27
  have hb0 : Below w.heap.size w (((w.alloc (.cells #[.int .i64 p.lim.sl, .int .i64 p.lim.sh, .int .i64 p.lim.hl, .int .i64 p.lim.hh, .int .i64 p.rate, .int .i64 p.asked, .int .i64 p.st, .bool p.door, .int .i64 p.left, .int .i64 p.given] 27)).alloc (.cells #[.int .i64 a.kind, .int .i64 a.n] 29)).alloc (.cells #[.int .i64 0, .int .i64 0, .int .i64 0, .int .i64 0, .int .i64 0, .int .i64 0, .int .i64 0, .bool false, .int .i64 0, .int .i64 0] 27)) := by repeat (first | exact Below.refl _ _ | assumption | refine st_drew ?_ | refine st_drewN ?_ _ | refine Below.setCell ?_ (by first | omega | (simp; done) | (simp; omega)) _ | refine Below.alloc ?_ (by first | omega | (simp; done) | (simp; omega)) _)
  simp only [World.size_alloc] at hP hA hZ
  generalize ((w.alloc (.cells #[.int .i64 p.lim.sl, .int .i64 p.lim.sh, .int .i64 p.lim.hl, .int .i64 p.lim.hh, .int .i64 p.rate, .int .i64 p.asked, .int .i64 p.st, .bool p.door, .int .i64 p.left, .int .i64 p.given] 27)).alloc (.cells #[.int .i64 a.kind, .int .i64 a.n] 29)).alloc (.cells #[.int .i64 0, .int .i64 0, .int .i64 0, .int .i64 0, .int .i64 0, .int .i64 0, .int .i64 0, .bool false, .int .i64 0, .int .i64 0] 27) = wA at *
  have hle : w.heap.size ≤ w.heap.size + 1 + 1 := by omega
  generalize w.heap.size + 1 = B1 at *
  generalize B1 + 1 = B2 at *
  obtain ⟨c0, c1, c2, c3, c4, c5, c6, c7, c8, c9⟩ := hP.ten
  have HP := hidden hP
  have HA := hidden hA
  have HZ := hidden hZ
  have HB := hidden hb0
  clear hP hA hZ hb0 h2'
  cases b with
  | false =>
    clear h2
    go_wp2_with (refine (h1 _).mono ?_; rintro e w2 ⟨rfl, hb2⟩; obtain ⟨z0, z1, z2, z3, z4, z5, z6, z7, z8, z9⟩ := (HZ.out.below hb2).ten; obtain ⟨f0, f1, f2, f3, f4, f5, f6, f7, f8, f9⟩ := (HZ.out.below hb2).cold)
    try simp only [Exit.inBlock, Exit.then]
    refine pair_end (q' := zeroP) Try.results12 (PB.fill' zeroP (HZ.out.below hb2)) rfl rfl ⟨?_, fill_below (HB.out.trans (hb2.mono HB.out.size)) hle _ _ _ _ _ _ _ _ _ _⟩
    rw [HV.out]
    rfl
  | true =>
    have H2 := hidden (h2 rfl)
    clear h2
    go_upto_region 3 with (with_reducible refine (h1 _).mono ?_; rintro e w2 ⟨rfl, hb2⟩)
    have hB2 := HB.out.trans (hb2.mono HB.out.size)
    have hZ2 := HZ.out.below hb2
    clear c0 c1 c2 c3 c4 c5 c6 c7 c8 c9
    obtain ⟨c0, c1, c2, c3, c4, c5, c6, c7, c8, c9⟩ := (HP.out.below hb2).ten
    obtain ⟨a0, a1⟩ := (HA.out.below hb2).two
    have HZ2 := hidden hZ2
    have HB2 := hidden hB2
    clear hb2 hZ2 hB2 HP HA HZ HB h1
    have h2 := H2.out
    clear H2
    go_wp2_with (with_reducible refine (h2 _).mono ?_; rintro e w3 ⟨rfl, hb3⟩; obtain ⟨z0, z1, z2, z3, z4, z5, z6, z7, z8, z9⟩ := (HZ2.out.below hb3).ten; obtain ⟨f0, f1, f2, f3, f4, f5, f6, f7, f8, f9⟩ := (HZ2.out.below hb3).cold)
    try simp only [Exit.inBlock, Exit.then]
    refine pair_end (q' := s1) Try.results12 (PB.fill' s1 (HZ2.out.below hb3)) rfl rfl ⟨?_, fill_below (HB2.out.trans (hb3.mono HB2.out.size)) hle _ _ _ _ _ _ _ _ _ _⟩
    rw [HV.out]
    rfl
end Go.Proofs.Ytamghmnibfbgaaa
