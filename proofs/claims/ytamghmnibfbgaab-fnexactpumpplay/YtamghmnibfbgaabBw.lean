/-
  A new pump; an act on a pump that may be wrong.
-/
import Derived.Test.YtamghmnibfbgaabBz
namespace Go.Proofs.Ytamghmnibfbgaab
open Go.RowKit Va Ba
set_option linter.unusedVariables false

theorem pair_end {fn : Func} (hres : fn.results = #[.cell 4 28, .tmp 5]) {W : World} {tm : Array Value} {B : Nat} {q' : Pm} {v : Value} {Q : Ending → World → Prop} (hN : PB W B (cP q') 28) (h4 : tm.getD 4 undef = .pointer (some ⟨B, 0, none⟩)) (h5 : tm.getD 5 undef = v) (hQ : Q (.returned (.tuple #[aPm q', v])) W) :
    bodyPost Try.prog fn Q Exit.ret ⟨tm, []⟩ W := by
  refine bodyPost_ret (results_ct hres _ _ B 28 _ _ h4 hN Try.underlying28 rfl (by kernel_rfl)) rfl ?_
  rw [h5]
  exact hQ

set_option maxRecDepth 20000 in
set_option maxHeartbeats 2000000 in
theorem snew_any (l : Lm) (n : Int) (w : World) : Calls Try.prog 15 #[aL l, .int .i64 n] w fun e w' => e = .returned (.tuple #[aPm (Ba.new l n).1, .bool (Ba.new l n).2]) ∧ Below w.heap.size w w' := by
  have h1 := spok_any (newP l n)
  have HV : Hid (Ba.new l n = if pmOk (newP l n) = true then (newP l n, true) else (zeroP, false)) := rfl
  generalize pmOk (newP l n) = b at *
  generalize Ba.new l n = R at *
  unfold aPm newP at h1
  dsimp only at h1
  unfold aL
  go_enter Try.func15, Try.ntmps15
  go_upto_region 2 with fail
  have hZ := (PB.new (w.alloc (.cells #[.int .i64 l.sl, .int .i64 l.sh, .int .i64 l.hl, .int .i64 l.hh] 26)) #[.int .i64 0, .int .i64 0, .int .i64 0, .int .i64 0, .int .i64 0, .int .i64 0, .int .i64 0, .bool false, .int .i64 0, .int .i64 0] 28).alloc (.cells #[.int .i64 l.sl, .int .i64 l.sh, .int .i64 l.hl, .int .i64 l.hh, .int .i64 0, .int .i64 0, .int .i64 1, .bool false, .int .i64 n, .int .i64 0] 28)
  have hQ := PB.new ((w.alloc (.cells #[.int .i64 l.sl, .int .i64 l.sh, .int .i64 l.hl, .int .i64 l.hh] 26)).alloc (.cells #[.int .i64 0, .int .i64 0, .int .i64 0, .int .i64 0, .int .i64 0, .int .i64 0, .int .i64 0, .bool false, .int .i64 0, .int .i64 0] 28)) #[.int .i64 l.sl, .int .i64 l.sh, .int .i64 l.hl, .int .i64 l.hh, .int .i64 0, .int .i64 0, .int .i64 1, .bool false, .int .i64 n, .int .i64 0] 28
  have hb0 : Below w.heap.size w (((w.alloc (.cells #[.int .i64 l.sl, .int .i64 l.sh, .int .i64 l.hl, .int .i64 l.hh] 26)).alloc (.cells #[.int .i64 0, .int .i64 0, .int .i64 0, .int .i64 0, .int .i64 0, .int .i64 0, .int .i64 0, .bool false, .int .i64 0, .int .i64 0] 28)).alloc (.cells #[.int .i64 l.sl, .int .i64 l.sh, .int .i64 l.hl, .int .i64 l.hh, .int .i64 0, .int .i64 0, .int .i64 1, .bool false, .int .i64 n, .int .i64 0] 28)) := by repeat (first | exact Below.refl _ _ | assumption | refine st_drew ?_ | refine st_drewN ?_ _ | refine Below.setCell ?_ (by first | omega | (simp; done) | (simp; omega)) _ | refine Below.alloc ?_ (by first | omega | (simp; done) | (simp; omega)) _)
  simp only [World.size_alloc] at hZ hQ
  generalize ((w.alloc (.cells #[.int .i64 l.sl, .int .i64 l.sh, .int .i64 l.hl, .int .i64 l.hh] 26)).alloc (.cells #[.int .i64 0, .int .i64 0, .int .i64 0, .int .i64 0, .int .i64 0, .int .i64 0, .int .i64 0, .bool false, .int .i64 0, .int .i64 0] 28)).alloc (.cells #[.int .i64 l.sl, .int .i64 l.sh, .int .i64 l.hl, .int .i64 l.hh, .int .i64 0, .int .i64 0, .int .i64 1, .bool false, .int .i64 n, .int .i64 0] 28) = wA at *
  have hle : w.heap.size ≤ w.heap.size + 1 := by omega
  generalize w.heap.size + 1 = B1 at *
  generalize B1 + 1 = B2 at *
  obtain ⟨q0, q1, q2, q3, q4, q5, q6, q7, q8, q9⟩ := hQ.ten
  have HZ := hidden hZ
  have HQ := hidden hQ
  have HB := hidden hb0
  clear hZ hQ hb0
  cases b with
  | false =>
    go_wp2_with (refine (h1 _).mono ?_; rintro e w2 ⟨rfl, hb2⟩; obtain ⟨z0, z1, z2, z3, z4, z5, z6, z7, z8, z9⟩ := (HZ.out.below hb2).ten; obtain ⟨f0, f1, f2, f3, f4, f5, f6, f7, f8, f9⟩ := (HZ.out.below hb2).cold)
    try simp only [Exit.inBlock, Exit.then]
    refine pair_end (q' := zeroP) Try.results15 (PB.fill' zeroP (HZ.out.below hb2)) rfl rfl ⟨?_, fill_below (HB.out.trans (hb2.mono HB.out.size)) hle _ _ _ _ _ _ _ _ _ _⟩
    rw [HV.out]
    rfl
  | true =>
    go_wp2_with (refine (h1 _).mono ?_; rintro e w2 ⟨rfl, hb2⟩; obtain ⟨z0, z1, z2, z3, z4, z5, z6, z7, z8, z9⟩ := (HZ.out.below hb2).ten; obtain ⟨f0, f1, f2, f3, f4, f5, f6, f7, f8, f9⟩ := (HZ.out.below hb2).cold; obtain ⟨g0, g1, g2, g3, g4, g5, g6, g7, g8, g9⟩ := (HQ.out.below hb2).ten)
    try simp only [Exit.inBlock, Exit.then]
    refine pair_end (q' := newP l n) Try.results15 (PB.fill' (newP l n) (HZ.out.below hb2)) rfl rfl ⟨?_, fill_below (HB.out.trans (hb2.mono HB.out.size)) hle _ _ _ _ _ _ _ _ _ _⟩
    rw [HV.out]
    rfl
end Go.Proofs.Ytamghmnibfbgaab
