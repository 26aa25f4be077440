/-
  A pump and an act, drawn.
-/
import Derived.Test.YtamghmnibfbgaaaFh
import Derived.Deep.RegionWith
namespace Go.Proofs.Ytamghmnibfbgaaa
open Go.RowKit Va Ba
set_option linter.unusedVariables false

set_option maxRecDepth 20000 in
set_option maxHeartbeats 8000000 in
theorem ddo_any (ao : Option Addr) (cap : Nat) (bs : List Int) (w : World) (hb : Bytes w w.heap.size ao bs) (hl : bs.length ≤ 1048576) :
    Calls Try.prog 10 #[.slice ao bs.length cap] w fun e w' => ∃ (p : Pm) (c : Ac), e = .returned (.tuple #[aPm p, aAc c]) ∧ Below w.heap.size w w' := by
  have hbA : Below w.heap.size w ((w.alloc (.cells #[.int .i64 0, .int .i64 0, .int .i64 0, .int .i64 0, .int .i64 0, .int .i64 0, .int .i64 0, .bool false, .int .i64 0, .int .i64 0] 27)).alloc (.cells #[.int .i64 0, .int .i64 0] 29)) := by repeat (first | exact Below.refl _ _ | assumption | refine st_drew ?_ | refine st_drewN ?_ _ | refine Below.setCell ?_ (by first | omega | (simp; done) | (simp; omega)) _ | refine Below.alloc ?_ (by first | omega | (simp; done) | (simp; omega)) _)
  have hby := bytes_upY hb hbA
  have hR1 := (PB.new w #[.int .i64 0, .int .i64 0, .int .i64 0, .int .i64 0, .int .i64 0, .int .i64 0, .int .i64 0, .bool false, .int .i64 0, .int .i64 0] 27).alloc (.cells #[.int .i64 0, .int .i64 0] 29)
  have hR2 := PB.new (w.alloc (.cells #[.int .i64 0, .int .i64 0, .int .i64 0, .int .i64 0, .int .i64 0, .int .i64 0, .int .i64 0, .bool false, .int .i64 0, .int .i64 0] 27)) #[.int .i64 0, .int .i64 0] 29
  simp only [World.size_alloc w] at hR2
  clear hb
  go_enter Try.func10, Try.ntmps10
  go_upto_region 1 with fail
  generalize (w.alloc (.cells #[.int .i64 0, .int .i64 0, .int .i64 0, .int .i64 0, .int .i64 0, .int .i64 0, .int .i64 0, .bool false, .int .i64 0, .int .i64 0] 27)).alloc (.cells #[.int .i64 0, .int .i64 0] 29) = wA at *
  have hne : w.heap.size ≠ w.heap.size + 1 := by omega
  have hle : w.heap.size ≤ w.heap.size + 1 := by omega
  generalize w.heap.size + 1 = B1 at *
  go_wp2_with fail
  refine (new_any ao cap bs wA hby hl).mono ?_
  rintro e wN ⟨rfl, hcN, hbN⟩
  have hg1 : w.heap.size < wA.heap.size := hR1.lt
  have hg2 : B1 < wA.heap.size := hR2.lt
  have hR1N := hR1.below hbN
  have hR2N := hR2.below hbN
  have hbW := onto hbA hbN
  clear hR1 hR2 hbA hbN hby
  generalize wA.heap.size = g at *
  have hDL := fun W hW => ddraw_any g ao cap bs W hW
  unfold aPm at hDL
  go_wp2_with fail
  refine (hDL _ hcN).mono ?_
  rintro e w1 ⟨p, rfl, hc1, hk1⟩
  go_upto_region 3 with fail
  have hV := PB.new w1 #[.int .i64 p.lim.sl, .int .i64 p.lim.sh, .int .i64 p.lim.hl, .int .i64 p.lim.hh, .int .i64 p.rate, .int .i64 p.asked, .int .i64 p.st, .bool p.door, .int .i64 p.left, .int .i64 p.given] 27
  have hR1V := (hR1N.keep hk1 (by omega)).alloc (.cells #[.int .i64 p.lim.sl, .int .i64 p.lim.sh, .int .i64 p.lim.hl, .int .i64 p.lim.hh, .int .i64 p.rate, .int .i64 p.asked, .int .i64 p.st, .bool p.door, .int .i64 p.left, .int .i64 p.given] 27)
  have hR2V := (hR2N.keep hk1 (by omega)).alloc (.cells #[.int .i64 p.lim.sl, .int .i64 p.lim.sh, .int .i64 p.lim.hl, .int .i64 p.lim.hh, .int .i64 p.rate, .int .i64 p.asked, .int .i64 p.st, .bool p.door, .int .i64 p.left, .int .i64 p.given] 27)
  have hbV : Below w.heap.size w (w1.alloc (.cells #[.int .i64 p.lim.sl, .int .i64 p.lim.sh, .int .i64 p.lim.hl, .int .i64 p.lim.hh, .int .i64 p.rate, .int .i64 p.asked, .int .i64 p.st, .bool p.door, .int .i64 p.left, .int .i64 p.given] 27)) := (hbW.trans (hk1.below (by omega) hbW.size)).alloc (Nat.le_trans hbW.size hk1.size) _
  have hcV := hc1.alloc (.cells #[.int .i64 p.lim.sl, .int .i64 p.lim.sh, .int .i64 p.lim.hl, .int .i64 p.lim.hh, .int .i64 p.rate, .int .i64 p.asked, .int .i64 p.st, .bool p.door, .int .i64 p.left, .int .i64 p.given] 27)
  have hVg2 : w1.heap.size ≠ g := Nat.ne_of_gt hc1.1
  have hVR1 : w.heap.size ≠ w1.heap.size := by have := (hR1N.keep hk1 (by omega)).lt; omega
  have hVR2 : B1 ≠ w1.heap.size := by have := (hR2N.keep hk1 (by omega)).lt; omega
  generalize w1.alloc (.cells #[.int .i64 p.lim.sl, .int .i64 p.lim.sh, .int .i64 p.lim.hl, .int .i64 p.lim.hh, .int .i64 p.rate, .int .i64 p.asked, .int .i64 p.st, .bool p.door, .int .i64 p.left, .int .i64 p.given] 27) = wV at *
  generalize w1.heap.size = V at *
  clear hR1N hR2N hbW hcN hc1 hk1 hDL
  obtain ⟨c0, c1, c2, c3, c4, c5, c6, c7, c8, c9⟩ := hV.ten
  have HC : Hid (Cur wV.drew g ao cap bs) := hcV.drewN 1
  have HR1 : Hid (PB wV.drew w.heap.size #[.int .i64 0, .int .i64 0, .int .i64 0, .int .i64 0, .int .i64 0, .int .i64 0, .int .i64 0, .bool false, .int .i64 0, .int .i64 0] 27) := hR1V.drewN 1
  have HR2 : Hid (PB wV.drew B1 #[.int .i64 0, .int .i64 0] 29) := hR2V.drewN 1
  have HB : Hid (Below w.heap.size w wV.drew) := st_drew hbV
  have HV : Hid (PB wV.drew V #[.int .i64 p.lim.sl, .int .i64 p.lim.sh, .int .i64 p.lim.hl, .int .i64 p.lim.hh, .int .i64 p.rate, .int .i64 p.asked, .int .i64 p.st, .bool p.door, .int .i64 p.left, .int .i64 p.given] 27) := hV.drewN 1
  clear hcV hR1V hR2V hbV hV
  have hDA := fun W hW => dact_any g ao cap bs p.lim W hW
  unfold aL aAc at hDA
  first
    | go_region_with (go_at_call 27; refine (hDA _ (by first | with_reducible exact HC.out | fail)).mono ?_; rintro e w5 ⟨c, rfl, hc5, hk5⟩; have hR15 := hidden (HR1.out.keep hk5 (by omega)); have hR25 := hidden (HR2.out.keep hk5 (by omega)); obtain ⟨x0, x1, x2, x3, x4, x5, x6, x7, x8, x9⟩ := (HV.out.keep hk5 hVg2).ten; have hB5 := hidden (HB.out.trans (hk5.below (by omega) HB.out.size)); obtain ⟨z0, z1, z2, z3, z4, z5, z6, z7, z8, z9⟩ := hR15.out.ten; obtain ⟨f0, f1, f2, f3, f4, f5, f6, f7, f8, f9⟩ := hR15.out.cold; obtain ⟨y0, y1⟩ := hR25.out.two; have g0 := hR25.out.frozen 0; have g1 := hR25.out.frozen 1; clear hc5 hk5)
    | fail
  all_goals go_wp2_with fail
  all_goals (try simp only [Exit.inBlock, Exit.then])
  all_goals (
    have hF2 : PB ((((((((((((w5.setCell ⟨w.heap.size, 0, none⟩ (.int .i64 p.lim.sl)).setCell ⟨w.heap.size, 1, none⟩ (.int .i64 p.lim.sh)).setCell ⟨w.heap.size, 2, none⟩ (.int .i64 p.lim.hl)).setCell ⟨w.heap.size, 3, none⟩ (.int .i64 p.lim.hh)).setCell ⟨w.heap.size, 4, none⟩ (.int .i64 p.rate)).setCell ⟨w.heap.size, 5, none⟩ (.int .i64 p.asked)).setCell ⟨w.heap.size, 6, none⟩ (.int .i64 p.st)).setCell ⟨w.heap.size, 7, none⟩ (.bool p.door)).setCell ⟨w.heap.size, 8, none⟩ (.int .i64 p.left)).setCell ⟨w.heap.size, 9, none⟩ (.int .i64 p.given)).setCell ⟨B1, 0, none⟩ (.int .i64 c.kind)).setCell ⟨B1, 1, none⟩ (.int .i64 c.n)) B1 #[.int .i64 c.kind, .int .i64 c.n] 29 := (((((((((((hR25.out.far hne 0 (.int .i64 p.lim.sl)).far hne 1 (.int .i64 p.lim.sh)).far hne 2 (.int .i64 p.lim.hl)).far hne 3 (.int .i64 p.lim.hh)).far hne 4 (.int .i64 p.rate)).far hne 5 (.int .i64 p.asked)).far hne 6 (.int .i64 p.st)).far hne 7 (.bool p.door)).far hne 8 (.int .i64 p.left)).far hne 9 (.int .i64 p.given)).put 0 (.int .i64 c.kind) (vs' := #[.int .i64 c.kind, .int .i64 0]) (by simp)).put 1 (.int .i64 c.n) (vs' := #[.int .i64 c.kind, .int .i64 c.n]) (by simp)
    have hF1 : PB ((((((((((((w5.setCell ⟨w.heap.size, 0, none⟩ (.int .i64 p.lim.sl)).setCell ⟨w.heap.size, 1, none⟩ (.int .i64 p.lim.sh)).setCell ⟨w.heap.size, 2, none⟩ (.int .i64 p.lim.hl)).setCell ⟨w.heap.size, 3, none⟩ (.int .i64 p.lim.hh)).setCell ⟨w.heap.size, 4, none⟩ (.int .i64 p.rate)).setCell ⟨w.heap.size, 5, none⟩ (.int .i64 p.asked)).setCell ⟨w.heap.size, 6, none⟩ (.int .i64 p.st)).setCell ⟨w.heap.size, 7, none⟩ (.bool p.door)).setCell ⟨w.heap.size, 8, none⟩ (.int .i64 p.left)).setCell ⟨w.heap.size, 9, none⟩ (.int .i64 p.given)).setCell ⟨B1, 0, none⟩ (.int .i64 c.kind)).setCell ⟨B1, 1, none⟩ (.int .i64 c.n)) w.heap.size #[.int .i64 p.lim.sl, .int .i64 p.lim.sh, .int .i64 p.lim.hl, .int .i64 p.lim.hh, .int .i64 p.rate, .int .i64 p.asked, .int .i64 p.st, .bool p.door, .int .i64 p.left, .int .i64 p.given] 27 := ((PB.fill' p hR15.out).far (Ne.symm hne) 0 _).far (Ne.symm hne) 1 _
    have hBF : Below w.heap.size w ((((((((((((w5.setCell ⟨w.heap.size, 0, none⟩ (.int .i64 p.lim.sl)).setCell ⟨w.heap.size, 1, none⟩ (.int .i64 p.lim.sh)).setCell ⟨w.heap.size, 2, none⟩ (.int .i64 p.lim.hl)).setCell ⟨w.heap.size, 3, none⟩ (.int .i64 p.lim.hh)).setCell ⟨w.heap.size, 4, none⟩ (.int .i64 p.rate)).setCell ⟨w.heap.size, 5, none⟩ (.int .i64 p.asked)).setCell ⟨w.heap.size, 6, none⟩ (.int .i64 p.st)).setCell ⟨w.heap.size, 7, none⟩ (.bool p.door)).setCell ⟨w.heap.size, 8, none⟩ (.int .i64 p.left)).setCell ⟨w.heap.size, 9, none⟩ (.int .i64 p.given)).setCell ⟨B1, 0, none⟩ (.int .i64 c.kind)).setCell ⟨B1, 1, none⟩ (.int .i64 c.n)) := ((fill_below hB5.out (Nat.le_refl _) _ _ _ _ _ _ _ _ _ _).setCell (p := ⟨B1, 0, none⟩) hle _).setCell (p := ⟨B1, 1, none⟩) hle _
    have HBF := hidden hBF
    obtain ⟨r0, r1, r2, r3, r4, r5, r6, r7, r8, r9⟩ := hF1.ten
    obtain ⟨m0, m1⟩ := hF2.two
    generalize ((((((((((((w5.setCell ⟨w.heap.size, 0, none⟩ (.int .i64 p.lim.sl)).setCell ⟨w.heap.size, 1, none⟩ (.int .i64 p.lim.sh)).setCell ⟨w.heap.size, 2, none⟩ (.int .i64 p.lim.hl)).setCell ⟨w.heap.size, 3, none⟩ (.int .i64 p.lim.hh)).setCell ⟨w.heap.size, 4, none⟩ (.int .i64 p.rate)).setCell ⟨w.heap.size, 5, none⟩ (.int .i64 p.asked)).setCell ⟨w.heap.size, 6, none⟩ (.int .i64 p.st)).setCell ⟨w.heap.size, 7, none⟩ (.bool p.door)).setCell ⟨w.heap.size, 8, none⟩ (.int .i64 p.left)).setCell ⟨w.heap.size, 9, none⟩ (.int .i64 p.given)).setCell ⟨B1, 0, none⟩ (.int .i64 c.kind)).setCell ⟨B1, 1, none⟩ (.int .i64 c.n)) = wF at *
    clear hF1 hF2 hBF hR15 hR25 hB5 x0 x1 x2 x3 x4 x5 x6 x7 x8 x9 z0 z1 z2 z3 z4 z5 z6 z7 z8 z9 f0 f1 f2 f3 f4 f5 f6 f7 f8 f9 y0 y1 g0 g1
    exact bodyPost_ret (v := .tuple #[aPm p, aAc c]) (by simp [results, Try.results10, go_sem, r0, r1, r2, r3, r4, r5, r6, r7, r8, r9, m0, m1, aPm, aAc]) rfl ⟨p, c, rfl, HBF.out⟩)
end Go.Proofs.Ytamghmnibfbgaaa
