/-
  The law's own copy of a unit.
-/
import Derived.Test.YtaidhcbchpcemabQ4
namespace Go.Proofs.Ytaidhcbchpcemab
open Go.RowKit Va Bl
set_option linter.unusedVariables false

set_option maxRecDepth 20000 in
set_option maxHeartbeats 4000000 in
theorem tounit_any (x : Ut) (ta : Option Addr) (tn tc : Nat) (w : World) (h : IRw w (.slice ta tn tc) x.ant) (hn : x.ant.length ≤ 1048576) :
    Calls Try.prog 10 #[aU x (.slice ta tn tc)] w fun e w' => ∃ G, w.heap.size ≤ G ∧ G < w'.heap.size ∧ e = .returned (aU x (.slice (some ⟨G, 0, none⟩) x.ant.length x.ant.length)) ∧ Out 1 csI w' G x.ant.length x.ant x.ant.length ∧ Below w.heap.size w w' := by
  have k1 := fun W hW => toints_any ta tn tc x.ant W hW hn
  have HT := hidden (fun W (hW : Below w.heap.size w W) => h.below hW)
  clear h
  have P0 := hidden (((PB.new w #[.int .i64 x.id, .int .i64 x.grp, .slice ta tn tc, .int .i64 x.til, .int .i64 x.st, .int .i64 x.fr] 24).alloc (.cells #[.int .i64 0, .int .i64 0, .slice none 0 0, .int .i64 0, .int .i64 0, .int .i64 0] 30)).alloc (.cells #[.int .i64 x.id, .int .i64 x.grp, .slice none 0 0, .int .i64 0, .int .i64 0, .int .i64 0] 30))
  have P1 := hidden ((PB.new (w.alloc (.cells #[.int .i64 x.id, .int .i64 x.grp, .slice ta tn tc, .int .i64 x.til, .int .i64 x.st, .int .i64 x.fr] 24)) #[.int .i64 0, .int .i64 0, .slice none 0 0, .int .i64 0, .int .i64 0, .int .i64 0] 30).alloc (.cells #[.int .i64 x.id, .int .i64 x.grp, .slice none 0 0, .int .i64 0, .int .i64 0, .int .i64 0] 30))
  have P2 := hidden (PB.new ((w.alloc (.cells #[.int .i64 x.id, .int .i64 x.grp, .slice ta tn tc, .int .i64 x.til, .int .i64 x.st, .int .i64 x.fr] 24)).alloc (.cells #[.int .i64 0, .int .i64 0, .slice none 0 0, .int .i64 0, .int .i64 0, .int .i64 0] 30)) #[.int .i64 x.id, .int .i64 x.grp, .slice none 0 0, .int .i64 0, .int .i64 0, .int .i64 0] 30)
  simp only [World.size_alloc] at P0 P1 P2
  unfold aU
  go_enter Try.func10, Try.ntmps10
  go_wp2_with (go_at_call 36; refine (k1 _ (HT.out _ (by repeat (first | exact Below.refl _ _ | assumption | refine st_drew ?_ | refine st_drewN ?_ _ | refine Below.setCell ?_ (by first | omega | (simp; done) | (simp; omega)) _ | refine Below.alloc ?_ (by first | omega | (simp; done) | (simp; omega)) _)))).mono ?_; rintro e w1 ⟨rfl, ho1, hb1⟩; have HO := hidden ho1; have hp := P0.out.below hb1; have hq := P1.out.below hb1; have hr := P2.out.below hb1; obtain ⟨p0, p1, p2, p3, p4, p5⟩ := hp.six; obtain ⟨q0, q1, q2, q3, q4, q5⟩ := hq.six; obtain ⟨r0, r1, r2, r3, r4, r5⟩ := hr.six; obtain ⟨f0, f1, f2, f3, f4, f5, -⟩ := hq.cold; obtain ⟨g0, g1, g2, g3, g4, g5, -⟩ := hr.cold; have bA := onto (show Below w.heap.size w _ from by repeat (first | exact Below.refl _ _ | assumption | refine st_drew ?_ | refine st_drewN ?_ _ | refine Below.setCell ?_ (by first | omega | (simp; done) | (simp; omega)) _ | refine Below.alloc ?_ (by first | omega | (simp; done) | (simp; omega)) _)) hb1; have hsz := hb1.size; simp only [World.size_alloc] at hsz; have HR := hidden hr; clear hb1 ho1 hp hr; have HQ := hidden hq; clear hq)
  simp only [World.size_alloc] at HO
  have o0 := HO.out
  have b0 := bA
  have e0 := HQ.out
  have o1 := out_far o0 (b := w.heap.size + 1 + 1) (by omega) 2 (.slice (some ⟨w.heap.size + 1 + 1 + 1, 0, none⟩) x.ant.length x.ant.length)
  have b1 := b0.setCell (p := ⟨w.heap.size + 1 + 1, 2, none⟩) (by show w.heap.size ≤ w.heap.size + 1 + 1; omega) (.slice (some ⟨w.heap.size + 1 + 1 + 1, 0, none⟩) x.ant.length x.ant.length)
  have e1 := e0.far (b := w.heap.size + 1 + 1) (by omega) 2 (.slice (some ⟨w.heap.size + 1 + 1 + 1, 0, none⟩) x.ant.length x.ant.length)
  have o2 := out_far o1 (b := w.heap.size + 1 + 1) (by omega) 3 (.int .i64 x.til)
  have b2 := b1.setCell (p := ⟨w.heap.size + 1 + 1, 3, none⟩) (by show w.heap.size ≤ w.heap.size + 1 + 1; omega) (.int .i64 x.til)
  have e2 := e1.far (b := w.heap.size + 1 + 1) (by omega) 3 (.int .i64 x.til)
  have o3 := out_far o2 (b := w.heap.size + 1 + 1) (by omega) 4 (.int .i64 x.st)
  have b3 := b2.setCell (p := ⟨w.heap.size + 1 + 1, 4, none⟩) (by show w.heap.size ≤ w.heap.size + 1 + 1; omega) (.int .i64 x.st)
  have e3 := e2.far (b := w.heap.size + 1 + 1) (by omega) 4 (.int .i64 x.st)
  have o4 := out_far o3 (b := w.heap.size + 1 + 1) (by omega) 5 (.int .i64 x.fr)
  have b4 := b3.setCell (p := ⟨w.heap.size + 1 + 1, 5, none⟩) (by show w.heap.size ≤ w.heap.size + 1 + 1; omega) (.int .i64 x.fr)
  have e4 := e3.far (b := w.heap.size + 1 + 1) (by omega) 5 (.int .i64 x.fr)
  have o5 := out_far o4 (b := w.heap.size + 1) (by omega) 0 (.int .i64 x.id)
  have b5 := b4.setCell (p := ⟨w.heap.size + 1, 0, none⟩) (by show w.heap.size ≤ w.heap.size + 1; omega) (.int .i64 x.id)
  have o6 := out_far o5 (b := w.heap.size + 1) (by omega) 1 (.int .i64 x.grp)
  have b6 := b5.setCell (p := ⟨w.heap.size + 1, 1, none⟩) (by show w.heap.size ≤ w.heap.size + 1; omega) (.int .i64 x.grp)
  have o7 := out_far o6 (b := w.heap.size + 1) (by omega) 2 (.slice (some ⟨w.heap.size + 1 + 1 + 1, 0, none⟩) x.ant.length x.ant.length)
  have b7 := b6.setCell (p := ⟨w.heap.size + 1, 2, none⟩) (by show w.heap.size ≤ w.heap.size + 1; omega) (.slice (some ⟨w.heap.size + 1 + 1 + 1, 0, none⟩) x.ant.length x.ant.length)
  have o8 := out_far o7 (b := w.heap.size + 1) (by omega) 3 (.int .i64 x.til)
  have b8 := b7.setCell (p := ⟨w.heap.size + 1, 3, none⟩) (by show w.heap.size ≤ w.heap.size + 1; omega) (.int .i64 x.til)
  have o9 := out_far o8 (b := w.heap.size + 1) (by omega) 4 (.int .i64 x.st)
  have b9 := b8.setCell (p := ⟨w.heap.size + 1, 4, none⟩) (by show w.heap.size ≤ w.heap.size + 1; omega) (.int .i64 x.st)
  have o10 := out_far o9 (b := w.heap.size + 1) (by omega) 5 (.int .i64 x.fr)
  have b10 := b9.setCell (p := ⟨w.heap.size + 1, 5, none⟩) (by show w.heap.size ≤ w.heap.size + 1; omega) (.int .i64 x.fr)
  have e5 := e4.fill6 (.int .i64 x.id) (.int .i64 x.grp) (.slice (some ⟨w.heap.size + 1 + 1 + 1, 0, none⟩) x.ant.length x.ant.length) (.int .i64 x.til) (.int .i64 x.st) (.int .i64 x.fr)
  obtain ⟨y0, y1, y2, y3, y4, y5⟩ := e5.six
  have hfin := o10
  clear o0 o1 o2 o3 o4 o5 o6 o7 o8 o9 o10 e0 e1 e2 e3 e4 e5
  exact bodyPost_ret (v := .agg #[.int .i64 x.id, .int .i64 x.grp, .slice (some ⟨w.heap.size + 1 + 1 + 1, 0, none⟩) x.ant.length x.ant.length, .int .i64 x.til, .int .i64 x.st, .int .i64 x.fr]) (by simp [results, Try.results10, go_sem, y0, y1, y2, y3, y4, y5]) rfl
    ⟨_, by omega, hfin.1, rfl, hfin, b10⟩

end Go.Proofs.Ytaidhcbchpcemab
