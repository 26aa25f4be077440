/-
  Merged: Pk18.
-/
import Derived.Test.YtgcpiinmcbdkmaaMh20
import Derived.Test.YtgcpiinmcbdkmaaMh8
import Derived.Test.YtgcpiinmcbdkmaaMh3
import Derived.BigQuiet
namespace Go.Proofs.Ytgcpiinmcbdkmaa
open Go.RowKit Va Bl Pq
set_option linter.all false
set_option maxRecDepth 20000 in
set_option maxHeartbeats 4000000 in
theorem srank_any (x : Ut) (xv : Value) (n : Nd) (sv : Value) (w : World) :
    Calls Try.prog 97 #[.agg #[.int .i64 x.id, .int .i64 x.grp, xv, .int .i64 x.til, .int .i64 x.st, .int .i64 x.fr], .agg #[.int .i64 n.p, .int .i64 n.g, sv]] w fun e w' => e = .returned (.int .i64 (rank x n)) ∧ Below w.heap.size w w' := by
  obtain ⟨id, grp, ant, til, st, fr⟩ := x
  obtain ⟨np, ng, nag⟩ := n
  unfold rank
  dsimp only
  by_cases e1 : grp = ng
  · subst e1
    rw [if_pos rfl]
    go_enter Try.func97, Try.ntmps97
    go_wp2
    all_goals (go_ret; exact ⟨rfl, by repeat (first | exact Below.refl _ _ | assumption | refine st_drew ?_ | refine st_drewN ?_ _ | refine Below.setCell ?_ (by first | omega | (simp; done) | (simp; omega)) _ | refine Below.alloc ?_ (by first | omega | (simp; done) | (simp; omega)) _)⟩)
  · rw [if_neg e1]
    have q1 : (grp == ng) = false := by rw [beq_eq_false_iff_ne]; exact e1
    by_cases e2 : grp < 4
    · by_cases e3 : 4 ≤ ng
      · rw [if_pos ⟨e2, e3⟩]
        go_enter Try.func97, Try.ntmps97
        go_wp2
        all_goals (go_ret; exact ⟨rfl, by repeat (first | exact Below.refl _ _ | assumption | refine st_drew ?_ | refine st_drewN ?_ _ | refine Below.setCell ?_ (by first | omega | (simp; done) | (simp; omega)) _ | refine Below.alloc ?_ (by first | omega | (simp; done) | (simp; omega)) _)⟩)
      · rw [if_neg (fun h => e3 h.2)]
        go_enter Try.func97, Try.ntmps97
        go_wp2
        all_goals (go_ret; exact ⟨rfl, by repeat (first | exact Below.refl _ _ | assumption | refine st_drew ?_ | refine st_drewN ?_ _ | refine Below.setCell ?_ (by first | omega | (simp; done) | (simp; omega)) _ | refine Below.alloc ?_ (by first | omega | (simp; done) | (simp; omega)) _)⟩)
    · rw [if_neg (fun h => e2 h.1)]
      go_enter Try.func97, Try.ntmps97
      go_wp2
      all_goals (go_ret; exact ⟨rfl, by repeat (first | exact Below.refl _ _ | assumption | refine st_drew ?_ | refine st_drewN ?_ _ | refine Below.setCell ?_ (by first | omega | (simp; done) | (simp; omega)) _ | refine Below.alloc ?_ (by first | omega | (simp; done) | (simp; omega)) _)⟩)
set_option maxRecDepth 20000 in
set_option maxHeartbeats 8000000 in
theorem sbefore_any (x : Ut) (xa : Option Addr) (xn xc : Nat) (y : Ut) (ya : Option Addr) (yn yc : Nat) (n : Nd) (sa : Option Addr) (sn sc : Nat) (w : World) :
    Calls Try.prog 54 #[.agg #[.int .i64 x.id, .int .i64 x.grp, .slice xa xn xc, .int .i64 x.til, .int .i64 x.st, .int .i64 x.fr], .agg #[.int .i64 y.id, .int .i64 y.grp, .slice ya yn yc, .int .i64 y.til, .int .i64 y.st, .int .i64 y.fr], .agg #[.int .i64 n.p, .int .i64 n.g, .slice sa sn sc]] w fun e w' => e = .returned (.bool (befB n x y)) ∧ Below w.heap.size w w' := by
  have kx := fun W => srank_any x (.slice xa xn xc) n (.slice sa sn sc) W
  have ky := fun W => srank_any y (.slice ya yn yc) n (.slice sa sn sc) W
  have b0 : Hid (Below w.heap.size w (((w.alloc (.cells #[.int .i64 x.id, .int .i64 x.grp, .slice xa xn xc, .int .i64 x.til, .int .i64 x.st, .int .i64 x.fr] 81)).alloc (.cells #[.int .i64 y.id, .int .i64 y.grp, .slice ya yn yc, .int .i64 y.til, .int .i64 y.st, .int .i64 y.fr] 81)).alloc (.cells #[.int .i64 n.p, .int .i64 n.g, .slice sa sn sc] 27))) := by rw [Hid]; exact by repeat (first | exact Below.refl _ _ | assumption | refine st_drew ?_ | refine st_drewN ?_ _ | refine Below.setCell ?_ (by first | omega | (simp; done) | (simp; omega)) _ | refine Below.alloc ?_ (by first | omega | (simp; done) | (simp; omega)) _)
  have PX := hidden (((PB.new w #[.int .i64 x.id, .int .i64 x.grp, .slice xa xn xc, .int .i64 x.til, .int .i64 x.st, .int .i64 x.fr] 81).alloc (.cells #[.int .i64 y.id, .int .i64 y.grp, .slice ya yn yc, .int .i64 y.til, .int .i64 y.st, .int .i64 y.fr] 81)).alloc (.cells #[.int .i64 n.p, .int .i64 n.g, .slice sa sn sc] 27))
  have PY := hidden ((PB.new (w.alloc (.cells #[.int .i64 x.id, .int .i64 x.grp, .slice xa xn xc, .int .i64 x.til, .int .i64 x.st, .int .i64 x.fr] 81)) #[.int .i64 y.id, .int .i64 y.grp, .slice ya yn yc, .int .i64 y.til, .int .i64 y.st, .int .i64 y.fr] 81).alloc (.cells #[.int .i64 n.p, .int .i64 n.g, .slice sa sn sc] 27))
  have PN := hidden (PB.new ((w.alloc (.cells #[.int .i64 x.id, .int .i64 x.grp, .slice xa xn xc, .int .i64 x.til, .int .i64 x.st, .int .i64 x.fr] 81)).alloc (.cells #[.int .i64 y.id, .int .i64 y.grp, .slice ya yn yc, .int .i64 y.til, .int .i64 y.st, .int .i64 y.fr] 81)) #[.int .i64 n.p, .int .i64 n.g, .slice sa sn sc] 27)
  simp only [World.size_alloc] at PY PN
  unfold befB
  by_cases h1 : rank x n = rank y n
  · have h1b : (rank x n == rank y n) = true := by rw [beq_iff_eq]; exact h1
    have H1 := hidden h1
    rw [if_pos h1]
    by_cases h2 : x.til = y.til
    · have h2b : (x.til == y.til) = true := by rw [beq_iff_eq]; exact h2
      rw [if_pos h2]
      generalize rank x n = rx at *
      generalize rank y n = ry at *
      clear h1 h2
      go_enter Try.func54, Try.ntmps54
      go_wp2_with (first
        | (go_at_call 97; (with_reducible refine (kx _).mono ?_); rintro e w1 ⟨rfl, hb1⟩; have PX1 := PX.out.below hb1; have PY1 := PY.out.below hb1; have PN1 := PN.out.below hb1; obtain ⟨x0, x1, x2, x3, x4, x5⟩ := PX1.six; obtain ⟨y0, y1, y2, y3, y4, y5⟩ := PY1.six; obtain ⟨n0, n1, n2⟩ := PN1.three; have bA := onto b0.out hb1; clear hb1)
        | (go_at_call 97; (with_reducible refine (ky _).mono ?_); rintro e w2 ⟨rfl, hb2⟩; have PX2 := PX1.below hb2; have PY2 := PY1.below hb2; clear x0 x1 x2 x3 x4 x5 y0 y1 y2 y3 y4 y5; obtain ⟨x0, x1, x2, x3, x4, x5⟩ := PX2.six; obtain ⟨y0, y1, y2, y3, y4, y5⟩ := PY2.six; have bB := onto bA hb2; clear hb2)
        | fail)
      all_goals go_ret
      all_goals exact ⟨rfl, bB⟩
    · have h2b : (x.til == y.til) = false := by rw [beq_eq_false_iff_ne]; exact h2
      rw [if_neg h2]
      generalize rank x n = rx at *
      generalize rank y n = ry at *
      clear h1 h2
      go_enter Try.func54, Try.ntmps54
      go_wp2_with (first
        | (go_at_call 97; (with_reducible refine (kx _).mono ?_); rintro e w1 ⟨rfl, hb1⟩; have PX1 := PX.out.below hb1; have PY1 := PY.out.below hb1; have PN1 := PN.out.below hb1; obtain ⟨x0, x1, x2, x3, x4, x5⟩ := PX1.six; obtain ⟨y0, y1, y2, y3, y4, y5⟩ := PY1.six; obtain ⟨n0, n1, n2⟩ := PN1.three; have bA := onto b0.out hb1; clear hb1)
        | (go_at_call 97; (with_reducible refine (ky _).mono ?_); rintro e w2 ⟨rfl, hb2⟩; have PX2 := PX1.below hb2; have PY2 := PY1.below hb2; clear x0 x1 x2 x3 x4 x5 y0 y1 y2 y3 y4 y5; obtain ⟨x0, x1, x2, x3, x4, x5⟩ := PX2.six; obtain ⟨y0, y1, y2, y3, y4, y5⟩ := PY2.six; have bB := onto bA hb2; clear hb2)
        | fail)
      all_goals go_ret
      all_goals exact ⟨rfl, bB⟩
  · have h1b : (rank x n == rank y n) = false := by rw [beq_eq_false_iff_ne]; exact h1
    rw [if_neg h1]
    generalize rank x n = rx at *
    generalize rank y n = ry at *
    clear h1
    go_enter Try.func54, Try.ntmps54
    go_wp2_with (first
      | (go_at_call 97; (with_reducible refine (kx _).mono ?_); rintro e w1 ⟨rfl, hb1⟩; have PX1 := PX.out.below hb1; have PY1 := PY.out.below hb1; have PN1 := PN.out.below hb1; obtain ⟨x0, x1, x2, x3, x4, x5⟩ := PX1.six; obtain ⟨y0, y1, y2, y3, y4, y5⟩ := PY1.six; obtain ⟨n0, n1, n2⟩ := PN1.three; have bA := onto b0.out hb1; clear hb1)
      | (go_at_call 97; (with_reducible refine (ky _).mono ?_); rintro e w2 ⟨rfl, hb2⟩; have PX2 := PX1.below hb2; have PY2 := PY1.below hb2; clear x0 x1 x2 x3 x4 x5 y0 y1 y2 y3 y4 y5; obtain ⟨x0, x1, x2, x3, x4, x5⟩ := PX2.six; obtain ⟨y0, y1, y2, y3, y4, y5⟩ := PY2.six; have bB := onto bA hb2; clear hb2)
      | fail)
    all_goals go_ret
    all_goals exact ⟨rfl, bB⟩
end Go.Proofs.Ytgcpiinmcbdkmaa
