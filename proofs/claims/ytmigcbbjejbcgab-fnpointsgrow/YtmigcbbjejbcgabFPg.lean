/-
  What is measured in addition makes no fewer points: the walk of the law.
-/
import Derived.Test.YtmigcbbjejbcgabDw
import Derived.Test.YtmigcbbjejbcgabDp
import Derived.Test.YtmigcbbjejbcgabVi
namespace Go.Proofs.Ytmigcbbjejbcgab
open Go.RowKit Va
set_option linter.unusedVariables false

theorem bytes_up {w : World} {g g' : Nat} {ao : Option Addr} {bs : List Int} (h : Bytes w g ao bs) (hg : g ≤ g') : Bytes w g' ao bs := by
  refine ⟨h.1, ?_⟩
  rcases h.2 with q | ⟨b, off, q1, q2, q3⟩
  · exact Or.inl q
  · exact Or.inr ⟨b, off, q1, by omega, q3⟩

set_option maxRecDepth 20000 in
set_option maxHeartbeats 8000000 in
theorem fpg_walk (ao : Option Addr) (cap : Nat) (bs : List Int) (w : World) (hb : Bytes w w.heap.size ao bs) :
    Calls Try.prog 6 #[.slice ao bs.length cap] w fun e w' => e = .returned (.bool true) ∧ Below w.heap.size w w' := by
  have hB := big_any ao cap bs.length
  have HBY := hidden hb
  clear hb
  by_cases hbig : (4096 : Int) < (bs.length : Int)
  · rw [decide_eq_true hbig] at hB
    go_enter Try.func6, Try.ntmps6
    go_wp2_with fail
    refine (hB _).mono ?_
    rintro e w1 ⟨rfl, rfl⟩
    go_wp2_with fail
    go_ret
    exact ⟨rfl, Below.refl _ _⟩
  rw [decide_eq_false hbig] at hB
  have hl : bs.length ≤ 4096 := by omega
  go_enter Try.func6, Try.ntmps6
  go_wp2_with fail
  refine (hB w).mono ?_
  rintro e w1 ⟨rfl, hw1⟩
  subst hw1
  clear hB
  go_wp2_with fail
  refine (dpts_any ao cap bs _ HBY.out (by omega)).mono ?_
  rintro e w2 ⟨x, rfl, b2⟩
  have hS := spts_any x
  have hI := ipts_any x
  have hV := svok_any x
  unfold aV at hS hI hV ⊢
  have bA : Below w1.heap.size w1 (w2.alloc (.cells #[.int .i64 x.b, .int .i64 x.o, .int .i64 x.p, .int .i64 x.u, .int .i64 x.a, .int .i64 x.h] 49)) := b2.alloc b2.size _
  have HP := hidden (fun (h : vOk x = true) (hu : x.u = -1) (m : Int) (h0 : 0 ≤ m) (h1 : m ≤ 400) => pulse_more h hu h0 h1)
  have hq := psum_bd x
  have hq2 := pnone_bd x
  generalize psum x = s at *
  generalize pnone x = n at *
  generalize pthree x = t3 at *
  have zz := b2.size
  go_wp2_with fail
  refine (hI _).mono ?_
  rintro e w3 ⟨rfl, hb3⟩
  have b3 := onto bA hb3
  have z3 := hb3.size
  simp only [World.size_alloc] at z3
  have c0 : w3.cell? ⟨w2.heap.size, 0, none⟩ = some (.int .i64 x.b) := ((bcell hb3).1 _ _ (by first | omega | (simp; done) | (simp; omega))).trans (by simp)
  have c1 : w3.cell? ⟨w2.heap.size, 1, none⟩ = some (.int .i64 x.o) := ((bcell hb3).1 _ _ (by first | omega | (simp; done) | (simp; omega))).trans (by simp)
  have c2 : w3.cell? ⟨w2.heap.size, 2, none⟩ = some (.int .i64 x.p) := ((bcell hb3).1 _ _ (by first | omega | (simp; done) | (simp; omega))).trans (by simp)
  have c3 : w3.cell? ⟨w2.heap.size, 3, none⟩ = some (.int .i64 x.u) := ((bcell hb3).1 _ _ (by first | omega | (simp; done) | (simp; omega))).trans (by simp)
  have c4 : w3.cell? ⟨w2.heap.size, 4, none⟩ = some (.int .i64 x.a) := ((bcell hb3).1 _ _ (by first | omega | (simp; done) | (simp; omega))).trans (by simp)
  have c5 : w3.cell? ⟨w2.heap.size, 5, none⟩ = some (.int .i64 x.h) := ((bcell hb3).1 _ _ (by first | omega | (simp; done) | (simp; omega))).trans (by simp)
  clear hb3 bA b2 hI
  go_wp2_with fail
  refine (hS _).mono ?_
  rintro e w4 ⟨rfl, hb4⟩
  have b4 := onto b3 hb4
  have z4 := hb4.size
  have y3 : w2.heap.size < w3.heap.size := by omega
  have d0 := ((bcell hb4).1 w2.heap.size 0 y3).trans c0
  have d1 := ((bcell hb4).1 w2.heap.size 1 y3).trans c1
  have d2 := ((bcell hb4).1 w2.heap.size 2 y3).trans c2
  have d3 := ((bcell hb4).1 w2.heap.size 3 y3).trans c3
  have d4 := ((bcell hb4).1 w2.heap.size 4 y3).trans c4
  have d5 := ((bcell hb4).1 w2.heap.size 5 y3).trans c5
  clear hb4 b3 hS c0 c1 c2 c3 c4 c5
  go_wp2_with fail
  refine (hV _).mono ?_
  rintro e w5 ⟨rfl, hb5⟩
  have b5 := onto b4 hb5
  have z5 := hb5.size
  have y4 : w2.heap.size < w4.heap.size := by omega
  have c0 := ((bcell hb5).1 w2.heap.size 0 y4).trans d0
  have c1 := ((bcell hb5).1 w2.heap.size 1 y4).trans d1
  have c2 := ((bcell hb5).1 w2.heap.size 2 y4).trans d2
  have c3 := ((bcell hb5).1 w2.heap.size 3 y4).trans d3
  have c4 := ((bcell hb5).1 w2.heap.size 4 y4).trans d4
  have c5 := ((bcell hb5).1 w2.heap.size 5 y4).trans d5
  clear hb5 b4 hV d0 d1 d2 d3 d4 d5
  cases hv : vOk x with
  | false =>
    go_wp2_with fail
    go_ret
    exact ⟨rfl, b5⟩
  | true =>
    by_cases hu : x.u = -1
    · have hu1 : (x.u == -1) = true := by simpa using hu
      have HP2 := hidden (HP.out hv hu)
      have HBY2 := hidden (HBY.out.below b5)
      have y5 : w1.heap.size ≤ w5.heap.size := b5.size
      have y6 : w2.heap.size < w5.heap.size := by omega
      clear HP hv
      rw [hu] at c3
      clear hu
      go_wp2_with fail
      refine (pick_any ao cap bs 401 _ (bytes_up (HBY2.out.below ((Below.refl _ w5).alloc y5 _)) (by simp; omega)) (by omega) (by omega) (by omega)).mono ?_
      rintro e w6 ⟨⟨m, rfl, hm⟩, rfl⟩
      obtain ⟨g1, ⟨g2, g3⟩, g4, g5⟩ := HP2.out (m : Int) (by omega) (by omega)
      have hI2 := ipts_any { x with u := (m : Int) }
      have hU2 := iurg_any { x with u := (m : Int) }
      unfold aV at hI2 hU2
      dsimp only at hI2 hU2
      have G4 := hidden g4
      have q3 := psum_bd { x with u := (m : Int) }
      clear g1 g4 HP2
      generalize psum { x with u := (m : Int) } = s' at *
      generalize pnone { x with u := (m : Int) } = n' at *
      generalize pthree { x with u := (m : Int) } = t' at *
      generalize urg { x with u := (m : Int) } = u' at *
      have b6 : Below w1.heap.size w1 (w5.alloc (.cells #[.int .i64 x.b, .int .i64 x.o, .int .i64 x.p, .int .i64 m, .int .i64 x.a, .int .i64 x.h] 49)) := b5.alloc y5 _
      go_wp2_with fail
      refine (hI2 _).mono ?_
      rintro e w7 ⟨rfl, hb7⟩
      have b7 := onto b6 hb7
      have e0 : w7.cell? ⟨w5.heap.size, 0, none⟩ = some (.int .i64 x.b) := ((bcell hb7).1 _ _ (by first | omega | (simp; done) | (simp; omega))).trans (by simp)
      have e1 : w7.cell? ⟨w5.heap.size, 1, none⟩ = some (.int .i64 x.o) := ((bcell hb7).1 _ _ (by first | omega | (simp; done) | (simp; omega))).trans (by simp)
      have e2 : w7.cell? ⟨w5.heap.size, 2, none⟩ = some (.int .i64 x.p) := ((bcell hb7).1 _ _ (by first | omega | (simp; done) | (simp; omega))).trans (by simp)
      have e3 : w7.cell? ⟨w5.heap.size, 3, none⟩ = some (.int .i64 m) := ((bcell hb7).1 _ _ (by first | omega | (simp; done) | (simp; omega))).trans (by simp)
      have e4 : w7.cell? ⟨w5.heap.size, 4, none⟩ = some (.int .i64 x.a) := ((bcell hb7).1 _ _ (by first | omega | (simp; done) | (simp; omega))).trans (by simp)
      have e5 : w7.cell? ⟨w5.heap.size, 5, none⟩ = some (.int .i64 x.h) := ((bcell hb7).1 _ _ (by first | omega | (simp; done) | (simp; omega))).trans (by simp)
      clear hb7 b6
      have hn' := G4.out
      subst hn'
      go_wp2_with fail
      refine (hU2 _).mono ?_
      rintro e w8 ⟨rfl, hb8⟩
      have b8 := onto b7 hb8
      go_wp2_with fail
      go_ret
      exact ⟨rfl, b8⟩
    · have hu1 : (x.u == -1) = false := by simpa using hu
      go_wp2_with fail
      go_ret
      exact ⟨rfl, b5⟩
end Go.Proofs.Ytmigcbbjejbcgab
