/-
  Who is more urgent is looked at again no later: the walk of the law.
-/
import Derived.Test.YtmigcbbjejbcgaiDx
import Derived.Test.YtmigcbbjejbcgaiDp
import Derived.Test.YtmigcbbjejbcgaiVj
namespace Go.Proofs.Ytmigcbbjejbcgai
open Go.RowKit Va
set_option linter.unusedVariables false

set_option maxRecDepth 20000 in
set_option maxHeartbeats 8000000 in
theorem fnl_walk (ao : Option Addr) (cap : Nat) (bs : List Int) (w : World) (hb : Bytes w w.heap.size ao bs) :
    Calls Try.prog 3 #[.slice ao bs.length cap] w fun e w' => e = .returned (.bool true) ∧ Below w.heap.size w w' := by
  have hB := big_any ao cap bs.length
  have HBY := hidden hb
  clear hb
  by_cases hbig : (4096 : Int) < (bs.length : Int)
  · rw [decide_eq_true hbig] at hB
    go_enter Try.func3, Try.ntmps3
    go_wp2_with fail
    refine (hB _).mono ?_
    rintro e w1 ⟨rfl, rfl⟩
    go_wp2_with fail
    go_ret
    exact ⟨rfl, Below.refl _ _⟩
  rw [decide_eq_false hbig] at hB
  have hl : bs.length ≤ 4096 := by omega
  go_enter Try.func3, Try.ntmps3
  go_wp2_with fail
  refine (hB w).mono ?_
  rintro e w1 ⟨rfl, hw1⟩
  subst hw1
  clear hB
  go_wp2_with fail
  refine (dnl_any ao cap bs _ HBY.out (by omega)).mono ?_
  rintro e w2 ⟨x, t, rfl, b2⟩
  have hS := slook_any x t
  have hI := ilook_any x t
  have hI2 := ilook_any { x with a := 0 } t
  have hU2 := iurg_any { x with a := 0 }
  unfold aV at hS hI hI2 hU2 ⊢
  dsimp only at hI2 hU2
  have bA : Below w1.heap.size w1 (w2.alloc (.cells #[.int .i64 x.b, .int .i64 x.o, .int .i64 x.p, .int .i64 x.u, .int .i64 x.a, .int .i64 x.h] 25)) := b2.alloc b2.size _
  have HP := hidden (fun (h : 0 ≤ Va.look x t) => look_asleep h)
  generalize Va.look x t = n at *
  generalize Va.look { x with a := 0 } t = m at *
  generalize urg { x with a := 0 } = u at *
  have zz := b2.size
  go_wp2_with fail
  refine (hI _).mono ?_
  rintro e w3 ⟨rfl, hb3⟩
  have b3 := onto bA hb3
  have z3 := hb3.size
  simp only [World.size_alloc] at z3
  have c0 : w3.cell? ⟨w2.heap.size, 0, none⟩ = some (.int .i64 x.b) := ((bcell hb3).1 _ _ (by first | omega | (simp; done) | (simp; omega))).trans (by simp)
  have c1 : w3.cell? ⟨w2.heap.size, 1, none⟩ = some (.int .i64 x.o) := ((bcell hb3).1 _ _ (by first | omega | (simp; done) | (simp; omega))).trans (by simp)
  have c2 : w3.cell? ⟨w2.heap.size, 2, none⟩ = some (.int .i64 x.p) := ((bcell hb3).1 _ _ (by first | omega | (simp; done) | (simp; omega))).trans (by simp)
  have c3 : w3.cell? ⟨w2.heap.size, 3, none⟩ = some (.int .i64 x.u) := ((bcell hb3).1 _ _ (by first | omega | (simp; done) | (simp; omega))).trans (by simp)
  have c4 : w3.cell? ⟨w2.heap.size, 4, none⟩ = some (.int .i64 x.a) := ((bcell hb3).1 _ _ (by first | omega | (simp; done) | (simp; omega))).trans (by simp)
  have c5 : w3.cell? ⟨w2.heap.size, 5, none⟩ = some (.int .i64 x.h) := ((bcell hb3).1 _ _ (by first | omega | (simp; done) | (simp; omega))).trans (by simp)
  clear hb3 bA b2 hI
  go_wp2_with fail
  refine (hS _).mono ?_
  rintro e w4 ⟨rfl, hb4⟩
  have b4 := onto b3 hb4
  have z4 := hb4.size
  have y3 : w2.heap.size < w3.heap.size := by omega
  have d0 := ((bcell hb4).1 w2.heap.size 0 y3).trans c0
  have d1 := ((bcell hb4).1 w2.heap.size 1 y3).trans c1
  have d2 := ((bcell hb4).1 w2.heap.size 2 y3).trans c2
  have d3 := ((bcell hb4).1 w2.heap.size 3 y3).trans c3
  have d4 := ((bcell hb4).1 w2.heap.size 4 y3).trans c4
  have d5 := ((bcell hb4).1 w2.heap.size 5 y3).trans c5
  clear hb4 b3 hS c0 c1 c2 c3 c4 c5
  by_cases hn : n < 0
  · go_wp2_with fail
    go_ret
    exact ⟨rfl, b4⟩
  obtain ⟨⟨t0, t1⟩, p1, p2, p3, p4⟩ := HP.out (by omega)
  have P4 := hidden p4
  have b6 : Below w1.heap.size w1 (w4.alloc (.cells #[.int .i64 x.b, .int .i64 x.o, .int .i64 x.p, .int .i64 x.u, .int .i64 0, .int .i64 x.h] 25)) := b4.alloc b4.size _
  clear p4 HP
  go_wp2_with fail
  refine (hI2 _).mono ?_
  rintro e w5 ⟨rfl, hb5⟩
  have b5 := onto b6 hb5
  have e0 : w5.cell? ⟨w4.heap.size, 0, none⟩ = some (.int .i64 x.b) := ((bcell hb5).1 _ _ (by first | omega | (simp; done) | (simp; omega))).trans (by simp)
  have e1 : w5.cell? ⟨w4.heap.size, 1, none⟩ = some (.int .i64 x.o) := ((bcell hb5).1 _ _ (by first | omega | (simp; done) | (simp; omega))).trans (by simp)
  have e2 : w5.cell? ⟨w4.heap.size, 2, none⟩ = some (.int .i64 x.p) := ((bcell hb5).1 _ _ (by first | omega | (simp; done) | (simp; omega))).trans (by simp)
  have e3 : w5.cell? ⟨w4.heap.size, 3, none⟩ = some (.int .i64 x.u) := ((bcell hb5).1 _ _ (by first | omega | (simp; done) | (simp; omega))).trans (by simp)
  have e4 : w5.cell? ⟨w4.heap.size, 4, none⟩ = some (.int .i64 0) := ((bcell hb5).1 _ _ (by first | omega | (simp; done) | (simp; omega))).trans (by simp)
  have e5 : w5.cell? ⟨w4.heap.size, 5, none⟩ = some (.int .i64 x.h) := ((bcell hb5).1 _ _ (by first | omega | (simp; done) | (simp; omega))).trans (by simp)
  clear hb5 b6
  go_wp2_with fail
  refine (hU2 _).mono ?_
  rintro e w6 ⟨rfl, hb6⟩
  have b7 := onto b5 hb6
  rcases P4.out with ⟨q1, q2⟩ | ⟨q1, q2⟩
  · go_wp2_with fail
    go_ret
    exact ⟨rfl, b7⟩
  · subst q1
    have q3 : ¬ t ≤ -1 := by omega
    go_wp2_with fail
    go_ret
    exact ⟨rfl, b7⟩
end Go.Proofs.Ytmigcbbjejbcgai
