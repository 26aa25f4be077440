/-
  The law's own parts for moves: a move copied, what is held of a house, lengths.
-/
import Derived.Test.YtpdlkkbnckjibamIn
import Derived.Test.YtpdlkkbnckjibamXe
import Derived.Test.YtpdlkkbnckjibamXd
namespace Go.Proofs.Ytpdlkkbnckjibam
open Go.RowKit Hm
set_option linter.unusedVariables false

set_option maxHeartbeats 2000000 in
theorem tomove_any (x : Mv) (w : World) : Calls Try.prog 12 #[aM x] w fun r w' => r = .returned (aM x) ∧ Below w.heap.size w w' := by
  unfold aM
  go_enter Try.func12, Try.ntmps12
  go_wp2
  exact bodyPost_ret (v := .agg #[.int .i64 x.kind, .int .i64 x.person, .int .i64 x.sex, .int .i64 x.need, .int .i64 x.bed, .int .i64 x.time]) (by simp [results, Try.results12, go_sem]) rfl ⟨rfl, by repeat (first | exact Below.refl _ _ | assumption | refine st_drew ?_ | refine st_drewN ?_ _ | refine Below.setCell ?_ (by first | omega | (simp; done) | (simp; omega)) _ | refine Below.alloc ?_ (by first | omega | (simp; done) | (simp; omega)) _)⟩

set_option maxHeartbeats 2000000 in
theorem heldhouse_any (a1 a2 : Option Addr) (n c1 m c2 : Nat) (w : World) (h1 : Rw 2 csM w (.slice a1 n c1) (marks 2 1 n)) (h2 : Rw 6 csM w (.slice a2 m c2) (marks 6 (1 + 2 * (n : Int)) m)) (hn : n ≤ 1048576) (hm : m ≤ 1048576) :
    Calls Try.prog 16 #[.agg #[.slice a1 n c1, .slice a2 m c2], .int .i64 1] w fun e w' => e = .returned (.int .i64 (1 + 2 * (n : Int) + 6 * (m : Int))) ∧ Below w.heap.size w w' := by
  have hb0 : Below w.heap.size w (w.alloc (.cells #[.slice a1 n c1, .slice a2 m c2] 32)) := (Below.refl _ _).alloc (Nat.le_refl _) _
  have H1 := hidden (heldbed_any (.slice a1 n c1) 1 n _ (h1.below hb0) hn (by omega) (by omega))
  have H2 := hidden (heldstay_any (.slice a2 m c2) (1 + 2 * (n : Int)) m _ (h2.below hb0) hm (by omega) (by omega))
  have k1 : ¬ (1 + 2 * (n : Int)) < 0 := by omega
  have k2 : ¬ (1 + 2 * (n : Int) + 6 * (m : Int)) < 0 := by omega
  clear h1 h2
  go_enter Try.func16, Try.ntmps16
  go_wp2_with fail
  refine H1.out.mono ?_
  rintro e w1 ⟨rfl, rfl⟩
  go_wp2_with fail
  refine H2.out.mono ?_
  rintro e w2 ⟨rfl, rfl⟩
  go_wp2_with fail
  go_ret
  exact ⟨rfl, hb0⟩

theorem doB_len (B : List Bd) (S : List St) : (doB B S).length ≤ 200 := by
  unfold doB
  split
  · exact (ok_of (by assumption)).1
  · simp
theorem moveR_len (B : List Bd) (S : List St) (m : Mv) : (moveR B S m).1.length ≤ S.length + 1 := by
  unfold moveR placed
  repeat' split
  all_goals simp [ended_len]
theorem doS_len (B : List Bd) (S : List St) (m : Mv) : (doS B S m).length ≤ 1048576 := by
  unfold doS
  split
  · have := (ok_of (B := B) (S := S) (by assumption)).2.1
    have := moveR_len B S m
    omega
  · simp

/-- The boxes of the law's arguments. -/
structure Pa (w W : World) (vb vs : Value) (m : Mv) : Prop where
  h0 : W.cell? ⟨w.heap.size, 0, none⟩ = some vb
  h1 : W.cell? ⟨w.heap.size, 1, none⟩ = some vs
  m0 : W.cell? ⟨w.heap.size + 1, 0, none⟩ = some (.int .i64 m.kind)
  m1 : W.cell? ⟨w.heap.size + 1, 1, none⟩ = some (.int .i64 m.person)
  m2 : W.cell? ⟨w.heap.size + 1, 2, none⟩ = some (.int .i64 m.sex)
  m3 : W.cell? ⟨w.heap.size + 1, 3, none⟩ = some (.int .i64 m.need)
  m4 : W.cell? ⟨w.heap.size + 1, 4, none⟩ = some (.int .i64 m.bed)
  m5 : W.cell? ⟨w.heap.size + 1, 5, none⟩ = some (.int .i64 m.time)
theorem Pa.below {w W W' : World} {vb vs : Value} {m : Mv} {b : Nat} (h : Pa w W vb vs m) (hb : Below b W W') (hs : w.heap.size + 1 < b) : Pa w W' vb vs m where
  h0 := (hb.cell (p := ⟨w.heap.size, 0, none⟩) (by show w.heap.size < b; omega)).trans h.h0
  h1 := (hb.cell (p := ⟨w.heap.size, 1, none⟩) (by show w.heap.size < b; omega)).trans h.h1
  m0 := (hb.cell (p := ⟨w.heap.size + 1, 0, none⟩) hs).trans h.m0
  m1 := (hb.cell (p := ⟨w.heap.size + 1, 1, none⟩) hs).trans h.m1
  m2 := (hb.cell (p := ⟨w.heap.size + 1, 2, none⟩) hs).trans h.m2
  m3 := (hb.cell (p := ⟨w.heap.size + 1, 3, none⟩) hs).trans h.m3
  m4 := (hb.cell (p := ⟨w.heap.size + 1, 4, none⟩) hs).trans h.m4
  m5 := (hb.cell (p := ⟨w.heap.size + 1, 5, none⟩) hs).trans h.m5
end Go.Proofs.Ytpdlkkbnckjibam
