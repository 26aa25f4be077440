/-
  Vital signs: the specification's Points.
-/
import Derived.Test.YtmigcbbjejbcgaiVe
namespace Go.Proofs.Ytmigcbbjejbcgai
open Go.RowKit Va
set_option linter.unusedVariables false

theorem six_len (v : Vt) : (six v).length = 6 := rfl
theorem take_snoc {α : Type} {l : List α} {i : Nat} {x : α} (h : l[i]? = some x) : l.take (i + 1) = l.take i ++ [x] := by
  rw [List.take_add_one, h]; rfl
theorem some_at {α : Type} (l : List α) (i : Nat) (h : i < l.length) : ∃ x, l[i]? = some x := ⟨_, List.getElem?_eq_getElem h⟩
def sT (v : Vt) (i : Nat) : Int := sumL ((six v).take i)
def nT (v : Vt) (i : Nat) : Int := noneL ((six v).take i)
def tT (v : Vt) (i : Nat) : Bool := threeL ((six v).take i)
theorem steps {v : Vt} {i : Nat} {x : Int} (h : (six v)[i]? = some x) : sT v (i + 1) = sT v i + (if x < 0 then 0 else x) ∧ nT v (i + 1) = nT v i + (if x < 0 then 1 else 0) ∧ tT v (i + 1) = (tT v i || decide (x = 3)) := by
  unfold sT nT tT
  rw [take_snoc h]
  exact ⟨sumL_snoc _ _, noneL_snoc _ _, threeL_snoc _ _⟩
theorem bds (v : Vt) (i : Nat) : (0 ≤ sT v i ∧ sT v i ≤ 18) ∧ (0 ≤ nT v i ∧ nT v i ≤ 6) := take_bd v i
theorem at_six {v : Vt} (h : vOk v = true) : sT v 6 = psum v ∧ nT v 6 = pnone v ∧ tT v 6 = pthree v := by
  unfold psum pnone pthree
  rw [if_pos h, if_pos h, if_pos h]
  exact ⟨rfl, rfl, rfl⟩
theorem ret3 {a b a' b' : Int} {c c' : Bool} (h : a = a' ∧ b = b' ∧ c = c') : Ending.returned (.tuple #[.int .i64 a, .int .i64 b, .bool c]) = .returned (.tuple #[.int .i64 a', .int .i64 b', .bool c']) := by
  obtain ⟨rfl, rfl, rfl⟩ := h; rfl

set_option maxRecDepth 20000 in
set_option maxHeartbeats 4000000 in
theorem spts_any (v : Vt) (w : World) : Calls Try.prog 32 #[aV v] w fun e w' => e = .returned (.tuple #[.int .i64 (psum v), .int .i64 (pnone v), .bool (pthree v)]) ∧ Below w.heap.size w w' := by
  have hS := svok_any v
  cases hv : vOk v with
  | false =>
    have e1 : psum v = 0 := by unfold psum; rw [hv]; rfl
    have e2 : pnone v = 0 := by unfold pnone; rw [hv]; rfl
    have e3 : pthree v = false := by unfold pthree; rw [hv]; rfl
    rw [hv] at hS
    rw [e1, e2, e3]
    unfold aV at hS ⊢
    go_enter Try.func32, Try.ntmps32
    go_wp2_with (go_at_call 31; refine (hS _).mono ?_; rintro e w1 ⟨rfl, hb1⟩)
    have b1 := onto (show Below w.heap.size w _ from by repeat (first | exact Below.refl _ _ | assumption | refine st_drew ?_ | refine st_drewN ?_ _ | refine Below.setCell ?_ (by first | omega | (simp; done) | (simp; omega)) _ | refine Below.alloc ?_ (by first | omega | (simp; done) | (simp; omega)) _)) hb1
    exact bodyPost_ret (results_tmp3 Try.results32 _ _ _) rfl ⟨rfl, b1⟩
  | true =>
    have HE := hidden (at_six hv)
    have ha := (vOk_iff.1 hv).2.2.2.2.1
    have hP := l4p_any v ha
    have HSt := hidden (fun i x (h : (six v)[i]? = some x) => steps h)
    have HBd := hidden (fun i => bds v i)
    have HSx := hidden (six_bd v)
    rw [hv] at hS
    clear ha hv
    unfold aV at hS hP ⊢
    go_enter Try.func32, Try.ntmps32
    go_wp2_with fail
    refine (hS _).mono ?_
    rintro e w1 ⟨rfl, hb1⟩
    have b1 := onto (show Below w.heap.size w _ from by repeat (first | exact Below.refl _ _ | assumption | refine st_drew ?_ | refine st_drewN ?_ _ | refine Below.setCell ?_ (by first | omega | (simp; done) | (simp; omega)) _ | refine Below.alloc ?_ (by first | omega | (simp; done) | (simp; omega)) _)) hb1
    have z1 := hb1.size
    simp only [World.size_alloc] at z1
    have c0 : w1.cell? ⟨w.heap.size, 0, none⟩ = some (.int .i64 v.b) := ((bcell hb1).1 _ _ (by first | omega | (simp; done) | (simp; omega))).trans (by simp)
    have c1 : w1.cell? ⟨w.heap.size, 1, none⟩ = some (.int .i64 v.o) := ((bcell hb1).1 _ _ (by first | omega | (simp; done) | (simp; omega))).trans (by simp)
    have c2 : w1.cell? ⟨w.heap.size, 2, none⟩ = some (.int .i64 v.p) := ((bcell hb1).1 _ _ (by first | omega | (simp; done) | (simp; omega))).trans (by simp)
    have c3 : w1.cell? ⟨w.heap.size, 3, none⟩ = some (.int .i64 v.u) := ((bcell hb1).1 _ _ (by first | omega | (simp; done) | (simp; omega))).trans (by simp)
    have c4 : w1.cell? ⟨w.heap.size, 4, none⟩ = some (.int .i64 v.a) := ((bcell hb1).1 _ _ (by first | omega | (simp; done) | (simp; omega))).trans (by simp)
    have c5 : w1.cell? ⟨w.heap.size, 5, none⟩ = some (.int .i64 v.h) := ((bcell hb1).1 _ _ (by first | omega | (simp; done) | (simp; omega))).trans (by simp)
    clear hb1
    go_wp2_with fail
    refine (hP _).mono ?_
    rintro e w2 ⟨x0, x1, x2, x3, x4, x5, rfl, hsix, hw2⟩
    have b2 : Below w.heap.size w w2 := by rw [hw2]; exact (b1.alloc (by omega) _).alloc (by simp; omega) _
    have r0 : w2.cell? ⟨w1.heap.size + 1, 0, none⟩ = some (.int .i64 x0) := by rw [hw2]; simp
    have r1 : w2.cell? ⟨w1.heap.size + 1, 1, none⟩ = some (.int .i64 x1) := by rw [hw2]; simp
    have r2 : w2.cell? ⟨w1.heap.size + 1, 2, none⟩ = some (.int .i64 x2) := by rw [hw2]; simp
    have r3 : w2.cell? ⟨w1.heap.size + 1, 3, none⟩ = some (.int .i64 x3) := by rw [hw2]; simp
    have r4 : w2.cell? ⟨w1.heap.size + 1, 4, none⟩ = some (.int .i64 x4) := by rw [hw2]; simp
    have r5 : w2.cell? ⟨w1.heap.size + 1, 5, none⟩ = some (.int .i64 x5) := by rw [hw2]; simp
    have HX := hidden hsix
    have zz : w1.heap.size + 1 < w2.heap.size := by rw [hw2]; simp
    clear hw2 hsix hS hP c0 c1 c2 c3 c4 c5 b1
    go_wp2_with fail
    go_loopw [5, 6, 7, 9] (fun sv nv tv iv wr => ∃ i : Nat, i ≤ 6 ∧ iv = .int .i64 i ∧ sv = .int .i64 (sT v i) ∧ nv = .int .i64 (nT v i) ∧ tv = .bool (tT v i) ∧ wr = w2) (fun _ _ _ iv _ => 6 - (intOf iv).toNat)
    case atStart => exact ⟨0, by omega, rfl, rfl, rfl, rfl, rfl⟩
    case round =>
      obtain ⟨i, hi, rfl, rfl, rfl, rfl, rfl⟩ := hrel
      by_cases hlt : i < 6
      · have hlti : (i : Int) < 6 := by omega
        obtain ⟨x, hx⟩ := some_at (six v) i hlt
        have hc : wr.cell? ⟨w1.heap.size + 1, i, none⟩ = some (.int .i64 x) := by
          rw [HX.out] at hx
          rcases (show i = 0 ∨ i = 1 ∨ i = 2 ∨ i = 3 ∨ i = 4 ∨ i = 5 by omega) with rfl | rfl | rfl | rfl | rfl | rfl <;> simp at hx <;> subst hx <;> assumption
        obtain ⟨s1, s2, s3⟩ := HSt.out i x hx
        have hxb := HSx.out x (List.mem_of_getElem? hx)
        obtain ⟨⟨q1, q2⟩, q3, q4⟩ := HBd.out i
        have S1 := hidden s1
        have S2 := hidden s2
        have S3 := hidden s3
        clear s1 s2 s3 hx r0 r1 r2 r3 r4 r5
        generalize sT v i = sv at *
        generalize nT v i = nv at *
        generalize tT v i = tv at *
        by_cases hx0 : x < 0
        · go_wp2_with fail
          go_roundw
          case rel => exact ⟨i + 1, by omega, rfl, by rw [S1.out, if_pos hx0, Int.add_zero], by rw [S2.out, if_pos hx0], by rw [S3.out, show decide (x = 3) = false from decide_eq_false (by omega), Bool.or_false], by trivial⟩
          case measure => simp [intOf]; omega
        · have hn0 : ¬ x < 0 := hx0
          rcases tv with _ | _
          · by_cases hx3 : x = 3
            · subst hx3
              go_wp2_with fail
              go_roundw
              case rel => exact ⟨i + 1, by omega, rfl, by rw [S1.out, if_neg (by decide)], by rw [S2.out, if_neg (by decide), Int.add_zero], by rw [S3.out]; rfl, by trivial⟩
              case measure => simp [intOf]; omega
            · have he3 : (x == 3) = false := by simpa using hx3
              go_wp2_with fail
              go_roundw
              case rel => exact ⟨i + 1, by omega, rfl, by rw [S1.out, if_neg hn0], by rw [S2.out, if_neg hn0, Int.add_zero], by rw [S3.out, decide_eq_false hx3]; rfl, by trivial⟩
              case measure => simp [intOf]; omega
          · go_wp2_with fail
            go_roundw
            case rel => exact ⟨i + 1, by omega, rfl, by rw [S1.out, if_neg hn0], by rw [S2.out, if_neg hn0, Int.add_zero], by rw [S3.out]; rfl, by trivial⟩
            case measure => simp [intOf]; omega
      · have hi6 : i = 6 := by omega
        subst hi6
        go_wp2_with fail
        exact bodyPost_ret (results_tmp3 Try.results32 _ _ _) rfl ⟨ret3 HE.out, b2⟩
end Go.Proofs.Ytmigcbbjejbcgai
