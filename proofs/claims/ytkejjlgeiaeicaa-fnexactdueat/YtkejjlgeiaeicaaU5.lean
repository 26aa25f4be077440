/-
  Orders and doses: small functions of the program; the place of an order.
-/
import Derived.Test.YtkejjlgeiaeicaaUp
import Derived.Test.YtkejjlgeiaeicaaU1
import Derived.Test.YtkejjlgeiaeicaaGy
namespace Go.Proofs.Ytkejjlgeiaeicaa
open Go.RowKit Va Uo
set_option linter.all false


set_option maxHeartbeats 400000 in
theorem iperO_any (x : Int) (w : World) : Calls Try.prog 65 #[.int .i64 x] w fun e w' => e = .returned (.bool (rng x 0 999)) ∧ w = w' := by
  unfold rng
  go_enter Try.func65, Try.ntmps65
  go_wp2
  all_goals (go_ret; exact ⟨ret_boolU (by first | (simp; done) | (simp; omega) | (simp_all; done) | (simp_all; omega) | (rw [Bool.eq_iff_iff]; simp; omega) | (rw [Bool.eq_iff_iff]; simp_all; omega)), rfl⟩)

set_option maxHeartbeats 400000 in
theorem iordN_any (x : Int) (w : World) : Calls Try.prog 66 #[.int .i64 x] w fun e w' => e = .returned (.bool (rng x 1 100000)) ∧ w = w' := by
  unfold rng
  go_enter Try.func66, Try.ntmps66
  go_wp2
  all_goals (go_ret; exact ⟨ret_boolU (by first | (simp; done) | (simp; omega) | (simp_all; done) | (simp_all; omega) | (rw [Bool.eq_iff_iff]; simp; omega) | (rw [Bool.eq_iff_iff]; simp_all; omega)), rfl⟩)

set_option maxHeartbeats 400000 in
theorem idrugO_any (x : Int) (w : World) : Calls Try.prog 67 #[.int .i64 x] w fun e w' => e = .returned (.bool (rng x 1 1000)) ∧ w = w' := by
  unfold rng
  go_enter Try.func67, Try.ntmps67
  go_wp2
  all_goals (go_ret; exact ⟨ret_boolU (by first | (simp; done) | (simp; omega) | (simp_all; done) | (simp_all; omega) | (rw [Bool.eq_iff_iff]; simp; omega) | (rw [Bool.eq_iff_iff]; simp_all; omega)), rfl⟩)

set_option maxHeartbeats 400000 in
theorem imicO_any (x : Int) (w : World) : Calls Try.prog 68 #[.int .i64 x] w fun e w' => e = .returned (.bool (rng x 1 1000000000)) ∧ w = w' := by
  unfold rng
  go_enter Try.func68, Try.ntmps68
  go_wp2
  all_goals (go_ret; exact ⟨ret_boolU (by first | (simp; done) | (simp; omega) | (simp_all; done) | (simp_all; omega) | (rw [Bool.eq_iff_iff]; simp; omega) | (rw [Bool.eq_iff_iff]; simp_all; omega)), rfl⟩)

set_option maxHeartbeats 400000 in
theorem itimO_any (x : Int) (w : World) : Calls Try.prog 42 #[.int .i64 x] w fun e w' => e = .returned (.bool (rng x 0 10000000)) ∧ w = w' := by
  unfold rng
  go_enter Try.func42, Try.ntmps42
  go_wp2
  all_goals (go_ret; exact ⟨ret_boolU (by first | (simp; done) | (simp; omega) | (simp_all; done) | (simp_all; omega) | (rw [Bool.eq_iff_iff]; simp; omega) | (rw [Bool.eq_iff_iff]; simp_all; omega)), rfl⟩)

set_option maxRecDepth 20000 in
set_option maxHeartbeats 4000000 in
theorem iod_any (x : Od) (w : World) : Calls Try.prog 56 #[aOd x] w fun e w' => e = .returned (.bool (odB x)) ∧ Below w.heap.size w w' := by
  obtain ⟨id, p, d, n, f, e, c, s, two⟩ := x
  have k1 := iordN_any id
  have k2 := iperO_any p
  have k3 := idrugO_any d
  have k4 := imicO_any n
  have k5 := itimO_any f
  have HV : Hid (odB ⟨id, p, d, n, f, e, c, s, two⟩ = ((rng id 1 100000 && (rng p 0 999 && (rng d 1 1000 && rng n 1 1000000000))) && ((rng f 0 10000000 && (rng e 1 1440 && rng c 1 200)) && rng s 1 4))) := by
    rw [Hid]
    unfold odB perB timB
    dsimp only
    generalize rng id 1 100000 = t1
    generalize rng p 0 999 = t2
    generalize rng d 1 1000 = t3
    generalize rng n 1 1000000000 = t4
    generalize rng f 0 10000000 = t5
    generalize rng e 1 1440 = t6
    generalize rng c 1 200 = t7
    generalize rng s 1 4 = t8
    revert t1 t2 t3 t4 t5 t6 t7 t8
    decide
  have HE : Hid (rng e 1 1440 = (decide (1 ≤ e) && decide (e ≤ 1440))) := rfl
  have HC : Hid (rng c 1 200 = (decide (1 ≤ c) && decide (c ≤ 200))) := rfl
  have HS : Hid (rng s 1 4 = (decide (1 ≤ s) && decide (s ≤ 4))) := rfl
  unfold aOd
  dsimp only
  generalize rng id 1 100000 = t1 at *
  generalize rng p 0 999 = t2 at *
  generalize rng d 1 1000 = t3 at *
  generalize rng n 1 1000000000 = t4 at *
  generalize rng f 0 10000000 = t5 at *
  generalize rng e 1 1440 = t6 at *
  generalize rng c 1 200 = t7 at *
  generalize rng s 1 4 = t8 at *
  generalize odB ⟨id, p, d, n, f, e, c, s, two⟩ = R at *
  have hP := PB.new w #[.int .i64 id, .int .i64 p, .int .i64 d, .int .i64 n, .int .i64 f, .int .i64 e, .int .i64 c, .int .i64 s, .bool two] 62
  have hb0 : Below w.heap.size w (w.alloc (.cells #[.int .i64 id, .int .i64 p, .int .i64 d, .int .i64 n, .int .i64 f, .int .i64 e, .int .i64 c, .int .i64 s, .bool two] 62)) := (Below.refl _ _).alloc (Nat.le_refl _) _
  go_enter Try.func56, Try.ntmps56
  go_upto_region 1 with fail
  generalize w.alloc (.cells #[.int .i64 id, .int .i64 p, .int .i64 d, .int .i64 n, .int .i64 f, .int .i64 e, .int .i64 c, .int .i64 s, .bool two] 62) = wA at *
  generalize hBB : w.heap.size = B at *
  generalize Value.agg #[.int .i64 id, .int .i64 p, .int .i64 d, .int .i64 n, .int .i64 f, .int .i64 e, .int .i64 c, .int .i64 s, .bool two] = av
  obtain ⟨c0, c1, c2, c3, c4, c5, c6, c7, c8⟩ := hP.nine
  clear hP
  go_cut [3] (fun tv wx => tv = .bool (t1 && (t2 && (t3 && t4))) ∧ wx = wA)
  case first =>
    clear HV HE HC HS k5 hb0
    rcases t1 with _ | _
    · go_wp2_with (with_reducible (first | refine (k1 _).mono ?_ | refine (k2 _).mono ?_ | refine (k3 _).mono ?_ | refine (k4 _).mono ?_); rintro e w1 ⟨rfl, rfl⟩)
      go_meet
      case rel => exact ⟨by first | rfl | (simp; done) | (simp; omega), rfl⟩
    rcases t2 with _ | _
    · go_wp2_with (with_reducible (first | refine (k1 _).mono ?_ | refine (k2 _).mono ?_ | refine (k3 _).mono ?_ | refine (k4 _).mono ?_); rintro e w1 ⟨rfl, rfl⟩)
      go_meet
      case rel => exact ⟨by first | rfl | (simp; done) | (simp; omega), rfl⟩
    rcases t3 with _ | _
    · go_wp2_with (with_reducible (first | refine (k1 _).mono ?_ | refine (k2 _).mono ?_ | refine (k3 _).mono ?_ | refine (k4 _).mono ?_); rintro e w1 ⟨rfl, rfl⟩)
      go_meet
      case rel => exact ⟨by first | rfl | (simp; done) | (simp; omega), rfl⟩
    go_wp2_with (with_reducible (first | refine (k1 _).mono ?_ | refine (k2 _).mono ?_ | refine (k3 _).mono ?_ | refine (k4 _).mono ?_); rintro e w1 ⟨rfl, rfl⟩)
    go_meet
    case rel => exact ⟨by simp, rfl⟩
  case rest =>
    obtain ⟨rfl, hwx⟩ := hcut
    have hwx' := hwx.symm
    clear hwx
    subst hwx'
    clear k1 k2 k3 k4
    generalize (t1 && (t2 && (t3 && t4))) = u1 at *
    go_upto_region 2 with fail
    go_cut [4] (fun tv wx => tv = .bool (t5 && (t6 && t7)) ∧ wx = wA)
    case first =>
      clear HV HS hb0
      rcases t5 with _ | _
      · clear HE HC
        go_wp2_with (with_reducible (refine (k5 _).mono ?_); rintro e w1 ⟨rfl, rfl⟩)
        go_meet
        case rel => exact ⟨by first | rfl | (simp; done) | (simp; omega), rfl⟩
      by_cases e1 : 1 ≤ e
      · by_cases e2 : e ≤ 1440
        · obtain rfl : t6 = true := by rw [HE.out]; simp [e1, e2]
          by_cases g1 : 1 ≤ c
          · by_cases g2 : c ≤ 200
            · obtain rfl : t7 = true := by rw [HC.out]; simp [g1, g2]
              clear HE HC
              go_wp2_with (with_reducible (refine (k5 _).mono ?_); rintro e w1 ⟨rfl, rfl⟩)
              go_meet
              case rel => exact ⟨by first | rfl | (simp; done) | (simp; omega), rfl⟩
            · obtain rfl : t7 = false := by rw [HC.out]; simp [g1, g2]
              clear HE HC
              go_wp2_with (with_reducible (refine (k5 _).mono ?_); rintro e w1 ⟨rfl, rfl⟩)
              go_meet
              case rel => exact ⟨by first | rfl | (simp; done) | (simp; omega), rfl⟩
          · obtain rfl : t7 = false := by rw [HC.out]; simp [g1]
            clear HE HC
            go_wp2_with (with_reducible (refine (k5 _).mono ?_); rintro e w1 ⟨rfl, rfl⟩)
            go_meet
            case rel => exact ⟨by first | rfl | (simp; done) | (simp; omega), rfl⟩
        · obtain rfl : t6 = false := by rw [HE.out]; simp [e1, e2]
          clear HE HC
          go_wp2_with (with_reducible (refine (k5 _).mono ?_); rintro e w1 ⟨rfl, rfl⟩)
          go_meet
          case rel => exact ⟨by first | rfl | (simp; done) | (simp; omega), rfl⟩
      · obtain rfl : t6 = false := by rw [HE.out]; simp [e1]
        clear HE HC
        go_wp2_with (with_reducible (refine (k5 _).mono ?_); rintro e w1 ⟨rfl, rfl⟩)
        go_meet
        case rel => exact ⟨by first | rfl | (simp; done) | (simp; omega), rfl⟩
    case rest =>
      obtain ⟨rfl, hwx⟩ := hcut
      have hwx' := hwx.symm
      clear hwx
      subst hwx'
      clear k5 HE HC
      generalize (t5 && (t6 && t7)) = u2 at *
      rcases u1 with _ | _
      · clear HS
        go_wp2_with fail
        go_ret
        exact ⟨ret_boolU (by rw [HV.out]; rfl), by first | exact hb0 | (rw [hBB]; exact hb0)⟩
      rcases u2 with _ | _
      · clear HS
        go_wp2_with fail
        go_ret
        exact ⟨ret_boolU (by rw [HV.out]; rfl), by first | exact hb0 | (rw [hBB]; exact hb0)⟩
      by_cases s1 : 1 ≤ s
      · by_cases s2 : s ≤ 4
        · obtain rfl : t8 = true := by rw [HS.out]; simp [s1, s2]
          clear HS
          go_wp2_with fail
          go_ret
          exact ⟨ret_boolU (by rw [HV.out]; rfl), by first | exact hb0 | (rw [hBB]; exact hb0)⟩
        · obtain rfl : t8 = false := by rw [HS.out]; simp [s1, s2]
          clear HS
          go_wp2_with fail
          go_ret
          exact ⟨ret_boolU (by rw [HV.out]; rfl), by first | exact hb0 | (rw [hBB]; exact hb0)⟩
      · obtain rfl : t8 = false := by rw [HS.out]; simp [s1]
        clear HS
        go_wp2_with fail
        go_ret
        exact ⟨ret_boolU (by rw [HV.out]; rfl), by first | exact hb0 | (rw [hBB]; exact hb0)⟩

set_option maxRecDepth 20000 in
set_option maxHeartbeats 4000000 in
theorem itakes_any (x : Od) (b a : Int) (w : World) : Calls Try.prog 71 #[aOd x, .int .i64 b, .int .i64 a] w fun e w' => e = .returned (.bool (takesB x.two b a)) ∧ Below w.heap.size w w' := by
  obtain ⟨id, p, d, n, f, e, c, s, two⟩ := x
  have k1 := iperO_any b
  have k2 := iperO_any a
  have hp1 : perB b = rng b 0 999 := rfl
  have hp2 : perB a = rng a 0 999 := rfl
  unfold takesB aOd
  rw [hp1, hp2]
  clear hp1 hp2
  dsimp only
  generalize rng b 0 999 = t1 at *
  generalize rng a 0 999 = t2 at *
  have hb0 : Below w.heap.size w (w.alloc (.cells #[.int .i64 id, .int .i64 p, .int .i64 d, .int .i64 n, .int .i64 f, .int .i64 e, .int .i64 c, .int .i64 s, .bool two] 62)) := (Below.refl _ _).alloc (Nat.le_refl _) _
  rcases two with _ | _
  · rcases t1 with _ | _
    · go_enter Try.func71, Try.ntmps71
      go_wp2_with (with_reducible (first | refine (k1 _).mono ?_ | refine (k2 _).mono ?_); rintro e w1 ⟨rfl, rfl⟩)
      go_ret
      exact ⟨rfl, hb0⟩
    · by_cases ha : a = -1
      · subst ha
        go_enter Try.func71, Try.ntmps71
        go_wp2_with (with_reducible (first | refine (k1 _).mono ?_ | refine (k2 _).mono ?_); rintro e w1 ⟨rfl, rfl⟩)
        go_ret
        exact ⟨rfl, hb0⟩
      · go_enter Try.func71, Try.ntmps71
        go_wp2_with (with_reducible (first | refine (k1 _).mono ?_ | refine (k2 _).mono ?_); rintro e w1 ⟨rfl, rfl⟩)
        go_ret
        exact ⟨ret_boolU (by simp [ha]), hb0⟩
  · rcases t1 with _ | _
    · go_enter Try.func71, Try.ntmps71
      go_wp2_with (with_reducible (first | refine (k1 _).mono ?_ | refine (k2 _).mono ?_); rintro e w1 ⟨rfl, rfl⟩)
      go_ret
      exact ⟨rfl, hb0⟩
    by_cases ha : b = a
    · subst ha
      rcases t2 with _ | _
      · go_enter Try.func71, Try.ntmps71
        go_wp2_with (with_reducible (first | refine (k1 _).mono ?_ | refine (k2 _).mono ?_); rintro e w1 ⟨rfl, rfl⟩)
        all_goals (go_ret; exact ⟨ret_boolU (by simp), hb0⟩)
      · go_enter Try.func71, Try.ntmps71
        go_wp2_with (with_reducible (first | refine (k1 _).mono ?_ | refine (k2 _).mono ?_); rintro e w1 ⟨rfl, rfl⟩)
        all_goals (go_ret; exact ⟨ret_boolU (by simp), hb0⟩)
    · rcases t2 with _ | _
      · go_enter Try.func71, Try.ntmps71
        go_wp2_with (with_reducible (first | refine (k1 _).mono ?_ | refine (k2 _).mono ?_); rintro e w1 ⟨rfl, rfl⟩)
        all_goals (go_ret; exact ⟨ret_boolU (by simp [ha]), hb0⟩)
      · go_enter Try.func71, Try.ntmps71
        go_wp2_with (with_reducible (first | refine (k1 _).mono ?_ | refine (k2 _).mono ?_); rintro e w1 ⟨rfl, rfl⟩)
        all_goals (go_ret; exact ⟨ret_boolU (by simp [ha]), hb0⟩)

set_option maxHeartbeats 400000 in
theorem inan_any (a : Int) (w : World) : Calls Try.prog 64 #[.int .i64 a] w fun e w' => e = .returned (.bool false) ∧ w = w' := by
  go_enter Try.func64, Try.ntmps64
  go_wp2
  go_ret
  exact ⟨ret_boolU (by simp), rfl⟩

set_option maxHeartbeats 1000000 in
theorem icmp_any (a b : Int) (w : World) : Calls Try.prog 48 #[.int .i64 a, .int .i64 b] w fun e w' => e = .returned (.int .i64 (if a < b then -1 else if b < a then 1 else 0)) ∧ w = w' := by
  have n1 := inan_any a
  have n2 := inan_any b
  by_cases h1 : a < b
  · rw [if_pos h1]
    go_enter Try.func48, Try.ntmps48
    go_wp2_with (with_reducible (first | refine (n1 _).mono ?_ | refine (n2 _).mono ?_); rintro e w1 ⟨rfl, rfl⟩)
    go_ret
    exact ⟨rfl, rfl⟩
  · rw [if_neg h1]
    by_cases h2 : b < a
    · rw [if_pos h2]
      go_enter Try.func48, Try.ntmps48
      go_wp2_with (with_reducible (first | refine (n1 _).mono ?_ | refine (n2 _).mono ?_); rintro e w1 ⟨rfl, rfl⟩)
      go_ret
      exact ⟨rfl, rfl⟩
    · rw [if_neg h2]
      go_enter Try.func48, Try.ntmps48
      go_wp2_with (with_reducible (first | refine (n1 _).mono ?_ | refine (n2 _).mono ?_); rintro e w1 ⟨rfl, rfl⟩)
      go_ret
      exact ⟨rfl, rfl⟩
end Go.Proofs.Ytkejjlgeiaeicaa
