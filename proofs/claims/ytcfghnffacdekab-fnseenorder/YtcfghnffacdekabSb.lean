/-
  How urgent somebody is at a time, and who comes ahead: the specification's and the program's.
-/
import Derived.Test.YtcfghnffacdekabQd
import Derived.Test.YtcfghnffacdekabSa
namespace Go.Proofs.Ytcfghnffacdekab
open Go.RowKit Va
set_option linter.unusedVariables false

set_option maxHeartbeats 400000 in
theorem lmax_any (a b : Int) (w : World) : Calls Try.prog 71 #[.int .i64 a, .int .i64 b] w fun e w' => e = .returned (.int .i64 (max a b)) ∧ w = w' := by
  by_cases h : b < a
  · go_enter Try.func71, Try.ntmps71
    go_wp2
    go_ret
    exact ⟨ret_int (by omega), rfl⟩
  · go_enter Try.func71, Try.ntmps71
    go_wp2
    go_ret
    exact ⟨ret_int (by omega), rfl⟩
theorem mx1 (a b : Int) : max a b = if a < b then b else a := by rw [Int.max_def]; split <;> split <;> omega
theorem now34 (p u s t : Int) (h : u = 3 ∨ u = 4) : nowU ⟨p, u, s⟩ t = max (u - max (t - s) 0 / 60) 2 := by
  unfold nowU
  rw [if_neg (show ¬ u = 5 by omega), if_pos h]
theorem wOk_bds {x : Wt} (h : wOk x = true) : (0 ≤ x.person ∧ x.person ≤ 999) ∧ (1 ≤ x.urg ∧ x.urg ≤ 5) ∧ (0 ≤ x.since ∧ x.since ≤ 10000000) := by
  unfold wOk at h
  rw [Bool.and_eq_true, Bool.and_eq_true, prs_iff, rng_iff, tmv_iff] at h
  exact ⟨h.1, h.2.1, h.2.2⟩

set_option maxRecDepth 20000 in
set_option maxHeartbeats 2000000 in
theorem snow_any (x : Wt) (t : Int) (hx : wOk x = true) (ht : 0 ≤ t ∧ t ≤ 10000000) (w : World) : Calls Try.prog 68 #[aW x, .int .i64 t] w fun e w' => e = .returned (.int .i64 (nowU x t)) ∧ Below w.heap.size w w' := by
  obtain ⟨-, ⟨u1, u2⟩, s1, s2⟩ := wOk_bds hx
  obtain ⟨t1, t2⟩ := ht
  obtain ⟨p, u, s⟩ := x
  simp only at u1 u2 s1 s2
  have HE := hidden (show nowU ⟨p, u, s⟩ t = if u = 5 then 2 else if u = 3 ∨ u = 4 then max (u - max (t - s) 0 / 60) 2 else u from rfl)
  have m1 := lmax_any 0 (t - s)
  have m2 := lmax_any 2 (u - max 0 (t - s) / 60)
  have hq : 0 ≤ max 0 (t - s) / 60 ∧ max 0 (t - s) / 60 ≤ 10000000 := by omega
  obtain ⟨q1, q2⟩ := hq
  have hq3 : 0 ≤ max 0 (t - s) := by omega
  have hq4 : max 0 (t - s) ≤ 10000000 := by omega
  unfold aW
  simp only
  rcases (show u = 1 ∨ u = 2 ∨ u = 3 ∨ u = 4 ∨ u = 5 by omega) with rfl | rfl | rfl | rfl | rfl
  · go_enter Try.func68, Try.ntmps68
    go_wp2_with fail
    go_ret
    exact ⟨ret_int (by rw [HE.out]; rfl), by repeat (first | exact Below.refl _ _ | assumption | refine st_drew ?_ | refine st_drewN ?_ _ | refine Below.setCell ?_ (by first | omega | (simp; done) | (simp; omega)) _ | refine Below.alloc ?_ (by first | omega | (simp; done) | (simp; omega)) _)⟩
  · go_enter Try.func68, Try.ntmps68
    go_wp2_with fail
    go_ret
    exact ⟨ret_int (by rw [HE.out]; rfl), by repeat (first | exact Below.refl _ _ | assumption | refine st_drew ?_ | refine st_drewN ?_ _ | refine Below.setCell ?_ (by first | omega | (simp; done) | (simp; omega)) _ | refine Below.alloc ?_ (by first | omega | (simp; done) | (simp; omega)) _)⟩
  · generalize hm : max 0 (t - s) = mm at *
    have HMM := hidden hm
    clear hm
    go_enter Try.func68, Try.ntmps68
    have k1 := fun W => (m1 W).mono (R' := fun e w' => e = .returned (.int .i64 _) ∧ w' = W) (fun _ _ hh => ⟨hh.1, hh.2.symm⟩)
    have k2 := fun W => (m2 W).mono (R' := fun e w' => e = .returned (.int .i64 _) ∧ w' = W) (fun _ _ hh => ⟨hh.1, hh.2.symm⟩)
    go_wp2_with fail
    go_quiet ((go_at_call 71; with_reducible (first | exact Calls.quiet_of_same (k1 _) | exact Calls.quiet_of_same (k2 _))))
    go_wp2_with fail
    go_ret
    exact ⟨ret_int (by rw [now34 _ _ _ _ (by omega), Int.max_comm (t - s) 0, HMM.out, Int.max_comm]), by repeat (first | exact Below.refl _ _ | assumption | refine st_drew ?_ | refine st_drewN ?_ _ | refine Below.setCell ?_ (by first | omega | (simp; done) | (simp; omega)) _ | refine Below.alloc ?_ (by first | omega | (simp; done) | (simp; omega)) _)⟩
  · generalize hm : max 0 (t - s) = mm at *
    have HMM := hidden hm
    clear hm
    go_enter Try.func68, Try.ntmps68
    have k1 := fun W => (m1 W).mono (R' := fun e w' => e = .returned (.int .i64 _) ∧ w' = W) (fun _ _ hh => ⟨hh.1, hh.2.symm⟩)
    have k2 := fun W => (m2 W).mono (R' := fun e w' => e = .returned (.int .i64 _) ∧ w' = W) (fun _ _ hh => ⟨hh.1, hh.2.symm⟩)
    go_wp2_with fail
    go_quiet ((go_at_call 71; with_reducible (first | exact Calls.quiet_of_same (k1 _) | exact Calls.quiet_of_same (k2 _))))
    go_wp2_with fail
    go_ret
    exact ⟨ret_int (by rw [now34 _ _ _ _ (by omega), Int.max_comm (t - s) 0, HMM.out, Int.max_comm]), by repeat (first | exact Below.refl _ _ | assumption | refine st_drew ?_ | refine st_drewN ?_ _ | refine Below.setCell ?_ (by first | omega | (simp; done) | (simp; omega)) _ | refine Below.alloc ?_ (by first | omega | (simp; done) | (simp; omega)) _)⟩
  · go_enter Try.func68, Try.ntmps68
    go_wp2_with fail
    go_ret
    exact ⟨ret_int (by rw [HE.out]; rfl), by repeat (first | exact Below.refl _ _ | assumption | refine st_drew ?_ | refine st_drewN ?_ _ | refine Below.setCell ?_ (by first | omega | (simp; done) | (simp; omega)) _ | refine Below.alloc ?_ (by first | omega | (simp; done) | (simp; omega)) _)⟩

set_option maxRecDepth 20000 in
set_option maxHeartbeats 2000000 in
theorem iurgat_any (x : Wt) (t : Int) (hx : wOk x = true) (ht : 0 ≤ t ∧ t ≤ 10000000) (w : World) : Calls Try.prog 111 #[aW x, .int .i64 t] w fun e w' => e = .returned (.int .i64 (nowU x t)) ∧ Below w.heap.size w w' := by
  obtain ⟨-, ⟨u1, u2⟩, s1, s2⟩ := wOk_bds hx
  obtain ⟨t1, t2⟩ := ht
  obtain ⟨p, u, s⟩ := x
  simp only at u1 u2 s1 s2
  have HE := hidden (show nowU ⟨p, u, s⟩ t = if u = 5 then 2 else if u = 3 ∨ u = 4 then max (u - max (t - s) 0 / 60) 2 else u from rfl)
  unfold aW
  simp only
  rcases (show u = 1 ∨ u = 2 ∨ u = 3 ∨ u = 4 ∨ u = 5 by omega) with rfl | rfl | rfl | rfl | rfl
  · go_enter Try.func111, Try.ntmps111
    go_wp2_with fail
    go_ret
    exact ⟨ret_int (by rw [HE.out]; rfl), by repeat (first | exact Below.refl _ _ | assumption | refine st_drew ?_ | refine st_drewN ?_ _ | refine Below.setCell ?_ (by first | omega | (simp; done) | (simp; omega)) _ | refine Below.alloc ?_ (by first | omega | (simp; done) | (simp; omega)) _)⟩
  · go_enter Try.func111, Try.ntmps111
    go_wp2_with fail
    go_ret
    exact ⟨ret_int (by rw [HE.out]; rfl), by repeat (first | exact Below.refl _ _ | assumption | refine st_drew ?_ | refine st_drewN ?_ _ | refine Below.setCell ?_ (by first | omega | (simp; done) | (simp; omega)) _ | refine Below.alloc ?_ (by first | omega | (simp; done) | (simp; omega)) _)⟩
  · have HN := hidden (now34 p 3 s t (by omega))
    by_cases h1 : t - s < 0
    · go_enter Try.func111, Try.ntmps111
      go_wp2_with fail
      go_ret
      exact ⟨ret_int (by rw [HN.out, show max (t - s) 0 = 0 by omega]; rfl), by repeat (first | exact Below.refl _ _ | assumption | refine st_drew ?_ | refine st_drewN ?_ _ | refine Below.setCell ?_ (by first | omega | (simp; done) | (simp; omega)) _ | refine Below.alloc ?_ (by first | omega | (simp; done) | (simp; omega)) _)⟩
    · obtain ⟨d, hd⟩ : ∃ d, (t - s) / 60 = d := ⟨_, rfl⟩
      have hd2 : 0 ≤ d ∧ d ≤ 10000000 := by omega
      obtain ⟨d0, d1⟩ := hd2
      have HDD := hidden hd
      by_cases h2 : 3 - (t - s) / 60 < 2
      · go_enter Try.func111, Try.ntmps111
        go_wp2_with fail
        go_ret
        exact ⟨ret_int (by rw [HN.out, show max (t - s) 0 = t - s by omega]; have := HDD.out; omega), by repeat (first | exact Below.refl _ _ | assumption | refine st_drew ?_ | refine st_drewN ?_ _ | refine Below.setCell ?_ (by first | omega | (simp; done) | (simp; omega)) _ | refine Below.alloc ?_ (by first | omega | (simp; done) | (simp; omega)) _)⟩
      · go_enter Try.func111, Try.ntmps111
        go_wp2_with fail
        go_ret
        exact ⟨ret_int (by rw [HN.out, show max (t - s) 0 = t - s by omega]; have := HDD.out; omega), by repeat (first | exact Below.refl _ _ | assumption | refine st_drew ?_ | refine st_drewN ?_ _ | refine Below.setCell ?_ (by first | omega | (simp; done) | (simp; omega)) _ | refine Below.alloc ?_ (by first | omega | (simp; done) | (simp; omega)) _)⟩
  · have HN := hidden (now34 p 4 s t (by omega))
    by_cases h1 : t - s < 0
    · go_enter Try.func111, Try.ntmps111
      go_wp2_with fail
      go_ret
      exact ⟨ret_int (by rw [HN.out, show max (t - s) 0 = 0 by omega]; rfl), by repeat (first | exact Below.refl _ _ | assumption | refine st_drew ?_ | refine st_drewN ?_ _ | refine Below.setCell ?_ (by first | omega | (simp; done) | (simp; omega)) _ | refine Below.alloc ?_ (by first | omega | (simp; done) | (simp; omega)) _)⟩
    · obtain ⟨d, hd⟩ : ∃ d, (t - s) / 60 = d := ⟨_, rfl⟩
      have hd2 : 0 ≤ d ∧ d ≤ 10000000 := by omega
      obtain ⟨d0, d1⟩ := hd2
      have HDD := hidden hd
      by_cases h2 : 4 - (t - s) / 60 < 2
      · go_enter Try.func111, Try.ntmps111
        go_wp2_with fail
        go_ret
        exact ⟨ret_int (by rw [HN.out, show max (t - s) 0 = t - s by omega]; have := HDD.out; omega), by repeat (first | exact Below.refl _ _ | assumption | refine st_drew ?_ | refine st_drewN ?_ _ | refine Below.setCell ?_ (by first | omega | (simp; done) | (simp; omega)) _ | refine Below.alloc ?_ (by first | omega | (simp; done) | (simp; omega)) _)⟩
      · go_enter Try.func111, Try.ntmps111
        go_wp2_with fail
        go_ret
        exact ⟨ret_int (by rw [HN.out, show max (t - s) 0 = t - s by omega]; have := HDD.out; omega), by repeat (first | exact Below.refl _ _ | assumption | refine st_drew ?_ | refine st_drewN ?_ _ | refine Below.setCell ?_ (by first | omega | (simp; done) | (simp; omega)) _ | refine Below.alloc ?_ (by first | omega | (simp; done) | (simp; omega)) _)⟩
  · go_enter Try.func111, Try.ntmps111
    go_wp2_with fail
    go_ret
    exact ⟨ret_int (by rw [HE.out]; rfl), by repeat (first | exact Below.refl _ _ | assumption | refine st_drew ?_ | refine st_drewN ?_ _ | refine Below.setCell ?_ (by first | omega | (simp; done) | (simp; omega)) _ | refine Below.alloc ?_ (by first | omega | (simp; done) | (simp; omega)) _)⟩

set_option maxHeartbeats 400000 in
theorem above_any (k : Nat) (hk : 0 < k) (hk2 : k ≤ 1000000) (w : World) : Calls Try.prog 112 #[.int .i64 k] w fun e w' => e = .returned (.int .i64 (Vh.par k : Nat)) ∧ w = w' := by
  have h1 : (0 : Int) ≤ (k : Int) - 1 := by omega
  go_enter Try.func112, Try.ntmps112
  go_wp2
  go_ret
  exact ⟨ret_int (by unfold Vh.par; omega), rfl⟩
end Go.Proofs.Ytcfghnffacdekab
