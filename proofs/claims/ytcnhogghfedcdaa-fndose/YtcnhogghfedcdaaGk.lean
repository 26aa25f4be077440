/-
  Doses: the program and the specification.
-/
import Derived.Test.YtcnhogghfedcdaaGf
import Derived.Test.YtcnhogghfedcdaaGx
import Derived.Lib.MinMax
namespace Go.Proofs.Ytcnhogghfedcdaa
open Go.RowKit Va Ga
set_option linter.unusedVariables false

set_option maxHeartbeats 1000000 in
theorem smin_any (a b : Int) (w : World) : Calls Try.prog 35 #[.int .i64 a, .int .i64 b] w fun e w' => e = .returned (.int .i64 (min a b)) ∧ w = w' := by
  go_enter Try.func35, Try.ntmps35
  go_wp2
  all_goals go_ret
  all_goals refine ⟨?_, rfl⟩
  all_goals first | (rw [Int.min_eq_left (by omega)]; rfl) | (rw [Int.min_eq_right (by omega)]; rfl)

set_option maxRecDepth 20000 in
set_option maxHeartbeats 4000000 in
theorem sdose_any (x : Dg) (ta : Option Addr) (n tc : Nat) (g k : Int) (w : World) (h : IRw w (.slice ta n tc) x.cls) (hn : x.cls.length ≤ 1048576) :
    Calls Try.prog 12 #[aD x (.slice ta n tc), .int .i64 g, .int .i64 k] w fun e w' => e = .returned (.tuple #[.int .i64 (doseFor x g k).1, .bool (doseFor x g k).2]) ∧ Below w.heap.size w w' := by
  have k1 := fun W hW => sdrugok_any x ta n tc W hW hn
  have k2 := lin_any g 1 500000
  have k3 := lin_any k 0 100
  have k4 := smin_any
  have hb0 : Below w.heap.size w (w.alloc (.cells #[.int .i64 x.id, .slice ta n tc, .int .i64 x.pk, .int .i64 x.most, .int .i64 x.day, .int .i64 x.kid] 26)) := (Below.refl _ _).alloc (Nat.le_refl _) _
  have HP := hidden (PB.new w #[.int .i64 x.id, .slice ta n tc, .int .i64 x.pk, .int .i64 x.most, .int .i64 x.day, .int .i64 x.kid] 26)
  have HH := hidden (h.below hb0)
  have HB := hidden hb0
  clear h hb0
  have HD : Hid (drugB x = true → (1 ≤ x.pk ∧ x.pk ≤ 1000000000) ∧ (1 ≤ x.most ∧ x.most ≤ 1000000000) ∧ (0 ≤ x.kid ∧ x.kid ≤ 100)) := fun hh => by
    simp only [drugB, headB, numB, Bool.and_eq_true, rng_iff] at hh
    exact ⟨hh.1.2.2.1, hh.1.2.2.2.1, hh.1.2.2.2.2.2⟩
  have HV : Hid (doseFor x g k = if drugB x = true ∧ rng g 1 500000 = true ∧ rng k 0 100 = true then (dose x g k, decide (0 < dose x g k)) else (0, false)) := rfl
  unfold aD at *
  have HG : Hid (rng g 1 500000 = true ↔ 1 ≤ g ∧ g ≤ 500000) := rng_iff
  have HK : Hid (rng k 0 100 = true ↔ 0 ≤ k ∧ k ≤ 100) := rng_iff
  generalize drugB x = t1 at *
  generalize doseFor x g k = R at *
  rcases t1 with _ | _
  · have HR : Hid (R = (0, false)) := HV.out
    clear HV HG HK
    go_enter Try.func12, Try.ntmps12
    go_upto_region 1 with fail
    generalize w.alloc (.cells #[.int .i64 x.id, .slice ta n tc, .int .i64 x.pk, .int .i64 x.most, .int .i64 x.day, .int .i64 x.kid] 26) = wA at *
    obtain ⟨c0, c1, c2, c3, c4, c5⟩ := HP.out.six
    go_wp2_with (first | (go_at_call 25; refine (k1 _ HH.out).mono ?_; rintro e w1 ⟨rfl, hb1⟩; have bA := onto HB.out hb1; obtain ⟨c0, c1, c2, c3, c4, c5⟩ := (HP.out.below hb1).six; clear hb1) | (with_reducible (first | refine (k2 _).mono ?_ | refine (k3 _).mono ?_ | refine (k4 _ _ _).mono ?_); rintro e w2 ⟨rfl, rfl⟩) | fail)
    all_goals go_ret2
    all_goals exact ⟨by rw [HR.out]; rfl, by first | exact bA | assumption⟩
  obtain ⟨⟨p0, p1⟩, ⟨m0, m1⟩, ⟨d0, d1⟩⟩ := HD.out rfl
  clear HD
  cases hg : rng g 1 500000 with
  | false =>
    rw [hg] at k2 HV
    have HR : Hid (R = (0, false)) := HV.out
    clear HV HG HK hg
    go_enter Try.func12, Try.ntmps12
    go_upto_region 1 with fail
    generalize w.alloc (.cells #[.int .i64 x.id, .slice ta n tc, .int .i64 x.pk, .int .i64 x.most, .int .i64 x.day, .int .i64 x.kid] 26) = wA at *
    obtain ⟨c0, c1, c2, c3, c4, c5⟩ := HP.out.six
    go_wp2_with (first | (go_at_call 25; refine (k1 _ HH.out).mono ?_; rintro e w1 ⟨rfl, hb1⟩; have bA := onto HB.out hb1; obtain ⟨c0, c1, c2, c3, c4, c5⟩ := (HP.out.below hb1).six; clear hb1) | (with_reducible (first | refine (k2 _).mono ?_ | refine (k3 _).mono ?_ | refine (k4 _ _ _).mono ?_); rintro e w2 ⟨rfl, rfl⟩) | fail)
    all_goals go_ret2
    all_goals exact ⟨by rw [HR.out]; rfl, by first | exact bA | assumption⟩
  | true =>
  rw [hg] at k2
  cases hk : rng k 0 100 with
  | false =>
    rw [hk] at k3 HV
    have HR : Hid (R = (0, false)) := HV.out.trans (if_neg (fun hh => absurd hh.2.2 (by simp)))
    clear HV HG HK hg hk
    go_enter Try.func12, Try.ntmps12
    go_upto_region 1 with fail
    generalize w.alloc (.cells #[.int .i64 x.id, .slice ta n tc, .int .i64 x.pk, .int .i64 x.most, .int .i64 x.day, .int .i64 x.kid] 26) = wA at *
    obtain ⟨c0, c1, c2, c3, c4, c5⟩ := HP.out.six
    go_wp2_with (first | (go_at_call 25; refine (k1 _ HH.out).mono ?_; rintro e w1 ⟨rfl, hb1⟩; have bA := onto HB.out hb1; obtain ⟨c0, c1, c2, c3, c4, c5⟩ := (HP.out.below hb1).six; clear hb1) | (with_reducible (first | refine (k2 _).mono ?_ | refine (k3 _).mono ?_ | refine (k4 _ _ _).mono ?_); rintro e w2 ⟨rfl, rfl⟩) | fail)
    all_goals go_ret2
    all_goals exact ⟨by rw [HR.out]; rfl, by first | exact bA | assumption⟩
  | true =>
  rw [hk] at k3
  have g0 := HG.out.1 hg
  have kk0 := HK.out.1 hk
  clear hg hk
  have a0 : 0 ≤ x.pk * g := Int.mul_nonneg (by omega) (by omega)
  have a1 : x.pk * g ≤ 1000000000 * 500000 := Int.mul_le_mul p1 (by omega) (by omega) (by omega)
  have q0 : 0 ≤ (x.pk * g).tdiv 1000 := Int.tdiv_nonneg a0 (by omega)
  have q1 : (x.pk * g).tdiv 1000 ≤ x.pk * g := Int.tdiv_le_self _ a0
  have s0 : 0 ≤ min ((x.pk * g).tdiv 1000) x.most ∧ min ((x.pk * g).tdiv 1000) x.most ≤ 1000000000 := by omega
  have e0 : 0 ≤ x.kid * (100 - k) := Int.mul_nonneg d0 (by omega)
  have e1 : x.kid * (100 - k) ≤ 100 * 100 := Int.mul_le_mul d1 (by omega) (by omega) (by omega)
  have u0 : 0 ≤ min ((x.pk * g).tdiv 1000) x.most * (x.kid * (100 - k) + 100 * k) := Int.mul_nonneg s0.1 (by omega)
  have u1 : min ((x.pk * g).tdiv 1000) x.most * (x.kid * (100 - k) + 100 * k) ≤ 1000000000 * 20000 := Int.mul_le_mul s0.2 (by omega) (by omega) (by omega)
  have HR : Hid (R = ((min ((x.pk * g).tdiv 1000) x.most * (x.kid * (100 - k) + 100 * k)).tdiv 10000, decide (0 < (min ((x.pk * g).tdiv 1000) x.most * (x.kid * (100 - k) + 100 * k)).tdiv 10000))) := by
    rw [Hid, HV.out, if_pos ⟨rfl, HG.out.2 (by omega), HK.out.2 (by omega)⟩]; rfl
  clear HV HG HK
  go_enter Try.func12, Try.ntmps12
  go_upto_region 1 with fail
  generalize w.alloc (.cells #[.int .i64 x.id, .slice ta n tc, .int .i64 x.pk, .int .i64 x.most, .int .i64 x.day, .int .i64 x.kid] 26) = wA at *
  obtain ⟨c0, c1, c2, c3, c4, c5⟩ := HP.out.six
  go_wp2_with (first | (go_at_call 25; refine (k1 _ HH.out).mono ?_; rintro e w1 ⟨rfl, hb1⟩; have bA := onto HB.out hb1; obtain ⟨c0, c1, c2, c3, c4, c5⟩ := (HP.out.below hb1).six; clear hb1) | (with_reducible (first | refine (k2 _).mono ?_ | refine (k3 _).mono ?_ | refine (k4 _ _ _).mono ?_); rintro e w2 ⟨rfl, rfl⟩) | fail)
  all_goals go_ret2
  all_goals exact ⟨by rw [HR.out]; first | rfl | (simp only [Int.tdiv_eq_ediv_of_nonneg u0]; rfl), by first | exact bA | assumption⟩

set_option maxRecDepth 20000 in
set_option maxHeartbeats 4000000 in
theorem idose_any (x : Dg) (ta : Option Addr) (n tc : Nat) (g k : Int) (w : World) (h : IRw w (.slice ta n tc) x.cls) (hn : x.cls.length ≤ 1048576) :
    Calls Try.prog 11 #[aD x (.slice ta n tc), .int .i64 g, .int .i64 k] w fun e w' => e = .returned (.tuple #[.int .i64 (doseFor x g k).1, .bool (doseFor x g k).2]) ∧ Below w.heap.size w w' := by
  have k1 := fun W hW => idrugok_any x ta n tc W hW hn
  have k3 := iperc_any k
  have hb0 : Below w.heap.size w (w.alloc (.cells #[.int .i64 x.id, .slice ta n tc, .int .i64 x.pk, .int .i64 x.most, .int .i64 x.day, .int .i64 x.kid] 26)) := (Below.refl _ _).alloc (Nat.le_refl _) _
  have HP := hidden (PB.new w #[.int .i64 x.id, .slice ta n tc, .int .i64 x.pk, .int .i64 x.most, .int .i64 x.day, .int .i64 x.kid] 26)
  have HH := hidden (h.below hb0)
  have HB := hidden hb0
  clear h hb0
  have HD : Hid (drugB x = true → (1 ≤ x.pk ∧ x.pk ≤ 1000000000) ∧ (1 ≤ x.most ∧ x.most ≤ 1000000000) ∧ (0 ≤ x.kid ∧ x.kid ≤ 100)) := fun hh => by
    simp only [drugB, headB, numB, Bool.and_eq_true, rng_iff] at hh
    exact ⟨hh.1.2.2.1, hh.1.2.2.2.1, hh.1.2.2.2.2.2⟩
  have HV : Hid (doseFor x g k = if drugB x = true ∧ rng g 1 500000 = true ∧ rng k 0 100 = true then (dose x g k, decide (0 < dose x g k)) else (0, false)) := rfl
  unfold aD at *
  have HG : Hid (rng g 1 500000 = true ↔ 1 ≤ g ∧ g ≤ 500000) := rng_iff
  have HK : Hid (rng k 0 100 = true ↔ 0 ≤ k ∧ k ≤ 100) := rng_iff
  generalize drugB x = t1 at *
  generalize doseFor x g k = R at *
  rcases t1 with _ | _
  · have HR : Hid (R = (0, false)) := HV.out
    clear HV HG HK
    go_enter Try.func11, Try.ntmps11
    go_upto_region 1 with fail
    generalize w.alloc (.cells #[.int .i64 x.id, .slice ta n tc, .int .i64 x.pk, .int .i64 x.most, .int .i64 x.day, .int .i64 x.kid] 26) = wA at *
    obtain ⟨c0, c1, c2, c3, c4, c5⟩ := HP.out.six
    go_wp2_with (first | (go_at_call 27; refine (k1 _ HH.out).mono ?_; rintro e w1 ⟨rfl, hb1⟩; have bA := onto HB.out hb1; obtain ⟨c0, c1, c2, c3, c4, c5⟩ := (HP.out.below hb1).six; clear hb1) | (with_reducible (first | refine (k3 _).mono ?_); rintro e w2 ⟨rfl, rfl⟩) | fail)
    all_goals go_ret2
    all_goals exact ⟨by rw [HR.out]; rfl, by first | exact bA | assumption⟩
  obtain ⟨⟨p0, p1⟩, ⟨m0, m1⟩, ⟨d0, d1⟩⟩ := HD.out rfl
  clear HD
  by_cases g0 : 1 ≤ g
  case neg =>
    have HR : Hid (R = (0, false)) := by rw [Hid, HV.out, if_neg (fun hh => by have := HG.out.1 hh.2.1; omega)]
    clear HV HG HK
    go_enter Try.func11, Try.ntmps11
    go_upto_region 1 with fail
    generalize w.alloc (.cells #[.int .i64 x.id, .slice ta n tc, .int .i64 x.pk, .int .i64 x.most, .int .i64 x.day, .int .i64 x.kid] 26) = wA at *
    obtain ⟨c0, c1, c2, c3, c4, c5⟩ := HP.out.six
    go_wp2_with (first | (go_at_call 27; refine (k1 _ HH.out).mono ?_; rintro e w1 ⟨rfl, hb1⟩; have bA := onto HB.out hb1; obtain ⟨c0, c1, c2, c3, c4, c5⟩ := (HP.out.below hb1).six; clear hb1) | (with_reducible (first | refine (k3 _).mono ?_); rintro e w2 ⟨rfl, rfl⟩) | fail)
    all_goals go_ret2
    all_goals exact ⟨by rw [HR.out]; rfl, by first | exact bA | assumption⟩
  by_cases g1 : g ≤ 500000
  case neg =>
    have HR : Hid (R = (0, false)) := by rw [Hid, HV.out, if_neg (fun hh => by have := HG.out.1 hh.2.1; omega)]
    clear HV HG HK
    go_enter Try.func11, Try.ntmps11
    go_upto_region 1 with fail
    generalize w.alloc (.cells #[.int .i64 x.id, .slice ta n tc, .int .i64 x.pk, .int .i64 x.most, .int .i64 x.day, .int .i64 x.kid] 26) = wA at *
    obtain ⟨c0, c1, c2, c3, c4, c5⟩ := HP.out.six
    go_wp2_with (first | (go_at_call 27; refine (k1 _ HH.out).mono ?_; rintro e w1 ⟨rfl, hb1⟩; have bA := onto HB.out hb1; obtain ⟨c0, c1, c2, c3, c4, c5⟩ := (HP.out.below hb1).six; clear hb1) | (with_reducible (first | refine (k3 _).mono ?_); rintro e w2 ⟨rfl, rfl⟩) | fail)
    all_goals go_ret2
    all_goals exact ⟨by rw [HR.out]; rfl, by first | exact bA | assumption⟩
  cases hk : rng k 0 100 with
  | false =>
    rw [hk] at k3 HV
    have HR : Hid (R = (0, false)) := HV.out.trans (if_neg (fun hh => absurd hh.2.2 (by simp)))
    clear HV HG HK hk
    go_enter Try.func11, Try.ntmps11
    go_upto_region 1 with fail
    generalize w.alloc (.cells #[.int .i64 x.id, .slice ta n tc, .int .i64 x.pk, .int .i64 x.most, .int .i64 x.day, .int .i64 x.kid] 26) = wA at *
    obtain ⟨c0, c1, c2, c3, c4, c5⟩ := HP.out.six
    go_wp2_with (first | (go_at_call 27; refine (k1 _ HH.out).mono ?_; rintro e w1 ⟨rfl, hb1⟩; have bA := onto HB.out hb1; obtain ⟨c0, c1, c2, c3, c4, c5⟩ := (HP.out.below hb1).six; clear hb1) | (with_reducible (first | refine (k3 _).mono ?_); rintro e w2 ⟨rfl, rfl⟩) | fail)
    all_goals go_ret2
    all_goals exact ⟨by rw [HR.out]; rfl, by first | exact bA | assumption⟩
  | true =>
  rw [hk] at k3
  have kk0 := HK.out.1 hk
  clear hk
  have a0 : 0 ≤ x.pk * g := Int.mul_nonneg (by omega) (by omega)
  have a1 : x.pk * g ≤ 1000000000 * 500000 := Int.mul_le_mul p1 (by omega) (by omega) (by omega)
  have q0 : 0 ≤ (x.pk * g).tdiv 1000 := Int.tdiv_nonneg a0 (by omega)
  have q1 : (x.pk * g).tdiv 1000 ≤ x.pk * g := Int.tdiv_le_self _ a0
  have s0 : 0 ≤ min ((x.pk * g).tdiv 1000) x.most ∧ min ((x.pk * g).tdiv 1000) x.most ≤ 1000000000 := by omega
  have e0 : 0 ≤ x.kid * (100 - k) := Int.mul_nonneg d0 (by omega)
  have e1 : x.kid * (100 - k) ≤ 100 * 100 := Int.mul_le_mul d1 (by omega) (by omega) (by omega)
  have u0 : 0 ≤ min ((x.pk * g).tdiv 1000) x.most * (x.kid * (100 - k) + 100 * k) := Int.mul_nonneg s0.1 (by omega)
  have u1 : min ((x.pk * g).tdiv 1000) x.most * (x.kid * (100 - k) + 100 * k) ≤ 1000000000 * 20000 := Int.mul_le_mul s0.2 (by omega) (by omega) (by omega)
  have HR : Hid (R = ((min ((x.pk * g).tdiv 1000) x.most * (x.kid * (100 - k) + 100 * k)).tdiv 10000, decide (0 < (min ((x.pk * g).tdiv 1000) x.most * (x.kid * (100 - k) + 100 * k)).tdiv 10000))) := by
    rw [Hid, HV.out, if_pos ⟨rfl, HG.out.2 (by omega), HK.out.2 (by omega)⟩]; rfl
  clear HV HG HK
  go_enter Try.func11, Try.ntmps11
  go_upto_region 1 with fail
  generalize w.alloc (.cells #[.int .i64 x.id, .slice ta n tc, .int .i64 x.pk, .int .i64 x.most, .int .i64 x.day, .int .i64 x.kid] 26) = wA at *
  obtain ⟨c0, c1, c2, c3, c4, c5⟩ := HP.out.six
  go_wp2_with (first | (go_at_call 27; refine (k1 _ HH.out).mono ?_; rintro e w1 ⟨rfl, hb1⟩; have bA := onto HB.out hb1; obtain ⟨c0, c1, c2, c3, c4, c5⟩ := (HP.out.below hb1).six; clear hb1) | (with_reducible (first | refine (k3 _).mono ?_); rintro e w2 ⟨rfl, rfl⟩) | fail)
  all_goals go_ret2
  all_goals exact ⟨by rw [HR.out]; first | rfl | (simp only [Int.tdiv_eq_ediv_of_nonneg u0]; rfl), by first | exact bA | assumption⟩

end Go.Proofs.Ytcnhogghfedcdaa
