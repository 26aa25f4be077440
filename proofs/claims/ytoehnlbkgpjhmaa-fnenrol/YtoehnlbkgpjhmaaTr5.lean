/-
  Right trials: the specification and the program.
-/
import Derived.Test.YtoehnlbkgpjhmaaTr3
namespace Go.Proofs.Ytoehnlbkgpjhmaa
open Go.RowKit Go.WideShapes Va Lb Tr
set_option linter.all false

theorem trial_no {x : Tl} (h : ¬ ((2 ≤ x.arms ∧ x.arms ≤ 5) ∧ (1 ≤ x.block ∧ x.block ≤ 20) ∧ x.block % x.arms = 0 ∧ x.coins.length ≤ 4096 ∧ (0 ≤ x.told ∧ x.told ≤ 1000) ∧ ∀ c ∈ x.coins, 0 ≤ c)) : trialB x = false := by
  cases hq : trialB x with
  | false => rfl
  | true => exact absurd (trialB_iff.1 hq) h

set_option maxRecDepth 20000 in
set_option maxHeartbeats 4000000 in
theorem strial_any (x : Tl) (ta : Option Addr) (tn tc : Nat) (w : World) (h : VRw 1 cvI w (.slice ta tn tc) x.coins) (hn : x.coins.length ≤ 1048576) :
    Calls Try.prog 13 #[aT x (.slice ta tn tc)] w fun e w' => e = .returned (.bool (trialB x)) ∧ Below w.heap.size w w' := by
  obtain rfl := h.len
  have k1 := lin_any x.arms 2 5
  have k2 := lin_any x.block 1 20
  have k5 := lin_any x.told 0 1000
  have HH := hidden h
  have HN := hidden (@trial_no x)
  have HY := hidden (@trialB_iff x).2
  clear h
  generalize trialB x = R at *
  unfold aT
  by_cases q1 : 2 ≤ x.arms ∧ x.arms ≤ 5
  case neg =>
    have hR := HN.out (fun hh => q1 hh.1)
    rw [show rng x.arms 2 5 = false from by cases hc : rng x.arms 2 5 with | false => rfl | true => exact absurd (rng_iff.1 hc) q1] at k1
    clear HN HY q1
    subst hR
    go_enter Try.func13, Try.ntmps13
    go_wp2_with (with_reducible (first | refine (k1 _).mono ?_ | refine (k2 _).mono ?_ | refine (k5 _).mono ?_); rintro e w1 ⟨rfl, rfl⟩)
    all_goals go_ret
    all_goals exact ⟨rfl, by repeat (first | exact Below.refl _ _ | assumption | refine st_drew ?_ | refine st_drewN ?_ _ | refine Below.setCell ?_ (by first | omega | (simp; done) | (simp; omega)) _ | refine Below.alloc ?_ (by first | omega | (simp; done) | (simp; omega)) _)⟩
  rw [rng_iff.2 q1] at k1
  by_cases q2 : 1 ≤ x.block ∧ x.block ≤ 20
  case neg =>
    have hR := HN.out (fun hh => q2 hh.2.1)
    rw [show rng x.block 1 20 = false from by cases hc : rng x.block 1 20 with | false => rfl | true => exact absurd (rng_iff.1 hc) q2] at k2
    clear HN HY q2
    subst hR
    go_enter Try.func13, Try.ntmps13
    go_wp2_with (with_reducible (first | refine (k1 _).mono ?_ | refine (k2 _).mono ?_ | refine (k5 _).mono ?_); rintro e w1 ⟨rfl, rfl⟩)
    all_goals go_ret
    all_goals exact ⟨rfl, by repeat (first | exact Below.refl _ _ | assumption | refine st_drew ?_ | refine st_drewN ?_ _ | refine Below.setCell ?_ (by first | omega | (simp; done) | (simp; omega)) _ | refine Below.alloc ?_ (by first | omega | (simp; done) | (simp; omega)) _)⟩
  rw [rng_iff.2 q2] at k2
  obtain ⟨q11, q12⟩ := q1
  obtain ⟨q21, q22⟩ := q2
  have ha0 : ¬ x.arms = 0 := by omega
  have ha1 : (x.arms == 0) = false := by simpa using ha0
  have hb0 : 0 ≤ x.block := by omega
  have htm : x.block.tmod x.arms = x.block % x.arms := Int.tmod_eq_emod_of_nonneg hb0
  by_cases q3 : x.block % x.arms = 0
  case neg =>
    have hR := HN.out (fun hh => q3 hh.2.2.1)
    have q4 : (x.block % x.arms != 0) = true := by simpa using q3
    have q5 : (x.block.tmod x.arms != 0) = true := by rw [htm]; exact q4
    clear HN HY q3
    subst hR
    go_enter Try.func13, Try.ntmps13
    go_wp2_with (with_reducible (first | refine (k1 _).mono ?_ | refine (k2 _).mono ?_ | refine (k5 _).mono ?_); rintro e w1 ⟨rfl, rfl⟩)
    all_goals go_ret
    all_goals exact ⟨rfl, by repeat (first | exact Below.refl _ _ | assumption | refine st_drew ?_ | refine st_drewN ?_ _ | refine Below.setCell ?_ (by first | omega | (simp; done) | (simp; omega)) _ | refine Below.alloc ?_ (by first | omega | (simp; done) | (simp; omega)) _)⟩
  have q6 : (x.block.tmod x.arms != 0) = false := by rw [htm]; simpa using q3
  have q7 : (x.block % x.arms != 0) = false := by simpa using q3
  have HQ3 := hidden q3
  clear q3
  by_cases q8 : (4096 : Int) < (x.coins.length : Int)
  · have hR := HN.out (fun hh => by have := hh.2.2.2.1; omega)
    clear HN HY
    subst hR
    go_enter Try.func13, Try.ntmps13
    go_wp2_with (with_reducible (first | refine (k1 _).mono ?_ | refine (k2 _).mono ?_ | refine (k5 _).mono ?_); rintro e w1 ⟨rfl, rfl⟩)
    all_goals go_ret
    all_goals exact ⟨rfl, by repeat (first | exact Below.refl _ _ | assumption | refine st_drew ?_ | refine st_drewN ?_ _ | refine Below.setCell ?_ (by first | omega | (simp; done) | (simp; omega)) _ | refine Below.alloc ?_ (by first | omega | (simp; done) | (simp; omega)) _)⟩
  by_cases q9 : 0 ≤ x.told ∧ x.told ≤ 1000
  case neg =>
    have hR := HN.out (fun hh => q9 hh.2.2.2.2.1)
    rw [show rng x.told 0 1000 = false from by cases hc : rng x.told 0 1000 with | false => rfl | true => exact absurd (rng_iff.1 hc) q9] at k5
    clear HN HY q9
    subst hR
    go_enter Try.func13, Try.ntmps13
    go_wp2_with (with_reducible (first | refine (k1 _).mono ?_ | refine (k2 _).mono ?_ | refine (k5 _).mono ?_); rintro e w1 ⟨rfl, rfl⟩)
    all_goals go_ret
    all_goals exact ⟨rfl, by repeat (first | exact Below.refl _ _ | assumption | refine st_drew ?_ | refine st_drewN ?_ _ | refine Below.setCell ?_ (by first | omega | (simp; done) | (simp; omega)) _ | refine Below.alloc ?_ (by first | omega | (simp; done) | (simp; omega)) _)⟩
  rw [rng_iff.2 q9] at k5
  have HYY := hidden (fun h => HY.out ⟨⟨q11, q12⟩, ⟨q21, q22⟩, HQ3.out, by omega, q9, h⟩)
  have HNN := hidden (fun (h : ¬ ∀ c ∈ x.coins, 0 ≤ c) => HN.out (fun hh => h hh.2.2.2.2.2))
  clear HN HY HQ3 q9
  go_enter Try.func13, Try.ntmps13
  go_wp2_with (with_reducible (first | refine (k1 _).mono ?_ | refine (k2 _).mono ?_ | refine (k5 _).mono ?_); rintro e w1 ⟨rfl, rfl⟩)
  clear k1 k2 k5
  go_loopw [3] (fun iv wr => ∃ i : Nat, i ≤ x.coins.length ∧ iv = .int .i64 i ∧ Below w.heap.size w wr ∧ w.heap.size < wr.heap.size ∧ wr.cell? ⟨w.heap.size, 2, none⟩ = some (.slice ta x.coins.length tc) ∧ Hid (coinsTo x.coins i)) (fun iv _ => x.coins.length - (intOf iv).toNat)
  case atStart => exact ⟨0, Nat.zero_le _, rfl, by repeat (first | exact Below.refl _ _ | assumption | refine st_drew ?_ | refine st_drewN ?_ _ | refine Below.setCell ?_ (by first | omega | (simp; done) | (simp; omega)) _ | refine Below.alloc ?_ (by first | omega | (simp; done) | (simp; omega)) _), by simp, by simp, coinsTo_zero _⟩
  case round =>
    obtain ⟨i, hi, rfl, hb, hws, c3, hok⟩ := hrel
    have hsz := hb.size
    by_cases hti : i < x.coins.length
    · have hlti : (i : Int) < (x.coins.length : Int) := by omega
      obtain ⟨y, hy⟩ := some_of x.coins i hti
      obtain ⟨g, off, rfl, hg, c0⟩ := vint_cell (HH.out.below hb) hy
      by_cases hp : y < 0
      · have hR := HNN.out (fun hh => by have := hh y (List.mem_of_getElem? hy); omega)
        clear HNN HYY hy hok
        subst hR
        go_wp2_with fail
        first | go_quiet (fail) | skip
        all_goals go_wp2_with fail
        all_goals go_ret
        all_goals exact ⟨rfl, by repeat (first | exact Below.refl _ _ | assumption | refine st_drew ?_ | refine st_drewN ?_ _ | refine Below.setCell ?_ (by first | omega | (simp; done) | (simp; omega)) _ | refine Below.alloc ?_ (by first | omega | (simp; done) | (simp; omega)) _)⟩
      · have hok2 := hidden (coinsTo_succ hy hok.out (by omega))
        clear hy hok
        go_wp2_with fail
        first | go_quiet (fail) | skip
        all_goals go_wp2_with fail
        all_goals go_roundw
        case rel => exact ⟨i + 1, by omega, rfl, by repeat (first | exact Below.refl _ _ | assumption | refine st_drew ?_ | refine st_drewN ?_ _ | refine Below.setCell ?_ (by first | omega | (simp; done) | (simp; omega)) _ | refine Below.alloc ?_ (by first | omega | (simp; done) | (simp; omega)) _), by simpa using hws, by simpa using c3, hok2.out⟩
        case measure => simp [intOf]; omega
    · have hlti : ¬ (i : Int) < (x.coins.length : Int) := by omega
      have hR := HYY.out (coinsTo_all hok.out (by omega))
      clear HNN HYY hok
      subst hR
      go_wp2_with fail
      all_goals go_ret
      all_goals exact ⟨rfl, by repeat (first | exact Below.refl _ _ | assumption | refine st_drew ?_ | refine st_drewN ?_ _ | refine Below.setCell ?_ (by first | omega | (simp; done) | (simp; omega)) _ | refine Below.alloc ?_ (by first | omega | (simp; done) | (simp; omega)) _)⟩

set_option maxRecDepth 20000 in
set_option maxHeartbeats 4000000 in
theorem icoins_any (ta : Option Addr) (tn tc : Nat) (l : List Int) (w : World) (h : VRw 1 cvI w (.slice ta tn tc) l) (hn : l.length ≤ 1048576) :
    Calls Try.prog 61 #[.slice ta tn tc] w fun e w' => e = .returned (.bool (decide (l.length ≤ 4096) && l.all fun c => decide (0 ≤ c))) ∧ w' = w := by
  obtain rfl := h.len
  have hcap := h.cap
  have HH := hidden h
  have HN : Hid (¬ (l.length ≤ 4096 ∧ ∀ c ∈ l, 0 ≤ c) → (decide (l.length ≤ 4096) && l.all fun c => decide (0 ≤ c)) = false) := fun h0 => by
    cases hq : (decide (l.length ≤ 4096) && l.all fun c => decide (0 ≤ c)) with
    | false => rfl
    | true => exact absurd (by simpa using hq) h0
  have HY : Hid ((l.length ≤ 4096 ∧ ∀ c ∈ l, 0 ≤ c) → (decide (l.length ≤ 4096) && l.all fun c => decide (0 ≤ c)) = true) := fun h0 => by simpa using h0
  clear h
  generalize (decide (l.length ≤ 4096) && l.all fun c => decide (0 ≤ c)) = R at *
  by_cases q8 : (4096 : Int) < (l.length : Int)
  · have hR := HN.out (fun hh => by have := hh.1; omega)
    clear HN HY
    subst hR
    go_enter Try.func61, Try.ntmps61
    go_wp2_with fail
    all_goals go_ret
    all_goals exact ⟨rfl, rfl⟩
  go_enter Try.func61, Try.ntmps61
  go_wp2_with fail
  go_loopw [4, 10] (fun cv iv wr => ∃ i : Nat, i ≤ l.length ∧ iv = .int .i64 i ∧ wr = w ∧ Hid (coinsTo l i)) (fun _ iv _ => l.length - (intOf iv).toNat)
  case atStart => exact ⟨0, Nat.zero_le _, rfl, rfl, coinsTo_zero _⟩
  case round =>
    obtain ⟨i, hi, rfl, rfl, hok⟩ := hrel
    by_cases hti : i < l.length
    · have hlti : (i : Int) < (l.length : Int) := by omega
      obtain ⟨y, hy⟩ := some_of l i hti
      obtain ⟨g, off, rfl, hg, c0⟩ := vint_cell HH.out hy
      by_cases hp : y < 0
      · have hR := HN.out (fun hh => by have := hh.2 y (List.mem_of_getElem? hy); omega)
        clear HN HY hy hok
        subst hR
        go_wp2_with fail
        all_goals go_ret
        all_goals exact ⟨rfl, by first | rfl | trivial⟩
      · have hok2 := hidden (coinsTo_succ hy hok.out (by omega))
        clear hy hok
        go_wp2_with fail
        go_roundw
        case rel => exact ⟨i + 1, by omega, rfl, by first | rfl | trivial, hok2.out⟩
        case measure => simp [intOf]; omega
    · have hlti : ¬ (i : Int) < (l.length : Int) := by omega
      have hR := HY.out ⟨by omega, coinsTo_all hok.out (by omega)⟩
      clear HN HY hok
      subst hR
      go_wp2_with fail
      all_goals go_ret
      all_goals exact ⟨rfl, by first | rfl | trivial⟩
end Go.Proofs.Ytoehnlbkgpjhmaa
