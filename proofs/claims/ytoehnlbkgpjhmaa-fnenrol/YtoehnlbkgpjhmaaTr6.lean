/-
  Right trials, as the program says; a coin.
-/
import Derived.Test.YtoehnlbkgpjhmaaTr5
namespace Go.Proofs.Ytoehnlbkgpjhmaa
open Go.RowKit Go.WideShapes Va Lb Tr
set_option linter.all false

set_option maxRecDepth 20000 in
set_option maxHeartbeats 4000000 in
theorem itrial_any (x : Tl) (ta : Option Addr) (tn tc : Nat) (w : World) (h : VRw 1 cvI w (.slice ta tn tc) x.coins) (hn : x.coins.length ≤ 1048576) :
    Calls Try.prog 34 #[aT x (.slice ta tn tc)] w fun e w' => e = .returned (.bool (trialB x)) ∧ Below w.heap.size w w' := by
  obtain rfl := h.len
  have HH := hidden h
  have HN := hidden (@trial_no x)
  have HY := hidden (@trialB_iff x).2
  have HC := hidden (fun W hW => icoins_any ta x.coins.length tc x.coins W hW hn)
  have hb0 : Below w.heap.size w (w.alloc (.cells #[.int .i64 x.arms, .int .i64 x.block, .slice ta x.coins.length tc, .int .i64 x.told] 26)) := (Below.refl _ _).alloc (Nat.le_refl _) _
  have hH2 := hidden (HH.out.below hb0)
  clear h
  generalize trialB x = R at *
  unfold aT
  by_cases q1 : x.arms < 2
  · have hR := HN.out (fun hh => by omega)
    clear HN HY
    subst hR
    go_enter Try.func34, Try.ntmps34
    go_wp2_with fail
    all_goals go_ret
    all_goals exact ⟨rfl, by repeat (first | exact Below.refl _ _ | assumption | refine st_drew ?_ | refine st_drewN ?_ _ | refine Below.setCell ?_ (by first | omega | (simp; done) | (simp; omega)) _ | refine Below.alloc ?_ (by first | omega | (simp; done) | (simp; omega)) _)⟩
  by_cases q2 : 5 < x.arms
  · have hR := HN.out (fun hh => by omega)
    clear HN HY
    subst hR
    go_enter Try.func34, Try.ntmps34
    go_wp2_with fail
    all_goals go_ret
    all_goals exact ⟨rfl, by repeat (first | exact Below.refl _ _ | assumption | refine st_drew ?_ | refine st_drewN ?_ _ | refine Below.setCell ?_ (by first | omega | (simp; done) | (simp; omega)) _ | refine Below.alloc ?_ (by first | omega | (simp; done) | (simp; omega)) _)⟩
  by_cases q3 : x.block < x.arms
  · have hR := HN.out (fun hh => by
      have h3 := hh.2.2.1
      rw [Int.emod_eq_of_lt (by omega) q3] at h3
      omega)
    clear HN HY
    subst hR
    go_enter Try.func34, Try.ntmps34
    go_wp2_with fail
    all_goals go_ret
    all_goals exact ⟨rfl, by repeat (first | exact Below.refl _ _ | assumption | refine st_drew ?_ | refine st_drewN ?_ _ | refine Below.setCell ?_ (by first | omega | (simp; done) | (simp; omega)) _ | refine Below.alloc ?_ (by first | omega | (simp; done) | (simp; omega)) _)⟩
  by_cases q4 : 20 < x.block
  · have hR := HN.out (fun hh => by omega)
    clear HN HY
    subst hR
    go_enter Try.func34, Try.ntmps34
    go_wp2_with fail
    all_goals go_ret
    all_goals exact ⟨rfl, by repeat (first | exact Below.refl _ _ | assumption | refine st_drew ?_ | refine st_drewN ?_ _ | refine Below.setCell ?_ (by first | omega | (simp; done) | (simp; omega)) _ | refine Below.alloc ?_ (by first | omega | (simp; done) | (simp; omega)) _)⟩
  have ha0 : ¬ x.arms = 0 := by omega
  have ha1 : (x.arms == 0) = false := by simpa using ha0
  have hb1 : 0 ≤ x.block := by omega
  have htm : x.block.tmod x.arms = x.block % x.arms := Int.tmod_eq_emod_of_nonneg hb1
  by_cases q5 : x.block % x.arms = 0
  case neg =>
    have hR := HN.out (fun hh => q5 hh.2.2.1)
    have p4 : (x.block % x.arms == 0) = false := by simpa using q5
    have p5 : (x.block.tmod x.arms == 0) = false := by rw [htm]; exact p4
    clear HN HY q5
    subst hR
    go_enter Try.func34, Try.ntmps34
    go_wp2_with fail
    all_goals go_ret
    all_goals exact ⟨rfl, by repeat (first | exact Below.refl _ _ | assumption | refine st_drew ?_ | refine st_drewN ?_ _ | refine Below.setCell ?_ (by first | omega | (simp; done) | (simp; omega)) _ | refine Below.alloc ?_ (by first | omega | (simp; done) | (simp; omega)) _)⟩
  have p6 : (x.block.tmod x.arms == 0) = true := by rw [htm]; simpa using q5
  have p7 : (x.block % x.arms == 0) = true := by simpa using q5
  have HQ5 := hidden q5
  clear q5
  by_cases q6 : x.told < 0
  · have hR := HN.out (fun hh => by omega)
    have q6' : ¬ 0 ≤ x.told := by omega
    clear HN HY
    subst hR
    go_enter Try.func34, Try.ntmps34
    go_wp2_with fail
    all_goals go_ret
    all_goals exact ⟨rfl, by repeat (first | exact Below.refl _ _ | assumption | refine st_drew ?_ | refine st_drewN ?_ _ | refine Below.setCell ?_ (by first | omega | (simp; done) | (simp; omega)) _ | refine Below.alloc ?_ (by first | omega | (simp; done) | (simp; omega)) _)⟩
  have q6' : 0 ≤ x.told := by omega
  by_cases q7 : x.told ≤ 1000
  case neg =>
    have hR := HN.out (fun hh => by omega)
    clear HN HY
    subst hR
    go_enter Try.func34, Try.ntmps34
    go_wp2_with fail
    all_goals go_ret
    all_goals exact ⟨rfl, by repeat (first | exact Below.refl _ _ | assumption | refine st_drew ?_ | refine st_drewN ?_ _ | refine Below.setCell ?_ (by first | omega | (simp; done) | (simp; omega)) _ | refine Below.alloc ?_ (by first | omega | (simp; done) | (simp; omega)) _)⟩
  have hR : Hid (R = (decide (x.coins.length ≤ 4096) && x.coins.all fun c => decide (0 ≤ c))) := by
    cases hq : (decide (x.coins.length ≤ 4096) && x.coins.all fun c => decide (0 ≤ c)) with
    | true =>
      have hz : x.coins.length ≤ 4096 ∧ ∀ c ∈ x.coins, 0 ≤ c := by simpa using hq
      exact HY.out ⟨by omega, by omega, HQ5.out, hz.1, by omega, hz.2⟩
    | false =>
      refine HN.out (fun hh => ?_)
      have : (decide (x.coins.length ≤ 4096) && x.coins.all fun c => decide (0 ≤ c)) = true := by simpa using And.intro hh.2.2.2.1 hh.2.2.2.2.2
      rw [hq] at this
      cases this
  clear HN HY HQ5
  go_enter Try.func34, Try.ntmps34
  go_wp2_with (go_at_call 61; refine (HC.out _ hH2.out).mono ?_; rintro e w1 ⟨rfl, rfl⟩)
  go_ret
  exact ⟨ret_boolT hR.out.symm, by repeat (first | exact Below.refl _ _ | assumption | refine st_drew ?_ | refine st_drewN ?_ _ | refine Below.setCell ?_ (by first | omega | (simp; done) | (simp; omega)) _ | refine Below.alloc ?_ (by first | omega | (simp; done) | (simp; omega)) _)⟩

set_option maxRecDepth 20000 in
set_option maxHeartbeats 4000000 in
theorem icoin_any (x : Tl) (ta : Option Addr) (tn tc : Nat) (n : Nat) (w : World) (h : VRw 1 cvI w (.slice ta tn tc) x.coins) (hn : x.coins.length ≤ 4096) (hm : n ≤ 100000) :
    Calls Try.prog 85 #[aT x (.slice ta tn tc), .int .i64 n] w fun e w' => e = .returned (.int .i64 (coin x.coins n)) ∧ Below w.heap.size w w' := by
  obtain rfl := h.len
  have hb0 : Below w.heap.size w (w.alloc (.cells #[.int .i64 x.arms, .int .i64 x.block, .slice ta x.coins.length tc, .int .i64 x.told] 26)) := (Below.refl _ _).alloc (Nat.le_refl _) _
  have hH2 := hidden (h.below hb0)
  clear h
  by_cases q : x.coins.length = 0
  · have HR := hidden (coin_none (n := n) q)
    generalize coin x.coins n = R at *
    have q1 : (x.coins.length : Int) = 0 := by omega
    unfold aT
    generalize x.coins.length = L at *
    subst q
    go_enter Try.func85, Try.ntmps85
    go_wp2_with fail
    go_ret
    exact ⟨ret_intT HR.out.symm, by repeat (first | exact Below.refl _ _ | assumption | refine st_drew ?_ | refine st_drewN ?_ _ | refine Below.setCell ?_ (by first | omega | (simp; done) | (simp; omega)) _ | refine Below.alloc ?_ (by first | omega | (simp; done) | (simp; omega)) _)⟩
  · obtain ⟨y, hy⟩ := some_of x.coins (n % x.coins.length) (Nat.mod_lt _ (by omega))
    have HR := hidden (coin_some hy)
    obtain ⟨g, off, rfl, hg, c0⟩ := vint_cell hH2.out hy
    have q0 : ((x.coins.length : Int) == 0) = false := by rw [beq_eq_false_iff_ne]; omega
    have q1 : ¬ (x.coins.length : Int) = 0 := by omega
    have hmod : (n : Int) % (x.coins.length : Int) = ((n % x.coins.length : Nat) : Int) := (Int.natCast_emod _ _).symm
    have htm : (n : Int).tmod (x.coins.length : Int) = ((n % x.coins.length : Nat) : Int) := by rw [Int.tmod_eq_emod_of_nonneg (by omega)]; exact hmod
    have hlt : ((n % x.coins.length : Nat) : Int) < (x.coins.length : Int) := by have := Nat.mod_lt n (show x.coins.length > 0 by omega); omega
    have h0 : (0 : Int) ≤ ((n % x.coins.length : Nat) : Int) := by omega
    clear hy q
    generalize coin x.coins n = R at *
    unfold aT
    generalize n % x.coins.length = m at *
    go_enter Try.func85, Try.ntmps85
    go_wp2_with fail
    first | go_quiet (fail) | go_region_with (fail) | fail
    all_goals go_wp2_with fail
    all_goals go_ret
    all_goals exact ⟨ret_intT HR.out.symm, by repeat (first | exact Below.refl _ _ | assumption | refine st_drew ?_ | refine st_drewN ?_ _ | refine Below.setCell ?_ (by first | omega | (simp; done) | (simp; omega)) _ | refine Below.alloc ?_ (by first | omega | (simp; done) | (simp; omega)) _)⟩
end Go.Proofs.Ytoehnlbkgpjhmaa
