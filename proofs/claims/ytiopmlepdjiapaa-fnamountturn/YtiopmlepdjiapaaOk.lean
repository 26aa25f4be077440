/-
  AmountOk, of the program and of the specification: each returns okB n d u.
-/
import Derived.Test.YtiopmlepdjiapaaGcd
namespace Go.Proofs.Ytiopmlepdjiapaa
open Go.RowKit Am

theorem bcell {W w1 : World} (hb : Below W.heap.size W w1) : (∀ b o, b < W.heap.size → w1.cell? ⟨b, o, none⟩ = W.cell? ⟨b, o, none⟩) ∧ (∀ b o, b < W.heap.size → w1.frozen? ⟨b, o, none⟩ = W.frozen? ⟨b, o, none⟩) :=
  ⟨fun b o h => hb.cell (p := ⟨b, o, none⟩) h, fun b o h => hb.frozen (p := ⟨b, o, none⟩) h⟩

/-- The kind of a unit, as the program numbers them. -/
def kd (u : Int) : Int := if 1 ≤ u ∧ u ≤ 3 then 1 else if 4 ≤ u ∧ u ≤ 6 then 2 else if u = 7 then 3 else 0
/-- .. and as the specification does. -/
def sk (u : Int) : Int := if 1 ≤ u ∧ u ≤ 7 then (u - 1) / 3 else -1
/-- How many of the least unit of its kind. -/
def sz (u : Int) : Int := if u = 2 ∨ u = 5 then 1000 else if u = 3 ∨ u = 6 then 1000000 else 1

set_option maxHeartbeats 400000 in
theorem kind_any (u : Int) (w : World) :
    Calls Try.prog 22 #[.int .i64 u] w fun e w' => e = .returned (.int .i64 (kd u)) ∧ w' = w := by
  by_cases h1 : u = 1
  · subst h1; go_enter Try.func22, Try.ntmps22; go_wp2; go_ret; exact ⟨rfl, rfl⟩
  by_cases h2 : u = 2
  · subst h2; go_enter Try.func22, Try.ntmps22; go_wp2; go_ret; exact ⟨rfl, rfl⟩
  by_cases h3 : u = 3
  · subst h3; go_enter Try.func22, Try.ntmps22; go_wp2; go_ret; exact ⟨rfl, rfl⟩
  by_cases h4 : u = 4
  · subst h4; go_enter Try.func22, Try.ntmps22; go_wp2; go_ret; exact ⟨rfl, rfl⟩
  by_cases h5 : u = 5
  · subst h5; go_enter Try.func22, Try.ntmps22; go_wp2; go_ret; exact ⟨rfl, rfl⟩
  by_cases h6 : u = 6
  · subst h6; go_enter Try.func22, Try.ntmps22; go_wp2; go_ret; exact ⟨rfl, rfl⟩
  by_cases h7 : u = 7
  · subst h7; go_enter Try.func22, Try.ntmps22; go_wp2; go_ret; exact ⟨rfl, rfl⟩
  have e : kd u = 0 := by unfold kd; rw [if_neg (by omega), if_neg (by omega), if_neg (by omega)]
  have H : Hid (kd u = 0) := e
  clear e
  go_enter Try.func22, Try.ntmps22; go_wp2; go_ret
  exact ⟨ret_int H.out.symm, rfl⟩

set_option maxHeartbeats 400000 in
theorem size_any (u : Int) (w : World) :
    Calls Try.prog 24 #[.int .i64 u] w fun e w' => e = .returned (.int .i64 (sz u)) ∧ w' = w := by
  by_cases h2 : u = 2
  · subst h2; go_enter Try.func24, Try.ntmps24; go_wp2; go_ret; exact ⟨rfl, rfl⟩
  by_cases h3 : u = 3
  · subst h3; go_enter Try.func24, Try.ntmps24; go_wp2; go_ret; exact ⟨rfl, rfl⟩
  by_cases h5 : u = 5
  · subst h5; go_enter Try.func24, Try.ntmps24; go_wp2; go_ret; exact ⟨rfl, rfl⟩
  by_cases h6 : u = 6
  · subst h6; go_enter Try.func24, Try.ntmps24; go_wp2; go_ret; exact ⟨rfl, rfl⟩
  have e : sz u = 1 := by unfold sz; rw [if_neg (by omega), if_neg (by omega)]
  have H : Hid (sz u = 1) := e
  clear e
  go_enter Try.func24, Try.ntmps24; go_wp2; go_ret
  exact ⟨ret_int H.out.symm, rfl⟩

/-- Between two bounds. -/
def inB (x lo hi : Int) : Bool := decide (lo ≤ x ∧ x ≤ hi)
theorem in_yes (x lo hi : Int) (w : World) (h : lo ≤ x) (k : x ≤ hi) :
    Calls Try.prog 42 #[.int .i64 x, .int .i64 lo, .int .i64 hi] w fun e w' => e = .returned (.bool true) ∧ w' = w := by
  go_enter Try.func42, Try.ntmps42; go_wp2; go_ret; exact ⟨rfl, rfl⟩
theorem in_no (x lo hi : Int) (w : World) (h : x < lo ∨ hi < x) :
    Calls Try.prog 42 #[.int .i64 x, .int .i64 lo, .int .i64 hi] w fun e w' => e = .returned (.bool false) ∧ w' = w := by
  by_cases k : lo ≤ x
  · have k' : ¬ x ≤ hi := by omega
    go_enter Try.func42, Try.ntmps42; go_wp2; go_ret; exact ⟨rfl, rfl⟩
  · go_enter Try.func42, Try.ntmps42; go_wp2; go_ret; exact ⟨rfl, rfl⟩

set_option maxHeartbeats 400000 in
theorem skind_any (u : Int) (w : World) :
    Calls Try.prog 27 #[.int .i64 u] w fun e w' => e = .returned (.int .i64 (sk u)) ∧ w' = w := by
  by_cases h : 1 ≤ u ∧ u ≤ 7
  · obtain ⟨h1, h2⟩ := h
    have H : Hid (sk u = (u - 1) / 3) := by unfold Hid sk; rw [if_pos ⟨h1, h2⟩]
    go_enter Try.func27, Try.ntmps27
    go_wp2_with (go_at_call 42; refine (in_yes _ _ _ _ (by omega) (by omega)).mono ?_; rintro e w' ⟨rfl, rfl⟩)
    go_ret
    exact ⟨ret_int H.out.symm, rfl⟩
  · have H : Hid (sk u = -1) := by unfold Hid sk; rw [if_neg h]
    go_enter Try.func27, Try.ntmps27
    go_wp2_with (go_at_call 42; refine (in_no _ _ _ _ (by omega)).mono ?_; rintro e w' ⟨rfl, rfl⟩)
    go_ret
    exact ⟨ret_int H.out.symm, rfl⟩
end Go.Proofs.Ytiopmlepdjiapaa
