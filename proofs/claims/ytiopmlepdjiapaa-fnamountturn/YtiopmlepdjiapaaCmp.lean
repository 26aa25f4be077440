/-
  The comparison of two fractions by a product of 128 bits.
-/
import Derived.Test.YtiopmlepdjiapaaConv
import Derived.Shelf.Bits.Mul64
namespace Go.Proofs.Ytiopmlepdjiapaa
open Go.RowKit Am

/-- Less, as much, more. -/
def cmpI (x y : Int) : Int := if x < y then -1 else if y < x then 1 else 0

set_option maxHeartbeats 400000 in
theorem nan_any (x : Int) (w : World) :
    Calls Try.prog 50 #[.int .u64 x] w fun e w' => e = .returned (.bool false) ∧ w' = w := by
  go_enter Try.func50, Try.ntmps50
  go_wp2
  go_ret
  exact ⟨rfl, rfl⟩

set_option maxHeartbeats 400000 in
theorem compare_any (x y : Int) (w : World) :
    Calls Try.prog 44 #[.int .u64 x, .int .u64 y] w fun e w' => e = .returned (.int .i64 (cmpI x y)) ∧ w' = w := by
  by_cases h : x < y
  · have H : Hid (cmpI x y = -1) := by unfold Hid cmpI; rw [if_pos h]
    go_enter Try.func44, Try.ntmps44
    go_wp2_with (go_at_call 50; refine (nan_any _ _).mono ?_; rintro e w' ⟨rfl, rfl⟩)
    go_ret
    exact ⟨ret_int H.out.symm, rfl⟩
  · by_cases k : y < x
    · have H : Hid (cmpI x y = 1) := by unfold Hid cmpI; rw [if_neg h, if_pos k]
      go_enter Try.func44, Try.ntmps44
      go_wp2_with (go_at_call 50; refine (nan_any _ _).mono ?_; rintro e w' ⟨rfl, rfl⟩)
      go_ret
      exact ⟨ret_int H.out.symm, rfl⟩
    · have H : Hid (cmpI x y = 0) := by unfold Hid cmpI; rw [if_neg h, if_neg k]
      go_enter Try.func44, Try.ntmps44
      go_wp2_with (go_at_call 50; refine (nan_any _ _).mono ?_; rintro e w' ⟨rfl, rfl⟩)
      go_ret
      exact ⟨ret_int H.out.symm, rfl⟩

set_option maxHeartbeats 1000000 in
theorem mul64_any (x y : Nat) (hx : x < 18446744073709551616) (hy : y < 18446744073709551616) (w : World) :
    Calls Try.prog 43 #[.int .u64 x, .int .u64 y] w fun e w' => e = .returned (.tuple #[.int .u64 ((x * y / 18446744073709551616 : Nat) : Int), .int .u64 ((x * y % 18446744073709551616 : Nat) : Int)]) ∧ w' = w := by
  obtain ⟨bd, bt, bw, hhi⟩ := Lib.mul64_hi x y hx hy
  have ba := Lib.half_mul_le (a := x / 4294967296) (b := y / 4294967296) (by omega) (by omega)
  have bb := Lib.half_mul_le (a := x / 4294967296) (b := y % 4294967296) (by omega) (by omega)
  have bc := Lib.half_mul_le (a := x % 4294967296) (b := y / 4294967296) (by omega) (by omega)
  have ba' : x / 4294967296 * (y / 4294967296) < 18446744073709551616 := by omega
  have bb' : x / 4294967296 * (y % 4294967296) < 18446744073709551616 := by omega
  have bc' : x % 4294967296 * (y / 4294967296) < 18446744073709551616 := by omega
  have q1 : x / 4294967296 * (y / 4294967296) + (x / 4294967296 * (y % 4294967296) + x % 4294967296 * (y % 4294967296) / 4294967296) / 4294967296 < 18446744073709551616 := by omega
  have q2 : x / 4294967296 * (y / 4294967296) + (x / 4294967296 * (y % 4294967296) + x % 4294967296 * (y % 4294967296) / 4294967296) / 4294967296 + ((x / 4294967296 * (y % 4294967296) + x % 4294967296 * (y % 4294967296) / 4294967296) % 4294967296 + x % 4294967296 * (y / 4294967296)) / 4294967296 < 18446744073709551616 := by omega
  go_enter Try.func43, Try.ntmps43
  go_wp2
  simp only [Mul64.maskN x hx, Mul64.maskN y hy, Mul64.divN, Mul64.mulN, Mul64.addN, Mul64.wrapN _ bd, Mul64.wrapN _ bb', Mul64.wrapN _ bt, Mul64.maskN _ bt, Mul64.wrapN _ bc', Mul64.wrapN _ bw, Mul64.wrapN _ ba', Mul64.wrapN _ q1, Mul64.wrapN _ q2, Mul64.wrapM (x * y)]
  rw [hhi]
  go_ret2
  exact ⟨rfl, rfl⟩

/-- A product's upper and lower half. -/
def hiP (p : Int) : Int := p / 18446744073709551616
def loP (p : Int) : Int := p % 18446744073709551616
/-- The same over Int. -/
theorem mul64_int (x y : Int) (hx : 0 ≤ x) (hx' : x ≤ 4000000000000000000) (hy : 0 ≤ y) (hy' : y ≤ 4000000000000000000) (w : World) :
    Calls Try.prog 43 #[.int .u64 x, .int .u64 y] w fun e w' => e = .returned (.tuple #[.int .u64 (hiP (x * y)), .int .u64 (loP (x * y))]) ∧ w' = w := by
  obtain ⟨a, rfl⟩ := Int.eq_ofNat_of_zero_le hx
  obtain ⟨b, rfl⟩ := Int.eq_ofNat_of_zero_le hy
  have h := mul64_any a b (by omega) (by omega) w
  have e1 : ((a * b / 18446744073709551616 : Nat) : Int) = (a : Int) * b / 18446744073709551616 := by rw [Int.natCast_ediv, Int.natCast_mul]; rfl
  have e2 : ((a * b % 18446744073709551616 : Nat) : Int) = (a : Int) * b % 18446744073709551616 := by rw [Int.natCast_emod, Int.natCast_mul]; rfl
  rw [e1, e2] at h
  exact h

theorem cmp_parts (x y : Int) : (hiP x = hiP y → cmpI (loP x) (loP y) = cmpI x y) ∧ (¬ hiP x = hiP y → cmpI (hiP x) (hiP y) = cmpI x y) := by
  unfold cmpI hiP loP
  refine ⟨fun h => ?_, fun h => ?_⟩ <;> split <;> split <;> (try split) <;> (try split) <;> omega

set_option maxHeartbeats 1000000 in
theorem cmpf_any (n d m e : Int) (w : World) (h1 : 0 ≤ n) (h2 : n ≤ 4000000000000000000) (h3 : 0 ≤ d) (h4 : d ≤ 4000000000000000000) (k1 : 0 ≤ m) (k2 : m ≤ 4000000000000000000) (k3 : 0 ≤ e) (k4 : e ≤ 4000000000000000000) :
    Calls Try.prog 30 #[.agg #[.int .i64 n, .int .i64 d], .agg #[.int .i64 m, .int .i64 e]] w fun r w' => r = .returned (.int .i64 (cmpI (n * e) (m * d))) ∧ Below w.heap.size w w' := by
  obtain ⟨q1, q2⟩ := cmp_parts (n * e) (m * d)
  by_cases h : hiP (n * e) = hiP (m * d)
  · have H : Hid (cmpI (loP (n * e)) (loP (m * d)) = cmpI (n * e) (m * d)) := q1 h
    have hb : (hiP (n * e) != hiP (m * d)) = false := by simpa using h
    clear q1 q2 h
    go_enter Try.func30, Try.ntmps30
    go_wp2_with (first | (go_at_call 43; refine (mul64_int _ _ (by omega) (by omega) (by omega) (by omega) _).mono ?_; rintro r w1 ⟨rfl, rfl⟩) | (go_at_call 44; refine (compare_any _ _ _).mono ?_; rintro r w1 ⟨rfl, rfl⟩))
    go_ret
    exact ⟨ret_int H.out, by repeat (first | exact Below.refl _ _ | refine Below.alloc ?_ (by simp) _)⟩
  · have H : Hid (cmpI (hiP (n * e)) (hiP (m * d)) = cmpI (n * e) (m * d)) := q2 h
    have hb : (hiP (n * e) != hiP (m * d)) = true := by simpa using h
    clear q1 q2 h
    go_enter Try.func30, Try.ntmps30
    go_wp2_with (first | (go_at_call 43; refine (mul64_int _ _ (by omega) (by omega) (by omega) (by omega) _).mono ?_; rintro r w1 ⟨rfl, rfl⟩) | (go_at_call 44; refine (compare_any _ _ _).mono ?_; rintro r w1 ⟨rfl, rfl⟩))
    go_ret
    exact ⟨ret_int H.out, by repeat (first | exact Below.refl _ _ | refine Below.alloc ?_ (by simp) _)⟩
end Go.Proofs.Ytiopmlepdjiapaa
