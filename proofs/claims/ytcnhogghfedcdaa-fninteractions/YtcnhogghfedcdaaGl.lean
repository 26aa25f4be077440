/-
  Classes as bits.
-/
import Derived.Test.YtcnhogghfedcdaaGe
import Derived.Laws.Bits64b
namespace Go.Proofs.Ytcnhogghfedcdaa
open Go.RowKit Va Ga
set_option linter.unusedVariables false

/-- The number s has a bit for each class of l. -/
def Bts (s : Nat) (l : List Int) : Prop := s < 18446744073709551616 ∧ ∀ c : Nat, s.testBit c = (decide (c < 64) && hasB l (c : Int))
theorem hasB_snoc (l : List Int) (x n : Int) : hasB (l ++ [x]) n = (hasB l n || x == n) := by simp [hasB]
theorem take_snocG {α : Type} {l : List α} {i : Nat} {x : α} (h : l[i]? = some x) : l.take (i + 1) = l.take i ++ [x] := by
  rw [List.take_add_one, h]; rfl
theorem Bts.zero (l : List Int) : Bts 0 (l.take 0) := ⟨by omega, fun c => by simp [hasB]⟩
theorem Bts.skip {s : Nat} {l : List Int} {i : Nat} {x : Int} (h : Bts s (l.take i)) (hx : l[i]? = some x) (hp : rng x 0 63 = false) : Bts s (l.take (i + 1)) :=
  ⟨h.1, fun c => by
    rw [h.2, take_snocG hx, hasB_snoc]
    by_cases hc : c < 64
    · have hq : (x == (c : Int)) = false := by
        cases q : (x == (c : Int)) with
        | false => rfl
        | true =>
          have e : x = (c : Int) := by simpa using q
          have : rng x 0 63 = true := rng_iff.2 (by omega)
          rw [this] at hp; cases hp
      rw [hq, Bool.or_false]
    · simp [hc]⟩
theorem Bts.add {s : Nat} {l : List Int} {i k : Nat} (h : Bts s (l.take i)) (hx : l[i]? = some (k : Int)) (hk : k < 64) : Bts (s ||| 2 ^ k) (l.take (i + 1)) := by
  have h2 : 2 ^ k < 2 ^ 64 := Nat.pow_lt_pow_right (by omega) hk
  refine ⟨?_, fun c => ?_⟩
  · have := Nat.or_lt_two_pow (show s < 2 ^ 64 from h.1) h2
    exact this
  · rw [Nat.testBit_or, h.2, Nat.testBit_two_pow, take_snocG hx, hasB_snoc]
    by_cases hc : c < 64
    · have e : ((k : Int) == (c : Int)) = decide (k = c) := by
        by_cases q : k = c
        · simp [q]
        · have : ¬ (k : Int) = (c : Int) := by omega
          simp [q, this]
      rw [e]
      simp [hc]
    · have : ¬ k = c := by omega
      simp [hc, this]
theorem wrap_nat {n : Nat} (h : n < 18446744073709551616) : IntKind.u64.wrap (n : Int) = (n : Int) := by
  simp [IntKind.wrap, IntKind.bits, IntKind.signed]
  omega
theorem or_bit {s k : Nat} (hs : s < 18446744073709551616) (hk : k < 64) : bits .or .u64 (s : Int) (IntKind.u64.wrap (2 ^ k)) = ((s ||| 2 ^ k : Nat) : Int) := by
  have h2 : 2 ^ k < 18446744073709551616 := Nat.pow_lt_pow_right (by omega) hk
  have e : IntKind.u64.wrap (2 ^ k) = ((2 ^ k : Nat) : Int) := by
    have e1 : ((2 : Int) ^ k) = ((2 ^ k : Nat) : Int) := by simp
    rw [e1]
    exact wrap_nat h2
  rw [e]
  exact bits_or_u64_nat s (2 ^ k) hs h2

set_option maxRecDepth 20000 in
set_option maxHeartbeats 1000000 in
theorem iclassesof_any (ao : Option Addr) (n cap : Nat) (l : List Int) (w : World) (h : IRw w (.slice ao n cap) l) (hn : l.length ≤ 1048576) :
    Calls Try.prog 39 #[.slice ao n cap] w fun e w' => (∃ s : Nat, e = .returned (.int .u64 s) ∧ Bts s l) ∧ w' = w := by
  obtain rfl := h.len
  have HH := hidden h
  clear h
  go_enter Try.func39, Try.ntmps39
  go_wp2_with fail
  go_loopw [3, 5, 8] (fun sv _ iv wr => ∃ (i : Nat) (s : Nat), i ≤ l.length ∧ iv = .int .i64 i ∧ wr = w ∧ sv = .int .u64 s ∧ Hid (Bts s (l.take i))) (fun _ _ iv _ => l.length - (intOf iv).toNat)
  case atStart => exact ⟨0, 0, Nat.zero_le _, rfl, rfl, rfl, Bts.zero l⟩
  case round =>
    obtain ⟨i, s, hi, rfl, rfl, rfl, hs⟩ := hrel
    by_cases hlt : i < l.length
    · have hlti : (i : Int) < (l.length : Int) := by omega
      obtain ⟨x, hx⟩ := some_of l i hlt
      obtain ⟨g, off, rfl, hg, hc⟩ := HH.out.at hx
      have c0 := hc i x hx
      have HX := hidden hx
      have hK := iclass_any x
      cases hp : rng x 0 63 with
      | false =>
        rw [hp] at hK
        have HN := hidden (hs.out.skip hx hp)
        clear hx hc hp hs
        go_wp2_with (go_at_call 60; refine (hK _).mono ?_; rintro e w1 ⟨rfl, rfl⟩)
        go_roundw
        case rel => exact ⟨i + 1, s, by omega, rfl, by simp, rfl, HN⟩
        case measure => simp [intOf]; omega
      | true =>
        rw [hp] at hK
        obtain ⟨x0, x1⟩ := rng_iff.1 hp
        obtain ⟨k, rfl⟩ := Int.eq_ofNat_of_zero_le x0
        have HN := hidden (hs.out.add hx (by omega))
        have HE := hidden (or_bit (k := k) hs.out.1 (by omega))
        clear hx hc hp hs
        go_wp2_with (go_at_call 60; refine (hK _).mono ?_; rintro e w1 ⟨rfl, rfl⟩)
        go_roundw
        case rel => exact ⟨i + 1, s ||| 2 ^ k, by omega, rfl, by simp, by rw [HE.out], HN⟩
        case measure => simp [intOf]; omega
    · have hlti : ¬ (i : Int) < (l.length : Int) := by omega
      have hil : i = l.length := by omega
      subst hil
      go_wp2_with fail
      go_ret
      exact ⟨⟨s, rfl, by have := hs.out; rwa [List.take_length] at this⟩, rfl⟩

/-- Two numbers of classes have a bit in common just where the classes are. -/
theorem Bts.meet {s t : Nat} {l m : List Int} (h : Bts s l) (h' : Bts t m) (hl : ∀ x ∈ l, rng x 0 63 = true) : decide (¬ (s &&& t) = 0) = l.any (hasB m) := by
  rw [Bool.eq_iff_iff]
  simp only [decide_eq_true_eq, List.any_eq_true]
  constructor
  · intro hne
    have : ∃ c, (s &&& t).testBit c = true := Nat.exists_testBit_of_ne_zero hne
    obtain ⟨c, hc⟩ := this
    rw [Nat.testBit_and, h.2, h'.2] at hc
    simp only [Bool.and_eq_true, decide_eq_true_eq, hasB, List.any_eq_true] at hc
    obtain ⟨⟨_, x, hx, ex⟩, _, y, hy, ey⟩ := hc
    have e1 : x = (c : Int) := by simpa using ex
    have e2 : y = (c : Int) := by simpa using ey
    exact ⟨x, hx, by simp only [hasB, List.any_eq_true]; exact ⟨y, hy, by rw [e1, e2]; simp⟩⟩
  · rintro ⟨x, hx, hy⟩ h0
    simp only [hasB, List.any_eq_true] at hy
    obtain ⟨y, hy, ey⟩ := hy
    have e : y = x := by simpa using ey
    obtain ⟨r0, r1⟩ := rng_iff.1 (hl x hx)
    obtain ⟨c, rfl⟩ := Int.eq_ofNat_of_zero_le r0
    have hc : (s &&& t).testBit c = true := by
      rw [Nat.testBit_and, h.2, h'.2]
      simp only [Bool.and_eq_true, decide_eq_true_eq, hasB, List.any_eq_true]
      exact ⟨⟨by omega, _, hx, by simp⟩, by omega, y, hy, by rw [e]; simp⟩
    rw [h0] at hc
    simp at hc
end Go.Proofs.Ytcnhogghfedcdaa
