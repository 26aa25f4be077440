/-
  The law's own helpers on drugs: sizes, sameness.
-/
import Derived.Test.YtcnhogghfedcdabGh1
namespace Go.Proofs.Ytcnhogghfedcdab
open Go.RowKit Va Ga
set_option linter.unusedVariables false

theorem szints_any (ao : Option Addr) (n cap : Nat) (L : Int) (w : World) (hn : (n : Int) ≤ 9223372036854775807) (h0 : 0 ≤ L) (h1 : L ≤ 1048576) :
    Calls Try.prog 46 #[.slice ao n cap, .int .i64 L] w fun e w' => e = .returned (.int .i64 (if L < n then -1 else L - n)) ∧ w' = w := by
  by_cases h : L < (n : Int)
  · rw [if_pos h]
    have h2 : L - n < 0 := by omega
    go_enter Try.func46, Try.ntmps46
    go_wp2
    go_ret
    exact ⟨rfl, rfl⟩
  · rw [if_neg h]
    have h2 : ¬ L - n < 0 := by omega
    go_enter Try.func46, Try.ntmps46
    go_wp2
    go_ret
    exact ⟨rfl, rfl⟩

set_option maxRecDepth 20000 in
set_option maxHeartbeats 1000000 in
theorem szdrug_any (x : Dg) (ta : Option Addr) (n tc : Nat) (L : Int) (w : World) (hn : (n : Int) ≤ 9223372036854775807) (h0 : 0 ≤ L) (h1 : L ≤ 1048576) :
    Calls Try.prog 20 #[aD x (.slice ta n tc), .int .i64 L] w fun e w' => e = .returned (.int .i64 (if L < n then -1 else L - n)) ∧ Below w.heap.size w w' := by
  have hK := fun W => szints_any ta n tc L W hn h0 h1
  unfold aD
  by_cases h : L < (n : Int)
  · rw [if_pos h] at hK ⊢
    go_enter Try.func20, Try.ntmps20
    go_wp2_with (go_at_call 46; refine (hK _).mono ?_; rintro e w1 ⟨rfl, rfl⟩)
    go_ret
    exact ⟨rfl, by repeat (first | exact Below.refl _ _ | assumption | refine st_drew ?_ | refine st_drewN ?_ _ | refine Below.setCell ?_ (by first | omega | (simp; done) | (simp; omega)) _ | refine Below.alloc ?_ (by first | omega | (simp; done) | (simp; omega)) _)⟩
  · rw [if_neg h] at hK ⊢
    have h2 : ¬ L - n < 0 := by omega
    go_enter Try.func20, Try.ntmps20
    go_wp2_with (go_at_call 46; refine (hK _).mono ?_; rintro e w1 ⟨rfl, rfl⟩)
    go_ret
    exact ⟨rfl, by repeat (first | exact Below.refl _ _ | assumption | refine st_drew ?_ | refine st_drewN ?_ _ | refine Below.setCell ?_ (by first | omega | (simp; done) | (simp; omega)) _ | refine Below.alloc ?_ (by first | omega | (simp; done) | (simp; omega)) _)⟩

set_option maxRecDepth 20000 in
set_option maxHeartbeats 2000000 in
theorem eqints_any (a1 : Option Addr) (n1 c1 : Nat) (a2 : Option Addr) (n2 c2 : Nat) (l : List Int) (w : World) (h : IRw w (.slice a1 n1 c1) l) (h' : IRw w (.slice a2 n2 c2) l) (hn : l.length ≤ 1048576) :
    Calls Try.prog 26 #[.slice a1 n1 c1, .slice a2 n2 c2] w fun e w' => e = .returned (.bool true) ∧ Below w.heap.size w w' := by
  obtain rfl := h.len
  obtain rfl := h'.len
  have HH := hidden h
  have HH' := hidden h'
  clear h h'
  go_enter Try.func26, Try.ntmps26
  go_wp2_with fail
  go_loopw [5] (fun iv wr => ∃ i : Nat, i ≤ l.length ∧ iv = .int .i64 i ∧ Below w.heap.size w wr) (fun iv _ => l.length - (intOf iv).toNat)
  case atStart => exact ⟨0, Nat.zero_le _, rfl, Below.refl _ _⟩
  case round =>
    obtain ⟨i, hil, rfl, hb⟩ := hrel
    by_cases hlt : i < l.length
    · have hlti : (i : Int) < (l.length : Int) := by omega
      obtain ⟨x, hx⟩ := some_of l i hlt
      obtain ⟨g, off, rfl, hg, hcs⟩ := (HH.out.below hb).at hx
      obtain ⟨g', off', rfl, hg', hcs'⟩ := (HH'.out.below hb).at hx
      have c0 := hcs i x hx
      have d0 := hcs' i x hx
      clear hcs hcs' hx
      go_wp2_with fail
      go_quiet (fail)
      go_wp2_with fail
      go_roundw
      case rel => exact ⟨i + 1, by omega, rfl, by repeat (first | exact Below.refl _ _ | assumption | refine st_drew ?_ | refine st_drewN ?_ _ | refine Below.setCell ?_ (by first | omega | (simp; done) | (simp; omega)) _ | refine Below.alloc ?_ (by first | omega | (simp; done) | (simp; omega)) _)⟩
      case measure => simp [intOf]; omega
    · have hlti : ¬ (i : Int) < (l.length : Int) := by omega
      go_wp2_with fail
      go_ret
      exact ⟨rfl, hb⟩

set_option maxRecDepth 20000 in
set_option maxHeartbeats 1000000 in
theorem eqdrug_any (x : Dg) (a1 : Option Addr) (n1 c1 : Nat) (a2 : Option Addr) (n2 c2 : Nat) (w : World) (h : IRw w (.slice a1 n1 c1) x.cls) (h' : IRw w (.slice a2 n2 c2) x.cls) (hn : x.cls.length ≤ 1048576) :
    Calls Try.prog 25 #[aD x (.slice a1 n1 c1), aD x (.slice a2 n2 c2)] w fun e w' => e = .returned (.bool true) ∧ Below w.heap.size w w' := by
  have hK := fun W hW hW' => eqints_any a1 n1 c1 a2 n2 c2 x.cls W hW hW' hn
  have HA := hidden (fun W (hW : Below w.heap.size w W) => h.below hW)
  have HB := hidden (fun W (hW : Below w.heap.size w W) => h'.below hW)
  clear h h'
  have P0 := hidden ((PB.new w #[.int .i64 x.id, .slice a1 n1 c1, .int .i64 x.pk, .int .i64 x.most, .int .i64 x.day, .int .i64 x.kid] 44).alloc (.cells #[.int .i64 x.id, .slice a2 n2 c2, .int .i64 x.pk, .int .i64 x.most, .int .i64 x.day, .int .i64 x.kid] 44))
  have P1 := hidden (PB.new (w.alloc (.cells #[.int .i64 x.id, .slice a1 n1 c1, .int .i64 x.pk, .int .i64 x.most, .int .i64 x.day, .int .i64 x.kid] 44)) #[.int .i64 x.id, .slice a2 n2 c2, .int .i64 x.pk, .int .i64 x.most, .int .i64 x.day, .int .i64 x.kid] 44)
  simp only [World.size_alloc] at P0 P1
  unfold aD
  go_enter Try.func25, Try.ntmps25
  go_wp2_with (go_at_call 26; refine (hK _ (HA.out _ (by repeat (first | exact Below.refl _ _ | assumption | refine st_drew ?_ | refine st_drewN ?_ _ | refine Below.setCell ?_ (by first | omega | (simp; done) | (simp; omega)) _ | refine Below.alloc ?_ (by first | omega | (simp; done) | (simp; omega)) _))) (HB.out _ (by repeat (first | exact Below.refl _ _ | assumption | refine st_drew ?_ | refine st_drewN ?_ _ | refine Below.setCell ?_ (by first | omega | (simp; done) | (simp; omega)) _ | refine Below.alloc ?_ (by first | omega | (simp; done) | (simp; omega)) _)))).mono ?_; rintro e w1 ⟨rfl, hb1⟩; obtain ⟨p0, p1, p2, p3, p4, p5⟩ := (P0.out.below hb1).six; obtain ⟨q0, q1, q2, q3, q4, q5⟩ := (P1.out.below hb1).six; have bA := onto (show Below w.heap.size w _ from by repeat (first | exact Below.refl _ _ | assumption | refine st_drew ?_ | refine st_drewN ?_ _ | refine Below.setCell ?_ (by first | omega | (simp; done) | (simp; omega)) _ | refine Below.alloc ?_ (by first | omega | (simp; done) | (simp; omega)) _)) hb1; clear hb1)
  go_ret
  exact ⟨rfl, bA⟩

end Go.Proofs.Ytcnhogghfedcdab
