/-
  Lowest terms, and the right amount that is n / d of a unit: of the program and of the specification.
-/
import Derived.Test.YtiopmlepdjiapaaOk2
namespace Go.Proofs.Ytiopmlepdjiapaa
open Go.RowKit Am

/-- A pair of parts, an amount, an amount and whether there is one: as values. -/
abbrev fr (n d : Int) : Value := .agg #[.int .i64 n, .int .i64 d]
abbrev am (n d u : Int) : Value := .agg #[.int .i64 n, .int .i64 d, .int .i64 u]

set_option maxHeartbeats 1000000 in
theorem lowest_any (n d : Int) (w : World) (hn : 0 ≤ n) (hd : 1 ≤ d) (ln : n ≤ 4000000000000000000) (ld : d ≤ 4000000000000000000) :
    Calls Try.prog 41 #[.agg #[.int .i64 n, .int .i64 d]] w fun e w' => e = .returned (.agg #[.int .i64 (n / gc n d), .int .i64 (d / gc n d)]) ∧ Below w.heap.size w w' := by
  have g1 := gc_pos n d (by omega)
  have h1 : (gc n d == 0) = false := by simp; omega
  have q1 : n / gc n d ≤ n := Int.ediv_le_self _ hn
  have q2 : d / gc n d ≤ d := Int.ediv_le_self _ (by omega)
  have q3 : 0 ≤ n / gc n d := Int.ediv_nonneg hn (by omega)
  have q4 : 0 ≤ d / gc n d := Int.ediv_nonneg (by omega) (by omega)
  go_enter Try.func41, Try.ntmps41
  go_wp2_with (go_at_call 29; refine (igcd_any _ _ _ (by omega) (by omega) (by omega) (by omega)).mono ?_; rintro e w' ⟨rfl, nq, rfl⟩)
  go_region
  all_goals go_wp2
  exact bodyPost_ret (v := .agg #[.int .i64 (n / gc n d), .int .i64 (d / gc n d)]) (by simp [results, Try.results41, go_sem]) rfl
    ⟨rfl, by repeat (first | exact Below.refl _ _ | refine below_drewN ?_ _ | refine Below.setCell ?_ (by simp) _ | refine Below.alloc ?_ (by simp) _)⟩

set_option maxHeartbeats 1000000 in
theorem right_yes (n d u : Int) (w : World) (hn : 0 ≤ n) (hd : 1 ≤ d) (ln : n ≤ 4000000000000000000) (ld : d ≤ 4000000000000000000) (hr : rB n d u = true) :
    Calls Try.prog 25 #[.agg #[.int .i64 n, .int .i64 d], .int .i64 u] w fun e w' => e = .returned (.tuple #[.agg #[.int .i64 (rN n d u), .int .i64 (rD n d u), .int .i64 (rU n d u)], .bool (rB n d u)]) ∧ Below w.heap.size w w' := by
  have ho : okB (n / gc n d) (d / gc n d) u = true := hr
  obtain ⟨e1, e2, e3⟩ := r_some n d u hr
  rw [e1, e2, e3, hr]
  clear hr e1 e2 e3
  go_enter Try.func25, Try.ntmps25
  go_wp2_with fail
  refine (lowest_any n d _ hn hd ln ld).mono ?_
  rintro e w1 ⟨rfl, hb1⟩
  obtain ⟨hc1, hf1⟩ := bcell hb1
  go_wp2_with fail
  refine (iok_any _ _ _ _).mono ?_
  rintro e w2 ⟨rfl, hb2⟩
  have hb := hop hb1 (((Below.refl _ _).alloc (Nat.le_refl _) _).alloc (by simp) _) hb2
  obtain ⟨hc2, hf2⟩ := bcell hb2
  obtain ⟨hc3, hf3⟩ := bcell hb
  have hz1 := hb1.size
  have hz2 := hb2.size
  have hz3 := hb.size
  simp at hz1 hz2 hz3
  go_wp2
  exact bodyPost_ret (v := .tuple #[.agg #[.int .i64 (n / gc n d), .int .i64 (d / gc n d), .int .i64 u], .bool true]) (by simp [results, Try.results25, go_sem, hc3]) rfl
    ⟨rfl, (((onto (((Below.refl _ _).alloc (Nat.le_refl _) _).alloc (by simp) _) hb).setCell (by simp) _).setCell (by simp) _).setCell (by simp) _⟩

set_option maxHeartbeats 1000000 in
theorem right_no (n d u : Int) (w : World) (hn : 0 ≤ n) (hd : 1 ≤ d) (ln : n ≤ 4000000000000000000) (ld : d ≤ 4000000000000000000) (hr : rB n d u = false) :
    Calls Try.prog 25 #[.agg #[.int .i64 n, .int .i64 d], .int .i64 u] w fun e w' => e = .returned (.tuple #[.agg #[.int .i64 (rN n d u), .int .i64 (rD n d u), .int .i64 (rU n d u)], .bool (rB n d u)]) ∧ Below w.heap.size w w' := by
  have ho : okB (n / gc n d) (d / gc n d) u = false := hr
  obtain ⟨e1, e2, e3⟩ := r_none n d u hr
  rw [e1, e2, e3, hr]
  clear hr e1 e2 e3
  go_enter Try.func25, Try.ntmps25
  go_wp2_with fail
  refine (lowest_any n d _ hn hd ln ld).mono ?_
  rintro e w1 ⟨rfl, hb1⟩
  obtain ⟨hc1, hf1⟩ := bcell hb1
  go_wp2_with fail
  refine (iok_any _ _ _ _).mono ?_
  rintro e w2 ⟨rfl, hb2⟩
  have hb := hop hb1 (((Below.refl _ _).alloc (Nat.le_refl _) _).alloc (by simp) _) hb2
  obtain ⟨hc2, hf2⟩ := bcell hb2
  obtain ⟨hc3, hf3⟩ := bcell hb
  have hz1 := hb1.size
  have hz2 := hb2.size
  have hz3 := hb.size
  simp at hz1 hz2 hz3
  go_wp2
  exact bodyPost_ret (v := .tuple #[.agg #[.int .i64 0, .int .i64 0, .int .i64 0], .bool false]) (by simp [results, Try.results25, go_sem, hc3]) rfl
    ⟨rfl, (((onto (((Below.refl _ _).alloc (Nat.le_refl _) _).alloc (by simp) _) hb).setCell (by simp) _).setCell (by simp) _).setCell (by simp) _⟩

theorem right_any (n d u : Int) (w : World) (hn : 0 ≤ n) (hd : 1 ≤ d) (ln : n ≤ 4000000000000000000) (ld : d ≤ 4000000000000000000) :
    Calls Try.prog 25 #[.agg #[.int .i64 n, .int .i64 d], .int .i64 u] w fun e w' => e = .returned (.tuple #[.agg #[.int .i64 (rN n d u), .int .i64 (rD n d u), .int .i64 (rU n d u)], .bool (rB n d u)]) ∧ Below w.heap.size w w' := by
  cases h : rB n d u with
  | true => rw [← h]; exact right_yes n d u w hn hd ln ld h
  | false => rw [← h]; exact right_no n d u w hn hd ln ld h

/-- Within the wide bounds. -/
def wide (n d : Int) : Bool := decide (0 ≤ n ∧ n ≤ 1000000000000000000 ∧ 1 ≤ d ∧ d ≤ 1000000000000000000)
/-- What MakeAmount tells. -/
def mB (n d u : Int) : Bool := wide n d && rB n d u
def mN (n d u : Int) : Int := if wide n d = true then rN n d u else 0
def mD (n d u : Int) : Int := if wide n d = true then rD n d u else 0
def mU (n d u : Int) : Int := if wide n d = true then rU n d u else 0
theorem m_in (n d u : Int) (h : 0 ≤ n ∧ n ≤ 1000000000000000000 ∧ 1 ≤ d ∧ d ≤ 1000000000000000000) : mN n d u = rN n d u ∧ mD n d u = rD n d u ∧ mU n d u = rU n d u ∧ mB n d u = rB n d u := by
  have : wide n d = true := decide_eq_true h
  unfold mN mD mU mB; simp [this]
theorem m_out (n d u : Int) (h : ¬ (0 ≤ n ∧ n ≤ 1000000000000000000 ∧ 1 ≤ d ∧ d ≤ 1000000000000000000)) : mN n d u = 0 ∧ mD n d u = 0 ∧ mU n d u = 0 ∧ mB n d u = false := by
  have : wide n d = false := decide_eq_false h
  unfold mN mD mU mB; simp [this]

end Go.Proofs.Ytiopmlepdjiapaa
