/-
  Control, the program's: the least and the greatest, the rules as closures.
-/
import Derived.Test.YtecljmpojninfaaT30
import Derived.Test.YtecljmpojninfaaT8
import Derived.Test.YtecljmpojninfaaT9
import Derived.Lib.MinMax
import Derived.Laws.EntriesVeiled
namespace Go.Proofs.Ytecljmpojninfaa
open Go.RowKit Va Lb
set_option linter.all false

set_option maxRecDepth 20000 in
set_option maxHeartbeats 2000000 in
theorem imin_any (ao : Option Addr) (n cap : Nat) (l : List Int) (w : World) (h : VRw 1 cvI w (.slice ao n cap) l) (hn : l.length ≤ 1048576) (h0 : 0 < l.length) :
    Calls Try.prog 78 #[.slice ao n cap] w fun e w' => (∃ m : Int, e = .returned (.int .i64 m) ∧ m ∈ l ∧ ∀ x ∈ l, m ≤ x) ∧ w' = w := by
  obtain rfl := h.len
  have HR := hidden h
  clear h
  have hl1 : ¬ (l.length : Int) < 1 := by omega
  obtain ⟨x0, hx0⟩ := some_of l 0 h0
  obtain ⟨g, off, rfl, hg, c0⟩ := vint_cell HR.out hx0
  rw [Nat.add_zero] at c0
  have h0i : (0 : Int) < (l.length : Int) := by omega
  have HX0 := hidden hx0
  clear hx0
  go_enter Try.func78, Try.ntmps78
  go_wp2_with fail
  go_loopw [3, 4] (fun mv iv wr => ∃ (i : Nat) (m : Int), 1 ≤ i ∧ i ≤ l.length ∧ iv = .int .i64 i ∧ mv = .int .i64 m ∧ Hid (m ∈ l.take i ∧ ∀ x ∈ l.take i, m ≤ x) ∧ wr = w) (fun _ iv _ => l.length - (intOf iv).toNat)
  case atStart => exact ⟨1, x0, by omega, by omega, rfl, rfl, by (rw [Hid, take_snL HX0.out]; simp), rfl⟩
  case round =>
    clear c0
    obtain ⟨i, m, hi1, hi, rfl, rfl, HM, hwr⟩ := hrel
    have hwr' := hwr.symm
    clear hwr
    subst hwr'
    by_cases hlt : i < l.length
    · have hlti : (i : Int) < (l.length : Int) := by omega
      obtain ⟨y, hy⟩ := some_of l i hlt
      obtain ⟨g', off', he, hg', e0⟩ := vint_cell HR.out hy
      obtain ⟨rfl, rfl⟩ : g = g' ∧ off = off' := by simpa using he
      have HN : Hid (min m y ∈ l.take (i + 1) ∧ ∀ x ∈ l.take (i + 1), min m y ≤ x) := by
        rw [Hid, take_snL hy]
        obtain ⟨q1, q2⟩ := HM.out
        constructor
        · rcases (show min m y = m ∨ min m y = y by omega) with e | e
          · rw [e]; exact List.mem_append_left _ q1
          · rw [e]; exact List.mem_append_right _ (by simp)
        · intro x hx
          rcases List.mem_append.1 hx with q | q
          · have := q2 x q; omega
          · simp at q; subst q; omega
      clear hy he HM
      go_wp2_with fail
      go_roundw
      case rel => exact ⟨i + 1, min m y, by omega, by omega, rfl, rfl, HN, by simp⟩
      case measure => simp [intOf]; omega
    · have hlti : ¬ (i : Int) < (l.length : Int) := by omega
      have hM := HM.out
      rw [List.take_of_length_le (by omega)] at hM
      clear HM
      have HM2 := hidden hM
      clear hM
      go_wp2_with fail
      go_ret
      exact ⟨⟨m, rfl, HM2.out⟩, rfl⟩

set_option maxRecDepth 20000 in
set_option maxHeartbeats 2000000 in
theorem imax_any (ao : Option Addr) (n cap : Nat) (l : List Int) (w : World) (h : VRw 1 cvI w (.slice ao n cap) l) (hn : l.length ≤ 1048576) (h0 : 0 < l.length) :
    Calls Try.prog 79 #[.slice ao n cap] w fun e w' => (∃ m : Int, e = .returned (.int .i64 m) ∧ m ∈ l ∧ ∀ x ∈ l, x ≤ m) ∧ w' = w := by
  obtain rfl := h.len
  have HR := hidden h
  clear h
  have hl1 : ¬ (l.length : Int) < 1 := by omega
  obtain ⟨x0, hx0⟩ := some_of l 0 h0
  obtain ⟨g, off, rfl, hg, c0⟩ := vint_cell HR.out hx0
  rw [Nat.add_zero] at c0
  have h0i : (0 : Int) < (l.length : Int) := by omega
  have HX0 := hidden hx0
  clear hx0
  go_enter Try.func79, Try.ntmps79
  go_wp2_with fail
  go_loopw [3, 4] (fun mv iv wr => ∃ (i : Nat) (m : Int), 1 ≤ i ∧ i ≤ l.length ∧ iv = .int .i64 i ∧ mv = .int .i64 m ∧ Hid (m ∈ l.take i ∧ ∀ x ∈ l.take i, x ≤ m) ∧ wr = w) (fun _ iv _ => l.length - (intOf iv).toNat)
  case atStart => exact ⟨1, x0, by omega, by omega, rfl, rfl, by (rw [Hid, take_snL HX0.out]; simp), rfl⟩
  case round =>
    clear c0
    obtain ⟨i, m, hi1, hi, rfl, rfl, HM, hwr⟩ := hrel
    have hwr' := hwr.symm
    clear hwr
    subst hwr'
    by_cases hlt : i < l.length
    · have hlti : (i : Int) < (l.length : Int) := by omega
      obtain ⟨y, hy⟩ := some_of l i hlt
      obtain ⟨g', off', he, hg', e0⟩ := vint_cell HR.out hy
      obtain ⟨rfl, rfl⟩ : g = g' ∧ off = off' := by simpa using he
      have HN : Hid (max m y ∈ l.take (i + 1) ∧ ∀ x ∈ l.take (i + 1), x ≤ max m y) := by
        rw [Hid, take_snL hy]
        obtain ⟨q1, q2⟩ := HM.out
        constructor
        · rcases (show max m y = m ∨ max m y = y by omega) with e | e
          · rw [e]; exact List.mem_append_left _ q1
          · rw [e]; exact List.mem_append_right _ (by simp)
        · intro x hx
          rcases List.mem_append.1 hx with q | q
          · have := q2 x q; omega
          · simp at q; subst q; omega
      clear hy he HM
      go_wp2_with fail
      go_roundw
      case rel => exact ⟨i + 1, max m y, by omega, by omega, rfl, rfl, HN, by simp⟩
      case measure => simp [intOf]; omega
    · have hlti : ¬ (i : Int) < (l.length : Int) := by omega
      have hM := HM.out
      rw [List.take_of_length_le (by omega)] at hM
      clear HM
      have HM2 := hidden hM
      clear hM
      go_wp2_with fail
      go_ret
      exact ⟨⟨m, rfl, HM2.out⟩, rfl⟩

/-- The closure of a rule's kind. -/
def kF (b : Bool) : Nat := if b then 73 else 72
def kB (b : Bool) (f lo hi : Int) : Bool := if b then decide (lo < -f) && decide (f < hi) else decide (f < lo) || decide (hi < -f)

set_option maxRecDepth 20000 in
set_option maxHeartbeats 1000000 in
theorem ione_any (lo hi f : Int) (B : Nat) (w : World) (hB : PB w B #[.int .i64 f] 2) (h0 : 0 ≤ f) (h1 : f ≤ 1000000) :
    Calls Try.prog 72 #[.int .i64 lo, .int .i64 hi, .pointer (some ⟨B, 0, none⟩)] w fun e w' => e = .returned (.bool (kB false f lo hi)) ∧ w' = w := by
  have c0 : w.cell? ⟨B, 0, none⟩ = some (.int .i64 f) := hB.cell 0
  have HV : Hid (kB false f lo hi = (decide (f < lo) || decide (hi < -f))) := rfl
  generalize kB false f lo hi = R at *
  clear hB
  by_cases q : f < lo
  · go_enter Try.func72, Try.ntmps72
    go_wp2_with fail
    go_ret
    exact ⟨ret_boolT (by rw [HV.out]; simp [q]), rfl⟩
  · go_enter Try.func72, Try.ntmps72
    go_wp2_with fail
    go_ret
    exact ⟨ret_boolT (by rw [HV.out, decide_eq_false (show ¬ f < lo from by omega), Bool.false_or]), rfl⟩

set_option maxRecDepth 20000 in
set_option maxHeartbeats 1000000 in
theorem iboth_any (lo hi f : Int) (B : Nat) (w : World) (hB : PB w B #[.int .i64 f] 2) (h0 : 0 ≤ f) (h1 : f ≤ 1000000) :
    Calls Try.prog 73 #[.int .i64 lo, .int .i64 hi, .pointer (some ⟨B, 0, none⟩)] w fun e w' => e = .returned (.bool (kB true f lo hi)) ∧ w' = w := by
  have c0 : w.cell? ⟨B, 0, none⟩ = some (.int .i64 f) := hB.cell 0
  have HV : Hid (kB true f lo hi = (decide (lo < -f) && decide (f < hi))) := rfl
  generalize kB true f lo hi = R at *
  clear hB
  by_cases q : lo < -f
  · go_enter Try.func73, Try.ntmps73
    go_wp2_with fail
    go_ret
    exact ⟨ret_boolT (by rw [HV.out]; simp [q]), rfl⟩
  · go_enter Try.func73, Try.ntmps73
    go_wp2_with fail
    go_ret
    exact ⟨ret_boolT (by rw [HV.out, decide_eq_false (show ¬ lo < -f from by omega), Bool.false_and]), rfl⟩

theorem kB_rl {r : Rl} {l : List Int} {lo hi : Int} (hc : r.c ≤ l.length) (h1 : lo ∈ lastC' r.c l ∧ ∀ x ∈ lastC' r.c l, lo ≤ x) (h2 : hi ∈ lastC' r.c l ∧ ∀ x ∈ lastC' r.c l, x ≤ hi) : kB r.both r.f lo hi = rlB r l := by
  obtain ⟨b, c, f⟩ := r
  dsimp only at *
  unfold rlB kB
  dsimp only
  have ea : ∀ (p : Int → Bool) (P : Prop), (P ↔ ∀ x ∈ lastC' c l, p x = true) → ((lastC' c l).all p = true ↔ P) := fun p P h => by rw [List.all_eq_true]; exact h.symm
  rw [Bool.eq_iff_iff]
  cases b with
  | true =>
    simp only [if_true, Bool.and_eq_true, decide_eq_true_eq, List.any_eq_true, hc, true_and]
    constructor
    · rintro ⟨q1, q2⟩; exact ⟨⟨lo, h1.1, q1⟩, ⟨hi, h2.1, q2⟩⟩
    · rintro ⟨⟨x, hx, q1⟩, ⟨y, hy, q2⟩⟩
      have := h1.2 x hx
      have := h2.2 y hy
      omega
  | false =>
    simp only [Bool.false_eq_true, if_false, Bool.or_eq_true, Bool.and_eq_true, decide_eq_true_eq, List.all_eq_true, hc, true_and]
    constructor
    · rintro (q | q)
      · exact .inl fun x hx => by have := h1.2 x hx; omega
      · exact .inr fun x hx => by have := h2.2 x hx; omega
    · rintro (q | q)
      · exact .inl (q lo h1.1)
      · exact .inr (q hi h2.1)
end Go.Proofs.Ytecljmpojninfaa
