/-
  Merged: Rm4.
-/
import Derived.Test.YtgcpiinmcbdkmaaMw11
namespace Go.Proofs.Ytgcpiinmcbdkmaa
open Go.RowKit Va Ms
set_option linter.all false
abbrev rdC (s : ByteArray) (i b : Nat) (nm : ByteArray) (fv dv pv : Value) (c a : Nat) : Array Value := #[.string s, .int .i64 i, .int .i64 b, .string nm, fv, dv, pv, .int .i64 c, .int .i64 a]
theorem Keep.drew {g : Nat} {a b : World} (h : Keep g a b) : Keep g a b.drew := ⟨h.os, h.tape, h.output, h.size, h.block⟩
set_option maxRecDepth 20000 in
set_option maxHeartbeats 4000000 in
theorem note_any (s : ByteArray) (i b : Nat) (nm : ByteArray) (fv dv pv : Value) (c a : Nat) (R : Nat) (c' a' : Nat) (w : World) (h : PB w R (rdC s i b nm fv dv pv c a) 110) :
    Calls Try.prog 71 #[.pointer (some ⟨R, 0, none⟩), .int .i64 c', .int .i64 a'] w fun e w' => e = .returned (.tuple #[]) ∧ PB w' R (rdC s i b nm fv dv pv (noteC c c') (noteA c a c' a')) 110 ∧ Keep R w w' := by
  obtain ⟨p0, p1, p2, p3, p4, p5, p6, p7, p8⟩ := h.nine
  have f7 := h.frozen 7
  have f8 := h.frozen 8
  unfold noteC noteA
  by_cases h0 : c = 0
  · subst h0
    rw [if_pos (Or.inl rfl), if_pos (Or.inl rfl)]
    have HF := hidden ((h.put 7 (.int .i64 c') (vs' := rdC s i b nm fv dv pv c' a) rfl).put 8 (.int .i64 a') (vs' := rdC s i b nm fv dv pv c' a') rfl)
    have HK := hidden (((Keep.refl R w).set (j := 7) (.int .i64 c')).set (j := 8) (.int .i64 a'))
    clear h
    go_enter Try.func71, Try.ntmps71
    go_wp2_with fail
    go_end0
    exact ⟨rfl, HF.out, HK.out⟩
  · have h0b : ((c : Int) == 0) = false := by rw [beq_eq_false_iff_ne]; omega
    by_cases h1 : c' < c
    · have h1i : (c' : Int) < (c : Int) := by omega
      rw [if_pos (Or.inr h1), if_pos (Or.inr h1)]
      have HF := hidden ((h.put 7 (.int .i64 c') (vs' := rdC s i b nm fv dv pv c' a) rfl).put 8 (.int .i64 a') (vs' := rdC s i b nm fv dv pv c' a') rfl)
      have HK := hidden (((Keep.refl R w).set (j := 7) (.int .i64 c')).set (j := 8) (.int .i64 a'))
      clear h h1
      go_enter Try.func71, Try.ntmps71
      go_wp2_with fail
      go_end0
      exact ⟨rfl, HF.out, HK.out⟩
    · have h1i : ¬ (c' : Int) < (c : Int) := by omega
      rw [if_neg (by omega), if_neg (by omega)]
      have HF := hidden h
      clear h h1
      go_enter Try.func71, Try.ntmps71
      go_wp2_with fail
      go_end0
      exact ⟨rfl, HF.out, Keep.refl R _⟩
set_option maxRecDepth 20000 in
set_option maxHeartbeats 4000000 in
theorem take_any (s : ByteArray) (i b : Nat) (nm : ByteArray) (fv dv pv : Value) (c a : Nat) (R : Nat) (w : World) (h : PB w R (rdC s i b nm fv dv pv c a) 110) (hi : i < s.size) (hs : s.size ≤ 1048576) :
    Calls Try.prog 109 #[.pointer (some ⟨R, 0, none⟩)] w fun e w' => e = .returned (.int .u8 (nb s i)) ∧ PB w' R (rdC s (i + 1) b nm fv dv pv c a) 110 ∧ Keep R w w' := by
  obtain ⟨p0, p1, p2, p3, p4, p5, p6, p7, p8⟩ := h.nine
  have f1 := h.frozen 1
  have hw1 : IntKind.i64.wrap ((i : Int) + 1) = ((i + 1 : Nat) : Int) := by rw [IntKind.wrap_i64]; omega
  have hw2 : IntKind.i64.wrap (((i + 1 : Nat) : Int) - 1) = (i : Int) := by rw [IntKind.wrap_i64]; omega
  have hx := idx_at s i (i : Int) rfl hi
  obtain ⟨i1, hi1⟩ : ∃ i1, i1 = i + 1 := ⟨_, rfl⟩
  rw [← hi1] at hw1 hw2 ⊢
  have hP := h.put 1 (.int .i64 i1) (vs' := rdC s i1 b nm fv dv pv c a) rfl
  have HK := hidden ((Keep.refl R w).set (j := 1) (.int .i64 i1))
  have HI := hidden hi1
  clear h hi1
  go_enter Try.func109, Try.ntmps109
  go_upto_region 2 with fail
  generalize w.setCell ⟨R, 1, none⟩ (.int .i64 i1) = w1 at *
  have HF := hidden hP
  clear p0 p1 p2 p3 p4 p5 p6 p7 p8
  obtain ⟨p0, p1, p2, p3, p4, p5, p6, p7, p8⟩ := hP.nine
  clear hP
  go_quiet (fail)
  go_wp2_with fail
  go_ret
  exact ⟨rfl, HF.out.drewN _, HK.out.drewN _⟩
def gnB (u : ByteArray) : Bool := decide (3 < u.size) && (nameB (u.extract 0 3) && (decide (nb u 3 = 124) || decide (nb u 3 = 13)))
set_option maxRecDepth 20000 in
set_option maxHeartbeats 4000000 in
theorem begins_any (u : ByteArray) (w : World) (hu : u.size ≤ 1048576) : Calls Try.prog 136 #[.string u] w fun e w' => e = .returned (.bool (gnB u)) ∧ w = w' := by
  unfold gnB
  by_cases h3 : 3 < u.size
  · have h3i : ¬ (u.size : Int) ≤ 3 := by omega
    have kn := iname_any (u.extract 0 3) (by rw [ByteArray.size_extract]; omega)
    have hx := idx_at u 3 3 rfl h3
    rw [decide_eq_true h3, Bool.true_and]
    cases hn : nameB (u.extract 0 3) with
    | false =>
      rw [hn] at kn
      clear h3 hn
      go_enter Try.func136, Try.ntmps136
      go_wp2_with (go_at_call 159; (with_reducible refine (kn _).mono ?_); rintro e w1 ⟨rfl, rfl⟩)
      go_ret
      exact ⟨rfl, rfl⟩
    | true =>
      rw [hn] at kn
      clear hn
      rw [Bool.true_and]
      by_cases h4 : nb u 3 = 124
      · have h4i : (((nb u 3 : Nat) : Int) == 124) = true := by rw [beq_iff_eq]; omega
        rw [decide_eq_true h4, Bool.true_or]
        clear h3 h4
        go_enter Try.func136, Try.ntmps136
        go_wp2_with (go_at_call 159; (with_reducible refine (kn _).mono ?_); rintro e w1 ⟨rfl, rfl⟩)
        go_ret
        exact ⟨rfl, rfl⟩
      · have h4i : (((nb u 3 : Nat) : Int) == 124) = false := by rw [beq_eq_false_iff_ne]; omega
        rw [decide_eq_false h4, Bool.false_or]
        by_cases h5 : nb u 3 = 13
        · have h5i : (((nb u 3 : Nat) : Int) == 13) = true := by rw [beq_iff_eq]; omega
          rw [decide_eq_true h5]
          clear h3 h4 h5
          go_enter Try.func136, Try.ntmps136
          go_wp2_with (go_at_call 159; (with_reducible refine (kn _).mono ?_); rintro e w1 ⟨rfl, rfl⟩)
          go_ret
          exact ⟨rfl, rfl⟩
        · have h5i : (((nb u 3 : Nat) : Int) == 13) = false := by rw [beq_eq_false_iff_ne]; omega
          rw [decide_eq_false h5]
          clear h3 h4 h5
          go_enter Try.func136, Try.ntmps136
          go_wp2_with (go_at_call 159; (with_reducible refine (kn _).mono ?_); rintro e w1 ⟨rfl, rfl⟩)
          go_ret
          exact ⟨rfl, rfl⟩
  · have h3i : (u.size : Int) ≤ 3 := by omega
    rw [decide_eq_false h3]
    clear h3
    go_enter Try.func136, Try.ntmps136
    go_wp2_with fail
    go_ret
    exact ⟨rfl, rfl⟩
end Go.Proofs.Ytgcpiinmcbdkmaa
