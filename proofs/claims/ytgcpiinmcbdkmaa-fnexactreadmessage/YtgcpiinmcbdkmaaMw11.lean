/-
  Merged: Rm3.
-/
import Derived.Test.YtgcpiinmcbdkmaaMw3
import Derived.Test.YtgcpiinmcbdkmaaMw6
import Derived.Test.YtgcpiinmcbdkmaaMw9
import Derived.Test.YtgcpiinmcbdkmaaMw10
import Derived.BigQuiet
namespace Go.Proofs.Ytgcpiinmcbdkmaa
open Go.RowKit Va Ms
set_option linter.all false
set_option maxHeartbeats 400000 in
theorem iplain_any (n : Nat) (w : World) : Calls Try.prog 107 #[.int .u8 (n : Int)] w fun e w' => e = .returned (.bool (plainN n)) ∧ w = w' := by
  unfold plainN
  by_cases h1 : 32 ≤ n
  · have h1i : ((32 : Int) ≤ (n : Int)) := by omega
    by_cases h2 : n ≤ 126
    · have h2i : ((n : Int) ≤ (126 : Int)) := by omega
      rw [decide_eq_true h1, decide_eq_true h2]
      clear h1 h2
      go_enter Try.func107, Try.ntmps107
      go_wp2
      all_goals (go_ret; exact ⟨by first | rfl | exact ret_boolT (by first | (simp; done) | (simp; omega) | (simp_all; done) | (simp_all; omega) | (rw [Bool.eq_iff_iff]; simp; omega) | (rw [Bool.eq_iff_iff]; simp_all; omega)), rfl⟩)
    · have h2i : ¬ ((n : Int) ≤ (126 : Int)) := by omega
      rw [decide_eq_true h1, decide_eq_false h2]
      clear h1 h2
      go_enter Try.func107, Try.ntmps107
      go_wp2
      all_goals (go_ret; exact ⟨by first | rfl | exact ret_boolT (by first | (simp; done) | (simp; omega) | (simp_all; done) | (simp_all; omega) | (rw [Bool.eq_iff_iff]; simp; omega) | (rw [Bool.eq_iff_iff]; simp_all; omega)), rfl⟩)
  · have h1i : ¬ ((32 : Int) ≤ (n : Int)) := by omega
    rw [decide_eq_false h1, Bool.false_and]
    clear h1
    go_enter Try.func107, Try.ntmps107
    go_wp2
    all_goals (go_ret; exact ⟨by first | rfl | exact ret_boolT (by first | (simp; done) | (simp; omega) | (simp_all; done) | (simp_all; omega) | (rw [Bool.eq_iff_iff]; simp; omega) | (rw [Bool.eq_iff_iff]; simp_all; omega)), rfl⟩)
def bf (s : ByteArray) : Nat × Nat := if 20000 < s.size then (1, 0) else if s.size = 0 ∨ nb s (s.size - 1) ≠ 13 then (2, s.size) else match badByte s 0 with | some i => (3, i) | none => (0, 0)
theorem bb_next {s : ByteArray} {i : Nat} (hi : i < s.size) (h : plainN (nb s i) = true ∨ nb s i = 13) : badByte s i = badByte s (i + 1) := by
  rw [badByte, if_pos hi, if_neg (fun q => by rcases h with h | h; · rw [h] at q; exact absurd q.2 (by simp)
                                              · exact q.1 h)]
theorem bb_hit {s : ByteArray} {i : Nat} (hi : i < s.size) (h1 : plainN (nb s i) = false) (h2 : nb s i ≠ 13) : badByte s i = some i := by rw [badByte, if_pos hi, if_pos ⟨h2, h1⟩]
theorem bb_end {s : ByteArray} {i : Nat} (hi : ¬ i < s.size) : badByte s i = none := by rw [badByte, if_neg hi]
set_option maxRecDepth 20000 in
set_option maxHeartbeats 4000000 in
theorem ibytes_any (s : ByteArray) (hs : s.size ≤ 1048576) (w : World) : Calls Try.prog 69 #[.string s] w fun e w' => e = .returned (.agg #[.int .i64 (bf s).1, .int .i64 (bf s).2]) ∧ Below w.heap.size w w' := by
  have b0 : Below w.heap.size w (w.alloc (.cells #[.int .i64 0, .int .i64 0] 58)) := by repeat (first | exact Below.refl _ _ | assumption | refine st_drew ?_ | refine st_drewN ?_ _ | refine Below.setCell ?_ (by first | omega | (simp; done) | (simp; omega)) _ | refine Below.alloc ?_ (by first | omega | (simp; done) | (simp; omega)) _)
  have P0 := PB.new w #[.int .i64 0, .int .i64 0] 58
  go_enter Try.func69, Try.ntmps69
  go_upto_region 1 with fail
  generalize w.alloc (.cells #[.int .i64 0, .int .i64 0] 58) = w1 at *
  have hBw : w.heap.size ≤ w.heap.size := Nat.le_refl _
  generalize hB : w.heap.size = B at P0 ⊢
  have hBw : w.heap.size ≤ B := by omega
  have HB := hidden hB
  clear hB
  obtain ⟨p0, p1⟩ := P0.two
  obtain ⟨f0, f1, -⟩ := P0.cold
  by_cases h1 : 20000 < s.size
  · have h1i : (20000 : Int) < (s.size : Int) := by omega
    have HV : Hid (bf s = (1, 0)) := by rw [Hid, bf, if_pos h1]
    have HF := hidden ((P0.put 0 (.int .i64 1) (vs' := #[.int .i64 1, .int .i64 0]) (by simp)).put 1 (.int .i64 0) (vs' := #[.int .i64 1, .int .i64 0]) (by simp))
    have HB2 := hidden ((b0.setCell (p := ⟨B, 0, none⟩) hBw (.int .i64 1)).setCell (p := ⟨B, 1, none⟩) hBw (.int .i64 0))
    clear h1 P0 b0
    go_wp2_with fail
    exact bodyPost_ret (v := .agg #[.int .i64 1, .int .i64 0]) (results_cell_row Try.results69 _ _ B 58 _ (0, 0) _ rfl HF.out Try.underlying58 rfl (by kernel_rfl)) rfl ⟨by rw [HV.out]; rfl, HB2.out⟩
  have h1i : ¬ (20000 : Int) < (s.size : Int) := by omega
  by_cases h2 : s.size = 0
  · have h2i : (s.size : Int) = 0 := by omega
    have HV : Hid (bf s = (2, 0)) := by rw [Hid, bf, if_neg h1, if_pos (Or.inl h2), h2]
    have HF := hidden ((P0.put 0 (.int .i64 2) (vs' := #[.int .i64 2, .int .i64 0]) (by simp)).put 1 (.int .i64 0) (vs' := #[.int .i64 2, .int .i64 0]) (by simp))
    have HB2 := hidden ((b0.setCell (p := ⟨B, 0, none⟩) hBw (.int .i64 2)).setCell (p := ⟨B, 1, none⟩) hBw (.int .i64 0))
    clear h1 h2 P0 b0
    go_wp2_with fail
    exact bodyPost_ret (v := .agg #[.int .i64 2, .int .i64 0]) (results_cell_row Try.results69 _ _ B 58 _ (0, 0) _ rfl HF.out Try.underlying58 rfl (by kernel_rfl)) rfl ⟨by rw [HV.out]; rfl, HB2.out⟩
  have h2i : ((s.size : Int) == 0) = false := by rw [beq_eq_false_iff_ne]; omega
  have hw1 : IntKind.i64.wrap ((s.size : Int) - 1) = ((s.size - 1 : Nat) : Int) := by rw [IntKind.wrap_i64]; omega
  have hx := idx_at s (s.size - 1) ((s.size - 1 : Nat) : Int) rfl (by omega)
  by_cases h3 : nb s (s.size - 1) = 13
  · have h3i : (((nb s (s.size - 1) : Nat) : Int) != 13) = false := by simp; omega
    have HV : Hid (bf s = match badByte s 0 with | some i => (3, i) | none => (0, 0)) := by rw [Hid, bf, if_neg h1, if_neg (by omega)]
    clear h1 h2 h3
    go_wp2_with fail
    go_loopw [4, 22] (fun _ iv wr => ∃ i : Nat, i ≤ s.size ∧ iv = .int .i64 i ∧ Hid (badByte s 0 = badByte s i) ∧ wr = w1) (fun _ iv _ => s.size - (intOf iv).toNat)
    case atStart => exact ⟨0, Nat.zero_le _, rfl, rfl, rfl⟩
    case round =>
      obtain ⟨i, hi, rfl, hbb, rfl⟩ := hrel
      by_cases hlt : i < s.size
      · have hlti : (i : Int) < (s.size : Int) := by omega
        have hxi := idx_at s i (i : Int) rfl hlt
        have kp := iplain_any (nb s i)
        cases hp : plainN (nb s i) with
        | true =>
          rw [hp] at kp
          have HN : Hid (badByte s 0 = badByte s (i + 1)) := hbb.out.trans (bb_next hlt (Or.inl hp))
          clear hp hbb
          go_wp2_with (go_at_call 107; (with_reducible refine (kp _).mono ?_); rintro e w2 ⟨rfl, rfl⟩)
          go_roundw
          case rel => first | exact ⟨i + 1, by omega, by simp, HN, rfl⟩ | exact ⟨i + 1, by omega, by simp, HN, trivial⟩
          case measure => simp [intOf]; omega
        | false =>
          rw [hp] at kp
          by_cases h13 : nb s i = 13
          · have h13i : (((nb s i : Nat) : Int) != 13) = false := by simp; omega
            have HN : Hid (badByte s 0 = badByte s (i + 1)) := hbb.out.trans (bb_next hlt (Or.inr h13))
            clear hp hbb h13
            go_wp2_with (go_at_call 107; (with_reducible refine (kp _).mono ?_); rintro e w2 ⟨rfl, rfl⟩)
            go_roundw
            case rel => first | exact ⟨i + 1, by omega, by simp, HN, rfl⟩ | exact ⟨i + 1, by omega, by simp, HN, trivial⟩
            case measure => simp [intOf]; omega
          · have h13i : (((nb s i : Nat) : Int) != 13) = true := by simp; omega
            have HV2 : Hid (bf s = (3, i)) := by rw [Hid, HV.out, hbb.out, bb_hit hlt hp h13]
            have HF := hidden ((P0.put 0 (.int .i64 3) (vs' := #[.int .i64 3, .int .i64 0]) (by simp)).put 1 (.int .i64 i) (vs' := #[.int .i64 3, .int .i64 i]) (by simp))
            have HB2 := hidden ((b0.setCell (p := ⟨B, 0, none⟩) hBw (.int .i64 3)).setCell (p := ⟨B, 1, none⟩) hBw (.int .i64 i))
            clear hp hbb h13 HV P0 b0
            go_wp2_with (go_at_call 107; (with_reducible refine (kp _).mono ?_); rintro e w2 ⟨rfl, rfl⟩)
            exact bodyPost_ret (v := .agg #[.int .i64 3, .int .i64 i]) (results_cell_row Try.results69 _ _ B 58 _ (0, 0) _ rfl HF.out Try.underlying58 rfl (by kernel_rfl)) rfl ⟨by rw [HV2.out]; rfl, HB2.out⟩
      · have hlti : ¬ (i : Int) < (s.size : Int) := by omega
        have HV2 : Hid (bf s = (0, 0)) := by rw [Hid, HV.out, hbb.out, bb_end hlt]
        have HF := hidden ((P0.put 0 (.int .i64 0) (vs' := #[.int .i64 0, .int .i64 0]) (by simp)).put 1 (.int .i64 0) (vs' := #[.int .i64 0, .int .i64 0]) (by simp))
        have HB2 := hidden ((b0.setCell (p := ⟨B, 0, none⟩) hBw (.int .i64 0)).setCell (p := ⟨B, 1, none⟩) hBw (.int .i64 0))
        clear hbb HV P0 b0
        go_wp2_with fail
        exact bodyPost_ret (v := .agg #[.int .i64 0, .int .i64 0]) (results_cell_row Try.results69 _ _ B 58 _ (0, 0) _ rfl HF.out Try.underlying58 rfl (by kernel_rfl)) rfl ⟨by rw [HV2.out]; rfl, HB2.out⟩
  · have h3i : (((nb s (s.size - 1) : Nat) : Int) != 13) = true := by simp; omega
    have HV : Hid (bf s = (2, s.size)) := by rw [Hid, bf, if_neg h1, if_pos (Or.inr h3)]
    have HF := hidden ((P0.put 0 (.int .i64 2) (vs' := #[.int .i64 2, .int .i64 0]) (by simp)).put 1 (.int .i64 s.size) (vs' := #[.int .i64 2, .int .i64 s.size]) (by simp))
    have HB2 := hidden ((b0.setCell (p := ⟨B, 0, none⟩) hBw (.int .i64 2)).setCell (p := ⟨B, 1, none⟩) hBw (.int .i64 s.size))
    clear h1 h2 h3 P0 b0
    go_wp2_with fail
    exact bodyPost_ret (v := .agg #[.int .i64 2, .int .i64 s.size]) (results_cell_row Try.results69 _ _ B 58 _ (0, 0) _ rfl HF.out Try.underlying58 rfl (by kernel_rfl)) rfl ⟨by rw [HV.out]; rfl, HB2.out⟩
end Go.Proofs.Ytgcpiinmcbdkmaa
