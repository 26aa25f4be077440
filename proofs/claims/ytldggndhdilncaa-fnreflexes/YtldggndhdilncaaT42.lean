/-
  The program: are rules, and what is asked for, as told?
-/
import Derived.Test.YtldggndhdilncaaT41
import Derived.Test.YtldggndhdilncaaT4
import Derived.Test.YtldggndhdilncaaT8
namespace Go.Proofs.Ytldggndhdilncaa
open Go.RowKit Va Lb
set_option linter.all false

def rxB (x : Rx) : Bool := rng x.te 0 99 && rng x.th 0 99 && vlB x.lo && vlB x.hi
theorem rx_ok (x : Rx) : rxB x = true ↔ x.ok := by
  unfold rxB vlB rng Rx.ok Tst
  simp only [Bool.and_eq_true, decide_eq_true_eq]
  omega
theorem rx_take {l : List Rx} {i : Nat} {x : Rx} (h : ∀ r ∈ l.take i, rxB r = true) (hx : l[i]? = some x) (hq : rxB x = true) : ∀ r ∈ l.take (i + 1), rxB r = true := by
  intro r hr
  rw [List.take_succ, hx] at hr
  rcases List.mem_append.1 hr with h1 | h1
  · exact h r h1
  · rw [List.mem_singleton.1 h1]; exact hq
theorem rx_all {l : List Rx} (hl : l.length ≤ 200) (h : ∀ r ∈ l.take l.length, rxB r = true) : RxOk l := ⟨hl, fun r hr => (rx_ok r).1 (h r (by rw [List.take_length]; exact hr))⟩
theorem ak_take {l : List Int} {i : Nat} {x : Int} (h : ∀ r ∈ l.take i, rng r 0 99 = true) (hx : l[i]? = some x) (hq : rng x 0 99 = true) : ∀ r ∈ l.take (i + 1), rng r 0 99 = true := by
  intro r hr
  rw [List.take_succ, hx] at hr
  rcases List.mem_append.1 hr with h1 | h1
  · exact h r h1
  · rw [List.mem_singleton.1 h1]; exact hq
theorem tst_iff (x : Int) : rng x 0 99 = true ↔ Tst x := by unfold rng Tst; simp only [Bool.and_eq_true, decide_eq_true_eq]
theorem ak_all {l : List Int} (hl : l.length ≤ 100) (h : ∀ r ∈ l.take l.length, rng r 0 99 = true) : AkOk l := ⟨hl, fun r hr => (tst_iff r).1 (h r (by rw [List.take_length]; exact hr))⟩

set_option maxRecDepth 20000 in
set_option maxHeartbeats 4000000 in
theorem irx_any (x : Rx) (w : World) : Calls Try.prog 24 #[aRx x] w fun e w' => e = .returned (.bool (rxB x)) ∧ Below w.heap.size w w' := by
  have k1 := itest_any x.te
  have k2 := itest_any x.th
  have k3 := ivalue_any x.lo
  have k4 := ivalue_any x.hi
  have bA : Below w.heap.size w (w.alloc (.cells #[.int .i64 x.te, .int .i64 x.lo, .int .i64 x.hi, .int .i64 x.th] 37)) := (Below.refl _ _).alloc (Nat.le_refl _) _
  unfold rxB aRx
  generalize rng x.te 0 99 = b1 at *
  generalize rng x.th 0 99 = b2 at *
  generalize vlB x.lo = b3 at *
  generalize vlB x.hi = b4 at *
  cases b1 <;> cases b2 <;> cases b3 <;> cases b4
  all_goals (
    go_enter Try.func24, Try.ntmps24
    go_wp2_with (first | (go_at_call 23; first | (with_reducible refine (k1 _).mono ?_; rintro e w1 ⟨rfl, rfl⟩) | (with_reducible refine (k2 _).mono ?_; rintro e w1 ⟨rfl, rfl⟩)) | (go_at_call 28; first | (with_reducible refine (k3 _).mono ?_; rintro e w1 ⟨rfl, rfl⟩) | (with_reducible refine (k4 _).mono ?_; rintro e w1 ⟨rfl, rfl⟩)))
    go_ret
    exact ⟨rfl, bA⟩)

set_option maxRecDepth 20000 in
set_option maxHeartbeats 4000000 in
theorem irules_any (ao : Option Addr) (n cap : Nat) (l : List Rx) (w : World) (h : VRw 4 cvRx w (.slice ao n cap) l) (hn : l.length ≤ 1048576) :
    Calls Try.prog 15 #[.slice ao n cap] w fun e w' => e = .returned (.bool (decide (RxOk l))) ∧ Below w.heap.size w w' := by
  obtain rfl := h.len
  have HR := hidden h
  clear h
  by_cases g1 : (200 : Int) < (l.length : Int)
  · have HY : Hid (decide (RxOk l) = false) := decide_eq_false (fun q => by have := q.1; omega)
    go_enter Try.func15, Try.ntmps15
    go_wp2_with fail
    go_ret
    exact ⟨ret_boolT HY.out.symm, Below.refl _ _⟩
  go_enter Try.func15, Try.ntmps15
  go_wp2_with fail
  go_loopw [4, 10] (fun _ iv wr => ∃ i : Nat, i ≤ l.length ∧ iv = .int .i64 i ∧ Hid (∀ r ∈ l.take i, rxB r = true) ∧ Below w.heap.size w wr) (fun _ iv _ => l.length - (intOf iv).toNat)
  case atStart => exact ⟨0, Nat.zero_le _, rfl, (fun r hr => by simp at hr), Below.refl _ _⟩
  case round =>
    obtain ⟨i, hi, rfl, hok, hb⟩ := hrel
    by_cases hlt : i < l.length
    · have hlti : (i : Int) < (l.length : Int) := by omega
      obtain ⟨x, hx⟩ := some_of l i hlt
      obtain ⟨g, off, rfl, hg, hcs⟩ := (HR.out.below hb).at hx
      have c0 : wr.cell? ⟨g, off + i * 4, none⟩ = some (.int .i64 x.te) := hcs 0 (by omega)
      have c1 : wr.cell? ⟨g, off + i * 4 + 1, none⟩ = some (.int .i64 x.lo) := hcs 1 (by omega)
      have c2 : wr.cell? ⟨g, off + i * 4 + 2, none⟩ = some (.int .i64 x.hi) := hcs 2 (by omega)
      have c3 : wr.cell? ⟨g, off + i * 4 + 3, none⟩ = some (.int .i64 x.th) := hcs 3 (by omega)
      have HX := hidden hx
      have bA : Below w.heap.size w (wr.alloc (.cells #[.int .i64 x.te, .int .i64 x.lo, .int .i64 x.hi, .int .i64 x.th] 37)) := hb.alloc hb.size _
      have k := irx_any x
      clear hx hcs
      cases hq : rxB x with
      | true =>
        rw [hq] at k
        have HQ := hidden hq
        clear hq
        go_wp2_with (go_at_call 24; refine (k _).mono ?_; rintro e w1 ⟨rfl, hb1⟩; have b1 := onto bA hb1; clear hb1)
        go_roundw
        case rel => exact ⟨i + 1, by omega, rfl, rx_take hok.out HX.out HQ.out, b1⟩
        case measure => simp [intOf]; omega
      | false =>
        rw [hq] at k
        have HQ : Hid (decide (RxOk l) = false) := (decide_eq_false (fun q => by
          have := (rx_ok x).2 (q.2 x (List.mem_of_getElem? HX.out))
          rw [hq] at this; cases this))
        clear hq
        go_wp2_with (go_at_call 24; refine (k _).mono ?_; rintro e w1 ⟨rfl, hb1⟩; have b1 := onto bA hb1; clear hb1)
        go_ret
        exact ⟨ret_boolT HQ.out.symm, b1⟩
    · have hlti : ¬ (i : Int) < (l.length : Int) := by omega
      have HQ : Hid (decide (RxOk l) = true) := (decide_eq_true (rx_all (by omega) (by rw [show i = l.length by omega] at hok; exact hok.out)))
      go_wp2_with fail
      go_ret
      exact ⟨ret_boolT HQ.out.symm, hb⟩

set_option maxRecDepth 20000 in
set_option maxHeartbeats 4000000 in
theorem iasked_any (ao : Option Addr) (n cap : Nat) (l : List Int) (w : World) (h : VRw 1 cvI w (.slice ao n cap) l) (hn : l.length ≤ 1048576) :
    Calls Try.prog 16 #[.slice ao n cap] w fun e w' => e = .returned (.bool (decide (AkOk l))) ∧ w = w' := by
  obtain rfl := h.len
  have HR := hidden h
  clear h
  by_cases g1 : (100 : Int) < (l.length : Int)
  · have HY : Hid (decide (AkOk l) = false) := decide_eq_false (fun q => by have := q.1; omega)
    go_enter Try.func16, Try.ntmps16
    go_wp2_with fail
    go_ret
    exact ⟨ret_boolT HY.out.symm, rfl⟩
  go_enter Try.func16, Try.ntmps16
  go_wp2_with fail
  go_loopw [4, 10] (fun _ iv wr => ∃ i : Nat, i ≤ l.length ∧ iv = .int .i64 i ∧ Hid (∀ r ∈ l.take i, rng r 0 99 = true) ∧ w = wr) (fun _ iv _ => l.length - (intOf iv).toNat)
  case atStart => exact ⟨0, Nat.zero_le _, rfl, (fun r hr => by simp at hr), rfl⟩
  case round =>
    obtain ⟨i, hi, rfl, hok, rfl⟩ := hrel
    by_cases hlt : i < l.length
    · have hlti : (i : Int) < (l.length : Int) := by omega
      obtain ⟨x, hx⟩ := some_of l i hlt
      obtain ⟨g, off, rfl, hg, c0⟩ := vint_cell HR.out hx
      have HX := hidden hx
      have k := itest_any x
      clear hx
      cases hq : rng x 0 99 with
      | true =>
        rw [hq] at k
        have HQ := hidden hq
        clear hq
        go_wp2_with (go_at_call 23; refine (k _).mono ?_; rintro e w1 ⟨rfl, rfl⟩)
        go_roundw
        case rel => exact ⟨i + 1, by omega, rfl, ak_take hok.out HX.out HQ.out, by first | rfl | trivial⟩
        case measure => simp [intOf]; omega
      | false =>
        rw [hq] at k
        have HQ : Hid (decide (AkOk l) = false) := (decide_eq_false (fun q => by
          have := (tst_iff x).2 (q.2 x (List.mem_of_getElem? HX.out))
          rw [hq] at this; cases this))
        clear hq
        go_wp2_with (go_at_call 23; refine (k _).mono ?_; rintro e w1 ⟨rfl, rfl⟩)
        go_ret
        exact ⟨ret_boolT HQ.out.symm, rfl⟩
    · have hlti : ¬ (i : Int) < (l.length : Int) := by omega
      have HQ : Hid (decide (AkOk l) = true) := (decide_eq_true (ak_all (by omega) (by rw [show i = l.length by omega] at hok; exact hok.out)))
      go_wp2_with fail
      go_ret
      exact ⟨ret_boolT HQ.out.symm, rfl⟩
end Go.Proofs.Ytldggndhdilncaa
