/-
  Share: what is right; the specification and the program.
-/
import Derived.Test.YtecljmpojninfaaT2
namespace Go.Proofs.Ytecljmpojninfaa
open Go.RowKit Va Lb
set_option linter.all false

set_option maxRecDepth 20000 in
set_option maxHeartbeats 1000000 in
theorem index_any (ao : Option Addr) (n cap : Nat) (l : List Int) (x : Int) (w : World) (h : VRw 1 cvI w (.slice ao n cap) l) (hn : l.length ≤ 1048576) :
    Calls Try.prog 74 #[.slice ao n cap, .int .i64 x] w fun e w' => (∃ r : Int, e = .returned (.int .i64 r) ∧ (decide (0 ≤ r) = has l x)) ∧ w' = w := by
  obtain rfl := h.len
  have HH := hidden h
  clear h
  go_enter Try.func74, Try.ntmps74
  go_wp2_with fail
  go_loopw [5, 8] (fun _ iv wr => ∃ i : Nat, i ≤ l.length ∧ iv = .int .i64 i ∧ wr = w ∧ Hid (has (l.take i) x = false)) (fun _ iv _ => l.length - (intOf iv).toNat)
  case atStart => exact ⟨0, Nat.zero_le _, rfl, rfl, rfl⟩
  case round =>
    obtain ⟨i, hi, rfl, rfl, hok⟩ := hrel
    by_cases hlt : i < l.length
    · have hlti : (i : Int) < (l.length : Int) := by omega
      obtain ⟨y, hy⟩ := some_of l i hlt
      obtain ⟨g, off, rfl, hg, c0⟩ := vint_cell HH.out hy
      have HX := hidden hy
      clear hy
      by_cases hq : x = y
      · have HY : Hid (has l x = true) := by rw [hq]; exact has_true HX.out
        subst hq
        go_wp2_with fail
        go_ret
        exact ⟨⟨i, rfl, by rw [HY.out]; simp⟩, rfl⟩
      · have HN : Hid (has (l.take (i + 1)) x = false) := has_take hok.out HX.out hq
        go_wp2_with fail
        go_roundw
        case rel => exact ⟨i + 1, by omega, rfl, by simp, HN⟩
        case measure => simp [intOf]; omega
    · have hlti : ¬ (i : Int) < (l.length : Int) := by omega
      have hil : i = l.length := by omega
      subst hil
      go_wp2_with fail
      go_ret
      exact ⟨⟨-1, rfl, by have := hok.out; rw [List.take_length] at this; rw [this]; rfl⟩, rfl⟩

set_option maxHeartbeats 400000 in
theorem cont_any (ao : Option Addr) (n cap : Nat) (l : List Int) (x : Int) (w : World) (h : VRw 1 cvI w (.slice ao n cap) l) (hn : l.length ≤ 1048576) :
    Calls Try.prog 63 #[.slice ao n cap, .int .i64 x] w fun e w' => e = .returned (.bool (has l x)) ∧ w' = w := by
  have hcall := index_any ao n cap l x w h hn
  clear h
  go_enter Try.func63, Try.ntmps63
  go_wp2_with (go_at_call 74; refine hcall.mono ?_; rintro e w1 ⟨⟨r, rfl, hr⟩, rfl⟩; have HR := hidden hr; clear hr)
  go_ret
  exact ⟨ret_bool (by rw [← HR.out]), rfl⟩

set_option maxRecDepth 20000 in
set_option maxHeartbeats 1000000 in
theorem shas_any (ao : Option Addr) (n cap : Nat) (l : List Int) (x : Int) (w : World) (h : VRw 1 cvI w (.slice ao n cap) l) (hn : l.length ≤ 1048576) :
    Calls Try.prog 44 #[.slice ao n cap, .int .i64 x] w fun e w' => e = .returned (.bool (has l x)) ∧ w' = w := by
  obtain rfl := h.len
  have HH := hidden h
  clear h
  go_enter Try.func44, Try.ntmps44
  go_wp2_with fail
  go_loopw [5] (fun iv wr => ∃ i : Nat, i ≤ l.length ∧ iv = .int .i64 i ∧ wr = w ∧ Hid (has (l.take i) x = false)) (fun iv _ => l.length - (intOf iv).toNat)
  case atStart => exact ⟨0, Nat.zero_le _, rfl, rfl, rfl⟩
  case round =>
    obtain ⟨i, hi, rfl, rfl, hok⟩ := hrel
    by_cases hlt : i < l.length
    · have hlti : (i : Int) < (l.length : Int) := by omega
      obtain ⟨y, hy⟩ := some_of l i hlt
      obtain ⟨g, off, rfl, hg, c0⟩ := vint_cell HH.out hy
      have HX := hidden hy
      clear hy
      by_cases hq : x = y
      · have HY : Hid (has l x = true) := by rw [hq]; exact has_true HX.out
        subst hq
        go_wp2_with fail
        go_ret
        exact ⟨by rw [HY.out]; rfl, rfl⟩
      · have HN : Hid (has (l.take (i + 1)) x = false) := has_take hok.out HX.out hq
        have hq2 : ¬ y = x := fun e => hq e.symm
        go_wp2_with fail
        go_roundw
        case rel => exact ⟨i + 1, by omega, rfl, by simp, HN⟩
        case measure => simp [intOf]; omega
    · have hlti : ¬ (i : Int) < (l.length : Int) := by omega
      have hil : i = l.length := by omega
      subst hil
      go_wp2_with fail
      go_ret
      exact ⟨by have := hok.out; rw [List.take_length] at this; rw [this]; rfl, rfl⟩


set_option maxHeartbeats 400000 in
theorem itest_any (x : Int) (w : World) : Calls Try.prog 62 #[.int .i64 x] w fun e w' => e = .returned (.bool (rng x 0 99)) ∧ w = w' := by
  unfold rng
  go_enter Try.func62, Try.ntmps62
  go_wp2
  all_goals (go_ret; exact ⟨ret_boolT (by first | (simp; done) | (simp; omega) | (simp_all; done) | (simp_all; omega) | (rw [Bool.eq_iff_iff]; simp; omega) | (rw [Bool.eq_iff_iff]; simp_all; omega)), rfl⟩)

set_option maxRecDepth 20000 in
set_option maxHeartbeats 1000000 in
theorem ineeds_any (ao : Option Addr) (n cap : Nat) (l : List Int) (w : World) (h : VRw 1 cvI w (.slice ao n cap) l) (hn : l.length ≤ 1048576) :
    Calls Try.prog 45 #[.slice ao n cap] w fun e w' => e = .returned (.bool (decide (NeedsOk l))) ∧ w = w' := by
  obtain rfl := h.len
  have HH := hidden h
  clear h
  by_cases hs : l.length ≤ 100
  · have hs1 : ¬ (100 : Int) < (l.length : Int) := by omega
    go_enter Try.func45, Try.ntmps45
    go_wp2_with fail
    go_loopw [4, 10] (fun _ iv wr => ∃ i : Nat, i ≤ l.length ∧ iv = .int .i64 i ∧ wr = w ∧ Hid (∀ y ∈ l.take i, 0 ≤ y ∧ y ≤ 100000)) (fun _ iv _ => l.length - (intOf iv).toNat)
    case atStart => exact ⟨0, Nat.zero_le _, rfl, rfl, by intro y hy; simp at hy⟩
    case round =>
      obtain ⟨i, hi, rfl, rfl, hok⟩ := hrel
      by_cases hlt : i < l.length
      · have hlti : (i : Int) < (l.length : Int) := by omega
        obtain ⟨y, hy⟩ := some_of l i hlt
        obtain ⟨g, off, rfl, hg, c0⟩ := vint_cell HH.out hy
        have HX := hidden hy
        clear hy
        by_cases q1 : y < 0
        · have HY : Hid (decide (NeedsOk l) = false) := decide_eq_false (not_needs HX.out (by omega))
          go_wp2_with fail
          go_ret
          exact ⟨ret_boolT HY.out.symm, rfl⟩
        · by_cases q2 : 100000 < y
          · have HY : Hid (decide (NeedsOk l) = false) := decide_eq_false (not_needs HX.out (by omega))
            go_wp2_with fail
            go_ret
            exact ⟨ret_boolT HY.out.symm, rfl⟩
          · have HN : Hid (∀ y ∈ l.take (i + 1), 0 ≤ y ∧ y ≤ 100000) := by
              rw [Hid, take_snL HX.out]
              intro z hz
              rcases List.mem_append.1 hz with q | q
              · exact hok.out z q
              · simp at q; subst q; omega
            go_wp2_with fail
            go_roundw
            case rel => exact ⟨i + 1, by omega, rfl, by simp, HN⟩
            case measure => simp [intOf]; omega
      · have hlti : ¬ (i : Int) < (l.length : Int) := by omega
        have hil : i = l.length := by omega
        subst hil
        have HY : Hid (decide (NeedsOk l) = true) := decide_eq_true ⟨hs, by have := hok.out; rw [List.take_length] at this; exact this⟩
        go_wp2_with fail
        go_ret
        exact ⟨ret_boolT HY.out.symm, rfl⟩
  · have hs1 : (100 : Int) < (l.length : Int) := by omega
    have HY : Hid (decide (NeedsOk l) = false) := decide_eq_false (fun q => hs q.1)
    go_enter Try.func45, Try.ntmps45
    go_wp2_with fail
    go_ret
    exact ⟨ret_boolT HY.out.symm, rfl⟩

set_option maxRecDepth 20000 in
set_option maxHeartbeats 2000000 in
theorem iasks_any (ao : Option Addr) (n cap : Nat) (l : List Int) (ao2 : Option Addr) (n2 cap2 : Nat) (m : List Int) (w : World) (h : VRw 1 cvI w (.slice ao n cap) l) (h2 : VRw 1 cvI w (.slice ao2 n2 cap2) m) (hn : l.length ≤ 1048576) (hm : m.length ≤ 100) :
    Calls Try.prog 46 #[.slice ao n cap, .slice ao2 n2 cap2] w fun e w' => e = .returned (.bool (decide (AsksOk l m))) ∧ w = w' := by
  obtain rfl := h.len
  obtain rfl := h2.len
  have hcap := h.cap
  have HH := hidden h
  clear h h2
  by_cases hs : l.length ≤ 20
  · have hs1 : ¬ (20 : Int) < (l.length : Int) := by omega
    go_enter Try.func46, Try.ntmps46
    go_wp2_with fail
    go_loopw [5, 6, 7, 13] (fun _ _ _ iv wr => ∃ i : Nat, i ≤ l.length ∧ iv = .int .i64 i ∧ wr = w ∧ Hid (∀ j a, j < i → l[j]? = some a → (0 ≤ a ∧ a < (m.length : Int)) ∧ a ∉ l.take j)) (fun _ _ _ iv _ => l.length - (intOf iv).toNat)
    case atStart => exact ⟨0, Nat.zero_le _, rfl, rfl, fun j a hj => absurd hj (by omega)⟩
    case round =>
      obtain ⟨i, hi, rfl, rfl, hok⟩ := hrel
      by_cases hlt : i < l.length
      · have hlti : (i : Int) < (l.length : Int) := by omega
        obtain ⟨y, hy⟩ := some_of l i hlt
        have k1 := itest_any y
        have k2 := cont_any ao i cap (l.take i) y wr (HH.out.take i cap (by omega) (by omega)) (by rw [List.length_take]; omega)
        obtain ⟨g, off, rfl, hg, c0⟩ := vint_cell HH.out hy
        have HX := hidden hy
        clear hy
        cases q1 : rng y 0 99 with
        | false =>
          have hq : ¬ (0 ≤ y ∧ y ≤ 99) := fun q => by rw [rng_iff.2 q] at q1; cases q1
          have HY : Hid (decide (AsksOk l m) = false) := decide_eq_false (not_asks HX.out (by omega))
          rw [q1] at k1
          clear k2
          go_wp2_with (go_at_call 62; refine (k1 _).mono ?_; rintro e w1 ⟨rfl, rfl⟩)
          go_ret
          exact ⟨ret_boolT HY.out.symm, rfl⟩
        | true =>
          have hq := rng_iff.1 q1
          rw [q1] at k1
          clear q1
          by_cases q2 : y < (m.length : Int)
          · cases q3 : has (l.take i) y with
            | true =>
              have HY : Hid (decide (AsksOk l m) = false) := decide_eq_false (not_asks HX.out (fun q => q.2 (has_iff.1 q3)))
              rw [q3] at k2
              clear q3
              go_wp2_with (first | (go_at_call 62; refine (k1 _).mono ?_; rintro e w1 ⟨rfl, rfl⟩) | (go_at_call 63; refine k2.mono ?_; rintro e w1 ⟨rfl, rfl⟩))
              go_ret
              exact ⟨ret_boolT HY.out.symm, rfl⟩
            | false =>
              have HN : Hid (∀ j a, j < i + 1 → l[j]? = some a → (0 ≤ a ∧ a < (m.length : Int)) ∧ a ∉ l.take j) := by
                intro j a hj ha
                by_cases hji : j = i
                · subst hji
                  obtain rfl : y = a := Option.some.inj (HX.out.symm.trans ha)
                  exact ⟨⟨by omega, q2⟩, has_not q3⟩
                · exact hok.out j a (by omega) ha
              rw [q3] at k2
              clear q3
              go_wp2_with (first | (go_at_call 62; refine (k1 _).mono ?_; rintro e w1 ⟨rfl, rfl⟩) | (go_at_call 63; refine k2.mono ?_; rintro e w1 ⟨rfl, rfl⟩))
              go_roundw
              case rel => exact ⟨i + 1, by omega, rfl, by simp, HN⟩
              case measure => simp [intOf]; omega
          · have HY : Hid (decide (AsksOk l m) = false) := decide_eq_false (not_asks HX.out (by omega))
            clear k2
            go_wp2_with (go_at_call 62; refine (k1 _).mono ?_; rintro e w1 ⟨rfl, rfl⟩)
            go_ret
            exact ⟨ret_boolT HY.out.symm, rfl⟩
      · have hlti : ¬ (i : Int) < (l.length : Int) := by omega
        have hil : i = l.length := by omega
        subst hil
        have HY : Hid (decide (AsksOk l m) = true) := decide_eq_true ⟨hs, fun j a ha => hok.out j a (get_ltL ha) ha⟩
        go_wp2_with fail
        go_ret
        exact ⟨ret_boolT HY.out.symm, rfl⟩
  · have hs1 : (20 : Int) < (l.length : Int) := by omega
    have HY : Hid (decide (AsksOk l m) = false) := decide_eq_false (fun q => hs q.1)
    go_enter Try.func46, Try.ntmps46
    go_wp2_with fail
    go_ret
    exact ⟨ret_boolT HY.out.symm, rfl⟩
end Go.Proofs.Ytecljmpojninfaa
