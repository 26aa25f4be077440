/-
  Share: what is right; the specification and the program.
-/
import Derived.Test.YtgcpiinmcbdkmaaT2
namespace Go.Proofs.Ytgcpiinmcbdkmaa
open Go.RowKit Va Lb
set_option linter.all false

set_option maxRecDepth 20000 in
set_option maxHeartbeats 1000000 in
theorem index_any (ao : Option Addr) (n cap : Nat) (l : List Int) (x : Int) (w : World) (h : VRw 1 cvI w (.slice ao n cap) l) (hn : l.length ≤ 1048576) :
    Calls Try.prog 104 #[.slice ao n cap, .int .i64 x] w fun e w' => (∃ r : Int, e = .returned (.int .i64 r) ∧ (decide (0 ≤ r) = has l x)) ∧ w' = w := by
  obtain rfl := h.len
  have HH := hidden h
  clear h
  go_enter Try.func104, Try.ntmps104
  go_wp2_with fail
  go_loopw [5, 8] (fun _ iv wr => ∃ i : Nat, i ≤ l.length ∧ iv = .int .i64 i ∧ wr = w ∧ Hid (has (l.take i) x = false)) (fun _ iv _ => l.length - (intOf iv).toNat)
  case atStart => exact ⟨0, Nat.zero_le _, rfl, rfl, rfl⟩
  case round =>
    obtain ⟨i, hi, rfl, rfl, hok⟩ := hrel
    by_cases hlt : i < l.length
    · have hlti : (i : Int) < (l.length : Int) := by omega
      obtain ⟨y, hy⟩ := some_of l i hlt
      obtain ⟨g, off, rfl, hg, c0⟩ := vint_cell HH.out hy
      have HX := hidden hy
      clear hy
      by_cases hq : x = y
      · have HY : Hid (has l x = true) := by rw [hq]; exact has_true HX.out
        subst hq
        go_wp2_with fail
        go_ret
        exact ⟨⟨i, rfl, by rw [HY.out]; simp⟩, rfl⟩
      · have HN : Hid (has (l.take (i + 1)) x = false) := has_take hok.out HX.out hq
        go_wp2_with fail
        go_roundw
        case rel => exact ⟨i + 1, by omega, rfl, by simp, HN⟩
        case measure => simp [intOf]; omega
    · have hlti : ¬ (i : Int) < (l.length : Int) := by omega
      have hil : i = l.length := by omega
      subst hil
      go_wp2_with fail
      go_ret
      exact ⟨⟨-1, rfl, by have := hok.out; rw [List.take_length] at this; rw [this]; rfl⟩, rfl⟩

set_option maxHeartbeats 400000 in
theorem cont_any (ao : Option Addr) (n cap : Nat) (l : List Int) (x : Int) (w : World) (h : VRw 1 cvI w (.slice ao n cap) l) (hn : l.length ≤ 1048576) :
    Calls Try.prog 61 #[.slice ao n cap, .int .i64 x] w fun e w' => e = .returned (.bool (has l x)) ∧ w' = w := by
  have hcall := index_any ao n cap l x w h hn
  clear h
  go_enter Try.func61, Try.ntmps61
  go_wp2_with (go_at_call 104; refine hcall.mono ?_; rintro e w1 ⟨⟨r, rfl, hr⟩, rfl⟩; have HR := hidden hr; clear hr)
  go_ret
  exact ⟨ret_bool (by rw [← HR.out]), rfl⟩

set_option maxRecDepth 20000 in
set_option maxHeartbeats 1000000 in
theorem shas_any (ao : Option Addr) (n cap : Nat) (l : List Int) (x : Int) (w : World) (h : VRw 1 cvI w (.slice ao n cap) l) (hn : l.length ≤ 1048576) :
    Calls Try.prog 96 #[.slice ao n cap, .int .i64 x] w fun e w' => e = .returned (.bool (has l x)) ∧ w' = w := by
  obtain rfl := h.len
  have HH := hidden h
  clear h
  go_enter Try.func96, Try.ntmps96
  go_wp2_with fail
  go_loopw [5] (fun iv wr => ∃ i : Nat, i ≤ l.length ∧ iv = .int .i64 i ∧ wr = w ∧ Hid (has (l.take i) x = false)) (fun iv _ => l.length - (intOf iv).toNat)
  case atStart => exact ⟨0, Nat.zero_le _, rfl, rfl, rfl⟩
  case round =>
    obtain ⟨i, hi, rfl, rfl, hok⟩ := hrel
    by_cases hlt : i < l.length
    · have hlti : (i : Int) < (l.length : Int) := by omega
      obtain ⟨y, hy⟩ := some_of l i hlt
      obtain ⟨g, off, rfl, hg, c0⟩ := vint_cell HH.out hy
      have HX := hidden hy
      clear hy
      by_cases hq : x = y
      · have HY : Hid (has l x = true) := by rw [hq]; exact has_true HX.out
        subst hq
        go_wp2_with fail
        go_ret
        exact ⟨by rw [HY.out]; rfl, rfl⟩
      · have HN : Hid (has (l.take (i + 1)) x = false) := has_take hok.out HX.out hq
        have hq2 : ¬ y = x := fun e => hq e.symm
        go_wp2_with fail
        go_roundw
        case rel => exact ⟨i + 1, by omega, rfl, by simp, HN⟩
        case measure => simp [intOf]; omega
    · have hlti : ¬ (i : Int) < (l.length : Int) := by omega
      have hil : i = l.length := by omega
      subst hil
      go_wp2_with fail
      go_ret
      exact ⟨by have := hok.out; rw [List.take_length] at this; rw [this]; rfl, rfl⟩
end Go.Proofs.Ytgcpiinmcbdkmaa
