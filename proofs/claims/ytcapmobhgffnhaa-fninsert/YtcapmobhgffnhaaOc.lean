/-
  Operations: who is in a team, and whether two teams share somebody.
-/
import Derived.Test.YtcapmobhgffnhaaQb
import Derived.Test.YtcapmobhgffnhaaOb
import Derived.Deep.LoopGhost
import Derived.WalkMore
namespace Go.Proofs.Ytcapmobhgffnhaa
open Go.RowKit Va Oa
set_option linter.unusedVariables false

set_option maxRecDepth 20000 in
set_option maxHeartbeats 1000000 in
theorem index_any (ao : Option Addr) (n cap : Nat) (l : List Int) (x : Int) (w : World) (h : IRw w (.slice ao n cap) l) (hn : l.length ≤ 1048576) :
    Calls Try.prog 81 #[.slice ao n cap, .int .i64 x] w fun e w' => (∃ r : Int, e = .returned (.int .i64 r) ∧ (decide (0 ≤ r) = has l x)) ∧ w' = w := by
  obtain rfl := h.len
  have HH := hidden h
  clear h
  go_enter Try.func81, Try.ntmps81
  go_wp2_with fail
  go_loopw [5, 8] (fun _ iv wr => ∃ i : Nat, i ≤ l.length ∧ iv = .int .i64 i ∧ wr = w ∧ Hid (has (l.take i) x = false)) (fun _ iv _ => l.length - (intOf iv).toNat)
  case atStart => exact ⟨0, Nat.zero_le _, rfl, rfl, rfl⟩
  case round =>
    obtain ⟨i, hi, rfl, rfl, hok⟩ := hrel
    by_cases hlt : i < l.length
    · have hlti : (i : Int) < (l.length : Int) := by omega
      obtain ⟨y, hy⟩ := some_of l i hlt
      obtain ⟨g, off, rfl, hg, hc⟩ := HH.out.at hy
      have c0 := hc i y hy
      have HX := hidden hy
      clear hy hc
      by_cases hq : x = y
      · have HY : Hid (has l x = true) := by rw [hq]; exact has_true HX.out
        subst hq
        go_wp2_with fail
        go_ret
        exact ⟨⟨i, rfl, by rw [HY.out]; simp⟩, rfl⟩
      · have HN : Hid (has (l.take (i + 1)) x = false) := has_take hok.out HX.out hq
        go_wp2_with fail
        go_roundw
        case rel => exact ⟨i + 1, by omega, rfl, by simp, HN⟩
        case measure => simp [intOf]; omega
    · have hlti : ¬ (i : Int) < (l.length : Int) := by omega
      have hil : i = l.length := by omega
      subst hil
      go_wp2_with fail
      go_ret
      exact ⟨⟨-1, rfl, by have := hok.out; rw [List.take_length] at this; rw [this]; rfl⟩, rfl⟩

set_option maxHeartbeats 400000 in
theorem cont_any (ao : Option Addr) (n cap : Nat) (l : List Int) (x : Int) (w : World) (h : IRw w (.slice ao n cap) l) (hn : l.length ≤ 1048576) :
    Calls Try.prog 78 #[.slice ao n cap, .int .i64 x] w fun e w' => e = .returned (.bool (has l x)) ∧ w' = w := by
  have hcall := index_any ao n cap l x w h hn
  clear h
  go_enter Try.func78, Try.ntmps78
  go_wp2_with (go_at_call 81; refine hcall.mono ?_; rintro e w1 ⟨⟨r, rfl, hr⟩, rfl⟩; have HR := hidden hr; clear hr)
  go_ret
  exact ⟨ret_bool (by rw [← HR.out]), rfl⟩

set_option maxRecDepth 20000 in
set_option maxHeartbeats 1000000 in
theorem shas_any (ao : Option Addr) (n cap : Nat) (l : List Int) (x : Int) (w : World) (h : IRw w (.slice ao n cap) l) (hn : l.length ≤ 1048576) :
    Calls Try.prog 79 #[.slice ao n cap, .int .i64 x] w fun e w' => e = .returned (.bool (has l x)) ∧ w' = w := by
  obtain rfl := h.len
  have HH := hidden h
  clear h
  go_enter Try.func79, Try.ntmps79
  go_wp2_with fail
  go_loopw [5] (fun iv wr => ∃ i : Nat, i ≤ l.length ∧ iv = .int .i64 i ∧ wr = w ∧ Hid (has (l.take i) x = false)) (fun iv _ => l.length - (intOf iv).toNat)
  case atStart => exact ⟨0, Nat.zero_le _, rfl, rfl, rfl⟩
  case round =>
    obtain ⟨i, hi, rfl, rfl, hok⟩ := hrel
    by_cases hlt : i < l.length
    · have hlti : (i : Int) < (l.length : Int) := by omega
      obtain ⟨y, hy⟩ := some_of l i hlt
      obtain ⟨g, off, rfl, hg, hc⟩ := HH.out.at hy
      have c0 := hc i y hy
      have HX := hidden hy
      clear hy hc
      by_cases hq : x = y
      · have HY : Hid (has l x = true) := by rw [hq]; exact has_true HX.out
        subst hq
        go_wp2_with fail
        go_ret
        exact ⟨by rw [HY.out]; rfl, rfl⟩
      · have HN : Hid (has (l.take (i + 1)) x = false) := has_take hok.out HX.out hq
        have hq2 : ¬ y = x := fun e => hq e.symm
        go_wp2_with fail
        go_roundw
        case rel => exact ⟨i + 1, by omega, rfl, by simp, HN⟩
        case measure => simp [intOf]; omega
    · have hlti : ¬ (i : Int) < (l.length : Int) := by omega
      have hil : i = l.length := by omega
      subst hil
      go_wp2_with fail
      go_ret
      exact ⟨by have := hok.out; rw [List.take_length] at this; rw [this]; rfl, rfl⟩

set_option maxRecDepth 20000 in
set_option maxHeartbeats 2000000 in
/-- One team against one other. -/
theorem sbia_any (ao : Option Addr) (n cap : Nat) (l : List Int) (g c : Nat) (a2 : Option Addr) (n2 cap2 : Nat) (m : List Int) (w : World) (h : IRw w (.slice ao n cap) l) (hn : l.length ≤ 1048576)
    (h2 : IRw w (.slice a2 n2 cap2) m) (hm : m.length ≤ 1048576) (hc : w.cell? ⟨g, 0, none⟩ = some (.slice a2 n2 cap2)) :
    Calls Try.prog 65 #[.slice ao n cap, .slice (some ⟨g, 0, none⟩) 1 c] w fun e w' => e = .returned (.bool (shr l m)) ∧ w' = w := by
  obtain rfl := h.len
  have HH := hidden h
  have hcall := fun x => cont_any a2 n2 cap2 m x w h2 hm
  clear h h2
  go_enter Try.func65, Try.ntmps65
  go_wp2_with fail
  go_step3
  go_wp2_with fail
  go_step3
  go_wp2_with fail
  go_loopg [6, 8, 11, 17] l.length (fun gg _ _ iv _ wr => ∃ i : Nat, i + gg = l.length ∧ iv = .int .i64 i ∧ wr = w ∧ Hid (shr (l.take i) m = false))
  case atStart => exact ⟨0, by omega, rfl, rfl, rfl⟩
  case round =>
    obtain ⟨i, hi, rfl, rfl, hok⟩ := hrel
    cases gk with
    | succ gq =>
      have hlti : (i : Int) < (l.length : Int) := by omega
      obtain ⟨y, hy⟩ := some_of l i (by omega)
      obtain ⟨g1, off, rfl, hg, hcc⟩ := HH.out.at hy
      have c0 := hcc i y hy
      have HX := hidden hy
      clear hy hcc
      have hK := hcall y
      clear hcall
      go_wp2_with fail
      go_loopg [8, 17] 1 (fun gh _ jv wx => wx = wr ∧ ((gh = 1 ∧ jv = .int .i64 0) ∨ (gh = 0 ∧ jv = .int .i64 1 ∧ Hid (has m y = true))))
      case atStart => exact ⟨rfl, Or.inl ⟨rfl, rfl⟩⟩
      case round =>
        obtain ⟨hwx, ⟨rfl, rfl⟩ | ⟨rfl, rfl, HT⟩⟩ := hrel
        · subst hwx
          cases hq : has m y with
          | true =>
            rw [hq] at hK
            have HT : Hid (has m y = true) := hq
            clear hq
            go_wp2_with (go_at_call 78; refine hK.mono ?_; rintro e w1 ⟨rfl, rfl⟩)
            go_roundg 0
            case rel => exact ⟨by simp, Or.inr ⟨rfl, rfl, HT⟩⟩
            case measure => omega
          | false =>
            rw [hq] at hK
            have HN : Hid (shr (l.take (i + 1)) m = false) := shr_take hok.out HX.out hq
            clear hok hq
            go_wp2_with (go_at_call 78; refine hK.mono ?_; rintro e w1 ⟨rfl, rfl⟩)
            go_roundg gq
            case rel => exact ⟨i + 1, by omega, rfl, by simp, HN⟩
            case measure => omega
        · subst hwx
          have HY : Hid (shr l m = true) := shr_true HX.out HT.out
          go_wp2_with fail
          rw [Exit.noGoto_ret]
          go_ret
          exact ⟨by rw [HY.out]; rfl, rfl⟩
    | zero =>
      have hlti : ¬ (i : Int) < (l.length : Int) := by omega
      have hil : i = l.length := by omega
      subst hil
      go_wp2_with fail
      go_ret
      exact ⟨by have := hok.out; rw [List.take_length] at this; rw [this]; rfl, rfl⟩
end Go.Proofs.Ytcapmobhgffnhaa
