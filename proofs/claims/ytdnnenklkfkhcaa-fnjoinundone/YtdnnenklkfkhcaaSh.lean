/-
  The law's own helpers on rows of numbers: sameness, whether one is in it.
-/
import Derived.Test.YtdnnenklkfkhcaaGi
namespace Go.Proofs.Ytdnnenklkfkhcaa
open Go.RowKit Jn Go.Maps

theorem st_drew {w0 w : World} (h : Below w0.heap.size w0 w) : Below w0.heap.size w0 w.drew := ⟨h.os, h.tape, h.output, h.size, h.block⟩

set_option maxRecDepth 20000 in
set_option maxHeartbeats 2000000 in
theorem same_any (v u : Value) (l : List Int) (b1 b2 : Nat) (w : World) (h : IOwn w b1 v l) (h' : IOwn w b2 u l) (hn : l.length ≤ 1048576) :
    Calls Try.prog 30 #[v, u] w fun e w' => e = .returned (.bool true) ∧ Below w.heap.size w w' := by
  obtain ⟨ao, cap, rfl, hrow⟩ := h
  obtain ⟨ao', cap', rfl, hrow'⟩ := h'
  go_enter Try.func30, Try.ntmps30
  go_wp2_with fail
  go_loopw [5] (fun iv wr => ∃ i : Nat, i ≤ l.length ∧ iv = .int .i64 i ∧ Below w.heap.size w wr) (fun iv _ => l.length - (intOf iv).toNat)
  case atStart => exact ⟨0, Nat.zero_le _, rfl, Below.refl _ _⟩
  case round =>
    obtain ⟨i, hil, rfl, hb⟩ := hrel
    by_cases hlt : i < l.length
    · have hlti : (i : Int) < (l.length : Int) := by omega
      have hi0 : (0 : Int) ≤ (i : Int) := by omega
      rcases hrow with h0 | ⟨b, rfl, -, hcells⟩
      · omega
      rcases hrow' with h0 | ⟨b', rfl, -, hcells'⟩
      · omega
      have hc1' := (hb.cell (p := ⟨b, i, none⟩) hcells.1).trans (hcells.2.2 i hlt)
      have hd1' := (hb.cell (p := ⟨b', i, none⟩) hcells'.1).trans (hcells'.2.2 i hlt)
      clear hcells hcells'
      generalize l.getD i 0 = k at *
      go_wp2_with fail
      go_region_with fail
      all_goals go_wp2_with fail
      all_goals go_roundw
      all_goals first
        | exact ⟨i + 1, by omega, rfl, by first | exact hb | exact st_drew hb⟩
        | (simp [intOf]; omega)
        | (trace_state; fail)
    · have hlti : ¬ (i : Int) < (l.length : Int) := by omega
      go_wp2_with fail
      go_ret
      exact ⟨rfl, hb⟩

set_option maxRecDepth 20000 in
set_option maxHeartbeats 2000000 in
/-- A number that is in the row is found. -/
theorem has_any (v : Value) (l : List Int) (b1 : Nat) (x : Int) (w : World) (h : IOwn w b1 v l) (hn : l.length ≤ 1048576) (hx : x ∈ l) :
    Calls Try.prog 31 #[v, .int .i64 x] w fun e w' => e = .returned (.bool true) ∧ w' = w := by
  obtain ⟨ao, cap, rfl, hrow⟩ := h
  obtain ⟨n, hnl, hnx⟩ := List.getElem_of_mem hx
  have hget : l.getD n 0 = x := by rw [List.getD_eq_getElem?_getD, List.getElem?_eq_getElem hnl]; exact hnx
  clear hnx hx
  go_enter Try.func31, Try.ntmps31
  go_wp2_with fail
  go_loopw [5] (fun iv wr => wr = w ∧ ∃ i : Nat, i ≤ n ∧ iv = .int .i64 i) (fun iv _ => l.length - (intOf iv).toNat)
  case atStart => exact ⟨rfl, 0, Nat.zero_le _, rfl⟩
  case round =>
    obtain ⟨rfl, i, hi, rfl⟩ := hrel
    have hlti : (i : Int) < (l.length : Int) := by omega
    rcases hrow with h0 | ⟨b, rfl, -, hcells⟩
    · omega
    have hc1 := hcells.2.2 i (by omega)
    clear hcells
    by_cases hgx : l.getD i 0 = x
    · rw [hgx] at hc1
      clear hgx hget
      go_wp2_with fail
      go_ret
      exact ⟨rfl, rfl⟩
    · have hgx2 : (l.getD i 0 == x) = false := by simpa using hgx
      have hin : i < n := by
        rcases Nat.lt_or_ge i n with q | q
        · exact q
        · exact absurd (by rw [show i = n by omega]; exact hget) hgx
      clear hget
      generalize l.getD i 0 = z at *
      go_wp2_with fail
      go_roundw
      case rel => exact ⟨trivial, i + 1, by omega, rfl⟩
      case measure => simp [intOf]; omega
end Go.Proofs.Ytdnnenklkfkhcaa
