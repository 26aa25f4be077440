/-
  The law's own markings of rows of beds and of stays.
-/
import Derived.Test.YtpdlkkbnckjibamXa
import Derived.Deep.RegionWith
namespace Go.Proofs.Ytpdlkkbnckjibam
open Go.RowKit Hm
set_option linter.unusedVariables false

set_option maxRecDepth 20000 in
set_option maxHeartbeats 4000000 in
theorem markbed_some (G n cap : Nat) (l0 : List Bd) (k0 : Int) (w : World) (h : Out 2 csB w G n l0 n) (hn : n ≤ 1048576) (hk0 : 0 ≤ k0) (hk1 : k0 ≤ 1000000000) :
    Calls Try.prog 39 #[.slice (some ⟨G, 0, none⟩) n cap, .int .i64 k0] w fun e w' => e = .returned (.int .i64 (k0 + 2 * (n : Int))) ∧ Out 2 csM w' G n (marks 2 k0 n) n ∧ Aside w w' (.slice (some ⟨G, 0, none⟩) n cap) := by
  have h0 : Out 2 csM w G n (marks 2 k0 n) 0 := ⟨h.1, h.2.1, fun j x hj => absurd hj (by omega)⟩
  clear h
  go_enter Try.func39, Try.ntmps39
  go_wp2_with fail
  go_loopw [1, 5] (fun kv iv wr => ∃ i : Nat, i ≤ n ∧ kv = .int .i64 (k0 + 2 * (i : Int)) ∧ iv = .int .i64 i ∧ Out 2 csM wr G n (marks 2 k0 n) i ∧ Aside w wr (.slice (some ⟨G, 0, none⟩) n cap)) (fun _ iv _ => n - (intOf iv).toNat)
  case atStart => exact ⟨0, Nat.zero_le _, by simp, rfl, h0, Aside.refl _ _⟩
  case round =>
    clear h0
    obtain ⟨i, hi, rfl, rfl, ho, ha⟩ := hrel
    by_cases hlt : i < n
    · have hlti : (i : Int) < (n : Int) := by omega
      have hset := ho.set hlt (marks_get 2 k0 n i hlt) [.int .i64 (k0 + 2 * (i : Int)), .int .i64 (k0 + 2 * (i : Int) + 1)] rfl (fun k hk => by
        match k, hk with
        | 0, _ => exact congrArg (fun z => some (Value.int .i64 z)) (by unfold csM; omega)
        | 1, _ => exact congrArg (fun z => some (Value.int .i64 z)) (by unfold csM; omega)
)
      obtain ⟨⟨u0, hu0⟩, hf0⟩ := ho.old hlt (show 0 < 2 by omega)
      obtain ⟨⟨u1, hu1⟩, hf1⟩ := ho.old hlt (show 1 < 2 by omega)
      simp only [Nat.add_zero] at hu0 hf0
      have ha2 := Aside.put [.int .i64 (k0 + 2 * (i : Int)), .int .i64 (k0 + 2 * (i : Int) + 1)] (i * 2) ha
      clear ho ha
      go_wp2_with fail
      go_roundw
      case rel => exact ⟨i + 1, by omega, by congr 1; omega, rfl, hset, ha2⟩
      case measure => simp [intOf]; omega
    · have hlti : ¬ (i : Int) < (n : Int) := by omega
      have hin : i = n := by omega
      subst hin
      go_wp2_with fail
      go_ret
      exact ⟨rfl, ho, ha⟩

set_option maxRecDepth 20000 in
set_option maxHeartbeats 2000000 in
theorem markbed_none (ao : Option Addr) (cap : Nat) (k0 : Int) (w : World) :
    Calls Try.prog 39 #[.slice ao 0 cap, .int .i64 k0] w fun e w' => e = .returned (.int .i64 k0) ∧ w' = w := by
  go_enter Try.func39, Try.ntmps39
  go_wp2_with fail
  go_loopw [1, 5] (fun kv iv wr => wr = w ∧ kv = .int .i64 k0 ∧ iv = .int .i64 0) (fun _ _ _ => 0)
  case atStart => exact ⟨rfl, rfl, rfl⟩
  case round =>
    obtain ⟨rfl, rfl, rfl⟩ := hrel
    go_wp2_with fail
    go_ret
    exact ⟨rfl, rfl⟩

/-- What a marking does. -/
theorem markbed_any (v : Value) (l : List Bd) (base : Nat) (k0 : Int) (w : World) (h : Own 2 csB w base v l) (hn : l.length ≤ 1048576) (hk0 : 0 ≤ k0) (hk1 : k0 ≤ 1000000000) :
    Calls Try.prog 39 #[v, .int .i64 k0] w fun e w' => e = .returned (.int .i64 (k0 + 2 * (l.length : Int))) ∧ Own 2 csM w' base v (marks 2 k0 l.length) ∧ Aside w w' v ∧ (l.length = 0 → w' = w) := by
  obtain ⟨ao, cap, rfl, hc, hh⟩ := h
  rcases Nat.eq_zero_or_pos l.length with h0 | hpos
  · rw [h0]
    refine (markbed_none ao cap k0 w).mono ?_
    rintro e w' ⟨rfl, rfl⟩
    exact ⟨by simp, ⟨ao, cap, rfl, Nat.zero_le _, Or.inl rfl⟩, Aside.refl _ _, fun _ => rfl⟩
  · obtain ⟨G, rfl, hG, ho⟩ := hh.resolve_left (by omega)
    refine (markbed_some G l.length cap l k0 w ho hn hk0 hk1).mono ?_
    rintro e w' ⟨rfl, ho', ha⟩
    exact ⟨rfl, ⟨_, cap, by rw [marks_len], by rw [marks_len]; exact hc, Or.inr ⟨G, rfl, hG, by rw [marks_len]; exact ho'⟩⟩, ha, fun h0 => absurd h0 (by omega)⟩

set_option maxRecDepth 20000 in
set_option maxHeartbeats 4000000 in
theorem heldbed_any (v : Value) (k0 : Int) (n : Nat) (w : World) (h : Rw 2 csM w v (marks 2 k0 n)) (hn : n ≤ 1048576) (hk0 : 0 ≤ k0) (hk1 : k0 ≤ 1000000000) :
    Calls Try.prog 41 #[v, .int .i64 k0] w fun e w' => e = .returned (.int .i64 (k0 + 2 * (n : Int))) ∧ w' = w := by
  have HH := hidden h
  obtain ⟨ao, cap, rfl⟩ := h.form
  clear h
  rw [marks_len]
  rw [marks_len] at HH
  go_enter Try.func41, Try.ntmps41
  go_wp2_with fail
  go_loopw [1, 5] (fun kv iv wr => wr = w ∧ ∃ i : Nat, i ≤ n ∧ kv = .int .i64 (k0 + 2 * (i : Int)) ∧ iv = .int .i64 i) (fun _ iv _ => n - (intOf iv).toNat)
  case atStart => exact ⟨rfl, 0, Nat.zero_le _, by simp, rfl⟩
  case round =>
    obtain ⟨rfl, i, hi, rfl, rfl⟩ := hrel
    by_cases hlt : i < n
    · have hlti : (i : Int) < (n : Int) := by omega
      obtain ⟨g, off, rfl, hg, hcs⟩ := HH.out.at (marks_get 2 k0 n i hlt)
      have c0 : wr.cell? ⟨g, off + i * 2, none⟩ = some (.int .i64 (k0 + 2 * (i : Int))) := (hcs 0 (by omega)).trans (congrArg (fun z => some (Value.int .i64 z)) (by unfold csM; omega))
      have c1 : wr.cell? ⟨g, off + i * 2 + 1, none⟩ = some (.int .i64 (k0 + 2 * (i : Int) + 1)) := (hcs 1 (by omega)).trans (congrArg (fun z => some (Value.int .i64 z)) (by unfold csM; omega))
      clear hcs
      go_wp2_with fail
      go_roundw
      case rel => exact ⟨by first | rfl | trivial, i + 1, by omega, by congr 1; omega, rfl⟩
      case measure => simp [intOf]; omega
    · have hlti : ¬ (i : Int) < (n : Int) := by omega
      have hin : i = n := by omega
      subst hin
      go_wp2_with fail
      go_ret
      exact ⟨rfl, rfl⟩

set_option maxRecDepth 20000 in
set_option maxHeartbeats 4000000 in
theorem markstay_some (G n cap : Nat) (l0 : List St) (k0 : Int) (w : World) (h : Out 6 csS w G n l0 n) (hn : n ≤ 1048576) (hk0 : 0 ≤ k0) (hk1 : k0 ≤ 1000000000) :
    Calls Try.prog 40 #[.slice (some ⟨G, 0, none⟩) n cap, .int .i64 k0] w fun e w' => e = .returned (.int .i64 (k0 + 6 * (n : Int))) ∧ Out 6 csM w' G n (marks 6 k0 n) n ∧ Aside w w' (.slice (some ⟨G, 0, none⟩) n cap) := by
  have h0 : Out 6 csM w G n (marks 6 k0 n) 0 := ⟨h.1, h.2.1, fun j x hj => absurd hj (by omega)⟩
  clear h
  go_enter Try.func40, Try.ntmps40
  go_wp2_with fail
  go_loopw [1, 5] (fun kv iv wr => ∃ i : Nat, i ≤ n ∧ kv = .int .i64 (k0 + 6 * (i : Int)) ∧ iv = .int .i64 i ∧ Out 6 csM wr G n (marks 6 k0 n) i ∧ Aside w wr (.slice (some ⟨G, 0, none⟩) n cap)) (fun _ iv _ => n - (intOf iv).toNat)
  case atStart => exact ⟨0, Nat.zero_le _, by simp, rfl, h0, Aside.refl _ _⟩
  case round =>
    clear h0
    obtain ⟨i, hi, rfl, rfl, ho, ha⟩ := hrel
    by_cases hlt : i < n
    · have hlti : (i : Int) < (n : Int) := by omega
      have hset := ho.set hlt (marks_get 6 k0 n i hlt) [.int .i64 (k0 + 6 * (i : Int)), .int .i64 (k0 + 6 * (i : Int) + 1), .int .i64 (k0 + 6 * (i : Int) + 1 + 1), .int .i64 (k0 + 6 * (i : Int) + 1 + 1 + 1), .int .i64 (k0 + 6 * (i : Int) + 1 + 1 + 1 + 1), .int .i64 (k0 + 6 * (i : Int) + 1 + 1 + 1 + 1 + 1)] rfl (fun k hk => by
        match k, hk with
        | 0, _ => exact congrArg (fun z => some (Value.int .i64 z)) (by unfold csM; omega)
        | 1, _ => exact congrArg (fun z => some (Value.int .i64 z)) (by unfold csM; omega)
        | 2, _ => exact congrArg (fun z => some (Value.int .i64 z)) (by unfold csM; omega)
        | 3, _ => exact congrArg (fun z => some (Value.int .i64 z)) (by unfold csM; omega)
        | 4, _ => exact congrArg (fun z => some (Value.int .i64 z)) (by unfold csM; omega)
        | 5, _ => exact congrArg (fun z => some (Value.int .i64 z)) (by unfold csM; omega)
)
      obtain ⟨⟨u0, hu0⟩, hf0⟩ := ho.old hlt (show 0 < 6 by omega)
      obtain ⟨⟨u1, hu1⟩, hf1⟩ := ho.old hlt (show 1 < 6 by omega)
      obtain ⟨⟨u2, hu2⟩, hf2⟩ := ho.old hlt (show 2 < 6 by omega)
      obtain ⟨⟨u3, hu3⟩, hf3⟩ := ho.old hlt (show 3 < 6 by omega)
      obtain ⟨⟨u4, hu4⟩, hf4⟩ := ho.old hlt (show 4 < 6 by omega)
      obtain ⟨⟨u5, hu5⟩, hf5⟩ := ho.old hlt (show 5 < 6 by omega)
      simp only [Nat.add_zero] at hu0 hf0
      have ha2 := Aside.put [.int .i64 (k0 + 6 * (i : Int)), .int .i64 (k0 + 6 * (i : Int) + 1), .int .i64 (k0 + 6 * (i : Int) + 1 + 1), .int .i64 (k0 + 6 * (i : Int) + 1 + 1 + 1), .int .i64 (k0 + 6 * (i : Int) + 1 + 1 + 1 + 1), .int .i64 (k0 + 6 * (i : Int) + 1 + 1 + 1 + 1 + 1)] (i * 6) ha
      clear ho ha
      go_wp2_with fail
      go_roundw
      case rel => exact ⟨i + 1, by omega, by congr 1; omega, rfl, hset, ha2⟩
      case measure => simp [intOf]; omega
    · have hlti : ¬ (i : Int) < (n : Int) := by omega
      have hin : i = n := by omega
      subst hin
      go_wp2_with fail
      go_ret
      exact ⟨rfl, ho, ha⟩

set_option maxRecDepth 20000 in
set_option maxHeartbeats 2000000 in
theorem markstay_none (ao : Option Addr) (cap : Nat) (k0 : Int) (w : World) :
    Calls Try.prog 40 #[.slice ao 0 cap, .int .i64 k0] w fun e w' => e = .returned (.int .i64 k0) ∧ w' = w := by
  go_enter Try.func40, Try.ntmps40
  go_wp2_with fail
  go_loopw [1, 5] (fun kv iv wr => wr = w ∧ kv = .int .i64 k0 ∧ iv = .int .i64 0) (fun _ _ _ => 0)
  case atStart => exact ⟨rfl, rfl, rfl⟩
  case round =>
    obtain ⟨rfl, rfl, rfl⟩ := hrel
    go_wp2_with fail
    go_ret
    exact ⟨rfl, rfl⟩

/-- What a marking does. -/
theorem markstay_any (v : Value) (l : List St) (base : Nat) (k0 : Int) (w : World) (h : Own 6 csS w base v l) (hn : l.length ≤ 1048576) (hk0 : 0 ≤ k0) (hk1 : k0 ≤ 1000000000) :
    Calls Try.prog 40 #[v, .int .i64 k0] w fun e w' => e = .returned (.int .i64 (k0 + 6 * (l.length : Int))) ∧ Own 6 csM w' base v (marks 6 k0 l.length) ∧ Aside w w' v ∧ (l.length = 0 → w' = w) := by
  obtain ⟨ao, cap, rfl, hc, hh⟩ := h
  rcases Nat.eq_zero_or_pos l.length with h0 | hpos
  · rw [h0]
    refine (markstay_none ao cap k0 w).mono ?_
    rintro e w' ⟨rfl, rfl⟩
    exact ⟨by simp, ⟨ao, cap, rfl, Nat.zero_le _, Or.inl rfl⟩, Aside.refl _ _, fun _ => rfl⟩
  · obtain ⟨G, rfl, hG, ho⟩ := hh.resolve_left (by omega)
    refine (markstay_some G l.length cap l k0 w ho hn hk0 hk1).mono ?_
    rintro e w' ⟨rfl, ho', ha⟩
    exact ⟨rfl, ⟨_, cap, by rw [marks_len], by rw [marks_len]; exact hc, Or.inr ⟨G, rfl, hG, by rw [marks_len]; exact ho'⟩⟩, ha, fun h0 => absurd h0 (by omega)⟩

set_option maxRecDepth 20000 in
set_option maxHeartbeats 4000000 in
theorem heldstay_any (v : Value) (k0 : Int) (n : Nat) (w : World) (h : Rw 6 csM w v (marks 6 k0 n)) (hn : n ≤ 1048576) (hk0 : 0 ≤ k0) (hk1 : k0 ≤ 1000000000) :
    Calls Try.prog 42 #[v, .int .i64 k0] w fun e w' => e = .returned (.int .i64 (k0 + 6 * (n : Int))) ∧ w' = w := by
  have HH := hidden h
  obtain ⟨ao, cap, rfl⟩ := h.form
  clear h
  rw [marks_len]
  rw [marks_len] at HH
  go_enter Try.func42, Try.ntmps42
  go_wp2_with fail
  go_loopw [1, 5] (fun kv iv wr => wr = w ∧ ∃ i : Nat, i ≤ n ∧ kv = .int .i64 (k0 + 6 * (i : Int)) ∧ iv = .int .i64 i) (fun _ iv _ => n - (intOf iv).toNat)
  case atStart => exact ⟨rfl, 0, Nat.zero_le _, by simp, rfl⟩
  case round =>
    obtain ⟨rfl, i, hi, rfl, rfl⟩ := hrel
    by_cases hlt : i < n
    · have hlti : (i : Int) < (n : Int) := by omega
      obtain ⟨g, off, rfl, hg, hcs⟩ := HH.out.at (marks_get 6 k0 n i hlt)
      have c0 : wr.cell? ⟨g, off + i * 6, none⟩ = some (.int .i64 (k0 + 6 * (i : Int))) := (hcs 0 (by omega)).trans (congrArg (fun z => some (Value.int .i64 z)) (by unfold csM; omega))
      have c1 : wr.cell? ⟨g, off + i * 6 + 1, none⟩ = some (.int .i64 (k0 + 6 * (i : Int) + 1)) := (hcs 1 (by omega)).trans (congrArg (fun z => some (Value.int .i64 z)) (by unfold csM; omega))
      have c2 : wr.cell? ⟨g, off + i * 6 + 2, none⟩ = some (.int .i64 (k0 + 6 * (i : Int) + 1 + 1)) := (hcs 2 (by omega)).trans (congrArg (fun z => some (Value.int .i64 z)) (by unfold csM; omega))
      have c3 : wr.cell? ⟨g, off + i * 6 + 3, none⟩ = some (.int .i64 (k0 + 6 * (i : Int) + 1 + 1 + 1)) := (hcs 3 (by omega)).trans (congrArg (fun z => some (Value.int .i64 z)) (by unfold csM; omega))
      have c4 : wr.cell? ⟨g, off + i * 6 + 4, none⟩ = some (.int .i64 (k0 + 6 * (i : Int) + 1 + 1 + 1 + 1)) := (hcs 4 (by omega)).trans (congrArg (fun z => some (Value.int .i64 z)) (by unfold csM; omega))
      have c5 : wr.cell? ⟨g, off + i * 6 + 5, none⟩ = some (.int .i64 (k0 + 6 * (i : Int) + 1 + 1 + 1 + 1 + 1)) := (hcs 5 (by omega)).trans (congrArg (fun z => some (Value.int .i64 z)) (by unfold csM; omega))
      clear hcs
      go_wp2_with fail
      go_roundw
      case rel => exact ⟨by first | rfl | trivial, i + 1, by omega, by congr 1; omega, rfl⟩
      case measure => simp [intOf]; omega
    · have hlti : ¬ (i : Int) < (n : Int) := by omega
      have hin : i = n := by omega
      subst hin
      go_wp2_with fail
      go_ret
      exact ⟨rfl, rfl⟩

end Go.Proofs.Ytpdlkkbnckjibam
