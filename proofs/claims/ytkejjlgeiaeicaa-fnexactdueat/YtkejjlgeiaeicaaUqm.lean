/-
  The law's own marks on rows of orders.
-/
import Derived.Test.YtkejjlgeiaeicaaUq
import Derived.Deep.RegionWith
import Derived.WideShapes
import Derived.ProofKit
import Derived.OpenShut
import Derived.ShutString
import Derived.ChangeOld
import Derived.Below
namespace Go.Proofs.Ytkejjlgeiaeicaa
open Go.RowKit Va Uo
set_option linter.all false

def cmod (x : Int) (k : Nat) : Value := match k with | 0 => .int .i64 (x + 0) | 1 => .int .i64 (x + 1) | 2 => .int .i64 (x + 2) | 3 => .int .i64 (x + 3) | 4 => .int .i64 (x + 4) | 5 => .int .i64 (x + 5) | 6 => .int .i64 (x + 6) | 7 => .int .i64 (x + 7) | _ => .bool ((x + 8) % 3 == 0)

set_option maxRecDepth 20000 in
set_option maxHeartbeats 8000000 in
theorem markod_some (G n cap : Nat) (l0 : List Od) (k0 : Int) (w : World) (h : VOut 9 cvOd w G n l0 n) (hn : n ≤ 1048576) (hk0 : 0 ≤ k0) (hk1 : k0 ≤ 1000000000) :
    Calls Try.prog 50 #[.slice (some ⟨G, 0, none⟩) n cap, .int .i64 k0] w fun e w' => e = .returned (.int .i64 (k0 + 9 * (n : Int))) ∧ VOut 9 cmod w' G n (marks 9 k0 n) n ∧ Aside w w' (.slice (some ⟨G, 0, none⟩) n cap) := by
  have h0 : VOut 9 cmod w G n (marks 9 k0 n) 0 := ⟨h.1, h.2.1, fun j x hj => absurd hj (by omega)⟩
  clear h
  go_enter Try.func50, Try.ntmps50
  go_wp2_with fail
  go_loopw [1, 5] (fun kv iv wr => ∃ i : Nat, i ≤ n ∧ kv = .int .i64 (k0 + 9 * (i : Int)) ∧ iv = .int .i64 i ∧ VOut 9 cmod wr G n (marks 9 k0 n) i ∧ Aside w wr (.slice (some ⟨G, 0, none⟩) n cap)) (fun _ iv _ => n - (intOf iv).toNat)
  case atStart => exact ⟨0, Nat.zero_le _, by simp, rfl, h0, Aside.refl _ _⟩
  case round =>
    clear h0
    obtain ⟨i, hi, rfl, rfl, ho, ha⟩ := hrel
    by_cases hlt : i < n
    · have hlti : (i : Int) < (n : Int) := by omega
      have hset := ho.set hlt (marks_get 9 k0 n i hlt) [.int .i64 (k0 + 9 * (i : Int)), .int .i64 (k0 + 9 * (i : Int) + 1), .int .i64 (k0 + 9 * (i : Int) + 1 + 1), .int .i64 (k0 + 9 * (i : Int) + 1 + 1 + 1), .int .i64 (k0 + 9 * (i : Int) + 1 + 1 + 1 + 1), .int .i64 (k0 + 9 * (i : Int) + 1 + 1 + 1 + 1 + 1), .int .i64 (k0 + 9 * (i : Int) + 1 + 1 + 1 + 1 + 1 + 1), .int .i64 (k0 + 9 * (i : Int) + 1 + 1 + 1 + 1 + 1 + 1 + 1), .bool ((k0 + 9 * (i : Int) + 1 + 1 + 1 + 1 + 1 + 1 + 1 + 1) % 3 == 0)] rfl (fun k hk => by
        match k, hk with
        | 0, _ => exact congrArg (fun z => some (Value.int .i64 z)) (show k0 + 9 * (i : Int) = k0 + 9 * (i : Int) + 0 by omega)
        | 1, _ => exact congrArg (fun z => some (Value.int .i64 z)) (show k0 + 9 * (i : Int) + 1 = k0 + 9 * (i : Int) + 1 by omega)
        | 2, _ => exact congrArg (fun z => some (Value.int .i64 z)) (show k0 + 9 * (i : Int) + 1 + 1 = k0 + 9 * (i : Int) + 2 by omega)
        | 3, _ => exact congrArg (fun z => some (Value.int .i64 z)) (show k0 + 9 * (i : Int) + 1 + 1 + 1 = k0 + 9 * (i : Int) + 3 by omega)
        | 4, _ => exact congrArg (fun z => some (Value.int .i64 z)) (show k0 + 9 * (i : Int) + 1 + 1 + 1 + 1 = k0 + 9 * (i : Int) + 4 by omega)
        | 5, _ => exact congrArg (fun z => some (Value.int .i64 z)) (show k0 + 9 * (i : Int) + 1 + 1 + 1 + 1 + 1 = k0 + 9 * (i : Int) + 5 by omega)
        | 6, _ => exact congrArg (fun z => some (Value.int .i64 z)) (show k0 + 9 * (i : Int) + 1 + 1 + 1 + 1 + 1 + 1 = k0 + 9 * (i : Int) + 6 by omega)
        | 7, _ => exact congrArg (fun z => some (Value.int .i64 z)) (show k0 + 9 * (i : Int) + 1 + 1 + 1 + 1 + 1 + 1 + 1 = k0 + 9 * (i : Int) + 7 by omega)
        | 8, _ => exact congrArg (fun z : Int => some (Value.bool (z % 3 == 0))) (show k0 + 9 * (i : Int) + 1 + 1 + 1 + 1 + 1 + 1 + 1 + 1 = k0 + 9 * (i : Int) + 8 by omega)
)
      obtain ⟨⟨u0, hu0⟩, hf0⟩ := ho.old hlt (show 0 < 9 by omega)
      obtain ⟨⟨u1, hu1⟩, hf1⟩ := ho.old hlt (show 1 < 9 by omega)
      obtain ⟨⟨u2, hu2⟩, hf2⟩ := ho.old hlt (show 2 < 9 by omega)
      obtain ⟨⟨u3, hu3⟩, hf3⟩ := ho.old hlt (show 3 < 9 by omega)
      obtain ⟨⟨u4, hu4⟩, hf4⟩ := ho.old hlt (show 4 < 9 by omega)
      obtain ⟨⟨u5, hu5⟩, hf5⟩ := ho.old hlt (show 5 < 9 by omega)
      obtain ⟨⟨u6, hu6⟩, hf6⟩ := ho.old hlt (show 6 < 9 by omega)
      obtain ⟨⟨u7, hu7⟩, hf7⟩ := ho.old hlt (show 7 < 9 by omega)
      obtain ⟨⟨u8, hu8⟩, hf8⟩ := ho.old hlt (show 8 < 9 by omega)
      simp only [Nat.add_zero] at hu0 hf0
      have ha2 := Aside.put [.int .i64 (k0 + 9 * (i : Int)), .int .i64 (k0 + 9 * (i : Int) + 1), .int .i64 (k0 + 9 * (i : Int) + 1 + 1), .int .i64 (k0 + 9 * (i : Int) + 1 + 1 + 1), .int .i64 (k0 + 9 * (i : Int) + 1 + 1 + 1 + 1), .int .i64 (k0 + 9 * (i : Int) + 1 + 1 + 1 + 1 + 1), .int .i64 (k0 + 9 * (i : Int) + 1 + 1 + 1 + 1 + 1 + 1), .int .i64 (k0 + 9 * (i : Int) + 1 + 1 + 1 + 1 + 1 + 1 + 1), .bool ((k0 + 9 * (i : Int) + 1 + 1 + 1 + 1 + 1 + 1 + 1 + 1) % 3 == 0)] (i * 9) ha
      clear ho ha
      go_wp2_with fail
      go_roundw
      case rel => exact ⟨i + 1, by omega, by congr 1; omega, rfl, hset, ha2⟩
      case measure => simp [intOf]; omega
    · have hlti : ¬ (i : Int) < (n : Int) := by omega
      have hin : i = n := by omega
      subst hin
      go_wp2_with fail
      go_ret
      exact ⟨rfl, ho, ha⟩

set_option maxRecDepth 20000 in
set_option maxHeartbeats 2000000 in
theorem markod_none (ao : Option Addr) (cap : Nat) (k0 : Int) (w : World) :
    Calls Try.prog 50 #[.slice ao 0 cap, .int .i64 k0] w fun e w' => e = .returned (.int .i64 k0) ∧ w' = w := by
  go_enter Try.func50, Try.ntmps50
  go_wp2_with fail
  go_loopw [1, 5] (fun kv iv wr => wr = w ∧ kv = .int .i64 k0 ∧ iv = .int .i64 0) (fun _ _ _ => 0)
  case atStart => exact ⟨rfl, rfl, rfl⟩
  case round =>
    obtain ⟨rfl, rfl, rfl⟩ := hrel
    go_wp2_with fail
    go_ret
    exact ⟨rfl, rfl⟩

theorem markod_any (v : Value) (l : List Od) (base : Nat) (k0 : Int) (w : World) (h : VOwn 9 cvOd w base v l) (hn : l.length ≤ 1048576) (hk0 : 0 ≤ k0) (hk1 : k0 ≤ 1000000000) :
    Calls Try.prog 50 #[v, .int .i64 k0] w fun e w' => e = .returned (.int .i64 (k0 + 9 * (l.length : Int))) ∧ VOwn 9 cmod w' base v (marks 9 k0 l.length) ∧ Aside w w' v ∧ (l.length = 0 → w' = w) := by
  obtain ⟨ao, cap, rfl, hc, hh⟩ := h
  rcases Nat.eq_zero_or_pos l.length with h0 | hpos
  · rw [h0]
    refine (markod_none ao cap k0 w).mono ?_
    rintro e w' ⟨rfl, rfl⟩
    exact ⟨by simp, ⟨ao, cap, rfl, Nat.zero_le _, Or.inl rfl⟩, Aside.refl _ _, fun _ => rfl⟩
  · obtain ⟨G, rfl, hG, ho⟩ := hh.resolve_left (by omega)
    refine (markod_some G l.length cap l k0 w ho hn hk0 hk1).mono ?_
    rintro e w' ⟨rfl, ho', ha⟩
    exact ⟨rfl, ⟨_, cap, by rw [marks_len], by rw [marks_len]; exact hc, Or.inr ⟨G, rfl, hG, by rw [marks_len]; exact ho'⟩⟩, ha, fun h0 => absurd h0 (by omega)⟩
end Go.Proofs.Ytkejjlgeiaeicaa
