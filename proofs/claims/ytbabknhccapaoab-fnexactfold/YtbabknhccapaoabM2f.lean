/-
  The law's own helpers on rows of facts.
-/
import Derived.Test.YtbabknhccapaoabM2w
namespace Go.Proofs.Ytbabknhccapaoab
open Go.RowKit Va Mg
set_option linter.all false

set_option maxRecDepth 20000 in
set_option maxHeartbeats 4000000 in
theorem eqfc_any (x : Fc) (w : World) : Calls Try.prog 26 #[aFc x, aFc x] w fun r w' => r = .returned (.bool true) ∧ Below w.heap.size w w' := by
  unfold aFc
  go_enter Try.func26, Try.ntmps26
  go_wp2
  go_ret
  exact ⟨rfl, by repeat (first | exact Below.refl _ _ | assumption | refine st_drew ?_ | refine st_drewN ?_ _ | refine Below.setCell ?_ (by first | omega | (simp; done) | (simp; omega)) _ | refine Below.alloc ?_ (by first | omega | (simp; done) | (simp; omega)) _)⟩

set_option maxRecDepth 20000 in
set_option maxHeartbeats 4000000 in
theorem eqfcs_any (v u : Value) (l : List Fc) (w : World) (h : VRw 2 cvFc w v l) (h' : VRw 2 cvFc w u l) (hn : l.length ≤ 1048576) :
    Calls Try.prog 9 #[v, u] w fun e w' => e = .returned (.bool true) ∧ Below w.heap.size w w' := by
  have HH := hidden h
  have HH' := hidden h'
  obtain ⟨ao, cap, rfl⟩ := h.form
  obtain ⟨ao', cap', rfl⟩ := h'.form
  clear h h'
  go_enter Try.func9, Try.ntmps9
  go_wp2_with fail
  go_loopw [5] (fun iv wr => ∃ i : Nat, i ≤ l.length ∧ iv = .int .i64 i ∧ Below w.heap.size w wr) (fun iv _ => l.length - (intOf iv).toNat)
  case atStart => exact ⟨0, Nat.zero_le _, rfl, Below.refl _ _⟩
  case round =>
    obtain ⟨i, hil, rfl, hb⟩ := hrel
    by_cases hlt : i < l.length
    · have hlti : (i : Int) < (l.length : Int) := by omega
      have hi0 : (0 : Int) ≤ (i : Int) := by omega
      obtain ⟨x, hx⟩ := some_of l i hlt
      obtain ⟨g, off, rfl, hg, hcs⟩ := (HH.out.below hb).at hx
      obtain ⟨g', off', rfl, hg', hcs'⟩ := (HH'.out.below hb).at hx
      have c0 : wr.cell? ⟨g, off + i * 2, none⟩ = some (.int .i64 x.k) := hcs 0 (by omega)
      have d0 : wr.cell? ⟨g', off' + i * 2, none⟩ = some (.int .i64 x.k) := hcs' 0 (by omega)
      have c1 : wr.cell? ⟨g, off + i * 2 + 1, none⟩ = some (.int .i64 x.v) := hcs 1 (by omega)
      have d1 : wr.cell? ⟨g', off' + i * 2 + 1, none⟩ = some (.int .i64 x.v) := hcs' 1 (by omega)
      have HE := hidden (eqfc_any x)
      unfold aFc at HE
      clear hcs hcs' hx
      go_wp2_with fail
      go_region_with (go_at_call 26; refine (HE.out _).mono ?_; rintro e w2 ⟨rfl, hb2⟩; have b2 := onto (show Below w.heap.size w _ from by first | exact hb | exact st_drew hb) hb2)
      all_goals go_wp2_with fail
      all_goals go_roundw
      all_goals first
        | (simp [intOf]; omega)
        | exact ⟨i + 1, by omega, rfl, by first | exact b2 | exact st_drew b2⟩
    · have hlti : ¬ (i : Int) < (l.length : Int) := by omega
      go_wp2_with fail
      go_ret
      exact ⟨rfl, hb⟩

def cmfc (x : Int) (k : Nat) : Value := match k with | 0 => .int .i64 (x + 0) | _ => .int .i64 (x + 1)

set_option maxRecDepth 20000 in
set_option maxHeartbeats 8000000 in
theorem markfc_some (G n cap : Nat) (l0 : List Fc) (k0 : Int) (w : World) (h : VOut 2 cvFc w G n l0 n) (hn : n ≤ 1048576) (hk0 : 0 ≤ k0) (hk1 : k0 ≤ 1000000000) :
    Calls Try.prog 12 #[.slice (some ⟨G, 0, none⟩) n cap, .int .i64 k0] w fun e w' => e = .returned (.int .i64 (k0 + 2 * (n : Int))) ∧ VOut 2 cmfc w' G n (marks 2 k0 n) n ∧ Aside w w' (.slice (some ⟨G, 0, none⟩) n cap) := by
  have h0 : VOut 2 cmfc w G n (marks 2 k0 n) 0 := ⟨h.1, h.2.1, fun j x hj => absurd hj (by omega)⟩
  clear h
  go_enter Try.func12, Try.ntmps12
  go_wp2_with fail
  go_loopw [1, 5] (fun kv iv wr => ∃ i : Nat, i ≤ n ∧ kv = .int .i64 (k0 + 2 * (i : Int)) ∧ iv = .int .i64 i ∧ VOut 2 cmfc wr G n (marks 2 k0 n) i ∧ Aside w wr (.slice (some ⟨G, 0, none⟩) n cap)) (fun _ iv _ => n - (intOf iv).toNat)
  case atStart => exact ⟨0, Nat.zero_le _, by simp, rfl, h0, Aside.refl _ _⟩
  case round =>
    clear h0
    obtain ⟨i, hi, rfl, rfl, ho, ha⟩ := hrel
    by_cases hlt : i < n
    · have hlti : (i : Int) < (n : Int) := by omega
      have hset := ho.set hlt (marks_get 2 k0 n i hlt) [.int .i64 (k0 + 2 * (i : Int)), .int .i64 (k0 + 2 * (i : Int) + 1)] rfl (fun k hk => by
        match k, hk with
        | 0, _ => exact congrArg (fun z => some (Value.int .i64 z)) (show k0 + 2 * (i : Int) = k0 + 2 * (i : Int) + 0 by omega)
        | 1, _ => exact congrArg (fun z => some (Value.int .i64 z)) (show k0 + 2 * (i : Int) + 1 = k0 + 2 * (i : Int) + 1 by omega)
)
      obtain ⟨⟨u0, hu0⟩, hf0⟩ := ho.old hlt (show 0 < 2 by omega)
      obtain ⟨⟨u1, hu1⟩, hf1⟩ := ho.old hlt (show 1 < 2 by omega)
      simp only [Nat.add_zero] at hu0 hf0
      have ha2 := Aside.put [.int .i64 (k0 + 2 * (i : Int)), .int .i64 (k0 + 2 * (i : Int) + 1)] (i * 2) ha
      clear ho ha
      go_wp2_with fail
      go_roundw
      case rel => exact ⟨i + 1, by omega, by congr 1; omega, rfl, hset, ha2⟩
      case measure => simp [intOf]; omega
    · have hlti : ¬ (i : Int) < (n : Int) := by omega
      have hin : i = n := by omega
      subst hin
      go_wp2_with fail
      go_ret
      exact ⟨rfl, ho, ha⟩

set_option maxRecDepth 20000 in
set_option maxHeartbeats 2000000 in
theorem markfc_none (ao : Option Addr) (cap : Nat) (k0 : Int) (w : World) :
    Calls Try.prog 12 #[.slice ao 0 cap, .int .i64 k0] w fun e w' => e = .returned (.int .i64 k0) ∧ w' = w := by
  go_enter Try.func12, Try.ntmps12
  go_wp2_with fail
  go_loopw [1, 5] (fun kv iv wr => wr = w ∧ kv = .int .i64 k0 ∧ iv = .int .i64 0) (fun _ _ _ => 0)
  case atStart => exact ⟨rfl, rfl, rfl⟩
  case round =>
    obtain ⟨rfl, rfl, rfl⟩ := hrel
    go_wp2_with fail
    go_ret
    exact ⟨rfl, rfl⟩

theorem markfc_any (v : Value) (l : List Fc) (base : Nat) (k0 : Int) (w : World) (h : VOwn 2 cvFc w base v l) (hn : l.length ≤ 1048576) (hk0 : 0 ≤ k0) (hk1 : k0 ≤ 1000000000) :
    Calls Try.prog 12 #[v, .int .i64 k0] w fun e w' => e = .returned (.int .i64 (k0 + 2 * (l.length : Int))) ∧ VOwn 2 cmfc w' base v (marks 2 k0 l.length) ∧ Aside w w' v ∧ (l.length = 0 → w' = w) := by
  obtain ⟨ao, cap, rfl, hc, hh⟩ := h
  rcases Nat.eq_zero_or_pos l.length with h0 | hpos
  · rw [h0]
    refine (markfc_none ao cap k0 w).mono ?_
    rintro e w' ⟨rfl, rfl⟩
    exact ⟨by simp, ⟨ao, cap, rfl, Nat.zero_le _, Or.inl rfl⟩, Aside.refl _ _, fun _ => rfl⟩
  · obtain ⟨G, rfl, hG, ho⟩ := hh.resolve_left (by omega)
    refine (markfc_some G l.length cap l k0 w ho hn hk0 hk1).mono ?_
    rintro e w' ⟨rfl, ho', ha⟩
    exact ⟨rfl, ⟨_, cap, by rw [marks_len], by rw [marks_len]; exact hc, Or.inr ⟨G, rfl, hG, by rw [marks_len]; exact ho'⟩⟩, ha, fun h0 => absurd h0 (by omega)⟩

set_option maxRecDepth 20000 in
set_option maxHeartbeats 8000000 in
theorem heldfc_any (v : Value) (k0 : Int) (n : Nat) (w : World) (h : VRw 2 cmfc w v (marks 2 k0 n)) (hn : n ≤ 1048576) (hk0 : 0 ≤ k0) (hk1 : k0 ≤ 1000000000) :
    Calls Try.prog 13 #[v, .int .i64 k0] w fun e w' => e = .returned (.int .i64 (k0 + 2 * (n : Int))) ∧ w' = w := by
  have HH := hidden h
  obtain ⟨ao, cap, rfl⟩ := h.form
  clear h
  rw [marks_len]
  rw [marks_len] at HH
  go_enter Try.func13, Try.ntmps13
  go_wp2_with fail
  go_loopw [1, 5] (fun kv iv wr => wr = w ∧ ∃ i : Nat, i ≤ n ∧ kv = .int .i64 (k0 + 2 * (i : Int)) ∧ iv = .int .i64 i) (fun _ iv _ => n - (intOf iv).toNat)
  case atStart => exact ⟨rfl, 0, Nat.zero_le _, by simp, rfl⟩
  case round =>
    obtain ⟨rfl, i, hi, rfl, rfl⟩ := hrel
    by_cases hlt : i < n
    · have hlti : (i : Int) < (n : Int) := by omega
      obtain ⟨g, off, rfl, hg, hcs⟩ := HH.out.at (marks_get 2 k0 n i hlt)
      have c0 : wr.cell? ⟨g, off + i * 2, none⟩ = some (.int .i64 (k0 + 2 * (i : Int))) := (hcs 0 (by omega)).trans (congrArg (fun z => some (Value.int .i64 z)) (show k0 + 2 * (i : Int) + 0 = k0 + 2 * (i : Int) by omega))
      have c1 : wr.cell? ⟨g, off + i * 2 + 1, none⟩ = some (.int .i64 (k0 + 2 * (i : Int) + 1)) := (hcs 1 (by omega)).trans (congrArg (fun z => some (Value.int .i64 z)) (show k0 + 2 * (i : Int) + 1 = k0 + 2 * (i : Int) + 1 by omega))
      clear hcs
      go_wp2_with fail
      go_roundw
      case rel => exact ⟨by first | rfl | trivial, i + 1, by omega, by congr 1; omega, rfl⟩
      case measure => simp [intOf]; omega
    · have hlti : ¬ (i : Int) < (n : Int) := by omega
      have hin : i = n := by omega
      subst hin
      go_wp2_with fail
      go_ret
      exact ⟨rfl, rfl⟩
end Go.Proofs.Ytbabknhccapaoab
