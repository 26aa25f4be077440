/-
  Queues: the small functions, and whether somebody stands in a queue already.
-/
import Derived.Test.YtcapmobhgffnhaaVb
import Derived.Test.YtcapmobhgffnhaaQa
import Derived.Deep.RegionWith
namespace Go.Proofs.Ytcapmobhgffnhaa
open Go.RowKit Va
set_option linter.unusedVariables false

def csW (x : Wt) (k : Nat) : Int := match k with | 0 => x.person | 1 => x.urg | _ => x.since
def aW (x : Wt) : Value := .agg #[.int .i64 x.person, .int .i64 x.urg, .int .i64 x.since]
theorem some_of {α : Type} (l : List α) (i : Nat) (h : i < l.length) : ∃ x, l[i]? = some x := ⟨_, List.getElem?_eq_getElem h⟩
theorem take_snocW {α : Type} {l : List α} {i : Nat} {x : α} (h : l[i]? = some x) : l.take (i + 1) = l.take i ++ [x] := by
  rw [List.take_add_one, h]; rfl
/-- The three cells of who waits. -/
theorem wait_cells {w : World} {ao : Option Addr} {n cap : Nat} {l : List Wt} {k : Nat} {s : Wt} (h : Rw 3 csW w (.slice ao n cap) l) (hk : l[k]? = some s) :
    ∃ g off, ao = some ⟨g, off, none⟩ ∧ g < w.heap.size ∧ w.cell? ⟨g, off + k * 3, none⟩ = some (.int .i64 s.person) ∧ w.cell? ⟨g, off + k * 3 + 1, none⟩ = some (.int .i64 s.urg) ∧ w.cell? ⟨g, off + k * 3 + 2, none⟩ = some (.int .i64 s.since) := by
  obtain ⟨g, off, h1, h2, h3⟩ := h.at hk
  exact ⟨g, off, h1, h2, h3 0 (by omega), h3 1 (by omega), h3 2 (by omega)⟩

set_option maxHeartbeats 400000 in
theorem sprs_any (x : Int) (w : World) : Calls Try.prog 71 #[.int .i64 x] w fun e w' => e = .returned (.bool (prs x)) ∧ w = w' := by
  have h := lin_any x 0 999
  rw [show rng x 0 999 = prs x from rfl] at h
  generalize prs x = t at *
  go_enter Try.func71, Try.ntmps71
  go_wp2_with (go_at_call 39; refine (h _).mono ?_; rintro e w1 ⟨rfl, rfl⟩)
  go_ret
  exact ⟨rfl, rfl⟩

set_option maxHeartbeats 400000 in
theorem stmq_any (x : Int) (w : World) : Calls Try.prog 70 #[.int .i64 x] w fun e w' => e = .returned (.bool (tmv x)) ∧ w = w' := by
  have h := lin_any x 0 10000000
  rw [show rng x 0 10000000 = tmv x from rfl] at h
  generalize tmv x = t at *
  go_enter Try.func70, Try.ntmps70
  go_wp2_with (go_at_call 39; refine (h _).mono ?_; rintro e w1 ⟨rfl, rfl⟩)
  go_ret
  exact ⟨rfl, rfl⟩

set_option maxHeartbeats 400000 in
theorem itmq_any (x : Int) (w : World) : Calls Try.prog 68 #[.int .i64 x] w fun e w' => e = .returned (.bool (tmv x)) ∧ w = w' := by
  unfold tmv
  go_enter Try.func68, Try.ntmps68
  go_wp2
  all_goals (go_ret; exact ⟨ret_bool (by first | (simp; done) | (simp; omega) | (simp_all; done) | (simp_all; omega) | (rw [Bool.eq_iff_iff]; simp; omega) | (rw [Bool.eq_iff_iff]; simp_all; omega)), rfl⟩)

set_option maxHeartbeats 400000 in
theorem iprs_any (x : Int) (w : World) : Calls Try.prog 80 #[.int .i64 x] w fun e w' => e = .returned (.bool (prs x)) ∧ w = w' := by
  by_cases h0 : 0 ≤ x
  · by_cases h1 : x ≤ 999
    · have e : Hid (prs x = true) := prs_iff.2 ⟨h0, h1⟩
      have h2 : x < 1000 := by omega
      go_enter Try.func80, Try.ntmps80
      go_wp2
      go_ret
      exact ⟨ret_bool e.out.symm, rfl⟩
    · have e : Hid (prs x = false) := by unfold prs; simp; rw [Hid]; omega
      have h2 : ¬ x < 1000 := by omega
      go_enter Try.func80, Try.ntmps80
      go_wp2
      go_ret
      exact ⟨ret_bool e.out.symm, rfl⟩
  · have e : Hid (prs x = false) := by unfold prs; simp; rw [Hid]; omega
    go_enter Try.func80, Try.ntmps80
    go_wp2
    go_ret
    exact ⟨ret_bool e.out.symm, rfl⟩
end Go.Proofs.Ytcapmobhgffnhaa
