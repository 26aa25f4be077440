/-
  Who has worked less: the closure that tells it; who is ready, in order.
-/
import Derived.Test.YtgcpiinmcbdkmaaSy11
import Derived.Test.YtgcpiinmcbdkmaaRo2
import Derived.Maps.AppendAt
namespace Go.Proofs.Ytgcpiinmcbdkmaa
open Go.RowKit Go.WideShapes Va Lb Go.Maps Sy Ro
set_option linter.all false

/-- The workers ws lie in block H. -/
def WR (w : World) (H : Nat) (ws : List Wk) : Prop :=
  H < w.heap.size ∧ ∀ p y, ws[p]? = some y → (w.cell? ⟨H, p * 2, none⟩ = some (.int .i64 y.1) ∧ w.cell? ⟨H, p * 2 + 1, none⟩ = some (.int .i64 y.2)) ∧ w.frozen? ⟨H, p * 2, none⟩ = false ∧ w.frozen? ⟨H, p * 2 + 1, none⟩ = false
theorem WR.below {w w' : World} {H : Nat} {ws : List Wk} (h : WR w H ws) (hb : Below w.heap.size w w') : WR w' H ws :=
  ⟨Nat.lt_of_lt_of_le h.1 hb.size, fun p y hp => ⟨⟨((bcell hb).1 _ _ h.1).trans (h.2 p y hp).1.1, ((bcell hb).1 _ _ h.1).trans (h.2 p y hp).1.2⟩, ((bcell hb).2 _ _ h.1).trans (h.2 p y hp).2.1, ((bcell hb).2 _ _ h.1).trans (h.2 p y hp).2.2⟩⟩
theorem WR.at {w : World} {H : Nat} {ws : List Wk} (h : WR w H ws) {p : Nat} (hp : p < ws.length) : w.cell? ⟨H, p * 2, none⟩ = some (.int .i64 (ws.getD p (0, 0)).1) ∧ w.cell? ⟨H, p * 2 + 1, none⟩ = some (.int .i64 (ws.getD p (0, 0)).2) := by
  have e : ws[p]? = some (ws.getD p (0, 0)) := by rw [List.getD_eq_getElem?_getD, List.getElem?_eq_getElem hp]; rfl
  exact (h.2 p _ e).1

set_option maxHeartbeats 400000 in
theorem inanR_any (a : Int) (w : World) : Calls Try.prog 132 #[.int .i64 a] w fun e w' => e = .returned (.bool false) ∧ w = w' := by
  go_enter Try.func132, Try.ntmps132
  go_wp2
  go_ret
  exact ⟨rfl, rfl⟩

set_option maxHeartbeats 1000000 in
theorem icmpR_any (a b : Int) (w : World) : Calls Try.prog 90 #[.int .i64 a, .int .i64 b] w fun e w' => e = .returned (.int .i64 (cmI a b)) ∧ w' = w := by
  have n1 := inanR_any a
  have n2 := inanR_any b
  unfold cmI
  by_cases h1 : a < b
  · rw [if_pos h1]
    go_enter Try.func90, Try.ntmps90
    go_wp2_with (with_reducible (first | refine (n1 _).mono ?_ | refine (n2 _).mono ?_); rintro e w1 ⟨rfl, rfl⟩)
    go_ret
    exact ⟨rfl, rfl⟩
  · rw [if_neg h1]
    by_cases h2 : b < a
    · rw [if_pos h2]
      go_enter Try.func90, Try.ntmps90
      go_wp2_with (with_reducible (first | refine (n1 _).mono ?_ | refine (n2 _).mono ?_); rintro e w1 ⟨rfl, rfl⟩)
      go_ret
      exact ⟨rfl, rfl⟩
    · rw [if_neg h2]
      go_enter Try.func90, Try.ntmps90
      go_wp2_with (with_reducible (first | refine (n1 _).mono ?_ | refine (n2 _).mono ?_); rintro e w1 ⟨rfl, rfl⟩)
      go_ret
      exact ⟨rfl, rfl⟩

set_option maxRecDepth 20000 in
set_option maxHeartbeats 8000000 in
theorem less_any (ws : List Wk) (H B c : Nat) (p q : Nat) (w : World) (hp : p < ws.length) (hq : q < ws.length) (hl : ws.length ≤ 1000) (h : WR w H ws) (hB : w.cell? ⟨B, 0, none⟩ = some (.slice (some ⟨H, 0, none⟩) ws.length c)) :
    Calls Try.prog 134 #[.int .i64 p, .int .i64 q, .pointer (some ⟨B, 0, none⟩)] w fun e w' => e = .returned (.int .i64 (cmI (key ws p) (key ws q))) ∧ ∃ m, w' = w.drewN m := by
  obtain ⟨e1, -⟩ := h.at hp
  obtain ⟨e2, -⟩ := h.at hq
  rw [key_nat, key_nat]
  have hc := fun W => icmpR_any (ws.getD p (0, 0)).1 (ws.getD q (0, 0)).1 W
  have hpi : (p : Int) < (ws.length : Int) := by omega
  have hqi : (q : Int) < (ws.length : Int) := by omega
  generalize (ws.getD p (0, 0)).1 = x at *
  generalize (ws.getD q (0, 0)).1 = y at *
  generalize cmI x y = r at *
  clear h hp hq
  generalize ws.length = n at *
  go_enter Try.func134, Try.ntmps134
  go_wp2_with fail
  go_quiet ((go_at_call 90; exact Calls.quiet_of_same (hc _)))
  go_wp2_with fail
  go_ret
  exact ⟨rfl, _, rfl⟩

theorem lessC_any (ws : List Wk) (H B c G : Nat) (w : World) (hl : ws.length ≤ 1000) (h : WR w H ws) (hB : w.cell? ⟨B, 0, none⟩ = some (.slice (some ⟨H, 0, none⟩) ws.length c)) (hH : H < G) (hBG : B < G) :
    LessC G w (key ws) (fun x => ∃ p : Nat, p < ws.length ∧ x = (p : Int)) (.pointer (some ⟨B, 0, none⟩)) := by
  rintro x y ⟨p, hp, rfl⟩ ⟨q, hq, rfl⟩ W hW
  refine less_any ws H B c p q W hp hq hl ⟨Nat.lt_of_lt_of_le h.1 hW.size, fun p y hp => ?_⟩ ((hW.cell (p := ⟨B, 0, none⟩) hBG).trans hB)
  exact ⟨⟨(hW.cell (p := ⟨H, p * 2, none⟩) hH).trans (h.2 p y hp).1.1, (hW.cell (p := ⟨H, p * 2 + 1, none⟩) hH).trans (h.2 p y hp).1.2⟩, (hW.frozen (p := ⟨H, p * 2, none⟩) hH).trans (h.2 p y hp).2.1, (hW.frozen (p := ⟨H, p * 2 + 1, none⟩) hH).trans (h.2 p y hp).2.2⟩
end Go.Proofs.Ytgcpiinmcbdkmaa
