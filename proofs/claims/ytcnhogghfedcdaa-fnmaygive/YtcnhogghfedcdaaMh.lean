/-
  The doses of one drug: what slices.DeleteFunc leaves.
-/
import Derived.Test.YtcnhogghfedcdaaMe
import Derived.Test.YtcnhogghfedcdaaMg
import Derived.WalkMore
namespace Go.Proofs.Ytcnhogghfedcdaa
open Go.RowKit Va Ga
set_option linter.unusedVariables false

def keep (z : Int) (g : Gv) : Bool := g.d == z

set_option maxRecDepth 20000 in
set_option maxHeartbeats 1000000 in
theorem idel_any (x : Gv) (Bd : Nat) (z : Int) (w : World) (hl : Bd < w.heap.size) (h : w.cell? ⟨Bd, 0, none⟩ = some (.int .i64 z)) :
    Calls Try.prog 66 #[aGv x, .pointer (some ⟨Bd, 0, none⟩)] w fun e w' => e = .returned (.bool (!keep z x)) ∧ Below w.heap.size w w' := by
  have h2 : (w.alloc (.cells #[.int .i64 x.d, .int .i64 x.t, .int .i64 x.n] 49)).cell? ⟨Bd, 0, none⟩ = some (.int .i64 z) := (((Below.refl _ _).alloc (Nat.le_refl _) (.cells #[.int .i64 x.d, .int .i64 x.t, .int .i64 x.n] 49) : Below w.heap.size w _).cell (p := ⟨Bd, 0, none⟩) hl).trans h
  unfold aGv keep
  go_enter Try.func66, Try.ntmps66
  go_wp2_with fail
  all_goals go_ret
  all_goals exact ⟨ret_boolG (by first | rfl | (rw [Bool.eq_iff_iff]; simp)), by repeat (first | exact Below.refl _ _ | assumption | refine st_drew ?_ | refine st_drewN ?_ _ | refine Below.setCell ?_ (by first | omega | (simp; done) | (simp; omega)) _ | refine Below.alloc ?_ (by first | omega | (simp; done) | (simp; omega)) _)⟩

set_option maxRecDepth 20000 in
set_option maxHeartbeats 2000000 in
theorem iindex_any (ao : Option Addr) (n cap Bd : Nat) (z : Int) (l : List Gv) (w : World) (h : Rw 3 csGv w (.slice ao n cap) l) (hn : l.length ≤ 1048576) (hB : Bd < w.heap.size) (hc : w.cell? ⟨Bd, 0, none⟩ = some (.int .i64 z)) :
    Calls Try.prog 72 #[.slice ao n cap, (.func (.func 66) #[] #[.pointer (some ⟨Bd, 0, none⟩)])] w fun e w' => (∃ r : Int, e = .returned (.int .i64 r) ∧ ((r = -1 ∧ ∀ y ∈ l, keep z y = true) ∨ ∃ (k : Nat) (y : Gv), r = (k : Int) ∧ l[k]? = some y ∧ keep z y = false ∧ ∀ y ∈ l.take k, keep z y = true)) ∧ Below w.heap.size w w' := by
  obtain rfl := h.len
  have HH := hidden h
  clear h
  go_enter Try.func72, Try.ntmps72
  go_wp2_with fail
  go_loopw [5, 8] (fun _ iv wr => ∃ i : Nat, i ≤ l.length ∧ iv = .int .i64 i ∧ Below w.heap.size w wr ∧ Hid (∀ y ∈ l.take i, keep z y = true)) (fun _ iv _ => l.length - (intOf iv).toNat)
  case atStart => exact ⟨0, Nat.zero_le _, rfl, Below.refl _ _, fun y hy => by cases hy⟩
  case round =>
    obtain ⟨i, hi, rfl, hb, hok⟩ := hrel
    have hsz := hb.size
    by_cases hlt : i < l.length
    · have hlti : (i : Int) < (l.length : Int) := by omega
      obtain ⟨x, hx⟩ := some_of l i hlt
      obtain ⟨g, off, rfl, hg, hcs⟩ := (HH.out.below hb).at hx
      have c0 : wr.cell? ⟨g, off + i * 3, none⟩ = some (.int .i64 x.d) := hcs 0 (by omega)
      have c1 : wr.cell? ⟨g, off + i * 3 + 1, none⟩ = some (.int .i64 x.t) := hcs 1 (by omega)
      have c2 : wr.cell? ⟨g, off + i * 3 + 2, none⟩ = some (.int .i64 x.n) := hcs 2 (by omega)
      have hK := idel_any x Bd z wr (by omega) ((hb.cell (p := ⟨Bd, 0, none⟩) hB).trans hc)
      unfold aGv at hK
      cases hp : keep z x with
      | false =>
        rw [hp] at hK
        have HY := hidden (show ∃ (k : Nat) (y : Gv), (i : Int) = (k : Int) ∧ l[k]? = some y ∧ keep z y = false ∧ ∀ y ∈ l.take k, keep z y = true from ⟨i, x, rfl, hx, hp, hok.out⟩)
        clear hx hcs hok hp
        go_wp2_with fail
        refine hK.mono ?_
        rintro e w1 ⟨rfl, hb1⟩
        go_wp2_with fail
        go_ret
        exact ⟨⟨i, rfl, Or.inr HY.out⟩, onto hb hb1⟩
      | true =>
        rw [hp] at hK
        have HN : Hid (∀ y ∈ l.take (i + 1), keep z y = true) := fun y hy => by
          rw [show l.take (i + 1) = l.take i ++ [x] from by rw [List.take_add_one, hx]; rfl] at hy
          rcases List.mem_append.1 hy with q | q
          · exact hok.out y q
          · rw [List.mem_singleton.1 q]; exact hp
        clear hx hcs hok hp
        go_wp2_with fail
        refine hK.mono ?_
        rintro e w1 ⟨rfl, hb1⟩
        go_wp2_with fail
        go_roundw
        case rel => exact ⟨i + 1, by omega, rfl, onto hb hb1, HN⟩
        case measure => simp [intOf]; omega
    · have hlti : ¬ (i : Int) < (l.length : Int) := by omega
      have hil : i = l.length := by omega
      have HY : Hid (∀ y ∈ l, keep z y = true) := by have := hok.out; rw [hil, List.take_length] at this; exact this
      go_wp2_with fail
      go_ret
      exact ⟨⟨-1, rfl, Or.inl ⟨rfl, HY.out⟩⟩, hb⟩
end Go.Proofs.Ytcnhogghfedcdaa
