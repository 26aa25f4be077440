/-
  Vital signs: the points of each sign, the specification's.
-/
import Derived.Test.YtmigcbbjejbcgabVb1
import Derived.Deep.CutBlock
namespace Go.Proofs.Ytmigcbbjejbcgab
open Go.RowKit Va
set_option linter.unusedVariables false

set_option maxRecDepth 20000 in
set_option maxHeartbeats 8000000 in
theorem l4p_any (v : Vt) (hv : -1 ≤ v.a ∧ v.a ≤ 1) (w : World) : Calls Try.prog 57 #[aV v] w fun e w' => ∃ x0 x1 x2 x3 x4 x5 : Int, e = .returned (.slice (some ⟨w.heap.size + 1, 0, none⟩) 6 6) ∧ six v = [x0, x1, x2, x3, x4, x5] ∧ w' = (w.alloc (.cells #[.int .i64 v.b, .int .i64 v.o, .int .i64 v.p, .int .i64 v.u, .int .i64 v.a, .int .i64 v.h] 49)).alloc (.cells #[.int .i64 x0, .int .i64 x1, .int .i64 x2, .int .i64 x3, .int .i64 x4, .int .i64 x5] 2) := by
  obtain ⟨b, o, p, u, a, h⟩ := v
  simp only at hv
  obtain ⟨hv1, hv2⟩ := hv
  unfold aV
  simp only
  go_enter Try.func57, Try.ntmps57
  go_upto_block 0 with fail
  go_cut [] (fun wx => ∃ x0 : Int, Hid (x0 = pt bp b) ∧ wx = (w.alloc (.cells #[.int .i64 b, .int .i64 o, .int .i64 p, .int .i64 u, .int .i64 a, .int .i64 h] 49)).alloc (.cells #[.int .i64 x0, .int .i64 (-1), .int .i64 (-1), .int .i64 (-1), .int .i64 (-1), .int .i64 (-1)] 2))
  case first =>
    all_goals go_wp2_with fail
    all_goals (go_meet; case rel => exact ⟨_, (by unfold Hid pt bp; first | omega | (simp; done) | (split <;> first | omega | (split <;> first | omega | (split <;> first | omega | (split <;> omega))))), rfl⟩)
  case rest =>
    obtain ⟨x0, hx0, rfl⟩ := hcut
    go_upto_block 1 with fail
    go_cut [] (fun wx => ∃ x1 : Int, Hid (x1 = pt op o) ∧ wx = (w.alloc (.cells #[.int .i64 b, .int .i64 o, .int .i64 p, .int .i64 u, .int .i64 a, .int .i64 h] 49)).alloc (.cells #[.int .i64 x0, .int .i64 x1, .int .i64 (-1), .int .i64 (-1), .int .i64 (-1), .int .i64 (-1)] 2))
    case first =>
      all_goals go_wp2_with fail
      all_goals (go_meet; case rel => exact ⟨_, (by unfold Hid pt op; first | omega | (simp; done) | (split <;> first | omega | (split <;> first | omega | (split <;> first | omega | (split <;> omega))))), rfl⟩)
    case rest =>
      obtain ⟨x1, hx1, rfl⟩ := hcut
      go_upto_block 2 with fail
      go_cut [] (fun wx => ∃ x2 : Int, Hid (x2 = pt pp p) ∧ wx = (w.alloc (.cells #[.int .i64 b, .int .i64 o, .int .i64 p, .int .i64 u, .int .i64 a, .int .i64 h] 49)).alloc (.cells #[.int .i64 x0, .int .i64 x1, .int .i64 x2, .int .i64 (-1), .int .i64 (-1), .int .i64 (-1)] 2))
      case first =>
        all_goals go_wp2_with fail
        all_goals (go_meet; case rel => exact ⟨_, (by unfold Hid pt pp; first | omega | (simp; done) | (split <;> first | omega | (split <;> first | omega | (split <;> first | omega | (split <;> omega))))), rfl⟩)
      case rest =>
        obtain ⟨x2, hx2, rfl⟩ := hcut
        go_upto_block 3 with fail
        go_cut [] (fun wx => ∃ x3 : Int, Hid (x3 = pt up u) ∧ wx = (w.alloc (.cells #[.int .i64 b, .int .i64 o, .int .i64 p, .int .i64 u, .int .i64 a, .int .i64 h] 49)).alloc (.cells #[.int .i64 x0, .int .i64 x1, .int .i64 x2, .int .i64 x3, .int .i64 (-1), .int .i64 (-1)] 2))
        case first =>
          all_goals go_wp2_with fail
          all_goals (go_meet; case rel => exact ⟨_, (by unfold Hid pt up; first | omega | (simp; done) | (split <;> first | omega | (split <;> first | omega | (split <;> first | omega | (split <;> omega))))), rfl⟩)
        case rest =>
          obtain ⟨x3, hx3, rfl⟩ := hcut
          go_upto_block 4 with fail
          go_cut [] (fun wx => ∃ x4 : Int, Hid (x4 = pt ap a) ∧ wx = (w.alloc (.cells #[.int .i64 b, .int .i64 o, .int .i64 p, .int .i64 u, .int .i64 a, .int .i64 h] 49)).alloc (.cells #[.int .i64 x0, .int .i64 x1, .int .i64 x2, .int .i64 x3, .int .i64 x4, .int .i64 (-1)] 2))
          case first =>
            rcases (show a = -1 ∨ a = 0 ∨ a = 1 by omega) with rfl | rfl | rfl
            all_goals go_wp2_with fail
            all_goals (go_meet; case rel => exact ⟨_, (by unfold Hid pt ap; first | omega | (simp; done) | (split <;> first | omega | (split <;> first | omega | (split <;> first | omega | (split <;> omega))))), rfl⟩)
          case rest =>
            obtain ⟨x4, hx4, rfl⟩ := hcut
            go_upto_block 5 with fail
            go_cut [] (fun wx => ∃ x5 : Int, Hid (x5 = pt hp h) ∧ wx = (w.alloc (.cells #[.int .i64 b, .int .i64 o, .int .i64 p, .int .i64 u, .int .i64 a, .int .i64 h] 49)).alloc (.cells #[.int .i64 x0, .int .i64 x1, .int .i64 x2, .int .i64 x3, .int .i64 x4, .int .i64 x5] 2))
            case first =>
              all_goals go_wp2_with fail
              all_goals (go_meet; case rel => exact ⟨_, (by unfold Hid pt hp; first | omega | (simp; done) | (split <;> first | omega | (split <;> first | omega | (split <;> first | omega | (split <;> omega))))), rfl⟩)
            case rest =>
              obtain ⟨x5, hx5, rfl⟩ := hcut
              go_wp2_with fail
              go_ret
              exact ⟨x0, x1, x2, x3, x4, x5, rfl, by rw [hx0.out, hx1.out, hx2.out, hx3.out, hx4.out, hx5.out]; rfl, rfl⟩
end Go.Proofs.Ytmigcbbjejbcgab
