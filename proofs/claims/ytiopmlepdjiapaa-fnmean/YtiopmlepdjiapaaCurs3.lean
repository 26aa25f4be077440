/-
  A float that is drawn of a cursor.
-/
import Derived.Test.YtiopmlepdjiapaaCurs2
import Derived.Test.YtiopmlepdjiapaaMean
namespace Go.Proofs.Ytiopmlepdjiapaa
open Go.RowKit Fl

theorem Cur.alloc {w : World} {g cap : Nat} {ao : Option Addr} {bs : List Int} (h : Cur w g ao cap bs) (o : Obj) : Cur (w.alloc o) g ao cap bs :=
  h.below (((Keep.refl w.heap.size w).alloc o).below (by have := h.1; omega) (by have := h.1; omega))
theorem run_fneg (w : World) (x : Nat) : (Op.unary .neg (.float .f64 x)).run Try.prog w = .ok (.float .f64 (Op.negFloat .f64 x)) w := rfl

set_option maxHeartbeats 1000000 in
theorem float_any (g : Nat) (ao : Option Addr) (cap : Nat) (bs : List Int) (w : World) (hc : Cur w g ao cap bs) :
    Calls Try.prog 46 #[.pointer (some ⟨g, 0, none⟩)] w fun e w' => ∃ x : Nat, e = .returned (.float .f64 x) ∧ Cur w' g ao cap bs ∧ Keep g w w' := by
  have hquo := run_fquo
  have hmul := run_fmul
  have hadd := run_fadd
  have hneg := run_fneg
  go_enter Try.func46, Try.ntmps46
  go_wp2_with fail
  refine (from_any g ao cap bs _ _ _ hc (by decide) (by decide) (by decide)).mono ?_
  rintro e w1 ⟨x, rfl, hx0, hx1, hc1, hk1⟩
  go_wp2_with (go_at_call 38; refine (zero_any _).mono ?_; rintro e w' ⟨rfl, hw'⟩; have hw2 := hw'.symm; clear hw'; subst hw2)
  refine (below_any g ao cap bs _ _ hc1 (by decide)).mono ?_
  rintro e w2 ⟨d, rfl, hd0, hd1, hc2, hk2⟩
  have hd : d = 0 ∨ d = 1 ∨ d = 2 ∨ d = 3 ∨ d = 4 ∨ d = 5 ∨ d = 6 ∨ 7 ≤ d := by omega
  rcases hd with rfl | rfl | rfl | rfl | rfl | rfl | rfl | hd
  · go_wp2_with fail
    go_ret
    exact ⟨_, rfl, hc2, (hk1.trans hk2).drewN _⟩
  · go_wp2_with fail
    go_ret
    exact ⟨_, rfl, hc2, (hk1.trans hk2).drewN _⟩
  · go_wp2_with fail
    go_ret
    exact ⟨_, rfl, hc2, (hk1.trans hk2).drewN _⟩
  · go_wp2_with fail
    go_ret
    exact ⟨_, rfl, hc2, (hk1.trans hk2).drewN _⟩
  · go_wp2_with fail
    generalize fRes BinOp.quo 4607182418800017408 0 w2 = y2
    generalize fRes BinOp.quo 13830554455654793216 0 _ = y3
    generalize fRes BinOp.quo 0 0 _ = y4
    generalize Op.negFloat FloatKind.f64 0 = y1
    generalize fN BinOp.quo 4607182418800017408 0 + fN BinOp.quo 13830554455654793216 0 + fN BinOp.quo 0 0 = nn
    have hc2' := (hc2.drewN nn).alloc (Obj.cells #[.float .f64 0, .float .f64 y1, .float .f64 y2, .float .f64 y3, .float .f64 y4, .float .f64 1, .float .f64 9218868437227405311, .float .f64 7598952565167317594, .float .f64 1614679632300144556] 37)
    have hk2' := ((hk1.trans hk2).drewN nn).alloc (Obj.cells #[.float .f64 0, .float .f64 y1, .float .f64 y2, .float .f64 y3, .float .f64 y4, .float .f64 1, .float .f64 9218868437227405311, .float .f64 7598952565167317594, .float .f64 1614679632300144556] 37)
    refine (below_any g ao cap bs 9 _ hc2' (by decide)).mono ?_
    rintro e w3 ⟨i, rfl, hi0, hi1, hc3, hk3⟩
    obtain ⟨m, rfl⟩ := Int.eq_ofNat_of_zero_le hi0
    have hm : m < 9 := by omega
    obtain ⟨y, hy⟩ : ∃ y, w3.cell? ⟨w2.heap.size, m, none⟩ = some (.float .f64 y) := by
      have e := hk3.cell (b := w2.heap.size) (o := m) (by simp [World.drewN]) (by have := hc2.1; omega)
      rw [e]
      have hm' : m = 0 ∨ m = 1 ∨ m = 2 ∨ m = 3 ∨ m = 4 ∨ m = 5 ∨ m = 6 ∨ m = 7 ∨ m = 8 := by omega
      rcases hm' with rfl | rfl | rfl | rfl | rfl | rfl | rfl | rfl | rfl <;> exact ⟨_, by simp [World.cell?, World.alloc, World.drewN]; rfl⟩
    go_wp2_with fail
    go_ret
    exact ⟨_, rfl, hc3, hk2'.trans hk3⟩
  · go_wp2_with fail
    refine (below_any g ao cap bs _ _ hc2 (by decide)).mono ?_
    rintro e w3 ⟨i, rfl, hi0, hi1, hc3, hk3⟩
    obtain ⟨m, rfl⟩ := Int.eq_ofNat_of_zero_le hi0
    have hk := (hk1.trans hk2).trans hk3
    clear hk1 hk2 hk3 hc1 hc2 hc
    generalize floatOfInt FloatKind.f64 x = x0
    go_wp2_with fail
    go_loopw [3, 5] (fun xv iv wr => Cur wr g ao cap bs ∧ Keep g w wr ∧ (∃ b, xv = .float .f64 b) ∧ ∃ k : Nat, k ≤ 40 ∧ iv = .int .i64 k) (fun _ iv _ => (intOf iv).toNat)
    case atStart => exact ⟨hc3, hk, ⟨_, rfl⟩, m, by omega, rfl⟩
    case round =>
      obtain ⟨hcr, hkr, ⟨b, rfl⟩, k, hk40, rfl⟩ := hrel
      by_cases h0 : k = 0
      · subst h0
        go_wp2_with fail
        go_ret
        exact ⟨_, rfl, hcr, hkr⟩
      · have hpos : (0 : Int) < (k : Int) := by omega
        go_wp2_with fail
        go_roundw
        case rel => exact ⟨hcr.drewN _, hkr.drewN _, ⟨_, rfl⟩, k - 1, by omega, by go_num⟩
        case measure => simp [intOf]; omega
  · go_wp2_with fail
    refine (below_any g ao cap bs _ _ hc2 (by decide)).mono ?_
    rintro e w3 ⟨i, rfl, hi0, hi1, hc3, hk3⟩
    go_wp2_with fail
    refine (below_any g ao cap bs 1073741824 _ (hc3.drewN _) (by decide)).mono ?_
    rintro e w4 ⟨j, rfl, hj0, hj1, hc4, hk4⟩
    go_wp2_with fail
    go_ret
    exact ⟨_, rfl, hc4.drewN _, ((((hk1.trans hk2).trans hk3).drewN _).trans hk4).drewN _⟩
  · go_wp2_with fail
    go_ret
    exact ⟨_, rfl, hc2, (hk1.trans hk2)⟩
end Go.Proofs.Ytiopmlepdjiapaa
