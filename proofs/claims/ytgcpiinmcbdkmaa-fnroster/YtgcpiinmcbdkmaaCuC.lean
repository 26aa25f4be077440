/-
  A cursor that is made of bytes; what a law picks of them.
-/
import Derived.Test.YtgcpiinmcbdkmaaCuB
namespace Go.Proofs.Ytgcpiinmcbdkmaa
open Go.RowKit

set_option maxHeartbeats 1000000 in
theorem new_any (ao : Option Addr) (cap : Nat) (bs : List Int) (w : World) (hb : Bytes w w.heap.size ao bs) (hl : bs.length ≤ 1048576) :
    Calls Try.prog 36 #[.slice ao bs.length cap] w fun e w' => e = .returned (.pointer (some ⟨w.heap.size, 0, none⟩)) ∧ Cur w' w.heap.size ao cap bs ∧ Below w.heap.size w w' := by
  go_enter Try.func36, Try.ntmps36
  go_wp2_with fail
  go_loopw [3, 4] (fun hv iv wr => wr = w ∧ ∃ (k : Nat) (h : Int), k ≤ bs.length ∧ iv = .int .i64 k ∧ hv = .int .i64 h) (fun _ iv _ => bs.length - (intOf iv).toNat)
  case atStart => exact ⟨rfl, 0, _, Nat.zero_le _, rfl, rfl⟩
  case round =>
    obtain ⟨rfl, k, h, hk, rfl, rfl⟩ := hrel
    by_cases hlt : k < bs.length
    · have hlt1 : (k : Int) < (bs.length : Int) := by omega
      rcases hb.2 with h2 | ⟨b, off, rfl, hbg0, hcell⟩
      · omega
      have hcb := hcell k hlt
      have hr : 0 ≤ bs.getD k 0 ∧ bs.getD k 0 ≤ 255 := hb.1 _ (by rw [List.getD_eq_getElem?_getD, List.getElem?_eq_getElem hlt]; simp)
      generalize bs.getD k 0 = y at *
      obtain ⟨r1, r2⟩ := hr
      clear hcell
      go_wp2_with fail
      go_roundw
      case rel => exact ⟨trivial, k + 1, _, by omega, by go_num, rfl⟩
      case measure => simp [intOf]; omega
    · have hlt1 : ¬ (k : Int) < (bs.length : Int) := by omega
      have hbb := hb
      clear hb
      go_wp2_with fail
      go_ret
      have e := heap_alloc_new wr (Obj.cells #[.slice ao bs.length cap, .int .i64 0, .int .i64 h] 115)
      have hB : Below wr.heap.size wr (wr.alloc (Obj.cells #[.slice ao bs.length cap, .int .i64 0, .int .i64 h] 115)) := (Keep.refl wr.heap.size wr).alloc _ |>.below (Nat.le_refl _) (Nat.le_refl _)
      refine ⟨rfl, ⟨by simp, hbb.below hB, hl, 0, h, Nat.zero_le _, ?_, ?_, ?_, ?_, ?_⟩, hB⟩
      · simp only [World.cell?, e]; rfl
      · simp only [World.cell?, e]; rfl
      · simp only [World.cell?, e]; rfl
      · simp only [World.frozen?, e]; rfl
      · simp only [World.frozen?, e]; rfl

theorem big_any (ao : Option Addr) (cap n : Nat) (w : World) :
    Calls Try.prog 8 #[.slice ao n cap] w fun e w' => e = .returned (.bool (decide (4096 < (n : Int)))) ∧ w' = w := by
  go_enter Try.func8, Try.ntmps8
  go_wp2_with fail
  go_ret
  exact ⟨rfl, rfl⟩

end Go.Proofs.Ytgcpiinmcbdkmaa
