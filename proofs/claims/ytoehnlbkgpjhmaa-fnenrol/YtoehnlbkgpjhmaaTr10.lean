/-
  A Once, in one goroutine: the parts, the slow road, the closure that makes the order of a block.
-/
import Derived.Test.YtoehnlbkgpjhmaaTr8
import Derived.Tactics
import Derived.Tactics2
import Derived.Defers
import Derived.Laws.Pointers
import Derived.Laws.LoneSync
import Derived.RegionTactic
import Derived.RegionCalls
import Derived.ChangeAlike
namespace Go.Proofs.Ytoehnlbkgpjhmaa
open Go.RowKit Go.WideShapes Va Lb Tr Go.Maps
set_option linter.all false

theorem on_disable (w : World) : (callFunc 134 #[]).run Try.prog w = .ok (.value (.tuple #[])) w := run_call_mark0 Try.func134 (by kernel_rfl) (by kernel_rfl) (by kernel_rfl) .disable (by kernel_rfl) w
theorem on_enable (w : World) : (callFunc 136 #[]).run Try.prog w = .ok (.value (.tuple #[])) w := run_call_mark0 Try.func136 (by kernel_rfl) (by kernel_rfl) (by kernel_rfl) .enable (by kernel_rfl) w
theorem on_acquire (a : Addr) (w : World) : (callFunc 137 #[.pointer (some a)]).run Try.prog w = .ok (.value (.tuple #[])) w := run_call_marked Try.func137 (by kernel_rfl) (by kernel_rfl) (by kernel_rfl) .acquire (by kernel_rfl) a w
theorem on_release (a : Addr) (w : World) : (callFunc 139 #[.pointer (some a)]).run Try.prog w = .ok (.value (.tuple #[])) w := run_call_marked Try.func139 (by kernel_rfl) (by kernel_rfl) (by kernel_rfl) .releaseMerge (by kernel_rfl) a w

set_option maxRecDepth 100000 in
set_option maxHeartbeats 1600000 in
theorem on_store (a : Addr) (x : Value) (u : FrameMode) (w : World) (hc : w.cell? a = some x) (hz : w.frozen? a = false) :
    CallsD Try.prog 99 #[.pointer (some a), .bool true] u w fun e u' w' => u' = u ∧ (e = .returned (.tuple #[]) ∧ w' = w.drew.setCell a (.int .u32 1)) := by
  have hc' : w.drew.cell? a = some x := by go_simp
  have hz' : w.drew.frozen? a = false := by go_simp
  have hst := run_call_store (P := Try.prog) Try.func121 (by kernel_rfl) (by kernel_rfl) (by kernel_rfl) (by kernel_rfl) (k := .u32) (y := 1) hc' hz'
  go_enter_d Try.func99, Try.ntmps99
  go_wp2
  go_region_calls
  all_goals (go_end0; exact ⟨rfl, rfl⟩)

set_option maxRecDepth 100000 in
set_option maxHeartbeats 1600000 in
theorem on_unlock (a : Addr) (u : FrameMode) (w : World) (hc : w.cell? a = some (.int .i32 1)) (hz : w.frozen? a = false) :
    CallsD Try.prog 98 #[.pointer (some a)] u w fun e u' w' => u' = u ∧ (e = .returned (.tuple #[]) ∧ w' = w.setCell a (.int .i32 0)) := by
  have hd := on_disable
  have he := on_enable
  have hr := on_release
  have hadd := run_call_add (P := Try.prog) Try.func140 (by kernel_rfl) (by kernel_rfl) (by kernel_rfl) .i32 (by kernel_rfl) (y := -1) (s := 0) hc hz (by simp [go_sem]; rfl)
  have hcv := run_convert_to_unsafe (P := Try.prog) (src := 171) (dst := 175) Try.underlying171 Try.underlying175 (by kernel_rfl) hc
  go_enter_d Try.func98, Try.ntmps98
  go_wp2
  go_end0
  go_wp2
  go_end0
  exact ⟨rfl, rfl⟩

set_option maxRecDepth 100000 in
set_option maxHeartbeats 1600000 in
theorem on_lock (a : Addr) (w : World) (hc : w.cell? a = some (.int .i32 0)) (hz : w.frozen? a = false) :
    Calls Try.prog 97 #[.pointer (some a)] w fun e w' => e = .returned (.tuple #[]) ∧ w' = w.setCell a (.int .i32 1) := by
  have hd := on_disable
  have he := on_enable
  have ha := on_acquire
  have hcas := run_call_cas_hit (P := Try.prog) Try.func135 (by kernel_rfl) (by kernel_rfl) (by kernel_rfl) .i32 (by kernel_rfl) (y := 1) hc hz
  have hc' : (w.setCell a (.int .i32 1)).cell? a = some (.int .i32 1) := World.cell?_setCell_same w a _ hc
  have hcv := run_convert_to_unsafe (P := Try.prog) (src := 171) (dst := 175) Try.underlying171 Try.underlying175 (by kernel_rfl) hc'
  go_enter Try.func97, Try.ntmps97
  go_wp2
  first | go_end0 | (simp only [Exit.inBlock, Exit.then]; refine bodyPost_ret (results_none rfl _ _ _) rfl ?_) | refine bodyPost_ret (results_none rfl _ _ _) rfl ?_
  go_wp2
  go_end0
  exact ⟨rfl, rfl⟩

set_option maxRecDepth 20000 in
set_option maxHeartbeats 1600000 in
/-- The closure that is handed to Do: the order of the block is laid. -/
theorem oclo_any (x : Tl) (ta : Option Addr) (tc : Nat) (b Bt Bb Br : Nat) (old : Value) (w : World) (h : VRw 1 cvI w (.slice ta x.coins.length tc) x.coins) (ht : trialB x = true) (hbb : b ≤ 1000)
    (pt : PB w Bt #[.int .i64 x.arms, .int .i64 x.block, .slice ta x.coins.length tc, .int .i64 x.told] 26) (pb : PB w Bb #[.int .i64 (b : Int)] 2) (pr : PB w Br #[old] 24) :
    Calls Try.prog 66 #[.pointer (some ⟨Bt, 0, none⟩), .pointer (some ⟨Bb, 0, none⟩), .pointer (some ⟨Br, 0, none⟩)] w fun e w' => e = .returned (.tuple #[]) ∧ ∃ w1 G, Below w.heap.size w w1 ∧ w.heap.size ≤ G ∧ IR w1 G (blk x b) ∧ w' = w1.setCell ⟨Br, 0, none⟩ (.slice (some ⟨G, 0, none⟩) x.b x.b) := by
  have hK := iorder_any x ta x.coins.length tc b w h ht hbb
  obtain ⟨c0, c1, c2, c3⟩ := pt.four
  have d0 : w.cell? ⟨Bb, 0, none⟩ = some (.int .i64 (b : Int)) := pb.cell 0
  have HPR := hidden pr
  clear h pt pb pr
  unfold aT at hK
  go_enter Try.func66, Try.ntmps66
  go_wp2_with (go_at_call 67; refine hK.mono ?_; rintro e w1 ⟨G, hG, rfl, hir, hb1⟩; have e0 : w1.cell? ⟨Br, 0, none⟩ = some old := (HPR.out.below hb1).cell 0; have f0 := (HPR.out.below hb1).frozen 0; have HI := hidden hir; have HB := hidden hb1; clear hir hb1)
  go_end0
  exact ⟨rfl, _, G, HB.out, hG, HI.out, rfl⟩
end Go.Proofs.Ytoehnlbkgpjhmaa
