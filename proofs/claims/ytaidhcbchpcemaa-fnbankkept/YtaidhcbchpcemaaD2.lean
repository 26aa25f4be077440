/-
  Antigens that are drawn of a cursor.
-/
import Derived.Test.YtaidhcbchpcemaaD1
namespace Go.Proofs.Ytaidhcbchpcemaa
open Go.RowKit Va Bl
set_option linter.all false

set_option maxRecDepth 20000 in
set_option maxHeartbeats 4000000 in
theorem dants_any (g : Nat) (ao : Option Addr) (cap : Nat) (bs : List Int) (n0 : Nat) (w : World) (hc : Cur w g ao cap bs) (hn : n0 ≤ 3) :
    Calls Try.prog 60 #[.pointer (some ⟨g, 0, none⟩), .int .i64 (n0 : Nat)] w fun e w' => ∃ (ad : Option Addr) (c : Nat) (l : List Int), e = .returned (.slice ad l.length c) ∧ l.length ≤ 3 ∧ DI w w' g ao cap bs (.slice ad l.length c) l := by
  obtain ⟨i0, hi0, hv0, hv1, hv2⟩ := info_partsW infoW64
  have hd := DI.start hc
  clear hc
  go_enter Try.func60, Try.ntmps60
  go_upto_region 2 with fail
  generalize w.alloc (.cells #[] 2) = wA at *
  generalize Value.slice (some ⟨w.heap.size, 0, none⟩) 0 0 = v0 at *
  go_wp2_with fail
  refine (from_any g ao cap bs (-1) 2 _ hd.cur (by omega) (by omega) (by omega)).mono ?_
  rintro e w1 ⟨x1, rfl, x10, x11, hc1, hk1⟩
  have hd1 := hd.call hc1 hk1
  clear hd hc1 hk1
  go_wp2_with fail
  go_loopw [1, 5, 6] (fun kv sv nv wr => ∃ (k : Nat) (z : Int) (l : List Int), k + l.length ≤ 3 ∧ kv = .int .i64 k ∧ nv = .int .i64 z ∧ -1 ≤ z ∧ z ≤ 2 + 4 * (l.length : Int) ∧ DI w wr g ao cap bs sv l) (fun kv _ _ _ => (intOf kv).toNat)
  case atStart => exact ⟨n0, x1, [], by simp; omega, rfl, rfl, x10, by simp; omega, hd1⟩
  case round =>
    clear hd1
    obtain ⟨k, z, l, hkl, rfl, rfl, hz0, hz1, hd⟩ := hrel
    obtain ⟨ad, c, rfl⟩ := hd.form
    by_cases hk0 : 0 < k
    · have hki : (0 : Int) < (k : Int) := by omega
      go_wp2_with fail
      refine (below_any g ao cap bs 3 _ hd.cur (by omega)).mono ?_
      rintro e w3 ⟨x3, rfl, x30, x31, hc3, hk3⟩
      have hd3 := hd.call hc3 hk3
      have HD := hidden hd3
      have HX := hidden (hd3.alloc (.cells #[.int .i64 (z + 1 + x3)] 2))
      have hsz := hd3.keep.size
      clear hd hc3 hk3 hd3
      go_wp2_with (at_builtin; refine wpList_append_own _ rfl (.tmp 19) (.tmp 21) 26 rfl w.heap.size 2 i0 (.int .i64 0) 1 8 Try.underlying26 hi0 hv0 hv1 hv2 rfl (by decide) _ l.length (l.map fun z => Value.int .i64 z) rfl HX.out.own ⟨w3.heap.size, 0, none⟩ 1 1 [.int .i64 (z + 1 + x3)] rfl rfl (cell_oneW _ _ _) (by simp [Value.oneCell']) (by unfold maxLen; omega) (by omega) (by simp; omega) ?_; intro v5 w5 ho5 hg5 hn5)
      have hd5 := HX.out.app ho5 hg5
      go_roundw
      case rel => exact ⟨k - 1, z + 1 + x3, l ++ [z + 1 + x3], by simp; omega, by congr 1; omega, rfl, by omega, by simp; omega, hd5⟩
      case measure => simp [intOf]; omega
    · have hki : ¬ (0 : Int) < (k : Int) := by omega
      go_wp2_with fail
      go_ret
      exact ⟨ad, c, l, rfl, by omega, hd⟩
end Go.Proofs.Ytaidhcbchpcemaa
