/-
  Who works on a day.
-/
import Derived.Test.YtgcpiinmcbdkmaaRo4
import Derived.Test.YtgcpiinmcbdkmaaRoS
import Derived.Shelf.SortM.SortNone
import Derived.Lib.OwnBridge
import Derived.Lib.AppendIntMem
namespace Go.Proofs.Ytgcpiinmcbdkmaa
open Go.RowKit Go.WideShapes Va Lb Go.Maps Sy Ro Go.Sort Go.Shelf
set_option linter.all false

theorem sortR_any (g cap base : Nat) (zs : List Int) (w : World) (hl : zs.length ≤ 1000000) (hrow : w.ownsRow base 2 1 (.slice (some ⟨g, 0, none⟩) zs.length cap) zs.length (zs.map (Value.int .i64))) :
    Calls Try.prog 103 #[.slice (some ⟨g, 0, none⟩) zs.length cap] w fun e w' => e = .returned (.tuple #[]) ∧ w'.ownsRow base 2 1 (.slice (some ⟨g, 0, none⟩) zs.length cap) zs.length ((zs.mergeSort (fun x y => decide (x ≤ y))).map (Value.int .i64)) ∧ (∀ w0, Below base w0 w → Below base w0 w') := by
  obtain ⟨g', cap', e0, hbg, hgl, _, _, _, hH⟩ := Go.Lib.holds_of_ownsRow hrow (by simp)
  obtain ⟨rfl, rfl⟩ : g = g' ∧ cap = cap' := by simpa using e0
  have hS := AnyM.slices_Sort_int Try.srtL g 0 cap zs w hH hgl (by omega)
  refine hS.mono ?_
  rintro e w' ⟨rfl, q, os, rfl⟩
  have ho := Go.Lib.ownsRow_putRow (q := q) (k := zs.length) (ys := zs.mergeSort (fun x y => decide (x ≤ y))) hrow (by simp) (Nat.le_refl _)
  rw [List.take_of_length_le (by simp)] at ho
  refine ⟨rfl, Go.Lib.ownsRow_grow ho 0 os, fun w0 hb0 => ?_⟩
  exact (Go.Lib.below_putRow hb0 hbg).trans (Go.Lib.below_grow base _ (by simp [putRow, mapBlock, Sort.ahead]; omega) 0 os)
theorem own_cutR {w : World} {b e n c G k : Nat} {xs : List Value} (h : w.ownsRow b e 1 (.slice (some ⟨G, 0, none⟩) n c) n xs) (hk : k ≤ n) : w.ownsRow b e 1 (.slice (some ⟨G, 0, none⟩) k c) k (xs.take k) := by
  obtain ⟨q, ⟨h1, _⟩ | ⟨g, cap, cur, h1, hb, hg, hc, hm, hs, ht⟩⟩ := h
  · cases h1
  · simp only [Value.slice.injEq, Option.some.injEq, Addr.mk.injEq, and_true, true_and] at h1
    obtain ⟨rfl, rfl⟩ := h1
    refine ⟨by simp; omega, .inr ⟨G, c, cur, rfl, hb, hg, by omega, hm, hs, ?_⟩⟩
    rw [← ht, List.take_take]
    congr 1
    omega
theorem sorted_of (c : List Int) : (c.mergeSort (fun x y => decide (x ≤ y))).Perm c ∧ (c.mergeSort (fun x y => decide (x ≤ y))).Pairwise (· ≤ ·) := by
  refine ⟨List.mergeSort_perm _ _, ?_⟩
  have h := List.pairwise_mergeSort (le := fun x y : Int => decide (x ≤ y)) (fun a b c h1 h2 => by simp at *; omega) (fun a b => by simp; omega) c
  exact List.Pairwise.imp (fun {a b} h => by simpa using h) h

set_option maxRecDepth 20000 in
set_option maxHeartbeats 8000000 in
theorem dayof_any (ws : List Wk) (H c0 nd : Nat) (run : Int) (w : World) (hl : ws.length ≤ 30) (hnd : nd ≤ 30) (h : WR w H ws) :
    Calls Try.prog 59 #[.slice (some ⟨H, 0, none⟩) ws.length c0, .int .i64 nd, .int .i64 run] w fun e w' => ∃ G c, e = .returned (.slice (some ⟨G, 0, none⟩) (dayOf ws nd run).length c) ∧ w'.ownsRow w.heap.size 2 1 (.slice (some ⟨G, 0, none⟩) (dayOf ws nd run).length c) (dayOf ws nd run).length ((dayOf ws nd run).map fun z => Value.int .i64 z) ∧ Below w.heap.size w w' := by
  obtain ⟨i0, hi0, hv0, hv1, hv2⟩ := info_partsW infoW64
  have kr := ready_any ws H c0 run w hl h
  have hsl := srtd_len ws run
  have HA : Hid (((srtd ws run).take nd).mergeSort (fun x y => decide (x ≤ y)) = among (chosen ws nd run) ws.length) := by
    obtain ⟨h1, h2⟩ := sorted_of ((srtd ws run).take nd)
    exact among_of (chosen_nodup ws nd run) (fun x hx => by obtain ⟨p, h3, _, h4⟩ := chosen_mem hx; exact ⟨p, h3, h4⟩) h1 h2
  have HD : Hid (dayOf ws nd run = among (chosen ws nd run) ws.length ++ List.replicate (nd - (srtd ws run).length) (-1)) := rfl
  clear h
  generalize dayOf ws nd run = D at *
  generalize among (chosen ws nd run) ws.length = A at *
  generalize srtd ws run = S at *
  have hAl : A.length = min nd S.length := by rw [← HA.out]; simp
  obtain ⟨k, hk⟩ : ∃ k, min nd S.length = k := ⟨_, rfl⟩
  have hmin : min (nd : Int) (S.length : Int) = (k : Int) := by omega
  have hkS : k ≤ S.length := by omega
  have hki : (k : Int) ≤ (S.length : Int) := by omega
  have HK : Hid (A.length = k) := by show _ = _; omega
  have HT : Hid ((S.take nd).length = k) := by show _ = _; rw [List.length_take]; exact hk
  have HTk : Hid (S.take nd = S.take k) := by
    show _ = _
    rw [← hk, List.take_eq_take_min]
  have hnk : nd - S.length = nd - k := by omega
  rw [hnk] at HD
  have hkn : k ≤ nd := by omega
  have KS : Hid (∀ (G c : Nat) (W : World), W.ownsRow w.heap.size 2 1 (.slice (some ⟨G, 0, none⟩) S.length c) S.length (S.map fun z => Value.int .i64 z) → Calls Try.prog 103 #[.slice (some ⟨G, 0, none⟩) k c] W fun e w' => e = .returned (.tuple #[]) ∧ w'.ownsRow w.heap.size 2 1 (.slice (some ⟨G, 0, none⟩) k c) k (A.map fun z => Value.int .i64 z) ∧ (∀ w0, RowKit.Below w.heap.size w0 W → RowKit.Below w.heap.size w0 w')) := fun G c W ho => by
    have h1 := own_cutR ho hkS
    rw [← List.map_take, ← HTk.out] at h1
    have h2 := sortR_any G c w.heap.size (S.take nd) W (by rw [HT.out]; omega) (by rw [HT.out]; exact h1)
    rw [HA.out, HT.out] at h2
    exact h2
  clear hAl hk hnk HA HT HTk
  go_enter Try.func59, Try.ntmps59
  go_wp2_with (first
    | (go_at_call 102; (with_reducible refine kr.mono ?_); rintro e w1 ⟨G, c, rfl, ho, hb⟩; have hcp : S.length ≤ c := by
        obtain ⟨q, ⟨h1, _⟩ | ⟨g, cap, cur, h1, _, _, hc, _⟩⟩ := ho
        · cases h1
        · simp only [Value.slice.injEq] at h1; omega)
    | (go_at_call 103; (with_reducible refine (KS.out G c w1 ho).mono ?_); rintro e w2 ⟨rfl, ho2, hb2⟩))
  have hb2' := hb2 _ hb
  have HO2 := hidden ho2
  clear hb2 ho2 ho hb kr KS
  go_loopw [8] (fun cv wr => ∃ (j L g : Nat) (c : Nat), cv = .slice (some ⟨g, 0, none⟩) L c ∧ Hid (L = k + j) ∧ L ≤ nd ∧ Hid (wr.ownsRow w.heap.size 2 1 (.slice (some ⟨g, 0, none⟩) L c) L ((A ++ List.replicate j (-1)).map fun z => Value.int .i64 z)) ∧ RowKit.Below w.heap.size w wr) (fun cv _ => nd - (match cv with | .slice _ n _ => n | _ => 0))
  case atStart => exact ⟨0, k, G, c, rfl, rfl, hkn, by show World.ownsRow _ _ _ _ _ _ _; simpa using HO2.out, hb2'⟩
  case round =>
    obtain ⟨j, L, g, c2, rfl, hLj, hLn, ho, hb⟩ := hrel
    by_cases hlt : L < nd
    · have hlti : (L : Int) < (nd : Int) := by omega
      have hsz := hb.size
      go_wp2_with (at_builtin; refine wpList_append_own_at _ rfl (.tmp 24) (.tmp 25) 25 rfl w.heap.size 2 i0 (.int .i64 0) 1 8 Try.underlying25 hi0 hv0 hv1 hv2 rfl (by decide) _ L ((A ++ List.replicate j (-1 : Int)).map fun z => Value.int .i64 z) rfl (ho.out.alloc _) ⟨wr.heap.size, 0, none⟩ 1 1 [.int .i64 (-1)] rfl rfl (cell_oneW _ _ _) (by simp [Value.oneCell']) (by unfold maxLen; omega) (by omega) (by simp; omega) ?_; intro v5 w5 ho5 hg5 hn5 hl5; obtain ⟨ad5, c5, rfl⟩ := ownW_slice ho5; obtain ⟨G5, rfl, hG5⟩ := own_someR ho5 (Nat.succ_pos _))
      have b5 := (hb.alloc (by omega) (.cells #[.int .i64 (-1)] 2)).grown hg5 (by simp; omega) (fun k hk => (ownW_lt ho.out k hk).1)
      go_roundw
      case rel => exact ⟨j + 1, L + 1, G5, c5, rfl, by show _ = _; have := hLj.out; omega, by omega, by show World.ownsRow _ _ _ _ _ _ _; rw [List.replicate_succ', ← List.append_assoc, List.map_append]; exact ho5, b5⟩
      case measure => simp; omega
    · have hlti : ¬ (L : Int) < (nd : Int) := by omega
      go_wp2_with fail
      go_ret
      have hlen := ho.out.1
      rw [List.length_map] at hlen
      have hLj' := hLj.out
      have e1 : nd - k = j := by omega
      rw [e1] at HD
      rw [HD.out]
      have e2 : (A ++ List.replicate j (-1 : Int)).length = L := by omega
      rw [e2]
      exact ⟨g, c2, rfl, ho.out, hb⟩
end Go.Proofs.Ytgcpiinmcbdkmaa
