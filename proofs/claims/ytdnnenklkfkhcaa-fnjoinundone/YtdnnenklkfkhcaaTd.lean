/-
  The program's book told as joins.
-/
import Derived.Test.YtdnnenklkfkhcaaTs
namespace Go.Proofs.Ytdnnenklkfkhcaa
open Go.RowKit Jn Go.Maps Go.Sort Go.Shelf

theorem own1_cell {w : World} {b e n : Nat} {ao : Option Addr} {cap : Nat} {xs : List Value} (h : w.ownsRow b e 1 (.slice ao n cap) n xs) (hn : 0 < n) :
    ∃ g, ao = some ⟨g, 0, none⟩ ∧ b ≤ g ∧ g < w.heap.size ∧ ∀ i, i < n → w.cell? ⟨g, i, none⟩ = xs[i]? := by
  obtain ⟨h1, h2⟩ := h
  rcases h2 with ⟨h2, h3⟩ | ⟨g, cap', cur, h2, h3, h4, h5, h6, h7, h8⟩
  · omega
  · simp only [Value.slice.injEq, true_and] at h2
    obtain ⟨rfl, rfl⟩ := h2
    refine ⟨g, rfl, h3, (Array.getElem?_eq_some_iff.1 h4).1, fun i hi => ?_⟩
    have h9 : (cur.toList.take (n * 1))[i]? = xs[i]? := by rw [h8]
    rw [List.getElem?_take, if_pos (by omega), Array.getElem?_toList] at h9
    simp only [World.cell?, h4]
    exact h9
theorem keys_any (B : Nat) (w : World) : Calls Try.prog 80 #[.map (some B)] w fun e w' => e = .returned (.func (.func 88) #[] #[.pointer (some ⟨w.heap.size, 0, none⟩)]) ∧ w' = w.alloc (.cells #[.map (some B)] 85) :=
  (callsIn_wide (n := 5)).1 (AnyZI.keys_in Try.keysL Fence.wide 5 trivial rfl (some B) w)
theorem cellsJ_take (l : List J) (i : Nat) (h : i < l.length) : cellsJ (l.take (i + 1)) = cellsJ (l.take i) ++ [.int .i64 (l.getD i (0, 0)).1, .int .i64 (l.getD i (0, 0)).2] := by
  rw [take_succ l i h]; exact cellsJ_app _ _ _
theorem goneAt (l : List J) (i : Nat) (h : i < l.length) : ((l.map (·.2)).map encZ)[i]? = some (.int .i64 (l.getD i (0, 0)).2) := by
  rw [List.getElem?_map, List.getElem?_map, List.getElem?_eq_getElem h, getD_get l i h]; rfl

set_option maxRecDepth 20000 in
set_option maxHeartbeats 2000000 in
theorem told_any (B n : Nat) (f : Int → Option (Int × Int)) (l : List J) (w : World) (h : Bk w B n f) (hT : Tells f l) (hl : l.length ≤ 1000) :
    Calls Try.prog 59 #[.map (some B)] w fun e w' => ∃ v, e = .returned v ∧ Own w' w.heap.size v l ∧ Below w.heap.size w w' := by
  have hBl := h.lt
  obtain ⟨i0, hi, hz0, hz1, hz2⟩ := info_parts info41
  have HB := hidden h
  have HT := hidden hT
  clear h hT
  generalize hW1 : w.alloc (.cells #[.map (some B)] 85) = W1
  have b1 : Below w.heap.size w W1 := by rw [← hW1]; exact (Below.refl _ w).alloc (Nat.le_refl _) _
  have hs1 : W1.heap.size = w.heap.size + 1 := by rw [← hW1]; simp
  have hx1 : W1.cell? ⟨w.heap.size, 0, none⟩ = some (.map (some B)) := by rw [← hW1]; exact cell_one_new _ _ _ 0 _ rfl
  generalize hW2 : W1.alloc (.cells #[.map (some B)] 85) = W2
  have hK := keys_any B W1
  rw [hW2] at hK
  have b2 : Below W1.heap.size W1 W2 := by rw [← hW2]; exact (Below.refl _ W1).alloc (Nat.le_refl _) _
  have hs2 : W2.heap.size = W1.heap.size + 1 := by rw [← hW2]; simp
  have hx2 : W2.cell? ⟨W1.heap.size, 0, none⟩ = some (.map (some B)) := by rw [← hW2]; exact cell_one_new _ _ _ 0 _ rfl
  have hx1' : W2.cell? ⟨w.heap.size, 0, none⟩ = some (.map (some B)) := (b2.cell (p := ⟨w.heap.size, 0, none⟩) (by show w.heap.size < W1.heap.size; omega)).trans hx1
  have hS0 := sorted_any B n w.heap.size W1.heap.size f l W2 ((HB.out.below b1).below b2) HT.out hx1' (by omega) hx2 (by omega) hl
  rw [hs1] at hS0
  have HS := hidden hS0
  clear hS0
  have HW2 := hidden hW2
  have b12 : Below w.heap.size w W2 := onto b1 b2
  clear hW2 hx2
  go_enter Try.func59, Try.ntmps59
  go_wp2_with fail
  refine hK.mono ?_
  rintro e w1 ⟨rfl, hw1⟩
  have hw2 := hw1.symm
  clear hw1 hK
  subst hw2
  go_wp2_with fail
  refine HS.out.mono ?_
  rintro e w3 ⟨ad, c, rfl, hrow, hb3⟩
  have b3 := onto b12 hb3
  have hx3 := (hb3.cell (p := ⟨w.heap.size, 0, none⟩) (by show w.heap.size < W2.heap.size; omega)).trans hx1'
  have hs3 := hb3.size
  have HB3 := hidden (HB.out.below b3)
  have HROW := hidden hrow
  clear HS hrow HB hx1' hx1 HW2 hb3 b12 b2 b1
  go_wp2_with (at_make; refine wpList_make_own _ rfl (.const (.int .i64 0)) (.tmp 12) 42 rfl w3.heap.size 50 i0 (.agg #[.int .i64 0, .int .i64 0]) 2 Try.underlying42 hi hz0 hz1 .i64 .i64 _ l.length rfl rfl rfl (by rw [hz2]; omega) (by unfold maxLen; omega) (Nat.le_refl _) ?_; intro w4 ho4 hg4)
  have b4 : Below w3.heap.size w3 w4 := (Below.refl _ w3).grown hg4 (Nat.le_refl _) (by simp)
  go_wp2_with fail
  go_loopw [4, 16] (fun ov iv wr => ∃ i : Nat, i ≤ l.length ∧ iv = .int .i64 i ∧ (∃ ad c0, ov = .slice ad i c0 ∧ wr.ownsRow w3.heap.size 50 2 (.slice ad i c0) i (cellsJ (l.take i))) ∧ Below w3.heap.size w3 wr) (fun _ iv _ => l.length - (intOf iv).toNat)
  case atStart => exact ⟨0, Nat.zero_le _, rfl, ⟨_, _, rfl, ho4⟩, b4⟩
  case round =>
    clear ho4 b4 hg4
    obtain ⟨i, hil, rfl, ⟨ad1, c1, rfl, ho⟩, hb⟩ := hrel
    by_cases hlt : i < l.length
    · have hlti : (i : Int) < (l.length : Int) := by omega
      obtain ⟨g, rfl, hg1, hg2, hcells⟩ := own1_cell HROW.out (by omega)
      have hc := (hb.cell (p := ⟨g, i, none⟩) hg2).trans ((hcells i hlt).trans (goneAt l i hlt))
      have hxr := (hb.cell (p := ⟨w.heap.size, 0, none⟩) (by show w.heap.size < w3.heap.size; omega)).trans hx3
      have hmem : l.getD i (0, 0) ∈ l := by rw [getD_get l i hlt]; exact List.getElem_mem hlt
      have hgG : isG l (l.getD i (0, 0)).2 = true := (mem_isG l _).1 (List.mem_map.2 ⟨_, hmem, rfl⟩)
      have hlk := (HB3.out.below hb).look _ (gone_wf HT.out hgG) _ (some_of (by rw [HT.out.held]; exact hgG))
      have hkp := HT.out.keep _ hmem
      rw [hkp] at hlk
      have HCT := hidden (cellsJ_take l i hlt)
      clear hcells hmem hgG hkp
      generalize (l.getD i (0, 0)).1 = k at *
      generalize (l.getD i (0, 0)).2 = z at *
      generalize plc f z = pz at *
      have hfl := fld0 k pz wr
      go_wp2_with (at_builtin; refine wpList_append_own _ rfl (.tmp 20) (.tmp 27) 42 rfl w3.heap.size 50 i0 (.agg #[.int .i64 0, .int .i64 0]) 2 16 Try.underlying42 hi hz0 hz1 hz2 rfl (by decide) _ i (cellsJ (l.take i)) rfl (ho.alloc _) ⟨wr.heap.size, 0, none⟩ 1 1 [.int .i64 k, .int .i64 z] rfl rfl (cell_two_new _ _ _ _) (two_one k z) (by unfold maxLen; omega) (by omega) (by have := hb.size; simp; omega) ?_; intro v2 w2 ho2 hgr hnn2)
      have hb2 := (hb.alloc hb.size _).grown hgr (by have := hb.size; simp; omega) (own2_lt ho)
      obtain ⟨ad2, c2, rfl⟩ := own_slice ho2
      go_wp2_with fail
      go_roundw
      case rel => exact ⟨i + 1, by omega, rfl, ⟨ad2, c2, rfl, by rw [HCT.out]; exact ho2⟩, hb2⟩
      case measure => simp [intOf]; omega
    · have hlti : ¬ (i : Int) < (l.length : Int) := by omega
      have hil2 : i = l.length := by omega
      subst hil2
      rw [take_all] at ho
      have hO := (own_of ho).base_le (b2 := w.heap.size) (by omega)
      have HO := hidden hO
      have bE := onto b3 hb
      clear hO ho
      go_wp2_with fail
      go_ret
      exact ⟨_, rfl, HO.out, bE⟩
end Go.Proofs.Ytdnnenklkfkhcaa
