/-
  Facts that are drawn of a cursor.
-/
import Derived.Test.YtfhecdedanlmfaaF1
namespace Go.Proofs.Ytfhecdedanlmfaa
open Go.RowKit Va Rc
set_option linter.all false

theorem cell_oneF {w : World} {g : Nat} (hg : g = w.heap.size) (a : Value) (t : TypeId) : ∀ (j : Nat) (u : Value), [a][j]? = some u → (w.alloc (.cells #[a] t)).cell? ((⟨g, 0, none⟩ : Addr).add j) = some u := by subst hg; exact cell_oneD w a t
/-- A row of one's own that has just been made. -/
theorem DI.made {w0 W W' : World} {g cap n : Nat} {ao : Option Addr} {bs : List Int} {v v' : Value} {l m : List Int} (h : DI w0 W g ao cap bs v l) (ho : W'.ownsRow w0.heap.size 2 1 v' m.length (m.map fun z => Value.int .i64 z)) (hg : W.grownBy W' none) : DI w0 W' g ao cap bs v' m := by
  have hb : Below W.heap.size W W' := (Below.refl _ _).grown hg (Nat.le_refl _) (fun k hk => by cases hk)
  have hgg := h.gg
  have hs := h.keep.size
  exact ⟨h.cur.below (hb.mono (by omega)), ⟨hb.os.trans h.keep.os, hb.tape.trans h.keep.tape, hb.output.trans h.keep.output, Nat.le_trans hs hb.size, fun i hi hig => (hb.block i (by omega)).trans (h.keep.block i hi hig)⟩, ho, h.gg⟩

set_option maxRecDepth 20000 in
set_option maxHeartbeats 4000000 in
theorem dfacts_any (g : Nat) (ao : Option Addr) (cap : Nat) (bs : List Int) (w : World) (hc : Cur w g ao cap bs) :
    Calls Try.prog 17 #[.pointer (some ⟨g, 0, none⟩)] w fun e w' => ∃ (ad : Option Addr) (c : Nat) (l : List Int), e = .returned (.slice ad l.length c) ∧ l.length ≤ 65 ∧ DI w w' g ao cap bs (.slice ad l.length c) l := by
  obtain ⟨i0, hi0, hv0, hv1, hv2⟩ := info_partsW infoW64
  have hd := DI.start hc
  clear hc
  go_enter Try.func17, Try.ntmps17
  go_upto_region 2 with fail
  generalize w.alloc (.cells #[] 2) = wA at *
  generalize Value.slice (some ⟨w.heap.size, 0, none⟩) 0 0 = v0 at *
  go_wp2_with fail
  refine (below_any g ao cap bs 5 _ hd.cur (by omega)).mono ?_
  rintro e w1 ⟨x1, rfl, x10, x11, hc1, hk1⟩
  obtain ⟨n0, rfl⟩ := Int.eq_ofNat_of_zero_le x10
  have hd1 := hd.call hc1 hk1
  clear hd hc1 hk1
  go_wp2_with fail
  go_loopw [3, 4] (fun sv kv wr => ∃ (k : Nat) (l : List Int), k + l.length ≤ 5 ∧ kv = .int .i64 k ∧ DI w wr g ao cap bs sv l) (fun _ kv _ => (intOf kv).toNat)
  case atStart => exact ⟨n0, [], by simp; omega, rfl, hd1⟩
  case round =>
    clear hd1
    obtain ⟨k, l, hkl, rfl, hd⟩ := hrel
    obtain ⟨ad, c, rfl⟩ := hd.form
    by_cases hk0 : 0 < k
    · have hki : (0 : Int) < (k : Int) := by omega
      go_wp2_with fail
      refine (below_any g ao cap bs 10 _ hd.cur (by omega)).mono ?_
      rintro e w3 ⟨x3, rfl, x30, x31, hc3, hk3⟩
      have hd3 := hd.call hc3 hk3
      have HX := hidden (hd3.alloc (.cells #[.int .i64 x3] 2))
      have hsz := hd3.keep.size
      clear hd hc3 hk3 hd3
      go_wp2_with (at_builtin; refine wpList_append_own _ rfl (.tmp 12) (.tmp 15) 24 rfl w.heap.size 2 i0 (.int .i64 0) 1 8 Try.underlying24 hi0 hv0 hv1 hv2 rfl (by decide) _ l.length (l.map fun z => Value.int .i64 z) rfl HX.out.own ⟨w3.heap.size, 0, none⟩ 1 1 [.int .i64 x3] rfl rfl (cell_oneF rfl _ _) (by simp [Value.oneCell']) (by unfold maxLen; omega) (by omega) (by simp; omega) ?_; intro v5 w5 ho5 hg5 hn5)
      have hd5 := HX.out.app ho5 hg5
      go_roundw
      case rel => exact ⟨k - 1, l ++ [x3], by simp; omega, by congr 1; omega, hd5⟩
      case measure => simp [intOf]; omega
    · have hki : ¬ (0 : Int) < (k : Int) := by omega
      go_wp2_with fail
      refine (once_any g ao cap bs 30 _ hd.cur (by omega)).mono ?_
      rintro e w4 ⟨t4, rfl, hc4, hk4⟩
      have hd4 := hd.call hc4 hk4
      clear hd hc4 hk4
      cases t4 with
      | false =>
        go_wp2_with fail
        refine (once_any g ao cap bs 60 _ hd4.cur (by omega)).mono ?_
        rintro e w6 ⟨t6, rfl, hc6, hk6⟩
        have hd6 := hd4.call hc6 hk6
        clear hd4 hc6 hk6
        cases t6 with
        | false =>
          go_wp2_with fail
          go_ret
          exact ⟨ad, c, l, rfl, by omega, hd6⟩
        | true =>
          go_wp2_with fail
          refine (below_any g ao cap bs 2 _ hd6.cur (by omega)).mono ?_
          rintro e w8 ⟨x8, rfl, x80, x81, hc8, hk8⟩
          obtain ⟨n8, rfl⟩ := Int.eq_ofNat_of_zero_le x80
          have hd8 := hd6.call hc8 hk8
          have hsz8 := hd8.keep.size
          have HD8 := hidden hd8
          clear hd6 hc8 hk8 hd8
          go_wp2_with (refine wpList_make_full _ rfl (.tmp 31) (.tmp 31) 24 rfl w.heap.size 2 i0 (.int .i64 0) 1 Try.underlying24 hi0 hv0 hv1 .i64 .i64 _ _ (64 + n8) rfl rfl (by omega) (by omega) (by rw [hv2]; omega) (by unfold maxLen; omega) hsz8 ?_; intro w9 ho9 hg9)
          rw [show (Value.int .i64 0).cells = #[Value.int .i64 0] from rfl, Nat.mul_one, toList_madeCells_one] at ho9
          have hd9 := HD8.out.made (n := 0) (m := List.replicate (64 + n8) 0) (by rw [List.map_replicate, List.length_replicate]; exact ho9) hg9
          go_ret
          exact ⟨_, _, List.replicate (64 + n8) 0, by rw [List.length_replicate]; rfl, by rw [List.length_replicate]; omega, by rw [List.length_replicate]; exact hd9⟩
      | true =>
        have hd5 := hd4.alloc (.cells #[.int .i64 (-1), .int .i64 64, .int .i64 63] 2)
        have T4 := Tb.new (g := g) (w := w4) [-1, 64, 63] hd4.cur.1
        have HT4 := hidden T4
        clear hd4 T4
        go_wp2_with fail
        refine (below_any g ao cap bs 3 _ hd5.cur (by omega)).mono ?_
        rintro e w5 ⟨x5, rfl, x50, x51, hc5, hk5⟩
        obtain ⟨n5, rfl⟩ := Int.eq_ofNat_of_zero_le x50
        have hd6' := hd5.call hc5 hk5
        have hn5L : n5 < ([-1, 64, 63] : List Int).length := by simp; omega
        have hcell := (HT4.out.keep hk5).at (k := n5) hn5L
        obtain ⟨z, hz⟩ : ∃ z, ([-1, 64, 63] : List Int)[n5]'hn5L = z := ⟨_, rfl⟩
        rw [hz] at hcell
        clear hz hn5L
        have hn53 : (n5 : Int) < 3 := by omega
        have HX := hidden (hd6'.alloc (.cells #[.int .i64 z] 2))
        have hsz := hd6'.keep.size
        clear hd5 hc5 hk5 hd6' HT4 x50 x51
        go_wp2_with (at_builtin; refine wpList_append_own _ rfl (.tmp 19) (.tmp 25) 24 rfl w.heap.size 2 i0 (.int .i64 0) 1 8 Try.underlying24 hi0 hv0 hv1 hv2 rfl (by decide) _ l.length (l.map fun z => Value.int .i64 z) rfl HX.out.own ⟨w5.heap.size, 0, none⟩ 1 1 [.int .i64 z] rfl rfl (cell_oneF rfl _ _) (by simp [Value.oneCell']) (by unfold maxLen; omega) (by omega) (by simp; omega) ?_; intro v7 w7 ho7 hg7 hn7; have hd7 := HX.out.app ho7 hg7; obtain ⟨ad7, c7, rfl⟩ := ownW_slice ho7; clear ho7 hg7 hn7 HX)
        go_wp2_with fail
        refine (once_any g ao cap bs 60 _ hd7.cur (by omega)).mono ?_
        rintro e w6 ⟨t6, rfl, hc6, hk6⟩
        have hd6 := hd7.call hc6 hk6
        clear hd7 hc6 hk6
        cases t6 with
        | false =>
          go_wp2_with fail
          go_ret
          exact ⟨ad7, c7, l ++ [z], by rw [List.length_append]; rfl, by simp; omega, by rw [List.length_append]; exact hd6⟩
        | true =>
          go_wp2_with fail
          refine (below_any g ao cap bs 2 _ hd6.cur (by omega)).mono ?_
          rintro e w8 ⟨x8, rfl, x80, x81, hc8, hk8⟩
          obtain ⟨n8, rfl⟩ := Int.eq_ofNat_of_zero_le x80
          have hd8 := hd6.call hc8 hk8
          have hsz8 := hd8.keep.size
          have HD8 := hidden hd8
          clear hd6 hc8 hk8 hd8
          go_wp2_with (refine wpList_make_full _ rfl (.tmp 31) (.tmp 31) 24 rfl w.heap.size 2 i0 (.int .i64 0) 1 Try.underlying24 hi0 hv0 hv1 .i64 .i64 _ _ (64 + n8) rfl rfl (by omega) (by omega) (by rw [hv2]; omega) (by unfold maxLen; omega) hsz8 ?_; intro w9 ho9 hg9)
          rw [show (Value.int .i64 0).cells = #[Value.int .i64 0] from rfl, Nat.mul_one, toList_madeCells_one] at ho9
          have hd9 := HD8.out.made (n := 0) (m := List.replicate (64 + n8) 0) (by rw [List.map_replicate, List.length_replicate]; exact ho9) hg9
          go_ret
          exact ⟨_, _, List.replicate (64 + n8) 0, by rw [List.length_replicate]; rfl, by rw [List.length_replicate]; omega, by rw [List.length_replicate]; exact hd9⟩
end Go.Proofs.Ytfhecdedanlmfaa
