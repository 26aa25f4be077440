/-
  Merged: D7 Q31.
-/
import Derived.Test.YtgcpiinmcbdkmaaMh36
import Derived.Test.YtgcpiinmcbdkmaaMh25
import Derived.Test.YtgcpiinmcbdkmaaMh28
namespace Go.Proofs.Ytgcpiinmcbdkmaa
open Go.RowKit Va Bl
set_option linter.all false
structure DU (w0 W : World) (g : Nat) (ao : Option Addr) (cap : Nat) (bs : List Int) (v : Value) (L : List (Ut × Value)) : Prop where
  cur : Cur W g ao cap bs
  keep : Keep g w0 W
  own : W.ownsRow w0.heap.size 81 6 v L.length (cellsU L)
  ant : ∀ p ∈ L, AOwn W w0.heap.size p ∧ p.1.ant.length ≤ 4
  gg : g < w0.heap.size
section
variable {w0 W W' : World} {g cap : Nat} {ao : Option Addr} {bs : List Int} {v : Value} {L : List (Ut × Value)}
theorem DU.call (h : DU w0 W g ao cap bs v L) (hc : Cur W' g ao cap bs) (hk : Keep g W W') : DU w0 W' g ao cap bs v L :=
  ⟨hc, h.keep.trans hk, ownK_keep h.own hk h.gg, fun p hp => ⟨ownK_keep (h.ant p hp).1 hk h.gg, (h.ant p hp).2⟩, h.gg⟩
theorem DU.alloc (h : DU w0 W g ao cap bs v L) (o : Obj) : DU w0 (W.alloc o) g ao cap bs v L := h.call (h.cur.alloc o) ((Keep.refl g W).alloc o)
theorem DU.form (h : DU w0 W g ao cap bs v L) : ∃ ad c, v = .slice ad L.length c := ownW_slice h.own
theorem DU.anew (h : DU w0 W g ao cap bs v L) : DU w0 (W.alloc (.cells #[] 81)) g ao cap bs (.slice (some ⟨W.heap.size, 0, none⟩) 0 0) [] :=
  ⟨h.cur.alloc _, h.keep.alloc _, ownW_base (ownW_new W 81 6) h.keep.size, (fun p hp => by cases hp), h.gg⟩
theorem DU.start (hc : Cur w0 g ao cap bs) : DU w0 (w0.alloc (.cells #[] 81)) g ao cap bs (.slice (some ⟨w0.heap.size, 0, none⟩) 0 0) [] :=
  ⟨hc.alloc _, (Keep.refl _ _).alloc _, ownW_new w0 81 6, (fun p hp => by cases hp), hc.1⟩
theorem DU.app {v' : Value} {p : Ut × Value} (h : DU w0 W g ao cap bs v L) (ho : W'.ownsRow w0.heap.size 81 6 v' (L.length + 1) (cellsU L ++ cells6 p)) (hg : W.grownBy W' v.ownBlock) (hp : AOwn W w0.heap.size p) (hp4 : p.1.ant.length ≤ 4) : DU w0 W' g ao cap bs v' (L ++ [p]) := by
  have hv := fun k (hk : v.ownBlock = some k) => (ownW_lt h.own k hk).1
  have hgg := h.gg
  have hb : Below w0.heap.size W W' := (Below.refl _ _).grown hg h.keep.size hv
  refine ⟨h.cur.below (hb.mono hgg), ⟨hb.os.trans h.keep.os, hb.tape.trans h.keep.tape, hb.output.trans h.keep.output, Nat.le_trans h.keep.size hg.size, fun i hi hig => (hb.block i hi).trans (h.keep.block i hi hig)⟩, ?_, ?_, h.gg⟩
  · rw [List.length_append, cellsU_app]; exact ho
  · intro q hq
    have hgr : ∀ q, AOwn W w0.heap.size q → AOwn W' w0.heap.size q := fun q hq => ownQ_grown hq hg (fun k hk => ownQ_apart hq h.own (by decide) k hk)
    rcases List.mem_append.1 hq with hq | hq
    · exact ⟨hgr q (h.ant q hq).1, (h.ant q hq).2⟩
    · obtain rfl : q = p := by simpa using hq
      exact ⟨hgr q hp, hp4⟩
end
set_option maxRecDepth 20000 in
set_option maxHeartbeats 8000000 in
theorem ldraw_any (g : Nat) (ao : Option Addr) (cap : Nat) (bs : List Int) (w : World) (hc : Cur w g ao cap bs) :
    Calls Try.prog 38 #[.pointer (some ⟨g, 0, none⟩)] w fun e w' => ∃ (L : List (Ut × Value)) (ad : Option Addr) (c : Nat), e = .returned (.slice ad L.length c) ∧ L.length ≤ 301 ∧ DU w w' g ao cap bs (.slice ad L.length c) L := by
  obtain ⟨j0, hj0, hy0, hy1, hy2⟩ := info_partsW infoUq
  have hd := DU.start hc
  clear hc
  go_enter Try.func38, Try.ntmps38
  go_upto_region 2 with fail
  generalize w.alloc (.cells #[] 81) = wA at *
  generalize Value.slice (some ⟨w.heap.size, 0, none⟩) 0 0 = v0 at *
  go_wp2_with fail
  refine (below_any g ao cap bs 12 _ hd.cur (by omega)).mono ?_
  rintro e w1 ⟨x1, rfl, x10, x11, hc1, hk1⟩
  obtain ⟨n0, rfl⟩ := Int.eq_ofNat_of_zero_le x10
  have hd1 := hd.call hc1 hk1
  clear hd hc1 hk1
  go_wp2_with fail
  go_loopw [3, 4, 5] (fun sv iv kv wr => ∃ (k : Nat) (z : Int) (L : List (Ut × Value)), k + L.length ≤ 12 ∧ kv = .int .i64 k ∧ iv = .int .i64 z ∧ 0 ≤ z ∧ z ≤ 4 * (L.length : Int) ∧ DU w wr g ao cap bs sv L) (fun _ _ kv _ => (intOf kv).toNat)
  case atStart => exact ⟨n0, 0, [], by simp; omega, rfl, rfl, by omega, by simp, hd1⟩
  case round =>
    clear hd1
    obtain ⟨k, z, L, hkl, rfl, rfl, hz0, hz1, hd⟩ := hrel
    obtain ⟨ad, c, rfl⟩ := hd.form
    by_cases hk0 : 0 < k
    · have hki : (0 : Int) < (k : Int) := by omega
      go_wp2_with fail
      refine (below_any g ao cap bs 3 _ hd.cur (by omega)).mono ?_
      rintro e w3 ⟨x3, rfl, x30, x31, hc3, hk3⟩
      have hd3 := hd.call hc3 hk3
      clear hd hc3 hk3
      go_wp2_with fail
      refine (dunit_any g ao cap bs _ _ hd3.cur).mono ?_
      rintro e w4 ⟨x, ta, tc, rfl, hx4, hi4⟩
      have hd4 := hd3.call hi4.cur hi4.keep
      have HA : Hid (AOwn (w4.alloc (.cells #[.int .i64 x.id, .int .i64 x.grp, .slice ta x.ant.length tc, .int .i64 x.til, .int .i64 x.st, .int .i64 x.fr] 81)) w.heap.size (x, .slice ta x.ant.length tc)) := hidden (ownW_base (hi4.alloc (.cells #[.int .i64 x.id, .int .i64 x.grp, .slice ta x.ant.length tc, .int .i64 x.til, .int .i64 x.st, .int .i64 x.fr] 81)).own hd3.keep.size)
      have HX := hidden (hd4.alloc (.cells #[.int .i64 x.id, .int .i64 x.grp, .slice ta x.ant.length tc, .int .i64 x.til, .int .i64 x.st, .int .i64 x.fr] 81))
      have hsz := hd4.keep.size
      clear hd3 hi4 hd4
      unfold aU
      go_wp2_with (at_builtin; refine wpList_append_own _ rfl (.tmp 19) (.tmp 23) 24 rfl w.heap.size 81 j0 (.agg #[.int .i64 0, .int .i64 0, .slice none 0 0, .int .i64 0, .int .i64 0, .int .i64 0]) 6 64 Try.underlying24 hj0 hy0 hy1 hy2 rfl (by decide) _ L.length (cellsU L) rfl HX.out.own ⟨w4.heap.size, 0, none⟩ 1 1 (cells6 (x, Value.slice ta x.ant.length tc)) rfl rfl (cell6U _ (x, Value.slice ta x.ant.length tc) _) (oneU _ _ _ _) (by unfold maxLen; omega) (by omega) (by simp; omega) ?_; intro v5 w5 ho5 hg5 hn5)
      have hd5 := HX.out.app (p := (x, .slice ta x.ant.length tc)) ho5 hg5 HA.out hx4
      clear HX HA ho5 hg5 hn5
      go_roundw
      case rel => exact ⟨k - 1, z + 1 + x3, L ++ [(x, .slice ta x.ant.length tc)], by simp; omega, by congr 1; omega, rfl, by omega, by simp; omega, hd5⟩
      case measure => simp [intOf]; omega
    · have hki : ¬ (0 : Int) < (k : Int) := by omega
      go_wp2_with fail
      refine (once_any g ao cap bs 40 _ hd.cur (by omega)).mono ?_
      rintro e w4 ⟨t4, rfl, hc4, hk4⟩
      have hd4 := hd.call hc4 hk4
      have hL : L.length ≤ 300 := by omega
      clear hd hc4 hk4 hz0 hz1 hkl
      have hd := hd4
      clear hd4
      cases t4 with
      | false =>
        go_upto_region 10 with fail
        go_wp2_with fail
        refine (once_any g ao cap bs 60 _ hd.cur (by omega)).mono ?_
        rintro e w6 ⟨t6, rfl, hc6, hk6⟩
        have hd6 := hd.call hc6 hk6
        clear hd hc6 hk6
        cases t6 with
        | false =>
          go_wp2_with fail
          go_ret
          exact ⟨L, ad, c, rfl, by omega, hd6⟩
        | true =>
          have hd7 := hd6.anew
          clear hd6
          go_wp2_with fail
          go_loopw [3, 6] (fun sv iv wr => ∃ (M : List (Ut × Value)) (z : Int), M.length ≤ 301 ∧ z ≤ (M.length : Int) + 1 ∧ (M.length : Int) + 1 ≤ z ∧ iv = .int .i64 z ∧ DU w wr g ao cap bs sv M) (fun _ iv _ => 302 - (intOf iv).toNat)
          case atStart => exact ⟨[], 1, Nat.zero_le _, by simp, by simp, rfl, hd7⟩
          case round =>
            clear hd7
            obtain ⟨M, z, hM, hza, hzb, rfl, hd⟩ := hrel
            obtain ⟨ad2, c2, rfl⟩ := hd.form
            go_wp2_with fail
            refine (below_any g ao cap bs 2 _ hd.cur (by omega)).mono ?_
            rintro e w8 ⟨x8, rfl, x80, x81, hc8, hk8⟩
            have hd8 := hd.call hc8 hk8
            clear hd hc8 hk8
            by_cases hlt : z ≤ 300 + x8
            · obtain ⟨y, hy⟩ : ∃ y : Ut, y = ⟨z, z % 8, [], z, 1, -1⟩ := ⟨_, rfl⟩
              have HX := hidden (hd8.alloc (.cells #[.int .i64 z, .int .i64 (z % 8), .slice none 0 0, .int .i64 z, .int .i64 1, .int .i64 (-1)] 81))
              have HA : Hid (AOwn (w8.alloc (.cells #[.int .i64 z, .int .i64 (z % 8), .slice none 0 0, .int .i64 z, .int .i64 1, .int .i64 (-1)] 81)) w.heap.size ((⟨z, z % 8, [], z, 1, -1⟩ : Ut), .slice none 0 0)) := hidden ⟨rfl, Or.inl ⟨rfl, rfl⟩⟩
              have hsz := hd8.keep.size
              clear hd8 hy
              go_wp2_with (at_builtin; refine wpList_append_own _ rfl (.tmp 48) (.tmp 54) 24 rfl w.heap.size 81 j0 (.agg #[.int .i64 0, .int .i64 0, .slice none 0 0, .int .i64 0, .int .i64 0, .int .i64 0]) 6 64 Try.underlying24 hj0 hy0 hy1 hy2 rfl (by decide) _ M.length (cellsU M) rfl HX.out.own ⟨w8.heap.size, 0, none⟩ 1 1 (cells6 ((⟨z, z % 8, [], z, 1, -1⟩ : Ut), Value.slice none 0 0)) rfl rfl (cell6U _ ((⟨z, z % 8, [], z, 1, -1⟩ : Ut), Value.slice none 0 0) _) (oneU _ _ _ _) (by unfold maxLen; omega) (by omega) (by simp; omega) ?_; intro v5 w5 ho5 hg5 hn5)
              have hd5 := HX.out.app (p := ((⟨z, z % 8, [], z, 1, -1⟩ : Ut), .slice none 0 0)) ho5 hg5 HA.out (Nat.zero_le _)
              clear HX HA ho5 hg5 hn5
              go_roundw
              case rel => exact ⟨M ++ [((⟨z, z % 8, [], z, 1, -1⟩ : Ut), .slice none 0 0)], z + 1, by simp; omega, by simp; omega, by simp; omega, rfl, hd5⟩
              case measure => simp [intOf]; omega
            · go_wp2_with fail
              go_ret
              exact ⟨M, ad2, c2, rfl, hM, hd8⟩
      | true =>
        by_cases hl0 : 0 < L.length
        · have hli : (0 : Int) < (L.length : Int) := by omega
          obtain ⟨p, hp⟩ := some_of L 0 hl0
          obtain ⟨G, c9, hv9, hG1, hG2, hG3, u0, u1, u2, u3, u4, u5⟩ := own_six hd.own hp
          simp only [Value.slice.injEq, true_and] at hv9
          obtain ⟨rfl, rfl⟩ := hv9
          have hpa := hd.ant p (List.mem_of_getElem? hp)
          obtain ⟨x, tv⟩ := p
          obtain ⟨ta, tc, htv⟩ : ∃ ta tc, tv = Value.slice ta x.ant.length tc := ownW_slice hpa.1
          subst htv
          have HX := hidden (hd.alloc (.cells #[.int .i64 x.id, .int .i64 x.grp, .slice ta x.ant.length tc, .int .i64 x.til, .int .i64 x.st, .int .i64 x.fr] 81))
          have HA : Hid (AOwn (w4.alloc (.cells #[.int .i64 x.id, .int .i64 x.grp, .slice ta x.ant.length tc, .int .i64 x.til, .int .i64 x.st, .int .i64 x.fr] 81)) w.heap.size (x, .slice ta x.ant.length tc)) := hidden ((hpa.1).alloc _)
          have hx4 := hpa.2
          have hsz := hd.keep.size
          clear hd hpa hp
          simp only [Nat.zero_mul, Nat.zero_add] at u0 u1 u2 u3 u4 u5
          go_upto_region 10 with (at_builtin; refine wpList_append_own _ rfl (.tmp 32) (.tmp 36) 24 rfl w.heap.size 81 j0 (.agg #[.int .i64 0, .int .i64 0, .slice none 0 0, .int .i64 0, .int .i64 0, .int .i64 0]) 6 64 Try.underlying24 hj0 hy0 hy1 hy2 rfl (by decide) _ L.length (cellsU L) rfl HX.out.own ⟨w4.heap.size, 0, none⟩ 1 1 (cells6 (x, Value.slice ta x.ant.length tc)) rfl rfl (cell6U _ (x, Value.slice ta x.ant.length tc) _) (oneU _ _ _ _) (by unfold maxLen; omega) (by omega) (by simp; omega) ?_; intro v5 w5 ho5 hg5 hn5)
          have hd := HX.out.app (p := (x, .slice ta x.ant.length tc)) ho5 hg5 HA.out hx4
          obtain ⟨ad, c, rfl⟩ := hd.form
          clear HX HA ho5 hg5 hn5 u0 u1 u2 u3 u4 u5
          have hL2 : (L ++ [(x, Value.slice ta x.ant.length tc)]).length ≤ 301 := by simp; omega
          generalize L ++ [(x, Value.slice ta x.ant.length tc)] = L at *
          go_wp2_with fail
          refine (once_any g ao cap bs 60 _ hd.cur (by omega)).mono ?_
          rintro e w6 ⟨t6, rfl, hc6, hk6⟩
          have hd6 := hd.call hc6 hk6
          clear hd hc6 hk6
          cases t6 with
          | false =>
            go_wp2_with fail
            go_ret
            exact ⟨L, ad, c, rfl, by omega, hd6⟩
          | true =>
            have hd7 := hd6.anew
            clear hd6
            go_wp2_with fail
            go_loopw [3, 6] (fun sv iv wr => ∃ (M : List (Ut × Value)) (z : Int), M.length ≤ 301 ∧ z ≤ (M.length : Int) + 1 ∧ (M.length : Int) + 1 ≤ z ∧ iv = .int .i64 z ∧ DU w wr g ao cap bs sv M) (fun _ iv _ => 302 - (intOf iv).toNat)
            case atStart => exact ⟨[], 1, Nat.zero_le _, by simp, by simp, rfl, hd7⟩
            case round =>
              clear hd7
              obtain ⟨M, z, hM, hza, hzb, rfl, hd⟩ := hrel
              obtain ⟨ad2, c2, rfl⟩ := hd.form
              go_wp2_with fail
              refine (below_any g ao cap bs 2 _ hd.cur (by omega)).mono ?_
              rintro e w8 ⟨x8, rfl, x80, x81, hc8, hk8⟩
              have hd8 := hd.call hc8 hk8
              clear hd hc8 hk8
              by_cases hlt : z ≤ 300 + x8
              · obtain ⟨y, hy⟩ : ∃ y : Ut, y = ⟨z, z % 8, [], z, 1, -1⟩ := ⟨_, rfl⟩
                have HX := hidden (hd8.alloc (.cells #[.int .i64 z, .int .i64 (z % 8), .slice none 0 0, .int .i64 z, .int .i64 1, .int .i64 (-1)] 81))
                have HA : Hid (AOwn (w8.alloc (.cells #[.int .i64 z, .int .i64 (z % 8), .slice none 0 0, .int .i64 z, .int .i64 1, .int .i64 (-1)] 81)) w.heap.size ((⟨z, z % 8, [], z, 1, -1⟩ : Ut), .slice none 0 0)) := hidden ⟨rfl, Or.inl ⟨rfl, rfl⟩⟩
                have hsz := hd8.keep.size
                clear hd8 hy
                go_wp2_with (at_builtin; refine wpList_append_own _ rfl (.tmp 48) (.tmp 54) 24 rfl w.heap.size 81 j0 (.agg #[.int .i64 0, .int .i64 0, .slice none 0 0, .int .i64 0, .int .i64 0, .int .i64 0]) 6 64 Try.underlying24 hj0 hy0 hy1 hy2 rfl (by decide) _ M.length (cellsU M) rfl HX.out.own ⟨w8.heap.size, 0, none⟩ 1 1 (cells6 ((⟨z, z % 8, [], z, 1, -1⟩ : Ut), Value.slice none 0 0)) rfl rfl (cell6U _ ((⟨z, z % 8, [], z, 1, -1⟩ : Ut), Value.slice none 0 0) _) (oneU _ _ _ _) (by unfold maxLen; omega) (by omega) (by simp; omega) ?_; intro v5 w5 ho5 hg5 hn5)
                have hd5 := HX.out.app (p := ((⟨z, z % 8, [], z, 1, -1⟩ : Ut), .slice none 0 0)) ho5 hg5 HA.out (Nat.zero_le _)
                clear HX HA ho5 hg5 hn5
                go_roundw
                case rel => exact ⟨M ++ [((⟨z, z % 8, [], z, 1, -1⟩ : Ut), .slice none 0 0)], z + 1, by simp; omega, by simp; omega, by simp; omega, rfl, hd5⟩
                case measure => simp [intOf]; omega
              · go_wp2_with fail
                go_ret
                exact ⟨M, ad2, c2, rfl, hM, hd8⟩
        · have hli : ¬ (0 : Int) < (L.length : Int) := by omega
          go_upto_region 10 with fail
          go_wp2_with fail
          refine (once_any g ao cap bs 60 _ hd.cur (by omega)).mono ?_
          rintro e w6 ⟨t6, rfl, hc6, hk6⟩
          have hd6 := hd.call hc6 hk6
          clear hd hc6 hk6
          cases t6 with
          | false =>
            go_wp2_with fail
            go_ret
            exact ⟨L, ad, c, rfl, by omega, hd6⟩
          | true =>
            have hd7 := hd6.anew
            clear hd6
            go_wp2_with fail
            go_loopw [3, 6] (fun sv iv wr => ∃ (M : List (Ut × Value)) (z : Int), M.length ≤ 301 ∧ z ≤ (M.length : Int) + 1 ∧ (M.length : Int) + 1 ≤ z ∧ iv = .int .i64 z ∧ DU w wr g ao cap bs sv M) (fun _ iv _ => 302 - (intOf iv).toNat)
            case atStart => exact ⟨[], 1, Nat.zero_le _, by simp, by simp, rfl, hd7⟩
            case round =>
              clear hd7
              obtain ⟨M, z, hM, hza, hzb, rfl, hd⟩ := hrel
              obtain ⟨ad2, c2, rfl⟩ := hd.form
              go_wp2_with fail
              refine (below_any g ao cap bs 2 _ hd.cur (by omega)).mono ?_
              rintro e w8 ⟨x8, rfl, x80, x81, hc8, hk8⟩
              have hd8 := hd.call hc8 hk8
              clear hd hc8 hk8
              by_cases hlt : z ≤ 300 + x8
              · obtain ⟨y, hy⟩ : ∃ y : Ut, y = ⟨z, z % 8, [], z, 1, -1⟩ := ⟨_, rfl⟩
                have HX := hidden (hd8.alloc (.cells #[.int .i64 z, .int .i64 (z % 8), .slice none 0 0, .int .i64 z, .int .i64 1, .int .i64 (-1)] 81))
                have HA : Hid (AOwn (w8.alloc (.cells #[.int .i64 z, .int .i64 (z % 8), .slice none 0 0, .int .i64 z, .int .i64 1, .int .i64 (-1)] 81)) w.heap.size ((⟨z, z % 8, [], z, 1, -1⟩ : Ut), .slice none 0 0)) := hidden ⟨rfl, Or.inl ⟨rfl, rfl⟩⟩
                have hsz := hd8.keep.size
                clear hd8 hy
                go_wp2_with (at_builtin; refine wpList_append_own _ rfl (.tmp 48) (.tmp 54) 24 rfl w.heap.size 81 j0 (.agg #[.int .i64 0, .int .i64 0, .slice none 0 0, .int .i64 0, .int .i64 0, .int .i64 0]) 6 64 Try.underlying24 hj0 hy0 hy1 hy2 rfl (by decide) _ M.length (cellsU M) rfl HX.out.own ⟨w8.heap.size, 0, none⟩ 1 1 (cells6 ((⟨z, z % 8, [], z, 1, -1⟩ : Ut), Value.slice none 0 0)) rfl rfl (cell6U _ ((⟨z, z % 8, [], z, 1, -1⟩ : Ut), Value.slice none 0 0) _) (oneU _ _ _ _) (by unfold maxLen; omega) (by omega) (by simp; omega) ?_; intro v5 w5 ho5 hg5 hn5)
                have hd5 := HX.out.app (p := ((⟨z, z % 8, [], z, 1, -1⟩ : Ut), .slice none 0 0)) ho5 hg5 HA.out (Nat.zero_le _)
                clear HX HA ho5 hg5 hn5
                go_roundw
                case rel => exact ⟨M ++ [((⟨z, z % 8, [], z, 1, -1⟩ : Ut), .slice none 0 0)], z + 1, by simp; omega, by simp; omega, by simp; omega, rfl, hd5⟩
                case measure => simp [intOf]; omega
              · go_wp2_with fail
                go_ret
                exact ⟨M, ad2, c2, rfl, hM, hd8⟩
end Go.Proofs.Ytgcpiinmcbdkmaa

namespace Go.Proofs.Ytgcpiinmcbdkmaa
open Go.RowKit Va Bl
set_option linter.all false
set_option maxRecDepth 20000 in
set_option maxHeartbeats 8000000 in
theorem itoldu_any (L : List (Ut × Value)) (ab : Option Addr) (cb b : Nat) (w : World) (ho : w.ownsRow b 78 1 (.slice ab L.length cb) L.length (L.map aI)) (hs : ∀ p ∈ L, ∃ a n c, p.2 = .slice a n c) (hL : L.length ≤ 300) :
    Calls Try.prog 56 #[.slice ab L.length cb] w fun e w' => ∃ ad c, e = .returned (.slice ad L.length c) ∧ w'.ownsRow w.heap.size 81 6 (.slice ad L.length c) L.length (cellsU L) ∧ Below w.heap.size w w' := by
  have HO := hidden ho
  have HS := hidden hs
  clear ho hs
  obtain ⟨j0, hj0, hy0, hy1, hy2⟩ := info_partsW infoUq
  go_enter Try.func56, Try.ntmps56
  go_wp2_with (refine wpList_make_own _ rfl (.const (.int .i64 0)) (.tmp 7) 24 rfl w.heap.size 81 j0 (.agg #[.int .i64 0, .int .i64 0, .slice none 0 0, .int .i64 0, .int .i64 0, .int .i64 0]) 6 Try.underlying24 hj0 hy0 hy1 .i64 .i64 _ L.length rfl rfl rfl (by rw [hy2]; omega) (by unfold maxLen; omega) (Nat.le_refl _) ?_; intro w1 ho1 hg1)
  have b1 : Below w.heap.size w w1 := (Below.refl _ w).grown hg1 (Nat.le_refl _) (by simp)
  clear hg1
  go_wp2_with fail
  go_loopw [3, 5, 11] (fun sv _ iv wr => ∃ i : Nat, i ≤ L.length ∧ iv = .int .i64 i ∧ (∃ (M : List (Ut × Value)) (ad : Option Addr) (c : Nat), sv = .slice ad M.length c ∧ wr.ownsRow w.heap.size 81 6 (.slice ad M.length c) M.length (cellsU M) ∧ Hid (M = L.take i) ∧ M.length ≤ i) ∧ Below w.heap.size w wr) (fun _ _ iv _ => L.length - (intOf iv).toNat)
  case atStart => exact ⟨0, Nat.zero_le _, rfl, ⟨[], _, _, rfl, ho1, rfl, Nat.le_refl _⟩, b1⟩
  case round =>
    clear ho1 b1
    obtain ⟨i, hi, rfl, ⟨M, ad, c, rfl, ho, HM, hMl⟩, hb⟩ := hrel
    have OM := hidden ho
    have hsz := hb.size
    clear ho
    by_cases hlt : i < L.length
    · have hlti : (i : Int) < (L.length : Int) := by omega
      obtain ⟨⟨x, tv⟩, hx⟩ := some_of L i hlt
      obtain ⟨ta, tn, tc, htv⟩ := HS.out _ (List.mem_of_getElem? hx)
      dsimp only at htv
      subst htv
      obtain ⟨g, c9, he, -, hg, -, u0⟩ := own_at (ownW_below HO.out hb) hx
      simp only [Value.slice.injEq, true_and] at he
      obtain ⟨rfl, rfl⟩ := he
      have k2 := fun W => told_any x ta tn tc W
      have hm := fun a b c d e s W => m_told x.st a b c d e s W
      have HN : Hid (M ++ [(x, Value.slice ta tn tc)] = L.take (i + 1)) := by rw [Hid, HM.out, take_snocU hx]
      unfold aI aU at u0
      unfold aU at k2
      dsimp only at u0
      clear hx
      go_wp2_with (first | (go_at_call 195; refine (k2 _).mono ?_; rintro e w5 ⟨rfl, hb5⟩; have bC := onto hb hb5; have O5 := hidden (ownW_below OM.out hb5); have z5 := bC.size; clear hb5) | (at_builtin; refine wpList_append_own _ rfl (.tmp 15) (.tmp 18) 24 rfl w.heap.size 81 j0 (.agg #[.int .i64 0, .int .i64 0, .slice none 0 0, .int .i64 0, .int .i64 0, .int .i64 0]) 6 64 Try.underlying24 hj0 hy0 hy1 hy2 rfl (by decide) _ M.length (cellsU M) rfl (O5.out.alloc _) ⟨w5.heap.size, 0, none⟩ 1 1 (cells6 (x, Value.slice ta tn tc)) rfl rfl (cell6U _ (x, Value.slice ta tn tc) _) (oneU _ _ _ _) (by unfold maxLen; omega) (by omega) (by simp; omega) ?_; intro v4 w4 ho4 hg4 hnn4; have hO4 := hidden ho4; obtain ⟨ad4, c4, rfl⟩ := ownW_slice ho4))
      have b4 := grownQ (show Below w.heap.size w (w5.alloc (.cells #[.int .i64 x.id, .int .i64 x.grp, Value.slice ta tn tc, .int .i64 x.til, .int .i64 x.st, .int .i64 x.fr] 81)) from by repeat (first | exact Below.refl _ _ | assumption | refine st_drew ?_ | refine st_drewN ?_ _ | refine Below.setCell ?_ (by first | omega | (simp; done) | (simp; omega)) _ | refine Below.alloc ?_ (by first | omega | (simp; done) | (simp; omega)) _)) (by simp; omega) hg4 (fun k hk => (ownW_lt OM.out k hk).1)
      go_roundw
      case rel => exact ⟨i + 1, by omega, rfl, ⟨M ++ [(x, .slice ta tn tc)], ad4, c4, by rw [List.length_append]; rfl, by rw [cellsU_app, List.length_append]; exact hO4.out, HN, by rw [List.length_append]; simp; omega⟩, b4⟩
      case measure => simp [intOf]; omega
    · have hlti : ¬ (i : Int) < (L.length : Int) := by omega
      have hil : i = L.length := by omega
      subst hil
      have hML : M = L := by have := HM.out; rwa [List.take_length] at this
      subst hML
      go_wp2_with fail
      go_ret
      exact ⟨ad, c, rfl, OM.out, hb⟩
set_option maxRecDepth 20000 in
set_option maxHeartbeats 8000000 in
theorem ibdo_any (ao : Option Addr) (len cap : Nat) (l : List Ut) (n : Nd) (na : Option Addr) (nn nc : Nat) (a : Da) (w : World) (h : URw w (.slice ao len cap) l) (hn : l.length ≤ 1048576) (ht : ∀ x ∈ l, x.ant.length ≤ 1048576) (h' : IRw w (.slice na nn nc) n.ag) (hn' : n.ag.length ≤ 1048576) :
    Calls Try.prog 13 #[.slice ao len cap, aN n (.slice na nn nc), aDo a] w fun e w' => ∃ (M : List (Ut × Value)) (ad : Option Addr) (c : Nat), e = .returned (.tuple #[.slice ad M.length c, .int .i64 (codeB l n a)]) ∧ M.map Prod.fst = bankDo l n a ∧ w'.ownsRow w.heap.size 81 6 (.slice ad M.length c) M.length (cellsU M) ∧ Antis w' w.heap.size M ∧ Below w.heap.size w w' := by
  obtain rfl := h.len
  have hK := fun W hW => ibank_any ao l.length cap l W hW hn ht
  have b0 : Below w.heap.size w ((w.alloc (.cells #[.int .i64 n.p, .int .i64 n.g, .slice na nn nc] 27)).alloc (.cells #[.int .i64 a.k, .int .i64 a.id, .int .i64 a.t] 35)) := by repeat (first | exact Below.refl _ _ | assumption | refine st_drew ?_ | refine st_drewN ?_ _ | refine Below.setCell ?_ (by first | omega | (simp; done) | (simp; omega)) _ | refine Below.alloc ?_ (by first | omega | (simp; done) | (simp; omega)) _)
  have PN := hidden ((PB.new w #[.int .i64 n.p, .int .i64 n.g, .slice na nn nc] 27).alloc (.cells #[.int .i64 a.k, .int .i64 a.id, .int .i64 a.t] 35))
  have PD := hidden (PB.new (w.alloc (.cells #[.int .i64 n.p, .int .i64 n.g, .slice na nn nc] 27)) #[.int .i64 a.k, .int .i64 a.id, .int .i64 a.t] 35)
  simp only [World.size_alloc] at PD PN
  have HH := hidden (fun W (hW : Below w.heap.size w W) => h.below hW)
  have HN := hidden (fun W (hW : Below w.heap.size w W) => h'.below hW)
  have HT := hidden ht
  clear h h' ht
  cases hB : bankB l with
  | false =>
    rw [hB] at hK
    have HC : Hid (codeB l n a = 1) := by rw [Hid, codeB, if_neg (by rw [hB]; simp)]
    have HD : Hid (bankDo l n a = []) := by rw [Hid, bankDo, if_neg (by rw [hB]; simp)]
    rw [HC.out]
    clear hB
    unfold aDo aN
    go_enter Try.func13, Try.ntmps13
    go_wp2_with (go_at_call 41; refine (hK _ (HH.out _ b0)).mono ?_; rintro e w1 ⟨rfl, hb1⟩; have bA := onto b0 hb1; have z1 := bA.size; have O1 := hidden (ownW_new w1 81 6); clear hb1)
    go_ret2
    exact ⟨[], _, _, rfl, HD.out.symm, ownW_base O1.out z1, Antis.nil _ _, by repeat (first | exact Below.refl _ _ | assumption | refine st_drew ?_ | refine st_drewN ?_ _ | refine Below.setCell ?_ (by first | omega | (simp; done) | (simp; omega)) _ | refine Below.alloc ?_ (by first | omega | (simp; done) | (simp; omega)) _)⟩
  | true =>
    rw [hB] at hK
    have hl3 := bank_len hB
    have HE := hidden (codeB_on (n := n) (a := a) hB)
    have hJ := fun W hW => bankof_any ao l.length cap l W hW hl3 HT.out
    clear hB
    unfold aDo aN
    go_enter Try.func13, Try.ntmps13
    go_wp2_with fail
    refine (hK _ (HH.out _ b0)).mono ?_
    rintro e w1 ⟨rfl, hb1⟩
    have PD1 := hidden (PD.out.below hb1)
    have PN1 := hidden (PN.out.below hb1)
    have bA := onto b0 hb1
    clear hb1 PD PN b0 hK
    go_wp2_with fail
    refine (hJ _ (HH.out _ bA)).mono ?_
    rintro e w2 ⟨L, ab, cb, rfl, hLl, hob, hAn, hb2⟩
    have hLl2 := hidden hLl
    have hLn : L.length ≤ 300 := by have := congrArg List.length hLl; rw [List.length_map] at this; omega
    have PD2 := hidden (PD1.out.below hb2)
    have PN2 := hidden (PN1.out.below hb2)
    have bB := onto bA hb2
    have K2 := idoon_any a L ab cb n na nn nc w w2 (ownW_base hob bA.size) (hAn.base bA.size) (fun p hp => HT.out p.1 (by rw [← hLl]; exact List.mem_map_of_mem hp)) hLn (HN.out _ bB) hn' bB
    rw [hLl] at K2
    have HAn := hidden hAn
    clear hLl hob hAn hb2 PD1 PN1 bA hJ
    unfold aDo aN at K2
    obtain ⟨p0, p1, p2⟩ := PD2.out.three
    obtain ⟨q0, q1, q2⟩ := PN2.out.three
    go_wp2_with fail
    refine K2.mono ?_
    rintro e w3 ⟨rfl, L', hL', hLL, ho3, hA3, b3⟩
    rw [← hLL] at ho3
    have HL' := hidden hL'
    have HLL := hidden hLL
    have K3 := itoldu_any L' ab cb w.heap.size w3 ho3 (fun p hp => by obtain ⟨a1, c1, hh⟩ := ownW_slice (hA3.1 p hp); exact ⟨_, _, _, hh⟩) (by omega)
    rw [hLL] at K3
    have HA3 := hidden hA3
    have z3 := b3.size
    clear hL' hLL ho3 hA3 K2 p0 p1 p2 q0 q1 q2 PD2 PN2 bB
    go_wp2_with fail
    refine K3.mono ?_
    rintro e w4 ⟨ad, c, rfl, ho4, hb4⟩
    have b4 := onto b3 hb4
    have O4 := hidden (ownW_base ho4 z3)
    have A4 := hidden (HA3.out.below hb4)
    clear hb4 ho4 K3 b3
    go_wp2_with fail
    go_ret2
    refine ⟨L', ad, c, ?_, ?_, ?_, A4.out, b4⟩
    · rw [HE.out.1, HLL.out]; rfl
    · rw [HL'.out, HE.out.2]
    · rw [HLL.out]; exact O4.out
end Go.Proofs.Ytgcpiinmcbdkmaa
