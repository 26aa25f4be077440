/-
  A bank that is drawn of a cursor.
-/
import Derived.Test.YtaidhcbchpcemaaD6
import Derived.Test.YtaidhcbchpcemaaQ24
namespace Go.Proofs.Ytaidhcbchpcemaa
open Go.RowKit Va Bl
set_option linter.all false

/-- Units in a block of the call's own, the antigens of each too, beside a cursor at g. -/
structure DU (w0 W : World) (g : Nat) (ao : Option Addr) (cap : Nat) (bs : List Int) (v : Value) (L : List (Ut × Value)) : Prop where
  cur : Cur W g ao cap bs
  keep : Keep g w0 W
  own : W.ownsRow w0.heap.size 37 6 v L.length (cellsU L)
  ant : ∀ p ∈ L, AOwn W w0.heap.size p ∧ p.1.ant.length ≤ 4
  gg : g < w0.heap.size
section
variable {w0 W W' : World} {g cap : Nat} {ao : Option Addr} {bs : List Int} {v : Value} {L : List (Ut × Value)}
theorem DU.call (h : DU w0 W g ao cap bs v L) (hc : Cur W' g ao cap bs) (hk : Keep g W W') : DU w0 W' g ao cap bs v L :=
  ⟨hc, h.keep.trans hk, ownK_keep h.own hk h.gg, fun p hp => ⟨ownK_keep (h.ant p hp).1 hk h.gg, (h.ant p hp).2⟩, h.gg⟩
theorem DU.alloc (h : DU w0 W g ao cap bs v L) (o : Obj) : DU w0 (W.alloc o) g ao cap bs v L := h.call (h.cur.alloc o) ((Keep.refl g W).alloc o)
theorem DU.form (h : DU w0 W g ao cap bs v L) : ∃ ad c, v = .slice ad L.length c := ownW_slice h.own
theorem DU.row (h : DU w0 W g ao cap bs v L) : URw W v (L.map Prod.fst) := own_urw h.own (fun p hp => ownQ_irw (h.ant p hp).1)
theorem DU.anew (h : DU w0 W g ao cap bs v L) : DU w0 (W.alloc (.cells #[] 37)) g ao cap bs (.slice (some ⟨W.heap.size, 0, none⟩) 0 0) [] :=
  ⟨h.cur.alloc _, h.keep.alloc _, ownW_base (ownW_new W 37 6) h.keep.size, (fun p hp => by cases hp), h.gg⟩
theorem DU.start (hc : Cur w0 g ao cap bs) : DU w0 (w0.alloc (.cells #[] 37)) g ao cap bs (.slice (some ⟨w0.heap.size, 0, none⟩) 0 0) [] :=
  ⟨hc.alloc _, (Keep.refl _ _).alloc _, ownW_new w0 37 6, (fun p hp => by cases hp), hc.1⟩
/-- One more is put behind. -/
theorem DU.app {v' : Value} {p : Ut × Value} (h : DU w0 W g ao cap bs v L) (ho : W'.ownsRow w0.heap.size 37 6 v' (L.length + 1) (cellsU L ++ cells6 p)) (hg : W.grownBy W' v.ownBlock) (hp : AOwn W w0.heap.size p) (hp4 : p.1.ant.length ≤ 4) : DU w0 W' g ao cap bs v' (L ++ [p]) := by
  have hv := fun k (hk : v.ownBlock = some k) => (ownW_lt h.own k hk).1
  have hgg := h.gg
  have hb : Below w0.heap.size W W' := (Below.refl _ _).grown hg h.keep.size hv
  refine ⟨h.cur.below (hb.mono hgg), ⟨hb.os.trans h.keep.os, hb.tape.trans h.keep.tape, hb.output.trans h.keep.output, Nat.le_trans h.keep.size hg.size, fun i hi hig => (hb.block i hi).trans (h.keep.block i hi hig)⟩, ?_, ?_, h.gg⟩
  · rw [List.length_append, cellsU_app]; exact ho
  · intro q hq
    have hgr : ∀ q, AOwn W w0.heap.size q → AOwn W' w0.heap.size q := fun q hq => ownQ_grown hq hg (fun k hk => ownQ_apart hq h.own (by decide) k hk)
    rcases List.mem_append.1 hq with hq | hq
    · exact ⟨hgr q (h.ant q hq).1, (h.ant q hq).2⟩
    · obtain rfl : q = p := by simpa using hq
      exact ⟨hgr q hp, hp4⟩
end

set_option maxRecDepth 20000 in
set_option maxHeartbeats 8000000 in
theorem ldraw_any (g : Nat) (ao : Option Addr) (cap : Nat) (bs : List Int) (w : World) (hc : Cur w g ao cap bs) :
    Calls Try.prog 33 #[.pointer (some ⟨g, 0, none⟩)] w fun e w' => ∃ (L : List (Ut × Value)) (ad : Option Addr) (c : Nat), e = .returned (.slice ad L.length c) ∧ L.length ≤ 301 ∧ DU w w' g ao cap bs (.slice ad L.length c) L := by
  obtain ⟨j0, hj0, hy0, hy1, hy2⟩ := info_partsW infoUq
  have hd := DU.start hc
  clear hc
  go_enter Try.func33, Try.ntmps33
  go_upto_region 2 with fail
  generalize w.alloc (.cells #[] 37) = wA at *
  generalize Value.slice (some ⟨w.heap.size, 0, none⟩) 0 0 = v0 at *
  go_wp2_with fail
  refine (below_any g ao cap bs 12 _ hd.cur (by omega)).mono ?_
  rintro e w1 ⟨x1, rfl, x10, x11, hc1, hk1⟩
  obtain ⟨n0, rfl⟩ := Int.eq_ofNat_of_zero_le x10
  have hd1 := hd.call hc1 hk1
  clear hd hc1 hk1
  go_wp2_with fail
  go_loopw [3, 4, 5] (fun sv iv kv wr => ∃ (k : Nat) (z : Int) (L : List (Ut × Value)), k + L.length ≤ 12 ∧ kv = .int .i64 k ∧ iv = .int .i64 z ∧ 0 ≤ z ∧ z ≤ 4 * (L.length : Int) ∧ DU w wr g ao cap bs sv L) (fun _ _ kv _ => (intOf kv).toNat)
  case atStart => exact ⟨n0, 0, [], by simp; omega, rfl, rfl, by omega, by simp, hd1⟩
  case round =>
    clear hd1
    obtain ⟨k, z, L, hkl, rfl, rfl, hz0, hz1, hd⟩ := hrel
    obtain ⟨ad, c, rfl⟩ := hd.form
    by_cases hk0 : 0 < k
    · have hki : (0 : Int) < (k : Int) := by omega
      go_wp2_with fail
      refine (below_any g ao cap bs 3 _ hd.cur (by omega)).mono ?_
      rintro e w3 ⟨x3, rfl, x30, x31, hc3, hk3⟩
      have hd3 := hd.call hc3 hk3
      clear hd hc3 hk3
      go_wp2_with fail
      refine (dunit_any g ao cap bs _ _ hd3.cur).mono ?_
      rintro e w4 ⟨x, ta, tc, rfl, hx4, hi4⟩
      have hd4 := hd3.call hi4.cur hi4.keep
      have HA : Hid (AOwn (w4.alloc (.cells #[.int .i64 x.id, .int .i64 x.grp, .slice ta x.ant.length tc, .int .i64 x.til, .int .i64 x.st, .int .i64 x.fr] 37)) w.heap.size (x, .slice ta x.ant.length tc)) := hidden (ownW_base (hi4.alloc (.cells #[.int .i64 x.id, .int .i64 x.grp, .slice ta x.ant.length tc, .int .i64 x.til, .int .i64 x.st, .int .i64 x.fr] 37)).own hd3.keep.size)
      have HX := hidden (hd4.alloc (.cells #[.int .i64 x.id, .int .i64 x.grp, .slice ta x.ant.length tc, .int .i64 x.til, .int .i64 x.st, .int .i64 x.fr] 37))
      have hsz := hd4.keep.size
      clear hd3 hi4 hd4
      unfold aU
      go_wp2_with (at_builtin; refine wpList_append_own _ rfl (.tmp 19) (.tmp 23) 25 rfl w.heap.size 37 j0 (.agg #[.int .i64 0, .int .i64 0, .slice none 0 0, .int .i64 0, .int .i64 0, .int .i64 0]) 6 64 Try.underlying25 hj0 hy0 hy1 hy2 rfl (by decide) _ L.length (cellsU L) rfl HX.out.own ⟨w4.heap.size, 0, none⟩ 1 1 (cells6 (x, Value.slice ta x.ant.length tc)) rfl rfl (cell6U _ (x, Value.slice ta x.ant.length tc) _) (oneU _ _ _ _) (by unfold maxLen; omega) (by omega) (by simp; omega) ?_; intro v5 w5 ho5 hg5 hn5)
      have hd5 := HX.out.app (p := (x, .slice ta x.ant.length tc)) ho5 hg5 HA.out hx4
      clear HX HA ho5 hg5 hn5
      go_roundw
      case rel => exact ⟨k - 1, z + 1 + x3, L ++ [(x, .slice ta x.ant.length tc)], by simp; omega, by congr 1; omega, rfl, by omega, by simp; omega, hd5⟩
      case measure => simp [intOf]; omega
    · have hki : ¬ (0 : Int) < (k : Int) := by omega
      go_wp2_with fail
      refine (once_any g ao cap bs 40 _ hd.cur (by omega)).mono ?_
      rintro e w4 ⟨t4, rfl, hc4, hk4⟩
      have hd4 := hd.call hc4 hk4
      have hL : L.length ≤ 300 := by omega
      clear hd hc4 hk4 hz0 hz1 hkl
      have hd := hd4
      clear hd4
      cases t4 with
      | false =>
        go_upto_region 10 with fail
        go_wp2_with fail
        refine (once_any g ao cap bs 60 _ hd.cur (by omega)).mono ?_
        rintro e w6 ⟨t6, rfl, hc6, hk6⟩
        have hd6 := hd.call hc6 hk6
        clear hd hc6 hk6
        cases t6 with
        | false =>
          go_wp2_with fail
          go_ret
          exact ⟨L, ad, c, rfl, by omega, hd6⟩
        | true =>
          have hd7 := hd6.anew
          clear hd6
          go_wp2_with fail
          go_loopw [3, 6] (fun sv iv wr => ∃ (M : List (Ut × Value)) (z : Int), M.length ≤ 301 ∧ z ≤ (M.length : Int) + 1 ∧ (M.length : Int) + 1 ≤ z ∧ iv = .int .i64 z ∧ DU w wr g ao cap bs sv M) (fun _ iv _ => 302 - (intOf iv).toNat)
          case atStart => exact ⟨[], 1, Nat.zero_le _, by simp, by simp, rfl, hd7⟩
          case round =>
            clear hd7
            obtain ⟨M, z, hM, hza, hzb, rfl, hd⟩ := hrel
            obtain ⟨ad2, c2, rfl⟩ := hd.form
            go_wp2_with fail
            refine (below_any g ao cap bs 2 _ hd.cur (by omega)).mono ?_
            rintro e w8 ⟨x8, rfl, x80, x81, hc8, hk8⟩
            have hd8 := hd.call hc8 hk8
            clear hd hc8 hk8
            by_cases hlt : z ≤ 300 + x8
            · obtain ⟨y, hy⟩ : ∃ y : Ut, y = ⟨z, z % 8, [], z, 1, -1⟩ := ⟨_, rfl⟩
              have HX := hidden (hd8.alloc (.cells #[.int .i64 z, .int .i64 (z % 8), .slice none 0 0, .int .i64 z, .int .i64 1, .int .i64 (-1)] 37))
              have HA : Hid (AOwn (w8.alloc (.cells #[.int .i64 z, .int .i64 (z % 8), .slice none 0 0, .int .i64 z, .int .i64 1, .int .i64 (-1)] 37)) w.heap.size ((⟨z, z % 8, [], z, 1, -1⟩ : Ut), .slice none 0 0)) := hidden ⟨rfl, Or.inl ⟨rfl, rfl⟩⟩
              have hsz := hd8.keep.size
              clear hd8 hy
              go_wp2_with (at_builtin; refine wpList_append_own _ rfl (.tmp 48) (.tmp 54) 25 rfl w.heap.size 37 j0 (.agg #[.int .i64 0, .int .i64 0, .slice none 0 0, .int .i64 0, .int .i64 0, .int .i64 0]) 6 64 Try.underlying25 hj0 hy0 hy1 hy2 rfl (by decide) _ M.length (cellsU M) rfl HX.out.own ⟨w8.heap.size, 0, none⟩ 1 1 (cells6 ((⟨z, z % 8, [], z, 1, -1⟩ : Ut), Value.slice none 0 0)) rfl rfl (cell6U _ ((⟨z, z % 8, [], z, 1, -1⟩ : Ut), Value.slice none 0 0) _) (oneU _ _ _ _) (by unfold maxLen; omega) (by omega) (by simp; omega) ?_; intro v5 w5 ho5 hg5 hn5)
              have hd5 := HX.out.app (p := ((⟨z, z % 8, [], z, 1, -1⟩ : Ut), .slice none 0 0)) ho5 hg5 HA.out (Nat.zero_le _)
              clear HX HA ho5 hg5 hn5
              go_roundw
              case rel => exact ⟨M ++ [((⟨z, z % 8, [], z, 1, -1⟩ : Ut), .slice none 0 0)], z + 1, by simp; omega, by simp; omega, by simp; omega, rfl, hd5⟩
              case measure => simp [intOf]; omega
            · go_wp2_with fail
              go_ret
              exact ⟨M, ad2, c2, rfl, hM, hd8⟩
      | true =>
        by_cases hl0 : 0 < L.length
        · have hli : (0 : Int) < (L.length : Int) := by omega
          obtain ⟨p, hp⟩ := some_of L 0 hl0
          obtain ⟨G, c9, hv9, hG1, hG2, hG3, u0, u1, u2, u3, u4, u5⟩ := own_six hd.own hp
          simp only [Value.slice.injEq, true_and] at hv9
          obtain ⟨rfl, rfl⟩ := hv9
          have hpa := hd.ant p (List.mem_of_getElem? hp)
          obtain ⟨x, tv⟩ := p
          obtain ⟨ta, tc, htv⟩ : ∃ ta tc, tv = Value.slice ta x.ant.length tc := ownW_slice hpa.1
          subst htv
          have HX := hidden (hd.alloc (.cells #[.int .i64 x.id, .int .i64 x.grp, .slice ta x.ant.length tc, .int .i64 x.til, .int .i64 x.st, .int .i64 x.fr] 37))
          have HA : Hid (AOwn (w4.alloc (.cells #[.int .i64 x.id, .int .i64 x.grp, .slice ta x.ant.length tc, .int .i64 x.til, .int .i64 x.st, .int .i64 x.fr] 37)) w.heap.size (x, .slice ta x.ant.length tc)) := hidden ((hpa.1).alloc _)
          have hx4 := hpa.2
          have hsz := hd.keep.size
          clear hd hpa hp
          simp only [Nat.zero_mul, Nat.zero_add] at u0 u1 u2 u3 u4 u5
          go_upto_region 10 with (at_builtin; refine wpList_append_own _ rfl (.tmp 32) (.tmp 36) 25 rfl w.heap.size 37 j0 (.agg #[.int .i64 0, .int .i64 0, .slice none 0 0, .int .i64 0, .int .i64 0, .int .i64 0]) 6 64 Try.underlying25 hj0 hy0 hy1 hy2 rfl (by decide) _ L.length (cellsU L) rfl HX.out.own ⟨w4.heap.size, 0, none⟩ 1 1 (cells6 (x, Value.slice ta x.ant.length tc)) rfl rfl (cell6U _ (x, Value.slice ta x.ant.length tc) _) (oneU _ _ _ _) (by unfold maxLen; omega) (by omega) (by simp; omega) ?_; intro v5 w5 ho5 hg5 hn5)
          have hd := HX.out.app (p := (x, .slice ta x.ant.length tc)) ho5 hg5 HA.out hx4
          obtain ⟨ad, c, rfl⟩ := hd.form
          clear HX HA ho5 hg5 hn5 u0 u1 u2 u3 u4 u5
          have hL2 : (L ++ [(x, Value.slice ta x.ant.length tc)]).length ≤ 301 := by simp; omega
          generalize L ++ [(x, Value.slice ta x.ant.length tc)] = L at *
          go_wp2_with fail
          refine (once_any g ao cap bs 60 _ hd.cur (by omega)).mono ?_
          rintro e w6 ⟨t6, rfl, hc6, hk6⟩
          have hd6 := hd.call hc6 hk6
          clear hd hc6 hk6
          cases t6 with
          | false =>
            go_wp2_with fail
            go_ret
            exact ⟨L, ad, c, rfl, by omega, hd6⟩
          | true =>
            have hd7 := hd6.anew
            clear hd6
            go_wp2_with fail
            go_loopw [3, 6] (fun sv iv wr => ∃ (M : List (Ut × Value)) (z : Int), M.length ≤ 301 ∧ z ≤ (M.length : Int) + 1 ∧ (M.length : Int) + 1 ≤ z ∧ iv = .int .i64 z ∧ DU w wr g ao cap bs sv M) (fun _ iv _ => 302 - (intOf iv).toNat)
            case atStart => exact ⟨[], 1, Nat.zero_le _, by simp, by simp, rfl, hd7⟩
            case round =>
              clear hd7
              obtain ⟨M, z, hM, hza, hzb, rfl, hd⟩ := hrel
              obtain ⟨ad2, c2, rfl⟩ := hd.form
              go_wp2_with fail
              refine (below_any g ao cap bs 2 _ hd.cur (by omega)).mono ?_
              rintro e w8 ⟨x8, rfl, x80, x81, hc8, hk8⟩
              have hd8 := hd.call hc8 hk8
              clear hd hc8 hk8
              by_cases hlt : z ≤ 300 + x8
              · obtain ⟨y, hy⟩ : ∃ y : Ut, y = ⟨z, z % 8, [], z, 1, -1⟩ := ⟨_, rfl⟩
                have HX := hidden (hd8.alloc (.cells #[.int .i64 z, .int .i64 (z % 8), .slice none 0 0, .int .i64 z, .int .i64 1, .int .i64 (-1)] 37))
                have HA : Hid (AOwn (w8.alloc (.cells #[.int .i64 z, .int .i64 (z % 8), .slice none 0 0, .int .i64 z, .int .i64 1, .int .i64 (-1)] 37)) w.heap.size ((⟨z, z % 8, [], z, 1, -1⟩ : Ut), .slice none 0 0)) := hidden ⟨rfl, Or.inl ⟨rfl, rfl⟩⟩
                have hsz := hd8.keep.size
                clear hd8 hy
                go_wp2_with (at_builtin; refine wpList_append_own _ rfl (.tmp 48) (.tmp 54) 25 rfl w.heap.size 37 j0 (.agg #[.int .i64 0, .int .i64 0, .slice none 0 0, .int .i64 0, .int .i64 0, .int .i64 0]) 6 64 Try.underlying25 hj0 hy0 hy1 hy2 rfl (by decide) _ M.length (cellsU M) rfl HX.out.own ⟨w8.heap.size, 0, none⟩ 1 1 (cells6 ((⟨z, z % 8, [], z, 1, -1⟩ : Ut), Value.slice none 0 0)) rfl rfl (cell6U _ ((⟨z, z % 8, [], z, 1, -1⟩ : Ut), Value.slice none 0 0) _) (oneU _ _ _ _) (by unfold maxLen; omega) (by omega) (by simp; omega) ?_; intro v5 w5 ho5 hg5 hn5)
                have hd5 := HX.out.app (p := ((⟨z, z % 8, [], z, 1, -1⟩ : Ut), .slice none 0 0)) ho5 hg5 HA.out (Nat.zero_le _)
                clear HX HA ho5 hg5 hn5
                go_roundw
                case rel => exact ⟨M ++ [((⟨z, z % 8, [], z, 1, -1⟩ : Ut), .slice none 0 0)], z + 1, by simp; omega, by simp; omega, by simp; omega, rfl, hd5⟩
                case measure => simp [intOf]; omega
              · go_wp2_with fail
                go_ret
                exact ⟨M, ad2, c2, rfl, hM, hd8⟩
        · have hli : ¬ (0 : Int) < (L.length : Int) := by omega
          go_upto_region 10 with fail
          go_wp2_with fail
          refine (once_any g ao cap bs 60 _ hd.cur (by omega)).mono ?_
          rintro e w6 ⟨t6, rfl, hc6, hk6⟩
          have hd6 := hd.call hc6 hk6
          clear hd hc6 hk6
          cases t6 with
          | false =>
            go_wp2_with fail
            go_ret
            exact ⟨L, ad, c, rfl, by omega, hd6⟩
          | true =>
            have hd7 := hd6.anew
            clear hd6
            go_wp2_with fail
            go_loopw [3, 6] (fun sv iv wr => ∃ (M : List (Ut × Value)) (z : Int), M.length ≤ 301 ∧ z ≤ (M.length : Int) + 1 ∧ (M.length : Int) + 1 ≤ z ∧ iv = .int .i64 z ∧ DU w wr g ao cap bs sv M) (fun _ iv _ => 302 - (intOf iv).toNat)
            case atStart => exact ⟨[], 1, Nat.zero_le _, by simp, by simp, rfl, hd7⟩
            case round =>
              clear hd7
              obtain ⟨M, z, hM, hza, hzb, rfl, hd⟩ := hrel
              obtain ⟨ad2, c2, rfl⟩ := hd.form
              go_wp2_with fail
              refine (below_any g ao cap bs 2 _ hd.cur (by omega)).mono ?_
              rintro e w8 ⟨x8, rfl, x80, x81, hc8, hk8⟩
              have hd8 := hd.call hc8 hk8
              clear hd hc8 hk8
              by_cases hlt : z ≤ 300 + x8
              · obtain ⟨y, hy⟩ : ∃ y : Ut, y = ⟨z, z % 8, [], z, 1, -1⟩ := ⟨_, rfl⟩
                have HX := hidden (hd8.alloc (.cells #[.int .i64 z, .int .i64 (z % 8), .slice none 0 0, .int .i64 z, .int .i64 1, .int .i64 (-1)] 37))
                have HA : Hid (AOwn (w8.alloc (.cells #[.int .i64 z, .int .i64 (z % 8), .slice none 0 0, .int .i64 z, .int .i64 1, .int .i64 (-1)] 37)) w.heap.size ((⟨z, z % 8, [], z, 1, -1⟩ : Ut), .slice none 0 0)) := hidden ⟨rfl, Or.inl ⟨rfl, rfl⟩⟩
                have hsz := hd8.keep.size
                clear hd8 hy
                go_wp2_with (at_builtin; refine wpList_append_own _ rfl (.tmp 48) (.tmp 54) 25 rfl w.heap.size 37 j0 (.agg #[.int .i64 0, .int .i64 0, .slice none 0 0, .int .i64 0, .int .i64 0, .int .i64 0]) 6 64 Try.underlying25 hj0 hy0 hy1 hy2 rfl (by decide) _ M.length (cellsU M) rfl HX.out.own ⟨w8.heap.size, 0, none⟩ 1 1 (cells6 ((⟨z, z % 8, [], z, 1, -1⟩ : Ut), Value.slice none 0 0)) rfl rfl (cell6U _ ((⟨z, z % 8, [], z, 1, -1⟩ : Ut), Value.slice none 0 0) _) (oneU _ _ _ _) (by unfold maxLen; omega) (by omega) (by simp; omega) ?_; intro v5 w5 ho5 hg5 hn5)
                have hd5 := HX.out.app (p := ((⟨z, z % 8, [], z, 1, -1⟩ : Ut), .slice none 0 0)) ho5 hg5 HA.out (Nat.zero_le _)
                clear HX HA ho5 hg5 hn5
                go_roundw
                case rel => exact ⟨M ++ [((⟨z, z % 8, [], z, 1, -1⟩ : Ut), .slice none 0 0)], z + 1, by simp; omega, by simp; omega, by simp; omega, rfl, hd5⟩
                case measure => simp [intOf]; omega
              · go_wp2_with fail
                go_ret
                exact ⟨M, ad2, c2, rfl, hM, hd8⟩
end Go.Proofs.Ytaidhcbchpcemaa
