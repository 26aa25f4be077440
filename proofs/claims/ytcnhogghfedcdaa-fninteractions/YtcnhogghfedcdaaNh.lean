/-
  Rules that are drawn of a cursor.
-/
import Derived.Test.YtcnhogghfedcdaaJo
import Derived.Test.YtcnhogghfedcdaaNa
import Derived.Test.YtcnhogghfedcdaaGq
namespace Go.Proofs.Ytcnhogghfedcdaa
open Go.RowKit Va Ga
set_option linter.unusedVariables false

theorem infoRuJ : (Try.prog.info? 41).map (fun i => (i.zero, i.size, i.bytes)) = some (some (.agg #[.int .i64 0, .int .i64 0, .int .i64 0]), 3, 24) := by kernel_rfl
/-- One cell of a row of one's own is written. -/
theorem own_put {W : World} {b e s n G c j : Nat} {xs : List Value} {u : Value} (h : W.ownsRow b e s (.slice (some ⟨G, 0, none⟩) n c) n xs) (hj : j < n * s) : (∃ u, W.cell? ⟨G, j, none⟩ = some u) ∧ W.frozen? ⟨G, j, none⟩ = false ∧ (W.setCell ⟨G, j, none⟩ u).ownsRow b e s (.slice (some ⟨G, 0, none⟩) n c) n (xs.set j u) := by
  obtain ⟨q, ⟨h1, _⟩ | ⟨g, cap, cur, h1, hb, hg, hc, hm, hs, ht⟩⟩ := h
  · cases h1
  · simp only [Value.slice.injEq, Option.some.injEq, Addr.mk.injEq, and_true, true_and] at h1
    obtain ⟨rfl, rfl⟩ := h1
    have hP : PB W G cur e := hg
    have hns : n * s ≤ c * s := Nat.mul_le_mul_right s hc
    refine ⟨⟨cur[j]'(by omega), by rw [hP.cell]; exact Array.getElem?_eq_getElem (by omega)⟩, hP.frozen j, by rw [List.length_set]; exact q, .inr ⟨G, c, cur.setIfInBounds j u, rfl, hb, hP.set j u, hc, hm, by rw [Array.size_setIfInBounds]; exact hs, ?_⟩⟩
    rw [Array.toList_setIfInBounds, List.take_set, ht]
/-- The rules l at v, in a block of the call's own, beside a cursor at g. -/
structure DR (w0 W : World) (g : Nat) (ao : Option Addr) (cap : Nat) (bs : List Int) (v : Value) (l : List Ru) : Prop where
  cur : Cur W g ao cap bs
  keep : Keep g w0 W
  own : W.ownsRow w0.heap.size 41 3 v l.length (cellsL 3 csRu l)
  gg : g < w0.heap.size
section
variable {w0 W W' : World} {g cap : Nat} {ao : Option Addr} {bs : List Int} {v : Value} {l : List Ru}
theorem DR.call (h : DR w0 W g ao cap bs v l) (hc : Cur W' g ao cap bs) (hk : Keep g W W') : DR w0 W' g ao cap bs v l := ⟨hc, h.keep.trans hk, own_keep h.own hk h.gg, h.gg⟩
theorem DR.alloc (h : DR w0 W g ao cap bs v l) (o : Obj) : DR w0 (W.alloc o) g ao cap bs v l := h.call (h.cur.alloc o) ((Keep.refl g W).alloc o)
theorem DR.form (h : DR w0 W g ao cap bs v l) : ∃ a k, v = .slice a l.length k := ownW_slice h.own
theorem DR.app {v' : Value} {y : Ru} (h : DR w0 W g ao cap bs v l) (ho : W'.ownsRow w0.heap.size 41 3 v' (l.length + 1) (cellsL 3 csRu l ++ [.int .i64 y.a, .int .i64 y.b, .int .i64 y.g])) (hg : W.grownBy W' v.ownBlock) : DR w0 W' g ao cap bs v' (l ++ [y]) := by
  have h0 := ownW_lt h.own
  have hgg := h.gg
  have hb : Below w0.heap.size W W' := (Below.refl _ _).grown hg h.keep.size (fun k hk => (h0 k hk).1)
  refine ⟨h.cur.below (hb.mono hgg), ⟨hb.os.trans h.keep.os, hb.tape.trans h.keep.tape, hb.output.trans h.keep.output, Nat.le_trans h.keep.size hg.size, fun i hi hig => (hb.block i hi).trans (h.keep.block i hi hig)⟩, ?_, h.gg⟩
  rw [List.length_append, cellsL_app]
  exact ho
theorem DR.start (hc : Cur w0 g ao cap bs) : DR w0 (w0.alloc (.cells #[] 41)) g ao cap bs (.slice (some ⟨w0.heap.size, 0, none⟩) 0 0) [] :=
  ⟨hc.alloc _, (Keep.refl g w0).alloc _, ⟨rfl, .inr ⟨w0.heap.size, 0, #[], rfl, Nat.le_refl _, heap_alloc_new w0 _, Nat.le_refl _, Nat.zero_le _, rfl, rfl⟩⟩, hc.1⟩
/-- The first of the rules is made another. -/
theorem DR.first {ad : Option Addr} {c : Nat} (h : DR w0 W g ao cap bs (.slice ad l.length c) l) (hl : 0 < l.length) (y : Ru) : ∃ G, ad = some ⟨G, 0, none⟩ ∧ ((∃ u, W.cell? ⟨G, 0, none⟩ = some u) ∧ W.frozen? ⟨G, 0, none⟩ = false) ∧ ((∃ u, W.cell? ⟨G, 1, none⟩ = some u) ∧ W.frozen? ⟨G, 1, none⟩ = false) ∧ ((∃ u, W.cell? ⟨G, 2, none⟩ = some u) ∧ W.frozen? ⟨G, 2, none⟩ = false) ∧
    ∃ l' : List Ru, l'.length = l.length ∧ DR w0 (((W.setCell ⟨G, 0, none⟩ (.int .i64 y.a)).setCell ⟨G, 1, none⟩ (.int .i64 y.b)).setCell ⟨G, 2, none⟩ (.int .i64 y.g)) g ao cap bs (.slice ad l.length c) l' := by
  have hgg := h.gg
  obtain ⟨r, l, rfl⟩ : ∃ r l', l = r :: l' := by cases l with | nil => simp at hl | cons r l => exact ⟨r, l, rfl⟩
  have ho := h.own
  obtain ⟨G, rfl, hG⟩ : ∃ G, ad = some ⟨G, 0, none⟩ ∧ w0.heap.size ≤ G := by
    obtain ⟨_, ⟨h1, h2⟩ | ⟨G, c', cur, he, h3, _⟩⟩ := ho
    · simp at h2
    · simp only [Value.slice.injEq, true_and] at he
      exact ⟨G, he.1, h3⟩
  have p0 := own_put (u := .int .i64 y.a) ho (j := 0) (by simp only [List.length_cons]; omega)
  have p1 := own_put (u := .int .i64 y.b) p0.2.2 (j := 1) (by simp only [List.length_cons]; omega)
  have p2 := own_put (u := .int .i64 y.g) p1.2.2 (j := 2) (by simp only [List.length_cons]; omega)
  have q1 := own_put (u := .int .i64 y.b) ho (j := 1) (by simp only [List.length_cons]; omega)
  have q2 := own_put (u := .int .i64 y.b) ho (j := 2) (by simp only [List.length_cons]; omega)
  refine ⟨G, rfl, ⟨p0.1, p0.2.1⟩, ⟨q1.1, q1.2.1⟩, ⟨q2.1, q2.2.1⟩, y :: l, rfl, ⟨((h.cur.far (by omega) _).far (by omega) _).far (by omega) _, Keep.far (n := 0) (Keep.far (n := 0) (Keep.far (n := 0) h.keep hG _) hG _) hG _, ?_, h.gg⟩⟩
  have := p2.2.2
  exact this
end
/-- The cells of a table of rules, behind a draw. -/
theorem tab_rules (ts : List Ru) (W W' : World) (g : Nat) (hk : Keep g (W.alloc (.cells (cellsL 3 csRu ts).toArray 41)) W') (hg : g < W.heap.size) (k : Nat) (hz : k < ts.length) : ∃ y : Ru, W'.cell? ⟨W.heap.size, k * 3, none⟩ = some (.int .i64 y.a) ∧ W'.cell? ⟨W.heap.size, k * 3 + 1, none⟩ = some (.int .i64 y.b) ∧ W'.cell? ⟨W.heap.size, k * 3 + 2, none⟩ = some (.int .i64 y.g) := by
  have hx := List.getElem?_eq_getElem hz
  have e := heap_alloc_new W (.cells (cellsL 3 csRu ts).toArray 41)
  have hc : ∀ j, j < 3 → W'.cell? ⟨W.heap.size, k * 3 + j, none⟩ = some (.int .i64 (csRu ts[k] j)) := fun j hj => by
    rw [hk.cell (by simp) (by omega)]
    simp only [World.cell?, e]
    have := cellsL_get (s := 3) (cs := csRu) ts k _ hx j hj
    simpa using this
  exact ⟨ts[k], hc 0 (by omega), hc 1 (by omega), hc 2 (by omega)⟩

set_option maxRecDepth 20000 in
set_option maxHeartbeats 8000000 in
theorem drules_any (g : Nat) (ao : Option Addr) (cap : Nat) (bs : List Int) (w : World) (hc : Cur w g ao cap bs) :
    Calls Try.prog 36 #[.pointer (some ⟨g, 0, none⟩)] w fun e w' => ∃ (ad : Option Addr) (c : Nat) (l : List Ru), e = .returned (.slice ad l.length c) ∧ l.length ≤ 201 ∧ DR w w' g ao cap bs (.slice ad l.length c) l := by
  obtain ⟨i0, hi0, hv0, hv1, hv2⟩ := info_parts infoRuJ
  have hd := DR.start hc
  clear hc
  go_enter Try.func36, Try.ntmps36
  go_upto_region 2 with fail
  generalize w.alloc (.cells #[] 41) = wA at *
  generalize Value.slice (some ⟨w.heap.size, 0, none⟩) 0 0 = v0 at *
  go_wp2_with fail
  refine (below_any g ao cap bs 9 _ hd.cur (by omega)).mono ?_
  rintro e w2 ⟨x2, rfl, x20, x21, hc2, hk2⟩
  have hd2 := hd.call hc2 hk2
  clear hd hc2 hk2
  obtain ⟨n2, rfl⟩ := Int.eq_ofNat_of_zero_le x20
  go_wp2_with fail
  go_loopw [3, 4] (fun sv kv wr => ∃ (k : Nat) (l : List Ru), k + l.length ≤ 10 ∧ kv = .int .i64 k ∧ DR w wr g ao cap bs sv l) (fun _ kv _ => (intOf kv).toNat)
  case atStart => exact ⟨n2 + 2, [], by simp; omega, by congr 1; omega, hd2⟩
  case round =>
    clear hd2
    obtain ⟨k, l, hkl, rfl, hd⟩ := hrel
    obtain ⟨ad, c, rfl⟩ := hd.form
    by_cases hk0 : 0 < k
    · have hki : (0 : Int) < (k : Int) := by omega
      go_wp2_with fail
      refine (below_any g ao cap bs 6 _ hd.cur (by omega)).mono ?_
      rintro e w3 ⟨x3, rfl, x30, x31, hc3, hk3⟩
      have hd3 := hd.call hc3 hk3
      clear hd hc3 hk3
      go_wp2_with fail
      refine (below_any g ao cap bs 6 _ hd3.cur (by omega)).mono ?_
      rintro e w4 ⟨x4, rfl, x40, x41, hc4, hk4⟩
      have hd4 := hd3.call hc4 hk4
      clear hd3 hc4 hk4
      go_wp2_with fail
      refine (below_any g ao cap bs 3 _ hd4.cur (by omega)).mono ?_
      rintro e w5 ⟨x5, rfl, x50, x51, hc5, hk5⟩
      have hd5 := hd4.call hc5 hk5
      clear hd4 hc5 hk5
      have HX := hidden (hd5.alloc (.cells #[.int .i64 x3, .int .i64 x4, .int .i64 (1 + x5)] 41))
      have hszA := hd5.keep.size
      clear hd5
      go_wp2_with (at_builtin; refine wpList_append_own _ rfl (.tmp 13) (.tmp 22) 32 rfl w.heap.size 41 i0 (.agg #[.int .i64 0, .int .i64 0, .int .i64 0]) 3 24 Try.underlying32 hi0 hv0 hv1 hv2 rfl (by decide) _ l.length (cellsL 3 csRu l) rfl HX.out.own ⟨w5.heap.size, 0, none⟩ 1 1 [.int .i64 x3, .int .i64 x4, .int .i64 (1 + x5)] rfl rfl (cell3J _ _ _ _ _) (three_oneJ _ _ _) (by unfold maxLen; omega) (by omega) (by simp; omega) ?_; intro vA wA2 hoA hgA hnA)
      have hdA := HX.out.app (y := ⟨x3, x4, 1 + x5⟩) hoA hgA
      go_roundw
      case rel => exact ⟨k - 1, l ++ [⟨x3, x4, 1 + x5⟩], by simp; omega, by congr 1; omega, hdA⟩
      case measure => simp [intOf]; omega
    · have hki : ¬ (0 : Int) < (k : Int) := by omega
      go_wp2_with fail
      refine (once_any g ao cap bs 40 _ hd.cur (by omega)).mono ?_
      rintro e wu ⟨tu, rfl, hcu, hku⟩
      have hdu := hd.call hcu hku
      clear hd hcu hku
      rcases tu with _ | _
      · have hd := hdu
        clear hdu
        go_wp2_with fail
        refine (once_any g ao cap bs 60 _ hd.cur (by omega)).mono ?_
        rintro e wv ⟨tv, rfl, hcv, hkv⟩
        have hdv := hd.call hcv hkv
        clear hd hcv hkv
        rcases tv with _ | _
        · go_wp2_with fail
          go_ret
          exact ⟨_, _, l, rfl, by omega, hdv⟩
        · have HS : ∃ M : List Ru, M.length ≤ 201 ∧ DR w wv g ao cap bs (.slice ad l.length c) M := ⟨l, by omega, hdv⟩
          clear hdv
          generalize hVS : Value.slice ad l.length c = vS at *
          clear hVS
          go_wp2_with fail
          go_loopw [3] (fun v wr => ∃ M : List Ru, M.length ≤ 201 ∧ DR w wr g ao cap bs v M) (fun v _ => match v with | .slice _ n _ => 201 - n | _ => 0)
          case atStart => exact HS
          case round =>
            clear HS
            obtain ⟨M, hM, hdl⟩ := hrel
            obtain ⟨a2, c2, rfl⟩ := hdl.form
            go_wp2_with fail
            refine (below_any g ao cap bs 2 _ hdl.cur (by omega)).mono ?_
            rintro e wb ⟨yb, rfl, hb0, hb1, hcb, hkb⟩
            have hd := hdl.call hcb hkb
            clear hcb hkb hdl
            by_cases hlt : (M.length : Int) < 200 + yb
            · have hlM : M.length ≤ 200 := by omega
              have HX := hidden (hd.alloc (.cells #[.int .i64 9, .int .i64 9, .int .i64 1] 41))
              have hszA := hd.keep.size
              clear hd
              go_wp2_with (at_builtin; refine wpList_append_own _ rfl (.tmp 50) (.tmp 52) 32 rfl w.heap.size 41 i0 (.agg #[.int .i64 0, .int .i64 0, .int .i64 0]) 3 24 Try.underlying32 hi0 hv0 hv1 hv2 rfl (by decide) _ M.length (cellsL 3 csRu M) rfl HX.out.own ⟨wb.heap.size, 0, none⟩ 1 1 [.int .i64 9, .int .i64 9, .int .i64 1] rfl rfl (cell3J _ _ _ _ _) (three_oneJ _ _ _) (by unfold maxLen; omega) (by omega) (by simp; omega) ?_; intro vA wA2 hoA hgA hnA)
              have hdA := HX.out.app (y := ⟨9, 9, 1⟩) hoA hgA

              obtain ⟨a6, c6, rfl⟩ := hdA.form
              go_roundw
              case rel => exact ⟨_, by rw [List.length_append]; simp; omega, hdA⟩
              case measure => simp; omega
            · go_wp2_with fail
              go_ret
              exact ⟨_, _, M, rfl, hM, hd⟩
      by_cases hl0 : 0 < l.length
      case neg =>
        have hl1 : ¬ (0 : Int) < (l.length : Int) := by omega
        have hd := hdu
        clear hdu
        go_wp2_with fail
        refine (once_any g ao cap bs 60 _ hd.cur (by omega)).mono ?_
        rintro e wv ⟨tv, rfl, hcv, hkv⟩
        have hdv := hd.call hcv hkv
        clear hd hcv hkv
        rcases tv with _ | _
        · go_wp2_with fail
          go_ret
          exact ⟨_, _, l, rfl, by omega, hdv⟩
        · have HS : ∃ M : List Ru, M.length ≤ 201 ∧ DR w wv g ao cap bs (.slice ad l.length c) M := ⟨l, by omega, hdv⟩
          clear hdv
          generalize hVS : Value.slice ad l.length c = vS at *
          clear hVS
          go_wp2_with fail
          go_loopw [3] (fun v wr => ∃ M : List Ru, M.length ≤ 201 ∧ DR w wr g ao cap bs v M) (fun v _ => match v with | .slice _ n _ => 201 - n | _ => 0)
          case atStart => exact HS
          case round =>
            clear HS
            obtain ⟨M, hM, hdl⟩ := hrel
            obtain ⟨a2, c2, rfl⟩ := hdl.form
            go_wp2_with fail
            refine (below_any g ao cap bs 2 _ hdl.cur (by omega)).mono ?_
            rintro e wb ⟨yb, rfl, hb0, hb1, hcb, hkb⟩
            have hd := hdl.call hcb hkb
            clear hcb hkb hdl
            by_cases hlt : (M.length : Int) < 200 + yb
            · have hlM : M.length ≤ 200 := by omega
              have HX := hidden (hd.alloc (.cells #[.int .i64 9, .int .i64 9, .int .i64 1] 41))
              have hszA := hd.keep.size
              clear hd
              go_wp2_with (at_builtin; refine wpList_append_own _ rfl (.tmp 50) (.tmp 52) 32 rfl w.heap.size 41 i0 (.agg #[.int .i64 0, .int .i64 0, .int .i64 0]) 3 24 Try.underlying32 hi0 hv0 hv1 hv2 rfl (by decide) _ M.length (cellsL 3 csRu M) rfl HX.out.own ⟨wb.heap.size, 0, none⟩ 1 1 [.int .i64 9, .int .i64 9, .int .i64 1] rfl rfl (cell3J _ _ _ _ _) (three_oneJ _ _ _) (by unfold maxLen; omega) (by omega) (by simp; omega) ?_; intro vA wA2 hoA hgA hnA)
              have hdA := HX.out.app (y := ⟨9, 9, 1⟩) hoA hgA

              obtain ⟨a6, c6, rfl⟩ := hdA.form
              go_roundw
              case rel => exact ⟨_, by rw [List.length_append]; simp; omega, hdA⟩
              case measure => simp; omega
            · go_wp2_with fail
              go_ret
              exact ⟨_, _, M, rfl, hM, hd⟩
      have hl1 : (0 : Int) < (l.length : Int) := by omega
      have hdT := hdu.alloc (.cells #[.int .i64 (-1), .int .i64 1, .int .i64 1, .int .i64 63, .int .i64 64, .int .i64 1, .int .i64 1, .int .i64 1, .int .i64 0, .int .i64 1, .int .i64 1, .int .i64 4] 41)
      have hgu := hdu.cur.1
      clear hdu
      go_wp2_with fail
      refine (below_any g ao cap bs 4 _ hdT.cur (by omega)).mono ?_
      rintro e w6 ⟨a6, rfl, a60, a61, hc6, hk6⟩
      obtain ⟨k6, rfl⟩ := Int.eq_ofNat_of_zero_le a60
      have hkl6 : k6 < 4 := by omega
      obtain ⟨y, hy0, hy1, hy2⟩ := tab_rules [⟨-1, 1, 1⟩, ⟨63, 64, 1⟩, ⟨1, 1, 0⟩, ⟨1, 1, 4⟩] wu w6 g hk6 hgu k6 (by simpa using hkl6)
      have hd6 := hdT.call hc6 hk6
      clear hdT hc6 hk6
      obtain ⟨G, rfl, ⟨⟨u0, hu0⟩, hf0⟩, ⟨⟨u1, hu1⟩, hf1⟩, ⟨⟨u2, hu2⟩, hf2⟩, l', hl', hd7⟩ := hd6.first hl0 y
      have HD := hidden hd7
      clear hd6 hd7
      go_upto_region 8 with fail
      have hd := HD.out
      clear HD hu0 hu1 hu2 hf0 hf1 hf2 hy0 hy1 hy2
      generalize ((w6.setCell ⟨G, 0, none⟩ (.int .i64 y.a)).setCell ⟨G, 1, none⟩ (.int .i64 y.b)).setCell ⟨G, 2, none⟩ (.int .i64 y.g) = w7 at *
      rw [← hl'] at hd ⊢
      have hkl7 : l'.length ≤ 10 := by omega
      clear hl' hl0 hl1 hkl
      go_wp2_with fail
      refine (once_any g ao cap bs 60 _ hd.cur (by omega)).mono ?_
      rintro e wv ⟨tv, rfl, hcv, hkv⟩
      have hdv := hd.call hcv hkv
      clear hd hcv hkv
      rcases tv with _ | _
      · go_wp2_with fail
        go_ret
        exact ⟨_, _, l', rfl, by omega, hdv⟩
      · have HS : ∃ M : List Ru, M.length ≤ 201 ∧ DR w wv g ao cap bs (.slice (some ⟨G, 0, none⟩) l'.length c) M := ⟨l', by omega, hdv⟩
        clear hdv
        generalize hVS : Value.slice (some ⟨G, 0, none⟩) l'.length c = vS at *
        clear hVS
        go_wp2_with fail
        go_loopw [3] (fun v wr => ∃ M : List Ru, M.length ≤ 201 ∧ DR w wr g ao cap bs v M) (fun v _ => match v with | .slice _ n _ => 201 - n | _ => 0)
        case atStart => exact HS
        case round =>
          clear HS
          obtain ⟨M, hM, hdl⟩ := hrel
          obtain ⟨a2, c2, rfl⟩ := hdl.form
          go_wp2_with fail
          refine (below_any g ao cap bs 2 _ hdl.cur (by omega)).mono ?_
          rintro e wb ⟨yb, rfl, hb0, hb1, hcb, hkb⟩
          have hd := hdl.call hcb hkb
          clear hcb hkb hdl
          by_cases hlt : (M.length : Int) < 200 + yb
          · have hlM : M.length ≤ 200 := by omega
            have HX := hidden (hd.alloc (.cells #[.int .i64 9, .int .i64 9, .int .i64 1] 41))
            have hszA := hd.keep.size
            clear hd
            go_wp2_with (at_builtin; refine wpList_append_own _ rfl (.tmp 50) (.tmp 52) 32 rfl w.heap.size 41 i0 (.agg #[.int .i64 0, .int .i64 0, .int .i64 0]) 3 24 Try.underlying32 hi0 hv0 hv1 hv2 rfl (by decide) _ M.length (cellsL 3 csRu M) rfl HX.out.own ⟨wb.heap.size, 0, none⟩ 1 1 [.int .i64 9, .int .i64 9, .int .i64 1] rfl rfl (cell3J _ _ _ _ _) (three_oneJ _ _ _) (by unfold maxLen; omega) (by omega) (by simp; omega) ?_; intro vA wA2 hoA hgA hnA)
            have hdA := HX.out.app (y := ⟨9, 9, 1⟩) hoA hgA

            obtain ⟨a6, c6, rfl⟩ := hdA.form
            go_roundw
            case rel => exact ⟨_, by rw [List.length_append]; simp; omega, hdA⟩
            case measure => simp; omega
          · go_wp2_with fail
            go_ret
            exact ⟨_, _, M, rfl, hM, hd⟩
end Go.Proofs.Ytcnhogghfedcdaa
