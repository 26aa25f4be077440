/-
  Acts in a row, drawn.
-/
import Derived.Test.YtamghmnibfbgaaaFi
import Derived.Test.YtamghmnibfbgaaaEc
namespace Go.Proofs.Ytamghmnibfbgaaa
open Go.RowKit Va Ba Go.Maps
set_option linter.unusedVariables false

theorem cellsA_app (l m : List Ac) : cellsL 2 csA (l ++ m) = cellsL 2 csA l ++ cellsL 2 csA m := by
  unfold cellsL; rw [List.flatMap_append]
theorem cells_rep : ∀ n : Nat, cellsL 2 csA (List.replicate n ⟨0, 0⟩) = List.replicate (n * 2) (.int .i64 0)
  | 0 => rfl
  | n + 1 => by
    have e : cellsL 2 csA (List.replicate (n + 1) ⟨0, 0⟩) = .int .i64 0 :: .int .i64 0 :: cellsL 2 csA (List.replicate n ⟨0, 0⟩) := rfl
    rw [e, cells_rep n, show (n + 1) * 2 = n * 2 + 1 + 1 by omega]
    rfl
theorem made_two (n : Nat) : (madeCells (Value.agg #[.int .i64 0, .int .i64 0]).cells (n * 2)).toList = cellsL 2 csA (List.replicate n ⟨0, 0⟩) := by
  rw [cells_rep]
  refine List.eq_replicate_iff.2 ⟨by simp [madeCells], fun b hb => ?_⟩
  simp only [madeCells, Array.toList_map, List.mem_map] at hb
  obtain ⟨i, _, rfl⟩ := hb
  have e : (Value.agg #[.int .i64 0, .int .i64 0]).cells = #[.int .i64 0, .int .i64 0] := rfl
  rw [e]
  rcases Nat.mod_two_eq_zero_or_one i with h | h <;> simp [h]
theorem cell_twoA (w : World) (a b : Value) (t : TypeId) : ∀ (j : Nat) (u : Value), [a, b][j]? = some u → (w.alloc (.cells #[a, b] t)).cell? ((⟨w.heap.size, 0, none⟩ : Addr).add j) = some u := fun j u hu => by
  have e0 := (PB.new w #[a, b] t).cell j
  rw [Addr.add_lit, Nat.zero_add, e0]
  simpa using hu
/-- The acts L at v, in a block of the call's own, beside a cursor at g. -/
structure DQ (w0 W : World) (g : Nat) (ao : Option Addr) (cap : Nat) (bs : List Int) (v : Value) (L : List Ac) : Prop where
  cur : Cur W g ao cap bs
  keep : Keep g w0 W
  own : W.ownsRow w0.heap.size 29 2 v L.length (cellsL 2 csA L)
  gg : g < w0.heap.size
section
variable {w0 W W' : World} {g cap : Nat} {ao : Option Addr} {bs : List Int} {v : Value} {L : List Ac}
theorem DQ.call (h : DQ w0 W g ao cap bs v L) (hc : Cur W' g ao cap bs) (hk : Keep g W W') : DQ w0 W' g ao cap bs v L := by
  refine ⟨hc, h.keep.trans hk, ?_, h.gg⟩
  obtain ⟨h1, h2⟩ := h.own
  refine ⟨h1, ?_⟩
  rcases h2 with h2 | ⟨b, c, cur, h2, h3, h4, h5⟩
  · exact Or.inl h2
  · have hb := (Array.getElem?_eq_some_iff.1 h4).1
    have := h.gg
    exact Or.inr ⟨b, c, cur, h2, h3, (hk.block b hb (by omega)).trans h4, h5⟩
theorem DQ.alloc (h : DQ w0 W g ao cap bs v L) (o : Obj) : DQ w0 (W.alloc o) g ao cap bs v L := h.call (h.cur.alloc o) ((Keep.refl g W).alloc o)
theorem DQ.app {v' : Value} {c : Ac} (h : DQ w0 W g ao cap bs v L) (ho : W'.ownsRow w0.heap.size 29 2 v' (L.length + 1) (cellsL 2 csA L ++ [.int .i64 c.kind, .int .i64 c.n])) (hg : W.grownBy W' v.ownBlock) : DQ w0 W' g ao cap bs v' (L ++ [c]) := by
  have hne : ∀ j, j < w0.heap.size → some j ≠ v.ownBlock := by
    intro j hj
    rcases h.own.2 with ⟨rfl, _⟩ | ⟨b, c, cur, rfl, h3, _⟩
    · simp [Value.ownBlock]
    · simp [Value.ownBlock]; omega
  have hs := h.keep.size
  have hgg := h.gg
  refine ⟨h.cur.below ⟨hg.os, hg.tape, hg.output, hg.size, fun j hj => hg.block j (by omega) (hne j (by omega))⟩, ?_, ?_, h.gg⟩
  · exact ⟨hg.os.trans h.keep.os, hg.tape.trans h.keep.tape, hg.output.trans h.keep.output, Nat.le_trans hs hg.size, fun j hj hjg => (hg.block j (by omega) (hne j hj)).trans (h.keep.block j hj hjg)⟩
  · rw [cellsA_app, List.length_append]; exact ho
end

set_option maxRecDepth 20000 in
set_option maxHeartbeats 8000000 in
theorem dplay_any (ao : Option Addr) (cap : Nat) (bs : List Int) (w : World) (hb : Bytes w w.heap.size ao bs) (hl : bs.length ≤ 1048576) :
    Calls Try.prog 17 #[.slice ao bs.length cap] w fun e w' => ∃ (l : Lm) (lf : Int) (a : Option Addr) (n k : Nat) (acs : List Ac), e = .returned (.tuple #[aL l, .int .i64 lf, .slice a n k]) ∧ Rw 2 csA w' (.slice a n k) acs ∧ acs.length ≤ 1001 ∧ Below w.heap.size w w' := by
  obtain ⟨i0, hi0, hv0, hv1, hv2⟩ := info_partsW infoAct
  have hbA : Below w.heap.size w (w.alloc (.cells #[.int .i64 0, .int .i64 0, .int .i64 0, .int .i64 0] 25)) := (Below.refl _ _).alloc (Nat.le_refl _) _
  have hby := bytes_upY hb hbA
  have hR := PB.new w #[.int .i64 0, .int .i64 0, .int .i64 0, .int .i64 0] 25
  clear hb
  go_enter Try.func17, Try.ntmps17
  go_upto_region 1 with fail
  generalize w.alloc (.cells #[.int .i64 0, .int .i64 0, .int .i64 0, .int .i64 0] 25) = wA at *
  go_wp2_with fail
  refine (new_any ao cap bs wA hby hl).mono ?_
  rintro e wN ⟨rfl, hcN, hbN⟩
  have hRg : w.heap.size < wA.heap.size := hR.lt
  have hRN := hR.below hbN
  have hbW := onto hbA hbN
  clear hR hbA hbN hby
  generalize wA.heap.size = g at *
  have hDL := fun W hW => dlimit_any g ao cap bs W hW
  unfold aL at hDL
  go_wp2_with fail
  refine (hDL _ hcN).mono ?_
  rintro e w1 ⟨l, rfl, hc1, hk1⟩
  go_upto_region 3 with fail
  have hV := PB.new w1 #[.int .i64 l.sl, .int .i64 l.sh, .int .i64 l.hl, .int .i64 l.hh] 25
  have hRV := (hRN.keep hk1 (by omega)).alloc (.cells #[.int .i64 l.sl, .int .i64 l.sh, .int .i64 l.hl, .int .i64 l.hh] 25)
  have hbV : Below w.heap.size w (w1.alloc (.cells #[.int .i64 l.sl, .int .i64 l.sh, .int .i64 l.hl, .int .i64 l.hh] 25)) := (hbW.trans (hk1.below (by omega) hbW.size)).alloc (Nat.le_trans hbW.size hk1.size) _
  have hcV := hc1.alloc (.cells #[.int .i64 l.sl, .int .i64 l.sh, .int .i64 l.hl, .int .i64 l.hh] 25)
  have hVg : w1.heap.size ≠ g := Nat.ne_of_gt hc1.1
  generalize w1.alloc (.cells #[.int .i64 l.sl, .int .i64 l.sh, .int .i64 l.hl, .int .i64 l.hh] 25) = wV at *
  generalize w1.heap.size = V at *
  clear hRN hbW hcN hc1 hk1 hDL
  go_wp2_with fail
  refine (dleft_any g ao cap bs _ hcV).mono ?_
  rintro e w3 ⟨lf, rfl, hc3, hk3⟩
  have HV := hidden (hV.keep hk3 hVg)
  have HR := hidden (hRV.keep hk3 (by omega))
  have HB := hidden (hbV.trans (hk3.below (by omega) hbV.size))
  clear hV hRV hbV hcV hk3
  have hd : DQ w3 (w3.alloc (.cells #[] 29)) g ao cap bs (.slice (some ⟨w3.heap.size, 0, none⟩) 0 0) [] := ⟨hc3.alloc _, (Keep.refl g w3).alloc _, ownW_new w3 29 2, hc3.1⟩
  go_upto_region 5 with fail
  generalize w3.alloc (.cells #[] 29) = w4 at *
  go_wp2_with fail
  refine (below_any g ao cap bs 24 _ hd.cur (by omega)).mono ?_
  rintro e w5 ⟨n5, rfl, n50, n51, hc5, hk5⟩
  have hd5 := hd.call hc5 hk5
  clear hc5 hk5 hd hc3
  obtain ⟨n5, rfl⟩ := Int.eq_ofNat_of_zero_le n50
  have hn5 : n5 ≤ 24 := by omega
  clear n50 n51
  go_wp2_with fail
  go_loopw [8, 9] (fun sv nv wr => ∃ (k : Nat) (L : List Ac) (ad : Option Addr) (c : Nat), nv = .int .i64 k ∧ L.length + k ≤ 24 ∧ sv = .slice ad L.length c ∧ DQ w3 wr g ao cap bs (.slice ad L.length c) L) (fun _ nv _ => (intOf nv).toNat)
  case atStart => exact ⟨n5, [], _, _, rfl, by simp; omega, rfl, hd5⟩
  case round =>
    clear hd5
    obtain ⟨k, L, ad, c, rfl, hLk, rfl, hd⟩ := hrel
    have hk24 : (k : Int) ≤ 24 := by omega
    have hgV : g < w3.heap.size := hd.gg
    by_cases hk0 : 0 < k
    · have hki : (0 : Int) < (k : Int) := by omega
      obtain ⟨c0, c1, c2, c3⟩ := (HV.out.keep hd.keep hVg).four
      have hDA := fun W hW => dact_any g ao cap bs l W hW
      unfold aL aAc at hDA
      have HD := hidden hd
      clear hd
      have hLL : L.length ≤ 24 := by omega
      go_wp2_with (first
        | (go_at_call 27; refine (hDA _ HD.out.cur).mono ?_; rintro e w6 ⟨x, rfl, hc6, hk6⟩; have HD6 := hidden (HD.out.call hc6 hk6); have hz6 := HD6.out.keep.size; clear hc6 hk6)
        | (at_builtin; refine wpList_append_own _ rfl (.tmp 23) (.tmp 27) 39 rfl w3.heap.size 29 i0 (.agg #[.int .i64 0, .int .i64 0]) 2 16 Try.underlying39 hi0 hv0 hv1 hv2 rfl (by decide) _ L.length (cellsL 2 csA L) rfl (HD6.out.alloc _).own ⟨w6.heap.size, 0, none⟩ 1 1 [.int .i64 x.kind, .int .i64 x.n] rfl rfl (cell_twoA _ _ _ _) (by simp [Value.oneCell']) (by unfold maxLen; omega) (by omega) (by simp; omega) ?_; intro v7 w7 ho7 hg7 hnn7; have HD7 := hidden ((HD6.out.alloc _).app ho7 hg7); obtain ⟨ad7, c7, rfl⟩ := ownW_slice ho7))
      go_roundw
      case rel => exact ⟨k - 1, L ++ [x], _, _, by congr 1; omega, by simp; omega, by rw [List.length_append]; rfl, by rw [List.length_append]; exact HD7.out⟩
      case measure => simp [intOf]; omega
    · have hki : ¬ (0 : Int) < (k : Int) := by omega
      go_wp2_with fail
      refine (once_any g ao cap bs 60 _ hd.cur (by omega)).mono ?_
      rintro e w8 ⟨t8, rfl, hc8, hk8⟩
      replace hd := hd.call hc8 hk8
      clear hc8 hk8
      have hRl := HR.out.lt
      rcases t8 with _ | _
      · have HV8 := hidden (HV.out.keep hd.keep hVg)
        have HR8 := hidden (HR.out.keep hd.keep (by omega))
        have HB8 := hidden (HB.out.trans (hd.keep.below (by omega) HB.out.size))
        have hoR : ∀ j, (Value.slice ad L.length c).ownBlock = some j → j ≠ w.heap.size := fun j hj => by have := (ownW_lt hd.own j hj).1; omega
        have HO8 := hidden hd.own
        clear hd
        obtain ⟨c0, c1, c2, c3⟩ := HV8.out.four
        obtain ⟨z0, z1, z2, z3⟩ := HR8.out.four
        have f0 := HR8.out.frozen 0
        have f1 := HR8.out.frozen 1
        have f2 := HR8.out.frozen 2
        have f3 := HR8.out.frozen 3
        have HOF := hidden (ownE_far (ownE_far (ownE_far (ownE_far HO8.out hoR 0 (.int .i64 l.sl)) hoR 1 (.int .i64 l.sh)) hoR 2 (.int .i64 l.hl)) hoR 3 (.int .i64 l.hh))
        have HRF := hidden (put_four HR8.out (.int .i64 l.sl) (.int .i64 l.sh) (.int .i64 l.hl) (.int .i64 l.hh))
        have HBF := hidden ((((HB8.out.setCell (p := ⟨w.heap.size, 0, none⟩) (Nat.le_refl _) (.int .i64 l.sl)).setCell (p := ⟨w.heap.size, 1, none⟩) (Nat.le_refl _) (.int .i64 l.sh)).setCell (p := ⟨w.heap.size, 2, none⟩) (Nat.le_refl _) (.int .i64 l.hl)).setCell (p := ⟨w.heap.size, 3, none⟩) (Nat.le_refl _) (.int .i64 l.hh))
        clear hoR
        go_wp2_with fail
        try simp only [Exit.inBlock, Exit.then]
        obtain ⟨r0, r1, r2, r3⟩ := HRF.out.four
        have HRow := hidden (own_of (cs := csA) rfl HOF.out).row
        generalize ((((w8.setCell ⟨w.heap.size, 0, none⟩ (.int .i64 l.sl)).setCell ⟨w.heap.size, 1, none⟩ (.int .i64 l.sh)).setCell ⟨w.heap.size, 2, none⟩ (.int .i64 l.hl)).setCell ⟨w.heap.size, 3, none⟩ (.int .i64 l.hh)) = wF at *
        exact bodyPost_ret (by simp [results, Try.results17, go_sem, r0, r1, r2, r3]; rfl) rfl ⟨l, lf, _, _, _, _, rfl, HRow.out, by omega, HBF.out⟩
      · go_wp2_with fail
        refine (below_any g ao cap bs 2 _ hd.cur (by omega)).mono ?_
        rintro e w9 ⟨a9, rfl, a90, a91, hc9, hk9⟩
        replace hd := hd.call hc9 hk9
        clear hc9 hk9
        obtain ⟨m, rfl⟩ := Int.eq_ofNat_of_zero_le a90
        have hm : m < 2 := by omega
        have hkW := hd.keep
        have hcW := hd.cur
        clear hd
        have hmi : (m : Int) < 2 := by omega
        go_upto_region 11 with (refine wpList_make_full _ rfl (.tmp 33) (.tmp 33) 39 rfl w9.heap.size 29 i0 (.agg #[.int .i64 0, .int .i64 0]) 2 Try.underlying39 hi0 hv0 hv1 .i64 .i64 _ _ (1000 + m) rfl rfl (by omega) (by omega) (by rw [hv2]; omega) (by unfold maxLen; omega) (Nat.le_refl _) ?_; intro w10 ho10 hg10)
        rw [made_two] at ho10
        have hb10 : Below w9.heap.size w9 w10 := (Below.refl _ w9).grown hg10 (Nat.le_refl _) (by simp)
        have hz9 := hkW.size
        have HV8 := hidden ((HV.out.keep hkW hVg).below hb10)
        have HR8 := hidden ((HR.out.keep hkW (by omega)).below hb10)
        have HB8 := hidden (onto (HB.out.trans (hkW.below (by omega) HB.out.size)) hb10)
        have hoR : ∀ j, (Value.slice (some ⟨w9.heap.size, 0, none⟩) (1000 + m) (1000 + m)).ownBlock = some j → j ≠ w.heap.size := fun j hj => by have := (ownW_lt ho10 j hj).1; omega
        have HO8 := hidden ho10
        clear ho10 hg10 hb10
        obtain ⟨c0, c1, c2, c3⟩ := HV8.out.four
        obtain ⟨z0, z1, z2, z3⟩ := HR8.out.four
        have f0 := HR8.out.frozen 0
        have f1 := HR8.out.frozen 1
        have f2 := HR8.out.frozen 2
        have f3 := HR8.out.frozen 3
        have HOF := hidden (ownE_far (ownE_far (ownE_far (ownE_far HO8.out hoR 0 (.int .i64 l.sl)) hoR 1 (.int .i64 l.sh)) hoR 2 (.int .i64 l.hl)) hoR 3 (.int .i64 l.hh))
        have HRF := hidden (put_four HR8.out (.int .i64 l.sl) (.int .i64 l.sh) (.int .i64 l.hl) (.int .i64 l.hh))
        have HBF := hidden ((((HB8.out.setCell (p := ⟨w.heap.size, 0, none⟩) (Nat.le_refl _) (.int .i64 l.sl)).setCell (p := ⟨w.heap.size, 1, none⟩) (Nat.le_refl _) (.int .i64 l.sh)).setCell (p := ⟨w.heap.size, 2, none⟩) (Nat.le_refl _) (.int .i64 l.hl)).setCell (p := ⟨w.heap.size, 3, none⟩) (Nat.le_refl _) (.int .i64 l.hh))
        clear hoR
        go_wp2_with fail
        try simp only [Exit.inBlock, Exit.then]
        obtain ⟨r0, r1, r2, r3⟩ := HRF.out.four
        have HRow := hidden (own_of (cs := csA) (by simp) HOF.out).row
        generalize ((((w10.setCell ⟨w.heap.size, 0, none⟩ (.int .i64 l.sl)).setCell ⟨w.heap.size, 1, none⟩ (.int .i64 l.sh)).setCell ⟨w.heap.size, 2, none⟩ (.int .i64 l.hl)).setCell ⟨w.heap.size, 3, none⟩ (.int .i64 l.hh)) = wF at *
        exact bodyPost_ret (by simp [results, Try.results17, go_sem, r0, r1, r2, r3]; rfl) rfl ⟨l, lf, _, _, _, _, rfl, HRow.out, by simp; omega, HBF.out⟩
end Go.Proofs.Ytamghmnibfbgaaa
