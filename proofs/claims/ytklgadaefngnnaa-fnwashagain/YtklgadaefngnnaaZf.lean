/-
  A tray that is washed, loaded and passed is sterile, and dirty once used: the walk of the law.
-/
import Derived.Test.YtklgadaefngnnaaZd
import Derived.Test.YtklgadaefngnnaaWt
import Derived.Test.YtklgadaefngnnaaWy
import Derived.Test.YtklgadaefngnnaaWp
namespace Go.Proofs.Ytklgadaefngnnaa
open Go.RowKit Va Wa Go.Maps
set_option linter.all false

theorem ownF_at {w : World} {b e n c i : Nat} {ad : Option Addr} {zs : List Int} {z : Int} (h : w.ownsRow b e 1 (.slice ad n c) n (zs.map fun z => Value.int .i64 z)) (hz : zs[i]? = some z) : ∃ G, ad = some ⟨G, 0, none⟩ ∧ G < w.heap.size ∧ zs.length = n ∧ ∀ j y, zs[j]? = some y → w.cell? ⟨G, j, none⟩ = some (.int .i64 y) := by
  obtain ⟨hl, ⟨q1, q2⟩ | ⟨g, cap, cur, q1, hg, hh, h5, h6, h7, h8⟩⟩ := h
  · have := lt_of_get hz
    simp at hl; omega
  · simp only [Value.slice.injEq] at q1
    refine ⟨g, q1.1, (Array.getElem?_eq_some_iff.1 hh).1, by simpa using hl, fun j y hy => ?_⟩
    have hj := lt_of_get hy
    have e1 : (cur.toList.take (n * 1))[j]? = (zs.map fun z => Value.int .i64 z)[j]? := by rw [h8]
    rw [List.getElem?_take, if_pos (by simp at hl; omega), Array.getElem?_toList, List.getElem?_map, hy] at e1
    simp only [World.cell?, hh]
    exact e1
theorem ownF_one (w : World) (a : Int) (t : TypeId) : (w.alloc (.cells #[.int .i64 a] t)).ownsRow w.heap.size t 1 (.slice (some ⟨w.heap.size, 0, none⟩) 1 1) 1 ([a].map fun z => Value.int .i64 z) :=
  ⟨rfl, .inr ⟨w.heap.size, 1, #[.int .i64 a], rfl, Nat.le_refl _, heap_alloc_new w _, Nat.le_refl _, by unfold maxLen; omega, rfl, rfl⟩⟩

set_option maxRecDepth 20000 in
set_option maxHeartbeats 2000000 in
theorem sameZ_any (ad ad' : Option Addr) (c c' b b' e e' : Nat) (zs : List Int) (w : World) (h : w.ownsRow b e 1 (.slice ad zs.length c) zs.length (zs.map fun z => Value.int .i64 z)) (h' : w.ownsRow b' e' 1 (.slice ad' zs.length c') zs.length (zs.map fun z => Value.int .i64 z)) (hn : zs.length ≤ 1048576) :
    Calls Try.prog 33 #[.slice ad zs.length c, .slice ad' zs.length c'] w fun e w' => e = .returned (.bool true) ∧ Below w.heap.size w w' := by
  have H1 := hidden (fun i z hz => ownF_at (i := i) (z := z) h hz)
  have H2 := hidden (fun i z hz => ownF_at (i := i) (z := z) h' hz)
  clear h h'
  go_enter Try.func33, Try.ntmps33
  go_wp2_with fail
  go_loopw [5] (fun iv wr => ∃ i : Nat, i ≤ zs.length ∧ iv = .int .i64 i ∧ Below w.heap.size w wr) (fun iv _ => zs.length - (intOf iv).toNat)
  case atStart => exact ⟨0, Nat.zero_le _, rfl, Below.refl _ _⟩
  case round =>
    obtain ⟨i, hil, rfl, hb⟩ := hrel
    by_cases hlt : i < zs.length
    · have hlti : (i : Int) < (zs.length : Int) := by omega
      obtain ⟨y, hy⟩ := some_of zs i hlt
      obtain ⟨G, rfl, hG, -, hcl⟩ := H1.out i y hy
      obtain ⟨G', rfl, hG', -, hcl'⟩ := H2.out i y hy
      have hc1 := (hb.cell (p := ⟨G, i, none⟩) hG).trans (hcl i y hy)
      have hd1 := (hb.cell (p := ⟨G', i, none⟩) hG').trans (hcl' i y hy)
      clear hcl hcl' hy H1 H2
      go_wp2_with fail
      go_region_with fail
      all_goals go_wp2_with fail
      all_goals go_roundw
      all_goals first
        | exact ⟨i + 1, by omega, rfl, by first | exact hb | exact st_drew hb⟩
        | (simp [intOf]; omega)
    · have hlti : ¬ (i : Int) < (zs.length : Int) := by omega
      go_wp2_with fail
      go_ret
      exact ⟨rfl, hb⟩

/-- The history l at v, in a block of the call's own. -/
structure AS (w0 W : World) (v : Value) (l : List Stp) : Prop where
  own : W.ownsRow w0.heap.size 58 4 v l.length (cellsL 4 csT l)
  bel : Below w0.heap.size w0 W
section
variable {w0 W W' : World} {v : Value} {l : List Stp}
theorem AS.call (h : AS w0 W v l) (hb : Below W.heap.size W W') : AS w0 W' v l := ⟨ownW_below h.own hb, onto h.bel hb⟩
theorem AS.alloc (h : AS w0 W v l) (o : Obj) : AS w0 (W.alloc o) v l := h.call ((Below.refl _ _).alloc (Nat.le_refl _) o)
theorem AS.form (h : AS w0 W v l) : ∃ ad c, v = .slice ad l.length c := ownW_slice h.own
theorem AS.row (h : AS w0 W v l) : Rw 4 csT W v l := (own_of rfl h.own).row
theorem AS.app {v' : Value} {ms : List Stp} (h : AS w0 W v l) (ho : W'.ownsRow w0.heap.size 58 4 v' (l.length + ms.length) (cellsL 4 csT l ++ cellsL 4 csT ms)) (hg : W.grownBy W' v.ownBlock) : AS w0 W' v' (l ++ ms) :=
  ⟨by rw [cellsT_app, List.length_append]; exact ho, h.bel.grown hg h.bel.size (fun k hk => (ownW_lt h.own k hk).1)⟩
end
theorem row_news {w : World} {ao : Option Addr} {n cap : Nat} {l : List Stp} (h : Rw 4 csT w (.slice ao n cap) l) (h0 : 0 < l.length) : ∃ g off, ao = some ⟨g, off, none⟩ ∧ ∀ (j : Nat) (u : Value), (cellsL 4 csT l)[j]? = some u → w.cell? ((⟨g, off, none⟩ : Addr).add j) = some u := by
  obtain ⟨x, hx⟩ := some_of l 0 h0
  obtain ⟨g, off, rfl, -, -⟩ := h.at hx
  refine ⟨g, off, rfl, fun j u hu => ?_⟩
  have hj : j < l.length * 4 := by
    have := lt_of_get hu
    rwa [cellsL_len] at this
  obtain ⟨y, hy⟩ := some_of l (j / 4) (by omega)
  obtain ⟨g', off', e, -, hc⟩ := h.at hy
  obtain ⟨rfl, rfl⟩ : g = g' ∧ off = off' := by simpa using e
  have e1 := cellsL_get (s := 4) (cs := csT) l (j / 4) y hy (j % 4) (by omega)
  rw [show j / 4 * 4 + j % 4 = j from by omega] at e1
  have e2 := hc (j % 4) (by omega)
  rw [show off + j / 4 * 4 + j % 4 = off + j from by omega] at e2
  rw [e1] at hu
  rw [Addr.add_lit, e2]
  exact hu

set_option maxRecDepth 20000 in
set_option maxHeartbeats 8000000 in
theorem fwa_walk (ao : Option Addr) (cap : Nat) (bs : List Int) (w : World) (hb : Bytes w w.heap.size ao bs) :
    Calls Try.prog 7 #[.slice ao bs.length cap] w fun e w' => e = .returned (.bool true) ∧ Below w.heap.size w w' := by
  have hB := big_any ao cap bs.length
  have HBY := hidden hb
  clear hb
  by_cases hbig : (4096 : Int) < (bs.length : Int)
  · rw [decide_eq_true hbig] at hB
    go_enter Try.func7, Try.ntmps7
    go_wp2_with fail
    refine (hB _).mono ?_
    rintro e w1 ⟨rfl, rfl⟩
    go_wp2_with fail
    go_ret
    exact ⟨rfl, Below.refl _ _⟩
  rw [decide_eq_false hbig] at hB
  have hl : bs.length ≤ 4096 := by omega
  obtain ⟨i0, hi0, hy0, hy1, hy2⟩ := info_partsZ infoStp
  go_enter Try.func7, Try.ntmps7
  go_wp2_with fail
  refine (hB w).mono ?_
  rintro e w1 ⟨rfl, hw1⟩
  subst hw1
  clear hB
  go_wp2_with fail
  refine (dtraystate_any ao cap bs _ HBY.out (by omega)).mono ?_
  rintro e w2 ⟨ad, c, l, n, rfl, hq2, hl2, hf2, hn2, b2⟩
  go_wp2_with fail
  refine (ssteps_any ad _ c l _ hq2 (by omega)).mono ?_
  rintro e w3 ⟨rfl, hb3⟩
  have hq3 := hq2.below hb3
  have b3 := onto b2 hb3
  clear hq2 b2 hb3 HBY
  by_cases hcase : ssB l = true ∧ l.length ≤ 900
  · obtain ⟨hs, hl9⟩ := hcase
    have hl9i : ¬ (900 : Int) < (l.length : Int) := by omega
    rw [hs]
    go_wp2_with fail
    refine (itraystate_any ad _ c l 1 _ hq3 (by omega)).mono ?_
    rintro e w4 ⟨rfl, hb4⟩
    have hq4 := hq3.below hb4
    have b4 := onto b3 hb4
    clear hq3 b3 hb4
    go_wp2_with fail
    refine (straystate_any ad _ c l 1 _ hq4 (by omega)).mono ?_
    rintro e w5 ⟨rfl, hb5⟩
    have hq5 := hq4.below hb5
    have b5 := onto b4 hb5
    clear hq4 b4 hb5
    have HA := hidden (fun h => And.intro (again_state1 hs hl9 hf2 h) (And.intro (again_state3 hs hl9 hf2 h) (And.intro (again_state4 hs hl9 hf2 h) (And.intro (again_touched hs hl9 hf2 h) (again_cycles hs hl9 hf2 h)))))
    by_cases h2 : trayState l 1 = 2
    · rw [h2]
      have k5 := straystate_any ad _ c l 1 _ hq5 (by omega)
      rw [h2] at k5
      clear HA h2
      go_wp2_with fail
      refine k5.mono ?_
      rintro e w6 ⟨rfl, hb6⟩
      go_wp2_with fail
      go_ret
      exact ⟨rfl, onto b5 hb6⟩
    · obtain ⟨A1, A3, A4, AT, AC⟩ := HA.out h2
      have h2b : (trayState l 1 == 2) = false := by simpa using h2
      obtain ⟨m1, hm1⟩ : ∃ m1, m1 = l ++ [wash1] := ⟨_, rfl⟩
      obtain ⟨m3, hm3⟩ : ∃ m3, m3 = l ++ [wash1, load1, pass1] := ⟨_, rfl⟩
      obtain ⟨m4, hm4⟩ : ∃ m4, m4 = l ++ [wash1, load1, pass1, use1] := ⟨_, rfl⟩
      have HE1 := hidden hm1
      have HE3 : Hid (m1 ++ [load1, pass1] = m3) := by rw [Hid, hm1, hm3, List.append_assoc]; rfl
      have HE4 : Hid (m3 ++ [use1] = m4) := by rw [Hid, hm3, hm4, List.append_assoc]; rfl
      have g1 : m1.length ≤ 901 := by rw [hm1]; simp; omega
      have g3 : m3.length ≤ 903 := by rw [hm3]; simp; omega
      have g4 : m4.length ≤ 904 := by rw [hm4]; simp; omega
      rw [← hm1] at A1
      rw [← hm3] at A3
      rw [← hm4] at A4 AT AC
      clear HA h2 hs hf2 hm1 hm3 hm4
      generalize trayState l 1 = s at *
      have HQ := hidden hq5
      have B5 := hidden b5
      have HN := hidden hn2
      clear hq5 b5 hn2
      go_upto_region 9 with fail
      go_cut [6] (fun v wx => AS w5 wx v m1)
      case first =>
        by_cases hl0 : l.length = 0
        · have HL0 := hidden hl0
          have HNL : Hid (l = []) := List.length_eq_zero_iff.1 hl0
          clear hl0
          go_wp2_with (first
            | (at_builtin; refine wpList_append_fits_any _ rfl (.tmp 44) (.tmp 45) 53 rfl w5.heap.size 58 i0 4 Try.underlying53 hi0 hy1 w5.heap.size 0 0 [] rfl (ownW_new w5 58 4) ad l.length c [] rfl (by rw [HL0.out]; rfl) (fun e => HN.out e) (fun ad _ j u hu => by cases hu) (fun u hu => by cases hu) (by rw [HL0.out]; exact Nat.le_refl _) ?_; intro w6 ho6 hg6; have a6 : AS w5 w6 (.slice (some ⟨w5.heap.size, 0, none⟩) l.length 0) l := ⟨by rw [HNL.out] at ho6 ⊢; exact ho6, ((Below.refl _ w5).alloc (Nat.le_refl _) (.cells #[] 58)).grown hg6 (by simp) (fun k hk => by cases hk; exact Nat.le_refl _)⟩; clear ho6 hg6)
            | (at_builtin; refine wpList_append_own _ rfl (.tmp 46) (.tmp 48) 53 rfl w5.heap.size 58 i0 (.agg #[.int .i64 0, .int .i64 0, .int .i64 0, .int .i64 0]) 4 32 Try.underlying53 hi0 hy0 hy1 hy2 rfl (by decide) _ l.length (cellsL 4 csT l) rfl (a6.alloc _).own ⟨w6.heap.size, 0, none⟩ 1 1 [.int .i64 1, .int .i64 1, .int .i64 0, .int .i64 0] rfl rfl (cell_list_new _ _ _) (cellsT_one [wash1]) (by unfold maxLen; omega) (by omega) (by have := a6.bel.size; simp; omega) ?_; intro v7 w7 ho7 hg7 hn7; have a7 := (a6.alloc _).app (ms := [wash1]) ho7 hg7; clear ho7 hg7 hn7))
          go_meet
          case rel => rw [HE1.out]; exact a7
        · have hl1 : 0 < l.length := by omega
          obtain ⟨g, off, rfl, hnews⟩ := row_news HQ.out hl1
          have HNW : Hid (∀ (o : Obj) (j : Nat) (u : Value), (cellsL 4 csT l)[j]? = some u → (w5.alloc o).cell? ((⟨g, off, none⟩ : Addr).add j) = some u) := fun o => by
            obtain ⟨g', off', e, h⟩ := row_news (HQ.out.below ((Below.refl _ w5).alloc (Nat.le_refl _) o)) hl1
            obtain ⟨rfl, rfl⟩ : g = g' ∧ off = off' := by simpa using e
            exact h
          clear hl0 hnews
          go_wp2_with (first
            | (at_builtin; refine wpList_append_own _ rfl (.tmp 44) (.tmp 45) 53 rfl w5.heap.size 58 i0 (.agg #[.int .i64 0, .int .i64 0, .int .i64 0, .int .i64 0]) 4 32 Try.underlying53 hi0 hy0 hy1 hy2 rfl (by decide) _ 0 [] rfl (ownW_new w5 58 4) ⟨g, off, none⟩ l.length c (cellsL 4 csT l) rfl (cellsL_len _) (HNW.out _) (cellsT_one l) (by unfold maxLen; omega) (by omega) (by simp) ?_; intro v6 w6 ho6 hg6 hn6; have a6 : AS w5 w6 v6 l := ⟨by simpa only [Nat.zero_add, List.nil_append] using ho6, ((Below.refl _ w5).alloc (Nat.le_refl _) (.cells #[] 58)).grown hg6 (by simp) (fun k hk => by cases hk; exact Nat.le_refl _)⟩; obtain ⟨ad6, c6, rfl⟩ := a6.form; clear ho6 hg6 hn6)
            | (at_builtin; refine wpList_append_own _ rfl (.tmp 46) (.tmp 48) 53 rfl w5.heap.size 58 i0 (.agg #[.int .i64 0, .int .i64 0, .int .i64 0, .int .i64 0]) 4 32 Try.underlying53 hi0 hy0 hy1 hy2 rfl (by decide) _ l.length (cellsL 4 csT l) rfl (a6.alloc _).own ⟨w6.heap.size, 0, none⟩ 1 1 [.int .i64 1, .int .i64 1, .int .i64 0, .int .i64 0] rfl rfl (cell_list_new _ _ _) (cellsT_one [wash1]) (by unfold maxLen; omega) (by omega) (by have := a6.bel.size; simp; omega) ?_; intro v7 w7 ho7 hg7 hn7; have a7 := (a6.alloc _).app (ms := [wash1]) ho7 hg7; clear ho7 hg7 hn7))
          go_meet
          case rel => rw [HE1.out]; exact a7
      case rest =>
        have a7 := hcut
        clear hcut HQ
        obtain ⟨ad7, c7, rfl⟩ := a7.form
        have k7 := itraystate_any ad7 _ c7 _ 1 _ a7.row (by omega)
        rw [A1] at k7
        go_wp2_with fail
        refine k7.mono ?_
        rintro e w8 ⟨rfl, hb8⟩
        have a8 := a7.call hb8
        clear a7 hb8 k7 A1
        go_wp2_with (at_builtin; refine wpList_append_own _ rfl (.tmp 53) (.tmp 56) 53 rfl w5.heap.size 58 i0 (.agg #[.int .i64 0, .int .i64 0, .int .i64 0, .int .i64 0]) 4 32 Try.underlying53 hi0 hy0 hy1 hy2 rfl (by decide) _ m1.length (cellsL 4 csT m1) rfl (a8.alloc _).own ⟨w8.heap.size, 0, none⟩ 2 2 [.int .i64 2, .int .i64 1, .int .i64 900, .int .i64 0, .int .i64 3, .int .i64 0, .int .i64 900, .int .i64 0] rfl rfl (cell_list_new _ _ _) (cellsT_one [load1, pass1]) (by unfold maxLen; omega) (by omega) (by have := a8.bel.size; simp; omega) ?_; intro vA wA hoA hgA hnA; have aA := (a8.alloc _).app (ms := [load1, pass1]) hoA hgA; rw [HE3.out] at aA; obtain ⟨adA, cA, rfl⟩ := aA.form; clear hoA hgA hnA)
        have kA := itraystate_any adA _ cA _ 1 _ aA.row (by omega)
        rw [A3] at kA
        refine kA.mono ?_
        rintro e wB ⟨rfl, hbB⟩
        have aB := aA.call hbB
        clear hbB kA A3
        go_wp2_with (at_builtin; refine wpList_append_own _ rfl (.tmp 61) (.tmp 63) 53 rfl w5.heap.size 58 i0 (.agg #[.int .i64 0, .int .i64 0, .int .i64 0, .int .i64 0]) 4 32 Try.underlying53 hi0 hy0 hy1 hy2 rfl (by decide) _ m3.length (cellsL 4 csT m3) rfl (aB.alloc _).own ⟨wB.heap.size, 0, none⟩ 1 1 [.int .i64 5, .int .i64 1, .int .i64 0, .int .i64 77] rfl rfl (cell_list_new _ _ _) (cellsT_one [use1]) (by unfold maxLen; omega) (by omega) (by have := aB.bel.size; simp; omega) ?_; intro vC wC hoC hgC hnC; have aC := (aB.alloc _).app (ms := [use1]) hoC hgC; rw [HE4.out] at aC; obtain ⟨adC, cC, rfl⟩ := aC.form; clear hoC hgC hnC)
        have kC := itraystate_any adC _ cC _ 1 _ aC.row (by omega)
        rw [A4] at kC
        refine kC.mono ?_
        rintro e wD ⟨rfl, hbD⟩
        have aD := aC.call hbD
        clear aC hbD kC A4
        have kD := itouched_any adC _ cC _ 900 _ aD.row (by omega)
        rw [AT] at kD
        go_wp2_with fail
        refine kD.mono ?_
        rintro e wE ⟨vE, rfl, hoE, hbE⟩
        obtain ⟨adE, cE, rfl⟩ := ownW_slice hoE
        have aE := aD.call hbE
        clear aD hbE kD AT
        have kS := sameZ_any adE (some ⟨wE.heap.size, 0, none⟩) cE 1 _ _ 2 2 [77] _ (ownW_below hoE ((Below.refl _ wE).alloc (Nat.le_refl _) (.cells #[.int .i64 77] 2))) (ownF_one wE 77 2) (by simp)
        go_wp2_with fail
        refine kS.mono ?_
        rintro e wF ⟨rfl, hbF⟩
        have aF := (aE.alloc (.cells #[.int .i64 77] 2)).call hbF
        clear aE hbF kS hoE
        have kF := icycleson_any adC _ cC _ 77 _ aF.row (by omega)
        rw [AC] at kF
        go_wp2_with fail
        refine kF.mono ?_
        rintro e wG ⟨vG, rfl, hoG, hbG⟩
        obtain ⟨adG, cG, rfl⟩ := ownW_slice hoG
        have aG := aF.call hbG
        clear aF hbG kF AC
        have kT := sameZ_any adG (some ⟨wG.heap.size, 0, none⟩) cG 1 _ _ 2 2 [900] _ (ownW_below hoG ((Below.refl _ wG).alloc (Nat.le_refl _) (.cells #[.int .i64 900] 2))) (ownF_one wG 900 2) (by simp)
        go_wp2_with fail
        refine kT.mono ?_
        rintro e wH ⟨rfl, hbH⟩
        have aH := (aG.alloc (.cells #[.int .i64 900] 2)).call hbH
        clear aG hbH kT hoG
        go_wp2_with fail
        go_ret
        exact ⟨rfl, B5.out.trans (aH.bel.mono B5.out.size)⟩
  · have hcond : (!(ssB l) || decide ((900 : Int) < (l.length : Int))) = true := by
      rcases Classical.em (ssB l = true) with q | q
      · have : ¬ l.length ≤ 900 := fun z => hcase ⟨q, z⟩
        simp; right; omega
      · simp at q; simp [q]
    have k3 := itraystate_any ad _ c l 1 _ hq3 (by omega)
    cases hs : ssB l with
    | false =>
      go_wp2_with fail
      refine k3.mono ?_
      rintro e w4 ⟨rfl, hb4⟩
      have hq4 := hq3.below hb4
      have b4 := onto b3 hb4
      clear hq3 b3 hb4
      go_wp2_with fail
      refine (straystate_any ad _ c l 1 _ hq4 (by omega)).mono ?_
      rintro e w5 ⟨rfl, hb5⟩
      generalize trayState l 1 = s at *
      go_wp2_with fail
      go_ret
      exact ⟨rfl, onto b4 hb5⟩
    | true =>
      have hl9 : (900 : Int) < (l.length : Int) := by
        have : ¬ l.length ≤ 900 := fun z => hcase ⟨hs, z⟩
        omega
      go_wp2_with fail
      refine k3.mono ?_
      rintro e w4 ⟨rfl, hb4⟩
      have hq4 := hq3.below hb4
      have b4 := onto b3 hb4
      clear hq3 b3 hb4
      go_wp2_with fail
      refine (straystate_any ad _ c l 1 _ hq4 (by omega)).mono ?_
      rintro e w5 ⟨rfl, hb5⟩
      generalize trayState l 1 = s at *
      go_wp2_with fail
      go_ret
      exact ⟨rfl, onto b4 hb5⟩
end Go.Proofs.Ytklgadaefngnnaa
