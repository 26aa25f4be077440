/-
  What the program's Touched and CyclesOn answer.
-/
import Derived.Test.YtklgadaefngnnaaShelf
import Derived.Test.YtklgadaefngnnaaWx
import Derived.Test.YtklgadaefngnnaaWr
import Derived.Shelf.SortM.SortNone
import Derived.Lib.OwnBridge
import Derived.Lib.AppendIntMem
namespace Go.Proofs.Ytklgadaefngnnaa
open Go.RowKit Va Wa Go.Maps Go.Sort Go.Shelf
set_option linter.unusedVariables false

theorem sortW_any (g cap base : Nat) (zs : List Int) (w : World) (hl : zs.length ≤ 1000000) (hrow : w.ownsRow base 2 1 (.slice (some ⟨g, 0, none⟩) zs.length cap) zs.length (zs.map (Value.int .i64))) :
    Calls Try.prog 104 #[.slice (some ⟨g, 0, none⟩) zs.length cap] w fun e w' => e = .returned (.tuple #[]) ∧ w'.ownsRow base 2 1 (.slice (some ⟨g, 0, none⟩) zs.length cap) zs.length ((zs.mergeSort (fun x y => decide (x ≤ y))).map (Value.int .i64)) ∧ (∀ w0, Below base w0 w → Below base w0 w') := by
  obtain ⟨g', cap', e0, hbg, hgl, _, _, _, hH⟩ := Go.Lib.holds_of_ownsRow hrow (by simp)
  obtain ⟨rfl, rfl⟩ : g = g' ∧ cap = cap' := by simpa using e0
  have hS := AnyM.slices_Sort_int Try.srtL g 0 cap zs w hH hgl (by omega)
  refine hS.mono ?_
  rintro e w' ⟨rfl, q, os, rfl⟩
  have ho := Go.Lib.ownsRow_putRow (q := q) (k := zs.length) (ys := zs.mergeSort (fun x y => decide (x ≤ y))) hrow (by simp) (Nat.le_refl _)
  rw [List.take_of_length_le (by simp)] at ho
  refine ⟨rfl, Go.Lib.ownsRow_grow ho 0 os, fun w0 hb0 => ?_⟩
  exact (Go.Lib.below_putRow hb0 hbg).trans (Go.Lib.below_grow base _ (by simp [putRow, mapBlock, Sort.ahead]; omega) 0 os)
theorem compW_any (g cap base : Nat) (zs : List Int) (w : World) (hl : zs.length ≤ 1000000) (hrow : w.ownsRow base 2 1 (.slice (some ⟨g, 0, none⟩) zs.length cap) zs.length (zs.map (Value.int .i64))) :
    Calls Try.prog 105 #[.slice (some ⟨g, 0, none⟩) zs.length cap] w fun e w' => e = .returned (.slice (some ⟨g, 0, none⟩) (Go.Lib.compact zs).length cap) ∧ w'.ownsRow base 2 1 (.slice (some ⟨g, 0, none⟩) (Go.Lib.compact zs).length cap) (Go.Lib.compact zs).length ((Go.Lib.compact zs).map (Value.int .i64)) ∧ (∀ w0, Below base w0 w → Below base w0 w') := by
  obtain ⟨g', cap', e0, hbg, hgl, hcp, _, _, hH⟩ := Go.Lib.holds_of_ownsRow hrow (by simp)
  obtain ⟨rfl, rfl⟩ : g = g' ∧ cap = cap' := by simpa using e0
  have hS := AnyG.slices_Compact_int Try.cmpL g 0 cap zs w hH (by omega) hcp
  have hcl : (Go.Lib.compact zs).length ≤ zs.length := by
    unfold Go.Lib.compact Go.Lib.compactUpTo
    rw [List.length_map]
    have := List.length_filter_le (Go.Lib.keeps zs.toArray) (List.range zs.length)
    simpa using this
  refine hS.mono ?_
  rintro e w' ⟨rfl, q, rfl⟩
  have ho := Go.Lib.ownsRow_putRow (q := q) (k := (Go.Lib.compact zs).length) (ys := Go.Lib.compact zs ++ List.replicate (zs.length - (Go.Lib.compact zs).length) 0) hrow (by simp; omega) hcl
  rw [List.take_left'  rfl] at ho
  exact ⟨rfl, ho, fun w0 hb0 => Go.Lib.below_putRow hb0 hbg⟩
theorem ownY_base {w : World} {b b' e s n : Nat} {v : Value} {xs : List Value} (h : w.ownsRow b e s v n xs) (hb : b' ≤ b) : w.ownsRow b' e s v n xs := by
  obtain ⟨q, ⟨q1, q2⟩ | ⟨g, c, cur, rfl, hg, r⟩⟩ := h
  · exact ⟨q, Or.inl ⟨q1, q2⟩⟩
  · exact ⟨q, Or.inr ⟨g, c, cur, rfl, Nat.le_trans hb hg, r⟩⟩
theorem ownY_grown {w w' : World} {base e s n : Nat} {v : Value} {xs : List Value} {row : Option Nat} (h : w.ownsRow base e s v n xs) (hg : w.grownBy w' row) (hne : ∀ k, v.ownBlock = some k → some k ≠ row) : w'.ownsRow base e s v n xs := by
  obtain ⟨q, ⟨q1, q2⟩ | ⟨g, c, cur, rfl, hb, hh, r⟩⟩ := h
  · exact ⟨q, Or.inl ⟨q1, q2⟩⟩
  · exact ⟨q, Or.inr ⟨g, c, cur, rfl, hb, (hg.block g (Array.getElem?_eq_some_iff.1 hh).1 (hne g rfl)).trans hh, r⟩⟩
theorem ownY_apart {w : World} {b1 b2 e1 e2 s1 s2 n1 n2 : Nat} {v1 v2 : Value} {xs ys : List Value} (h1 : w.ownsRow b1 e1 s1 v1 n1 xs) (h2 : w.ownsRow b2 e2 s2 v2 n2 ys) (he : e1 ≠ e2) : ∀ k, v1.ownBlock = some k → some k ≠ v2.ownBlock := by
  obtain ⟨_, ⟨rfl, _⟩ | ⟨g, c, cur, rfl, hb, hh, _⟩⟩ := h1
  · intro k hk; cases hk
  · obtain ⟨_, ⟨rfl, _⟩ | ⟨g2, c2, cur2, rfl, hb2, hh2, _⟩⟩ := h2
    · intro k hk e; cases e
    · intro k hk e
      cases hk
      have e2 : g = g2 := Option.some.inj e
      rw [← e2, hh] at hh2
      have := Option.some.inj hh2
      simp only [Obj.cells.injEq] at this
      exact he this.2.1
theorem cell_overW (w : World) (o : Obj) (a : Value) (t : TypeId) : ∀ (j : Nat) (u : Value), [a][j]? = some u → ((w.alloc o).alloc (.cells #[a] t)).cell? ((⟨w.heap.size + 1, 0, none⟩ : Addr).add j) = some u := fun j u hu => by
  have := cell_oneW (w.alloc o) a t j u hu
  simpa using this

set_option maxRecDepth 20000 in
set_option maxHeartbeats 4000000 in
theorem rising_any (ad : Option Addr) (cap base : Nat) (zs : List Int) (w : World) (hl : zs.length ≤ 1000000) (hrow : w.ownsRow base 2 1 (.slice ad zs.length cap) zs.length (zs.map fun z => Value.int .i64 z)) :
    Calls Try.prog 69 #[.slice ad zs.length cap] w fun e w' => e = .returned (.slice ad (rise zs).length cap) ∧ w'.ownsRow base 2 1 (.slice ad (rise zs).length cap) (rise zs).length ((rise zs).map fun z => Value.int .i64 z) ∧ (∀ w0, Below base w0 w → Below base w0 w') := by
  by_cases hz : zs = []
  · subst hz
    have k1 := fun W => AnyM.slices_Sort_int_none Try.srtL ad cap W
    have k2 := fun W => AnyG.slices_Compact_int_empty Try.cmpL ad cap W
    have HR := hidden hrow
    clear hrow hl
    simp only [rise_nil]
    simp only [List.length_nil] at *
    go_enter Try.func69, Try.ntmps69
    go_wp2_with (first
      | (go_at_call 104; refine (k1 _).mono ?_; rintro e w1 ⟨rfl, rfl⟩)
      | (go_at_call 105; refine (k2 _).mono ?_; rintro e w2 ⟨rfl, rfl⟩))
    go_ret
    exact ⟨rfl, HR.out, fun w0 h => h⟩
  · have hpos : 0 < zs.length := List.length_pos_iff.2 hz
    obtain ⟨g, rfl⟩ : ∃ g, ad = some ⟨g, 0, none⟩ := by
      obtain ⟨g', cap', e0, -⟩ := Go.Lib.holds_of_ownsRow hrow (by intro e; simp only [Value.slice.injEq] at e; omega)
      exact ⟨g', by simpa using (show _ ∧ _ from by simpa using e0).1⟩
    have k1 := sortW_any g cap base zs w hl hrow
    have k2 := fun W (hW : W.ownsRow base 2 1 (.slice (some ⟨g, 0, none⟩) zs.length cap) zs.length ((zs.mergeSort (fun x y => decide (x ≤ y))).map (Value.int .i64))) => compW_any g cap base (zs.mergeSort (fun x y => decide (x ≤ y))) W (by rw [List.length_mergeSort]; exact hl) (by rw [List.length_mergeSort]; exact hW)
    simp only [List.length_mergeSort] at k2
    change ∀ W, _ → Calls Try.prog _ _ W fun e w' => e = .returned (.slice (some ⟨g, 0, none⟩) (rise zs).length cap) ∧ w'.ownsRow base 2 1 (.slice (some ⟨g, 0, none⟩) (rise zs).length cap) (rise zs).length ((rise zs).map (Value.int .i64)) ∧ (∀ w0, Below base w0 W → Below base w0 w') at k2
    clear hrow hz
    generalize rise zs = R at *
    go_enter Try.func69, Try.ntmps69
    go_wp2_with (first
      | (go_at_call 104; refine k1.mono ?_; rintro e w1 ⟨rfl, ho1, hb1⟩)
      | (go_at_call 105; refine (k2 _ ho1).mono ?_; rintro e w2 ⟨rfl, ho2, hb2⟩))
    go_ret
    exact ⟨rfl, ho2, fun w0 h => hb2 _ (hb1 _ h)⟩

set_option maxRecDepth 20000 in
set_option maxHeartbeats 4000000 in
theorem itouched_any (ao : Option Addr) (n cap : Nat) (l : List Stp) (a : Int) (w : World) (h : Rw 4 csT w (.slice ao n cap) l) (hn : l.length ≤ 1048576) :
    Calls Try.prog 27 #[.slice ao n cap, .int .i64 a] w fun e w' => ∃ v, e = .returned v ∧ w'.ownsRow w.heap.size 2 1 v (touched l a).length ((touched l a).map fun z => Value.int .i64 z) ∧ Below w.heap.size w w' := by
  obtain rfl := h.len
  have k1 := fun W (hW : Below w.heap.size w W) => iuses_any ao l.length cap l W (h.below hW) hn
  have hul := uses_len l
  obtain ⟨i0, hi0, hv0, hv1, hv2⟩ := info_partsW infoW64
  have HF : Hid (touched l a = rise (persL (uses l) a)) := touched_rise l a
  clear h
  go_enter Try.func27, Try.ntmps27
  go_wp2_with (go_at_call 68; refine (k1 _ (by repeat (first | exact Below.refl _ _ | assumption | refine st_drew ?_ | refine st_drewN ?_ _ | refine Below.setCell ?_ (by first | omega | (simp; done) | (simp; omega)) _ | refine Below.alloc ?_ (by first | omega | (simp; done) | (simp; omega)) _))).mono ?_; rintro e w1 ⟨ad, c, rfl, ho1, hb1⟩; have hq1 := ownW_below (ownW_new w 2 1) hb1; have bA := onto (show Below w.heap.size w _ from by repeat (first | exact Below.refl _ _ | assumption | refine st_drew ?_ | refine st_drewN ?_ _ | refine Below.setCell ?_ (by first | omega | (simp; done) | (simp; omega)) _ | refine Below.alloc ?_ (by first | omega | (simp; done) | (simp; omega)) _)) hb1)
  have HR := hidden (ownY_base ho1 (Nat.zero_le _))
  generalize uses l = U at *
  clear k1 ho1 hb1
  go_loopw [5, 12] (fun sv iv wr => ∃ (i : Nat) (P : List Int), i ≤ U.length ∧ iv = .int .i64 i ∧ Hid (P = persL (U.take i) a) ∧ (∃ ad c, sv = .slice ad P.length c ∧ wr.ownsRow w.heap.size 2 1 (.slice ad P.length c) P.length (P.map fun z => Value.int .i64 z)) ∧ Below w.heap.size w wr ∧ wr.ownsRow 0 105 3 (.slice ad U.length c) U.length (cellsL 3 csU U)) (fun _ iv _ => U.length - (intOf iv).toNat)
  case atStart => exact ⟨0, [], Nat.zero_le _, rfl, rfl, ⟨_, _, rfl, hq1⟩, bA, HR.out⟩
  case round =>
    clear hq1 HR
    have hsz1 := bA.size
    clear bA
    obtain ⟨i, P, hi, rfl, HP, ⟨ad2, cc2, rfl, ho⟩, hb, hr⟩ := hrel
    have hsz := hb.size
    have hPl : P.length ≤ i := by rw [HP.out]; exact pers_len U a i
    by_cases hlt : i < U.length
    · have hlti : (i : Int) < (U.length : Int) := by omega
      obtain ⟨x, hx⟩ := some_of U i hlt
      obtain ⟨g, off, rfl, hg, c0, c1, c2⟩ := use_cells (own_of (cs := csU) rfl hr).row hx
      have HRR := hidden hr
      have HO := hidden ho
      by_cases q : x.cyc = a
      · have HQ : Hid (persL (U.take (i + 1)) a = P ++ [x.per]) := by rw [Hid, pers_yes hx q, HP.out]
        rw [q] at c1
        clear hx q ho hr
        generalize x.per = y at *
        go_wp2_with (at_builtin; refine wpList_append_own _ rfl (.tmp 20) (.tmp 23) 40 rfl w.heap.size 2 i0 (.int .i64 0) 1 8 Try.underlying40 hi0 hv0 hv1 hv2 rfl (by decide) _ P.length (P.map fun z => Value.int .i64 z) rfl ((HO.out.alloc _).alloc _) ⟨wr.heap.size + 1, 0, none⟩ 1 1 [.int .i64 y] rfl rfl (cell_overW _ _ _ _) (by simp [Value.oneCell']) (by unfold maxLen; omega) (by omega) (by simp; omega) ?_; intro v5 w5 ho5 hg5 hn5; obtain ⟨ad5, c5, rfl⟩ := ownW_slice ho5)
        have hap := ownY_apart ((HRR.out.alloc (.cells #[.int .i64 x.at', .int .i64 a, .int .i64 y] 105)).alloc (.cells #[.int .i64 y] 2)) ((HO.out.alloc (.cells #[.int .i64 x.at', .int .i64 a, .int .i64 y] 105)).alloc (.cells #[.int .i64 y] 2)) (by decide)
        have hr5 := ownY_grown ((HRR.out.alloc (.cells #[.int .i64 x.at', .int .i64 a, .int .i64 y] 105)).alloc (.cells #[.int .i64 y] 2)) hg5 hap
        have b5 := (show Below w.heap.size w _ from by repeat (first | exact Below.refl _ _ | assumption | refine st_drew ?_ | refine st_drewN ?_ _ | refine Below.setCell ?_ (by first | omega | (simp; done) | (simp; omega)) _ | refine Below.alloc ?_ (by first | omega | (simp; done) | (simp; omega)) _)).grown hg5 (by simp; omega) (fun k hk => (ownW_lt HO.out k hk).1)
        go_roundw
        case rel => exact ⟨i + 1, P ++ [y], by omega, rfl, HQ.out.symm, ⟨_, _, by rw [List.length_append]; rfl, by rw [List.length_append, List.map_append]; exact ho5⟩, b5, hr5⟩
        case measure => simp [intOf]; omega
      · have HQ : Hid (persL (U.take (i + 1)) a = P) := by rw [Hid, pers_no hx q, HP.out]
        have qb : (x.cyc == a) = false := by simp [q]
        clear hx q ho hr
        generalize x.cyc = y at *
        go_wp2_with fail
        go_roundw
        case rel => exact ⟨i + 1, P, by omega, rfl, HQ.out.symm, ⟨_, _, rfl, ownW_below HO.out (by repeat (first | exact Below.refl _ _ | refine st_drew ?_ | refine st_drewN ?_ _ | refine Below.setCell ?_ (by first | omega | (simp; done) | (simp; omega)) _ | refine Below.alloc ?_ (by first | omega | (simp; done) | (simp; omega)) _))⟩, by repeat (first | exact Below.refl _ _ | assumption | refine st_drew ?_ | refine st_drewN ?_ _ | refine Below.setCell ?_ (by first | omega | (simp; done) | (simp; omega)) _ | refine Below.alloc ?_ (by first | omega | (simp; done) | (simp; omega)) _), ownW_below HRR.out (by repeat (first | exact Below.refl _ _ | refine st_drew ?_ | refine st_drewN ?_ _ | refine Below.setCell ?_ (by first | omega | (simp; done) | (simp; omega)) _ | refine Below.alloc ?_ (by first | omega | (simp; done) | (simp; omega)) _))⟩
        case measure => simp [intOf]; omega
    · have hlti : ¬ (i : Int) < (U.length : Int) := by omega
      have hin : i = U.length := by omega
      subst hin
      have HP2 : Hid (P = persL U a) := by rw [Hid, HP.out, List.take_length]
      have k2 := rising_any ad2 cc2 w.heap.size P wr (by omega) ho
      go_wp2_with (go_at_call 69; refine k2.mono ?_; rintro e w3 ⟨rfl, ho3, hb3⟩)
      go_ret
      rw [HF.out, ← HP2.out]
      exact ⟨_, rfl, ho3, hb3 _ hb⟩

set_option maxRecDepth 20000 in
set_option maxHeartbeats 4000000 in
theorem icycleson_any (ao : Option Addr) (n cap : Nat) (l : List Stp) (a : Int) (w : World) (h : Rw 4 csT w (.slice ao n cap) l) (hn : l.length ≤ 1048576) :
    Calls Try.prog 28 #[.slice ao n cap, .int .i64 a] w fun e w' => ∃ v, e = .returned v ∧ w'.ownsRow w.heap.size 2 1 v (cyclesOn l a).length ((cyclesOn l a).map fun z => Value.int .i64 z) ∧ Below w.heap.size w w' := by
  obtain rfl := h.len
  have k1 := fun W (hW : Below w.heap.size w W) => iuses_any ao l.length cap l W (h.below hW) hn
  have hul := uses_len l
  obtain ⟨i0, hi0, hv0, hv1, hv2⟩ := info_partsW infoW64
  have HF : Hid (cyclesOn l a = rise (cycsL (uses l) a)) := cyclesOn_rise l a
  clear h
  go_enter Try.func28, Try.ntmps28
  go_wp2_with (go_at_call 68; refine (k1 _ (by repeat (first | exact Below.refl _ _ | assumption | refine st_drew ?_ | refine st_drewN ?_ _ | refine Below.setCell ?_ (by first | omega | (simp; done) | (simp; omega)) _ | refine Below.alloc ?_ (by first | omega | (simp; done) | (simp; omega)) _))).mono ?_; rintro e w1 ⟨ad, c, rfl, ho1, hb1⟩; have hq1 := ownW_below (ownW_new w 2 1) hb1; have bA := onto (show Below w.heap.size w _ from by repeat (first | exact Below.refl _ _ | assumption | refine st_drew ?_ | refine st_drewN ?_ _ | refine Below.setCell ?_ (by first | omega | (simp; done) | (simp; omega)) _ | refine Below.alloc ?_ (by first | omega | (simp; done) | (simp; omega)) _)) hb1)
  have HR := hidden (ownY_base ho1 (Nat.zero_le _))
  generalize uses l = U at *
  clear k1 ho1 hb1
  go_loopw [5, 12] (fun sv iv wr => ∃ (i : Nat) (P : List Int), i ≤ U.length ∧ iv = .int .i64 i ∧ Hid (P = cycsL (U.take i) a) ∧ (∃ ad c, sv = .slice ad P.length c ∧ wr.ownsRow w.heap.size 2 1 (.slice ad P.length c) P.length (P.map fun z => Value.int .i64 z)) ∧ Below w.heap.size w wr ∧ wr.ownsRow 0 105 3 (.slice ad U.length c) U.length (cellsL 3 csU U)) (fun _ iv _ => U.length - (intOf iv).toNat)
  case atStart => exact ⟨0, [], Nat.zero_le _, rfl, rfl, ⟨_, _, rfl, hq1⟩, bA, HR.out⟩
  case round =>
    clear hq1 HR
    have hsz1 := bA.size
    clear bA
    obtain ⟨i, P, hi, rfl, HP, ⟨ad2, cc2, rfl, ho⟩, hb, hr⟩ := hrel
    have hsz := hb.size
    have hPl : P.length ≤ i := by rw [HP.out]; exact cycs_len U a i
    by_cases hlt : i < U.length
    · have hlti : (i : Int) < (U.length : Int) := by omega
      obtain ⟨x, hx⟩ := some_of U i hlt
      obtain ⟨g, off, rfl, hg, c0, c1, c2⟩ := use_cells (own_of (cs := csU) rfl hr).row hx
      have HRR := hidden hr
      have HO := hidden ho
      by_cases q : x.per = a
      · have HQ : Hid (cycsL (U.take (i + 1)) a = P ++ [x.cyc]) := by rw [Hid, cycs_yes hx q, HP.out]
        rw [q] at c2
        clear hx q ho hr
        generalize x.cyc = y at *
        go_wp2_with (at_builtin; refine wpList_append_own _ rfl (.tmp 20) (.tmp 23) 40 rfl w.heap.size 2 i0 (.int .i64 0) 1 8 Try.underlying40 hi0 hv0 hv1 hv2 rfl (by decide) _ P.length (P.map fun z => Value.int .i64 z) rfl ((HO.out.alloc _).alloc _) ⟨wr.heap.size + 1, 0, none⟩ 1 1 [.int .i64 y] rfl rfl (cell_overW _ _ _ _) (by simp [Value.oneCell']) (by unfold maxLen; omega) (by omega) (by simp; omega) ?_; intro v5 w5 ho5 hg5 hn5; obtain ⟨ad5, c5, rfl⟩ := ownW_slice ho5)
        have hap := ownY_apart ((HRR.out.alloc (.cells #[.int .i64 x.at', .int .i64 y, .int .i64 a] 105)).alloc (.cells #[.int .i64 y] 2)) ((HO.out.alloc (.cells #[.int .i64 x.at', .int .i64 y, .int .i64 a] 105)).alloc (.cells #[.int .i64 y] 2)) (by decide)
        have hr5 := ownY_grown ((HRR.out.alloc (.cells #[.int .i64 x.at', .int .i64 y, .int .i64 a] 105)).alloc (.cells #[.int .i64 y] 2)) hg5 hap
        have b5 := (show Below w.heap.size w _ from by repeat (first | exact Below.refl _ _ | assumption | refine st_drew ?_ | refine st_drewN ?_ _ | refine Below.setCell ?_ (by first | omega | (simp; done) | (simp; omega)) _ | refine Below.alloc ?_ (by first | omega | (simp; done) | (simp; omega)) _)).grown hg5 (by simp; omega) (fun k hk => (ownW_lt HO.out k hk).1)
        go_roundw
        case rel => exact ⟨i + 1, P ++ [y], by omega, rfl, HQ.out.symm, ⟨_, _, by rw [List.length_append]; rfl, by rw [List.length_append, List.map_append]; exact ho5⟩, b5, hr5⟩
        case measure => simp [intOf]; omega
      · have HQ : Hid (cycsL (U.take (i + 1)) a = P) := by rw [Hid, cycs_no hx q, HP.out]
        have qb : (x.per == a) = false := by simp [q]
        clear hx q ho hr
        generalize x.per = y at *
        go_wp2_with fail
        go_roundw
        case rel => exact ⟨i + 1, P, by omega, rfl, HQ.out.symm, ⟨_, _, rfl, ownW_below HO.out (by repeat (first | exact Below.refl _ _ | refine st_drew ?_ | refine st_drewN ?_ _ | refine Below.setCell ?_ (by first | omega | (simp; done) | (simp; omega)) _ | refine Below.alloc ?_ (by first | omega | (simp; done) | (simp; omega)) _))⟩, by repeat (first | exact Below.refl _ _ | assumption | refine st_drew ?_ | refine st_drewN ?_ _ | refine Below.setCell ?_ (by first | omega | (simp; done) | (simp; omega)) _ | refine Below.alloc ?_ (by first | omega | (simp; done) | (simp; omega)) _), ownW_below HRR.out (by repeat (first | exact Below.refl _ _ | refine st_drew ?_ | refine st_drewN ?_ _ | refine Below.setCell ?_ (by first | omega | (simp; done) | (simp; omega)) _ | refine Below.alloc ?_ (by first | omega | (simp; done) | (simp; omega)) _))⟩
        case measure => simp [intOf]; omega
    · have hlti : ¬ (i : Int) < (U.length : Int) := by omega
      have hin : i = U.length := by omega
      subst hin
      have HP2 : Hid (P = cycsL U a) := by rw [Hid, HP.out, List.take_length]
      have k2 := rising_any ad2 cc2 w.heap.size P wr (by omega) ho
      go_wp2_with (go_at_call 69; refine k2.mono ?_; rintro e w3 ⟨rfl, ho3, hb3⟩)
      go_ret
      rw [HF.out, ← HP2.out]
      exact ⟨_, rfl, ho3, hb3 _ hb⟩
end Go.Proofs.Ytklgadaefngnnaa
