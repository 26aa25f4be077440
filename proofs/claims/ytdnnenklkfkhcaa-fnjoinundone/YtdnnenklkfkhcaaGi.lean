/-
  Together, the program's.
-/
import Derived.Test.YtdnnenklkfkhcaaGs
import Derived.Test.YtdnnenklkfkhcaaShelf
import Derived.Maps.RangeWalk
namespace Go.Proofs.Ytdnnenklkfkhcaa
open Go.RowKit Jn Go.Maps Go.Sort Go.Shelf

theorem sort_any (g cap base : Nat) (zs : List Int) (w : World) (hl : zs.length ≤ 1000000) (hrow : w.ownsRow base 2 1 (.slice (some ⟨g, 0, none⟩) zs.length cap) zs.length (zs.map encZ)) :
    Calls Try.prog 66 #[.slice (some ⟨g, 0, none⟩) zs.length cap] w fun e w' => e = .returned (.tuple #[]) ∧ w'.ownsRow base 2 1 (.slice (some ⟨g, 0, none⟩) zs.length cap) zs.length ((zs.mergeSort (fun x y => decide (x ≤ y))).map encZ) ∧ (∀ w0, Below base w0 w → Below base w0 w') := by
  obtain ⟨g', cap', e0, hbg, hgl, _, _, _, hH⟩ := Go.Lib.holds_of_ownsRow hrow (by simp)
  obtain ⟨rfl, rfl⟩ : g = g' ∧ cap = cap' := by simpa using e0
  have hS := AnyM.slices_Sort_int Try.srtL g 0 cap zs w hH hgl (by omega)
  refine hS.mono ?_
  rintro e w' ⟨rfl, q, os, rfl⟩
  have ho := Go.Lib.ownsRow_putRow (q := q) (k := zs.length) (ys := zs.mergeSort (fun x y => decide (x ≤ y))) hrow (by simp) (Nat.le_refl _)
  rw [List.take_of_length_le (by simp)] at ho
  refine ⟨rfl, Go.Lib.ownsRow_grow ho 0 os, fun w0 hb0 => ?_⟩
  exact (Go.Lib.below_putRow hb0 hbg).trans (Go.Lib.below_grow base _ (by simp [putRow, mapBlock, Sort.ahead]; omega) 0 os)

theorem ranges_below {w w' : World} {B r n cnt : Nat} {D : DataW Unit} {left : Lit → Bool} (h : w.ranges Try.prog 2 pairE B r n D left cnt) (hb : Below w.heap.size w w') : w'.ranges Try.prog 2 pairE B r n D left cnt := by
  have h1 := h.owns.lt
  have h2 := h.lt
  obtain ⟨es, clock, since, seen, c0, e1, r1, r2, r3, e2, r4⟩ := h
  exact ⟨es, clock, since, seen, c0, (hb.block B h1).trans e1, r1, r2, r3, (hb.block r h2).trans e2, r4⟩
theorem own_grown {w w' : World} {base e s n : Nat} {v : Value} {xs : List Value} {row : Option Nat} (h : w.ownsRow base e s v n xs) (hg : w.grownBy w' row) (hne : ∀ k, v.ownBlock = some k → some k ≠ row) : w'.ownsRow base e s v n xs := by
  obtain ⟨q, ⟨q1, q2⟩ | ⟨g, c, cur, rfl, hb, hh, r⟩⟩ := h
  · exact ⟨q, Or.inl ⟨q1, q2⟩⟩
  · exact ⟨q, Or.inr ⟨g, c, cur, rfl, hb, (hg.block g (Array.getElem?_eq_some_iff.1 hh).1 (hne g rfl)).trans hh, r⟩⟩
theorem own_not_iter {w : World} {base e s m B r n cnt : Nat} {v : Value} {xs : List Value} {D : DataW Unit} {left : Lit → Bool} (h : w.ownsRow base e s v m xs) (hr : w.ranges Try.prog 2 pairE B r n D left cnt) : ∀ k, v.ownBlock = some k → k ≠ r ∧ k ≠ B := by
  obtain ⟨es, clock, since, seen, c0, e1, _, _, _, e2, _⟩ := hr
  obtain ⟨_, ⟨rfl, _⟩ | ⟨g, c, cur, rfl, hb, hh, _⟩⟩ := h
  · intro k hk; cases hk
  · intro k hk
    cases hk
    refine ⟨fun q => ?_, fun q => ?_⟩
    · have q2 : g = r := q
      rw [q2, e2] at hh; cases hh
    · have q2 : g = B := q
      rw [q2, e1] at hh; cases hh
theorem own_below {w w' : World} {base e s n : Nat} {v : Value} {xs : List Value} (h : w.ownsRow base e s v n xs) (hb : Below w.heap.size w w') : w'.ownsRow base e s v n xs := by
  obtain ⟨q, ⟨q1, q2⟩ | ⟨g, c, cur, rfl, hg, hh, r⟩⟩ := h
  · exact ⟨q, Or.inl ⟨q1, q2⟩⟩
  · exact ⟨q, Or.inr ⟨g, c, cur, rfl, hg, (hb.block g (Array.getElem?_eq_some_iff.1 hh).1).trans hh, r⟩⟩
theorem ownsI_one (w : World) (p : Int) : (w.alloc (.cells #[.int .i64 p] 2)).ownsRow w.heap.size 2 1 (.slice (some ⟨w.heap.size, 0, none⟩) 1 1) 1 [.int .i64 p] :=
  ⟨rfl, Or.inr ⟨w.heap.size, 1, #[.int .i64 p], rfl, Nat.le_refl _, heap_alloc_new _ _, Nat.le_refl _, by unfold maxLen; omega, rfl, rfl⟩⟩

set_option maxRecDepth 20000 in
set_option maxHeartbeats 4000000 in
theorem itog_any (v : Value) (l : List J) (x : Int) (w : World) (h : JRow w v l) :
    Calls Try.prog 28 #[v, .int .i64 x] w fun e w' => ∃ v', e = .returned v' ∧ IOwn w' w.heap.size v' (tog l x) ∧ Below w.heap.size w w' := by
  have hP := pers_any x
  go_enter Try.func28, Try.ntmps28
  go_wp2_with fail
  refine (bookof_any v l w h).mono ?_
  rintro e w1 ⟨b1, ⟨hno, rfl⟩ | ⟨hyes, B, hB, rfl, hbk⟩⟩
  · have HG : Hid (tog l x = []) := by unfold tog; rw [Hid, okB_false hno]; rfl
    clear hno h
    go_wp2_with fail
    go_ret
    exact ⟨_, rfl, by rw [HG.out]; exact ⟨_, 0, rfl, Or.inl rfl⟩, b1.alloc b1.size _⟩
  · cases hx : pers x with
    | false =>
      have HG : Hid (tog l x = []) := by unfold tog; rw [Hid, hx, Bool.and_false]; rfl
      rw [hx] at hP
      clear hyes hbk h
      go_wp2_with fail
      refine (hP _).mono ?_
      rintro e w2 ⟨rfl, hw2⟩
      have hw3 := hw2.symm
      clear hw2
      subst hw3
      go_wp2_with fail
      go_ret
      exact ⟨_, rfl, by rw [HG.out]; exact ⟨_, 0, rfl, Or.inl rfl⟩, b1.alloc b1.size _⟩
    | true =>
      have HG : Hid (tog l x = togN l (stands l x) 1000) := by unfold tog; rw [Hid, okB_true hyes, hx]; rfl
      have hll := hyes.1
      have HOK := hidden hyes.2
      have HS := hidden (standing_any B l.length l x w1 hbk hyes.2 hx)
      have HBK := hidden hbk
      have HST := hidden (fun (y : Int) W (hW : Bk W B l.length (says l)) (hy : pers y = true) => standing_any B l.length l y W hW hyes.2 hy)
      have HSRT := hidden (fun ss hss => tog_sort l hyes.2 x hx ss hss)
      have HTELL := hidden (says_tells l hyes.2)
      rw [hx] at hP
      obtain ⟨i0, hi, hz0, hz1, hz2⟩ := info_parts info2
      have hN1 := b1.size
      clear hyes hbk h
      generalize stands l x = p at *
      go_wp2_with fail
      refine (hP _).mono ?_
      rintro e w2 ⟨rfl, hw2⟩
      have hw3 := hw2.symm
      clear hw2
      subst hw3
      go_wp2_with fail
      refine HS.out.mono ?_
      rintro e w2 ⟨rfl, hb2⟩
      have b2 := onto b1 hb2
      have hN2 := b2.size
      have HBK2 := hidden (HBK.out.below hb2)
      have hBl := HBK2.out.lt
      have ho3 := ownsI_one w2 p
      have b3 := b2.alloc b2.size (Obj.cells #[.int .i64 p] 2)
      obtain ⟨D, hD, hfD⟩ := HBK2.out.below ((Below.refl w2.heap.size w2).alloc (Nat.le_refl _) (Obj.cells #[.int .i64 p] 2))
      have HFD := hidden hfD
      have HKP := hidden (keys_perm HTELL.out hD hfD)
      have HD := hidden hD
      have hs3 : (w2.alloc (Obj.cells #[.int .i64 p] 2)).heap.size = w2.heap.size + 1 := by simp
      generalize hW3 : w2.alloc (Obj.cells #[.int .i64 p] 2) = W3 at *
      clear hfD HS hb2 HBK HBK2
      go_wp2_with (at_range; refine wpList_range_own _ rfl _ 85 rfl 2 91 key2 map56 _ B l.length D rfl hD ?_; intro w4 hrg4 hg4 hs4)
      have b4 : Below w.heap.size w w4 := b3.grown hg4 (by omega) (by simp)
      have ho4 := own_grown ho3 hg4 (by simp)
      have hrN : W3.heap.size < w4.heap.size := by omega
      generalize hR : W3.heap.size = R at *
      subst hs3
      have hszD : Maps.size D = l.length := by rw [size_keys, ← HKP.out.length_eq, List.length_map]
      clear ho3 hg4 hW3 hD b3 hrN hs4 hR
      go_wp2_with fail
      go_frame
      go_loopw [8] (fun ov wr => ∃ (left : Lit → Bool) (cnt : Nat) (ss acc : List Int), wr.ranges Try.prog 2 pairE B (w2.heap.size + 1) l.length D left cnt ∧ ss.length + cnt ≤ Maps.size D ∧ acc.length ≤ ss.length + 1 ∧ (∃ ad c0, ov = .slice ad acc.length c0 ∧ wr.ownsRow w2.heap.size 2 1 (.slice ad acc.length c0) acc.length (acc.map encZ)) ∧ Below w.heap.size w wr ∧ Hid (CollectedI D left ss ∧ acc = p :: ss.filter (fun y => decide (stands l y = p)))) (fun _ wr => wr.rangeLeft B (w2.heap.size + 1))
      case atStart => exact ⟨_, _, [], [p], hrg4, by simp, by simp, ⟨_, _, rfl, ho4⟩, b4, CollectedI.start D, rfl⟩
      case round =>
        clear ho4 b4 hrg4
        obtain ⟨left, cnt, ss, acc, hrg, hcs, hal, ⟨ad, c0, rfl, ho⟩, hb, HC⟩ := hrel
        go_wp2_with (at_next; refine wpList_next_ranges _ rfl _ rfl 2 key2 pairE encZ id (fun key kl hk => by obtain ⟨y, hy, _⟩ := Maps.keyOf_i64 Try.underlying2 hk; exact ⟨y, hy⟩) (fun v _ _ => ⟨v, rfl⟩) B (w2.heap.size + 1) l.length _ _ _ rfl hrg ?_ ?_)
        · intro hc0 hl0
          have hperm := HC.out.1.perm HD.out key2 Try.underlying2 hl0
          have hsrt := HSRT.out ss (hperm.trans HKP.out.symm)
          rw [← HC.out.2] at hsrt
          have hpos : 0 < acc.length := by rw [HC.out.2]; simp
          obtain ⟨g, rfl, -, -, -⟩ := own1_cell ho hpos
          have hlen : (togN l p 1000).length = acc.length := by rw [← hsrt, List.length_mergeSort]
          have hSO := sort_any g c0 w2.heap.size acc wr (by have := togN_len l p 1000; omega) ho
          rw [hsrt] at hSO
          have HLEN := hidden hlen
          clear hrg hc0 hl0 hperm hsrt hpos hlen
          go_wp2_with fail
          refine hSO.mono ?_
          rintro e w6 ⟨rfl, ho6, hb6⟩
          have b6 : Below w.heap.size w w6 := hb.trans ((hb6 wr (Below.refl _ _)).mono hN2)
          have HI : Hid (IOwn w6 w2.heap.size (.slice (some ⟨g, 0, none⟩) acc.length c0) (togN l p 1000)) := iown_of (by rw [HLEN.out]; exact ho6)
          clear ho6 hb6 hSO ho
          go_wp2_with fail
          go_ret
          exact ⟨_, rfl, by rw [HG.out]; exact HI.out.base_le hN2, b6⟩
        · intro y c kl yd yp w5 cnt5 hkey hlk hv hat hrg5 hlt hg5 hs5 hen
          obtain ⟨y', ey, rfl, hwy⟩ := Maps.keyOf_i64 Try.underlying2 hkey
          obtain rfl : y = y' := encZ_inj ey
          have hhas := has_true_of_atKey hat
          have hgy : isG l y = true := by rw [← says_isSome, ← (HFD.out y hwy).1]; exact hhas
          have hpy := HTELL.out.known y hgy
          have hSTy := HST.out y w5 ⟨D, hrg5.owns, HFD.out⟩ hpy
          have ho5 := own_grown ho hg5 (fun k hk => by have := (own_not_iter ho hrg k hk).1; simpa using this)
          have b5 : Below w.heap.size w w5 := hb.grown hg5 hb.size (fun j hj => by cases hj; omega)
          have HCS := hidden (HC.out.1.step hlk hat)
          have HRG := hidden hrg
          have HRG5 := hidden hrg5
          have HA := hidden HC.out.2
          clear hkey hlk hv hat hg5 hs5 hhas hgy hpy ho hb HC hrg hrg5 ey
          go_wp2_with fail
          refine hSTy.mono ?_
          rintro e w6 ⟨rfl, hb6⟩
          have b6 := onto b5 hb6
          have hrg6 := ranges_below HRG5.out hb6
          have ho6 := own_below ho5 hb6
          have hN6 := b6.size
          have hM6 : w2.heap.size ≤ w6.heap.size := by have := hrg6.lt; omega
          have HRG6 := hidden hrg6
          clear hen hSTy ho5 b5 hb6 HRG5 hrg6
          by_cases hst : stands l y = p
          · have HN : Hid (acc ++ [y] = p :: (ss ++ [y]).filter (fun y => decide (stands l y = p))) := by rw [Hid, List.filter_append, HA.out]; simp [hst]
            rw [hst]
            clear hst HA
            go_wp2_with (at_builtin; refine wpList_append_own _ rfl (.tmp 39) (.tmp 41) 51 rfl w2.heap.size 2 i0 (.int .i64 0) 1 8 Try.underlying51 hi hz0 hz1 hz2 rfl (by decide) _ acc.length (acc.map encZ) rfl (ho6.alloc _) ⟨w6.heap.size, 0, none⟩ 1 1 [.int .i64 y] rfl rfl (cell_one_new _ _ _) (one_one y) (by unfold maxLen; omega) (by omega) (by simp; omega) ?_; intro v7 w7 ho7 hgr7 hnn7)
            have b7 : Below w.heap.size w w7 := (b6.alloc b6.size _).grown hgr7 (by simp; omega) (fun j hj => Nat.le_trans hN2 (own1_lt ho6 j hj))
            have hrg7 := (HRG6.out.alloc (Obj.cells #[.int .i64 y] 2)).kept hgr7 (fun e => (own_not_iter ho6 HRG6.out B e.symm).2 rfl) (fun e => (own_not_iter ho6 HRG6.out _ e.symm).1 rfl)
            obtain ⟨ad2, c2, rfl⟩ := own_slice ho7
            have HM : Hid (w7.rangeLeft B (w2.heap.size + 1) < wr.rangeLeft B (w2.heap.size + 1)) := by rw [Hid, hrg7.left_eq, HRG.out.left_eq]; exact hlt
            have HRG7 := hidden hrg7
            clear hrg7 hgr7 hnn7 HRG6 HRG ho6 b6
            go_wp2_with fail
            go_roundw
            case rel => exact ⟨_, cnt5, ss ++ [y], acc ++ [y], HRG7.out, by simp; omega, by simp; omega, ⟨ad2, c2, by rw [List.length_append]; rfl, by rw [List.map_append, List.length_append]; exact ho7⟩, b7, HCS.out, HN.out⟩
            case measure => exact HM.out
          · have HN : Hid (acc = p :: (ss ++ [y]).filter (fun y => decide (stands l y = p))) := by rw [Hid, List.filter_append, HA.out]; simp [hst]
            have hst2 : (stands l y == p) = false := by simpa using hst
            have HM : Hid (w6.rangeLeft B (w2.heap.size + 1) < wr.rangeLeft B (w2.heap.size + 1)) := by rw [Hid, HRG6.out.left_eq, HRG.out.left_eq]; exact hlt
            clear HA HRG
            generalize stands l y = z at *
            go_wp2_with fail
            go_roundw
            case rel => exact ⟨_, cnt5, ss ++ [y], acc, HRG6.out, by simp; omega, by simp; omega, ⟨_, _, rfl, ho6⟩, b6, HCS.out, HN.out⟩
            case measure => exact HM.out
end Go.Proofs.Ytdnnenklkfkhcaa
