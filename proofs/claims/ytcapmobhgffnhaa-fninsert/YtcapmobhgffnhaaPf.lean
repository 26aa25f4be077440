/-
  What the laws on operations draw: a list and a rest; a list, an operation and a rest.
-/
import Derived.Test.YtcapmobhgffnhaaPe
namespace Go.Proofs.Ytcapmobhgffnhaa
open Go.RowKit Va Oa
set_option linter.unusedVariables false

set_option maxRecDepth 20000 in
set_option maxHeartbeats 2000000 in
theorem dcl_any (ao : Option Addr) (cap : Nat) (bs : List Int) (w : World) (hb : Bytes w w.heap.size ao bs) (hl : bs.length ≤ 1048576) :
    Calls Try.prog 10 #[.slice ao bs.length cap] w fun e w' => ∃ ad c l r, e = .returned (.tuple #[.slice ad l.length c, .int .i64 r]) ∧ ORw w' (.slice ad l.length c) l ∧ l.length ≤ 201 ∧ (∀ x ∈ l, Small x) ∧ -1 ≤ r ∧ r ≤ 1441 ∧ Below w.heap.size w w' := by
  go_enter Try.func10, Try.ntmps10
  go_wp2_with fail
  refine (new_any ao cap bs w hb hl).mono ?_
  rintro e wN ⟨rfl, hcN, hbN⟩
  go_wp2_with fail
  refine (drest_any _ ao cap bs _ hcN).mono ?_
  rintro e w1 ⟨r, rfl, hr0, hr1, hc1, hk1⟩
  go_wp2_with fail
  refine (max_any 0 (r - 10) _).mono ?_
  rintro e w2 ⟨⟨z, rfl, z0, z1, z2⟩, rfl⟩
  go_wp2_with fail
  refine (dops_any _ ao cap bs z _ hc1 (by omega)).mono ?_
  rintro e w3 ⟨ad, c, L, rfl, hd, hL⟩
  have hkk := hk1.trans hd.keep
  have hB := hbN.trans (hkk.below (Nat.le_refl _) (by have := hcN.1; omega))
  have hrow := hd.row
  have hsm := hd.small
  go_wp2_with fail
  refine bodyPost_ret (v := .tuple #[.slice ad L.length c, .int .i64 r]) (by simp [results, Try.results10, go_sem]) rfl ?_
  exact ⟨ad, c, L.map Prod.fst, r, by rw [List.length_map], by rw [List.length_map]; exact hrow, by rw [List.length_map]; exact hL, fun x hx => by obtain ⟨p, hp, rfl⟩ := List.mem_map.1 hx; exact hsm p hp, hr0, hr1, hB⟩

set_option maxRecDepth 20000 in
set_option maxHeartbeats 8000000 in
theorem dea_any (ao : Option Addr) (cap : Nat) (bs : List Int) (w : World) (hb : Bytes w w.heap.size ao bs) (hl : bs.length ≤ 1048576) :
    Calls Try.prog 13 #[.slice ao bs.length cap] w fun e w' => ∃ bo c L x ta tc r, e = .returned (.tuple #[.slice (some ⟨bo, 0, none⟩) L.length c, aO x (.slice ta x.team.length tc), .int .i64 r]) ∧ w'.ownsRow w.heap.size 31 4 (.slice (some ⟨bo, 0, none⟩) L.length c) L.length (cellsO L) ∧ (∀ p ∈ L, TOwn w' w.heap.size p ∧ Small p.1) ∧ TOwn w' w.heap.size (x, .slice ta x.team.length tc) ∧ L.length ≤ 201 ∧ Small x ∧ -1 ≤ r ∧ r ≤ 1441 ∧ Below w.heap.size w w' := by
  have hbR : Below w.heap.size w (w.alloc (.cells #[.int .i64 0, .int .i64 0, .int .i64 0, .slice none 0 0] 31)) := (Below.refl _ _).alloc (Nat.le_refl _) _
  have hBR : TBox (w.alloc (.cells #[.int .i64 0, .int .i64 0, .int .i64 0, .slice none 0 0] 31)) w.heap.size #[.int .i64 0, .int .i64 0, .int .i64 0, .slice none 0 0] 31 := heap_alloc_new _ _
  have hz0 : (w.alloc (.cells #[.int .i64 0, .int .i64 0, .int .i64 0, .slice none 0 0] 31)).heap.size = w.heap.size + 1 := by simp
  have hby : Bytes (w.alloc (.cells #[.int .i64 0, .int .i64 0, .int .i64 0, .slice none 0 0] 31)) (w.alloc (.cells #[.int .i64 0, .int .i64 0, .int .i64 0, .slice none 0 0] 31)).heap.size ao bs := by
    have := hb.below hbR
    refine ⟨this.1, this.2.imp id ?_⟩
    rintro ⟨b, off, h1, h2, h3⟩
    exact ⟨b, off, h1, by omega, h3⟩
  have hzl : w.heap.size ≤ (w.alloc (.cells #[.int .i64 0, .int .i64 0, .int .i64 0, .slice none 0 0] 31)).heap.size ∧ w.heap.size < (w.alloc (.cells #[.int .i64 0, .int .i64 0, .int .i64 0, .slice none 0 0] 31)).heap.size := ⟨by omega, by omega⟩
  clear hb hz0
  go_enter Try.func13, Try.ntmps13
  generalize hwR : w.alloc (.cells #[.int .i64 0, .int .i64 0, .int .i64 0, .slice none 0 0] 31) = wR at *
  go_wp2_with fail
  refine (new_any ao cap bs _ hby hl).mono ?_
  rintro e wN ⟨rfl, hcN, hbN⟩
  have hBN := hBR.below hbN
  have hbw := hbR.trans (hbN.mono hzl.1)
  have hgN := hcN.1
  clear hwR hbR hBR hbN hby
  generalize hG : wR.heap.size = g at *
  clear hG
  go_wp2_with fail
  refine (drest_any _ ao cap bs _ hcN).mono ?_
  rintro e w1 ⟨r, rfl, hr0, hr1, hc1, hk1⟩
  have hB1 := hBN.keep hk1 (by omega)
  have hbw1 := hbw.trans (hk1.below hzl.1 (by omega))
  clear hBN hbw hk1 hcN
  go_wp2_with fail
  refine (dop_any g ao cap bs _ hc1).mono ?_
  rintro e w2 ⟨x, ta, tc, rfl, hc2, hk2, ht2, hs2⟩
  have hB2 := hB1.keep hk2 (by omega)
  have hbw2 := hbw1.trans (hk2.below hzl.1 (by have := hc1.1; omega))
  have hT2 : TOwn w2 w1.heap.size (x, .slice ta x.team.length tc) := ht2
  have hgw1 := hc1.1
  clear hbw1 hB1 hk2 hc1 ht2
  have hc3 : Cur (w2.alloc (.cells #[.int .i64 x.room, .int .i64 x.fr, .int .i64 x.to, .slice ta x.team.length tc] 31)) g ao cap bs := hc2.below ((Below.refl _ _).alloc hc2.1 _)
  have hB3 := hB2.below ((Below.refl _ _).alloc (Nat.le_refl _) (.cells #[.int .i64 x.room, .int .i64 x.fr, .int .i64 x.to, .slice ta x.team.length tc] 31))
  have hT3 : TOwn (w2.alloc (.cells #[.int .i64 x.room, .int .i64 x.fr, .int .i64 x.to, .slice ta x.team.length tc] 31)) w1.heap.size (x, .slice ta x.team.length tc) := ownO_below hT2 ((Below.refl _ _).alloc (Nat.le_refl _) _)
  have hV3 : TBox (w2.alloc (.cells #[.int .i64 x.room, .int .i64 x.fr, .int .i64 x.to, .slice ta x.team.length tc] 31)) w2.heap.size #[.int .i64 x.room, .int .i64 x.fr, .int .i64 x.to, .slice ta x.team.length tc] 31 := heap_alloc_new _ _
  have hbw3 : Below w.heap.size w (w2.alloc (.cells #[.int .i64 x.room, .int .i64 x.fr, .int .i64 x.to, .slice ta x.team.length tc] 31)) := hbw2.alloc hbw2.size _
  have hgV := hc2.1
  have hRV := hB2.lt
  clear hc2 hB2 hT2 hbw2
  unfold aO
  go_upto_region 4 with fail
  generalize hwB : w2.alloc (.cells #[.int .i64 x.room, .int .i64 x.fr, .int .i64 x.to, .slice ta x.team.length tc] 31) = wB at *
  generalize hVV : w2.heap.size = V at *
  clear hwB hVV
  obtain ⟨⟨v0, v1, v2, v3⟩, vf⟩ := hV3.four
  have HCD : Hid (Cur wB.drew g ao cap bs) := hc3
  have HB3 := hidden hB3
  have HT3 := hidden hT3
  have HW3 := hidden hbw3
  have HZ := hidden hzl
  have hRl := hB3.lt
  have hVl := hV3.lt
  have HV3 := hidden hV3
  have HC3 := hidden hc3
  have HS2 := hidden hs2
  clear hB3 hT3 hbw3 hV3 vf hc3 hs2 hzl hgN
  go_region_with (first
        | (go_at_call 34; refine (max_any 0 r _).mono ?_; rintro e w4 ⟨⟨z, rfl, z0, z1, z2⟩, rfl⟩)
        | (go_at_call 33; refine (dops_any g ao cap bs z _ (by first | with_reducible exact HCD.out | fail) (by omega)).mono ?_; rintro e w5 ⟨ad, c, L, rfl, hd5, hL5⟩; obtain ⟨bo, c', hbo⟩ := hd5.form7; cases hbo; have hk5 : Keep g wB w5 := Keep.trans (b := wB.drew) ((Keep.refl g wB).drewN 1) hd5.keep; obtain ⟨⟨p0, p1, p2, p3⟩, pf⟩ := (HV3.out.keep hk5 (by omega)).four; have hB5 := HB3.out.keep hk5 (by have := HZ.out; omega); obtain ⟨⟨q0, q1, q2, q3⟩, qf⟩ := hB5.four; have qf0 := qf 0; have qf1 := qf 1; have qf2 := qf 2; have qf3 := qf 3; have HB5 := hidden hB5; have HD5 := hidden hd5; have HK5 := hidden hk5; clear hB5 hd5 hk5 pf qf))
  all_goals go_wp2_with fail
  all_goals
    have hBf := HB5.out.put4 (.int .i64 x.room) (.int .i64 x.fr) (.int .i64 x.to) (.slice ta x.team.length tc)
    obtain ⟨⟨r0, r1, r2, r3⟩, -⟩ := hBf.four
    refine bodyPost_ret (v := .tuple #[(.slice (some ⟨bo, 0, none⟩) L.length c), aO x (.slice ta x.team.length tc), .int .i64 r]) (by simp [results, Try.results13, go_sem, r0, r1, r2, r3, aO]) rfl ?_
    have hne5 : ∀ k, (Value.slice (some ⟨bo, 0, none⟩) L.length c).ownBlock = some k → k ≠ w.heap.size := fun k hk => by
      have h1 := (ownO_lt HD5.out.own k hk).1
      have h2 : wB.drew.heap.size = wB.heap.size := rfl
      omega
    have hrow := own_base (own_far (own_far (own_far (own_far HD5.out.own hne5 (.int .i64 x.room) (o := 0)) hne5 (.int .i64 x.fr) (o := 1)) hne5 (.int .i64 x.to) (o := 2)) hne5 (.slice ta x.team.length tc) (o := 3)) (show w.heap.size ≤ wB.drew.heap.size from Nat.le_of_lt hRl)
    have hteam : ∀ p ∈ L, TOwn ((((w5.setCell ⟨w.heap.size, 0, none⟩ (.int .i64 x.room)).setCell ⟨w.heap.size, 1, none⟩ (.int .i64 x.fr)).setCell ⟨w.heap.size, 2, none⟩ (.int .i64 x.to)).setCell ⟨w.heap.size, 3, none⟩ (.slice ta x.team.length tc)) w.heap.size p ∧ Small p.1 := fun p hp => by
      have ht := HD5.out.teams p hp
      have hnt : ∀ k, p.2.ownBlock = some k → k ≠ w.heap.size := fun k hk => TBox.ne HB5.out ht (by decide) k hk
      exact ⟨own_base (own_far (own_far (own_far (own_far ht hnt _) hnt _) hnt _) hnt _) (show w.heap.size ≤ wB.drew.heap.size from Nat.le_of_lt hRl), HD5.out.small p hp⟩
    have htm := own_keepP HT3.out HK5.out (by omega)
    have hnt : ∀ k, (Value.slice ta x.team.length tc).ownBlock = some k → k ≠ w.heap.size := fun k hk => TBox.ne HB5.out htm (by decide) k hk
    have htr := own_base (own_far (own_far (own_far (own_far htm hnt (.int .i64 x.room) (o := 0)) hnt (.int .i64 x.fr) (o := 1)) hnt (.int .i64 x.to) (o := 2)) hnt (.slice ta x.team.length tc) (o := 3)) (show w.heap.size ≤ w1.heap.size by have := HZ.out; omega)
    have hbe := HW3.out.trans (HK5.out.below HZ.out.1 (by omega))
    refine ⟨bo, c, L, x, ta, tc, r, rfl, hrow, hteam, htr, hL5, HS2.out, hr0, hr1, ?_⟩
    exact (((hbe.setCell (p := ⟨w.heap.size, 0, none⟩) (Nat.le_refl _) _).setCell (p := ⟨w.heap.size, 1, none⟩) (Nat.le_refl _) _).setCell (p := ⟨w.heap.size, 2, none⟩) (Nat.le_refl _) _).setCell (p := ⟨w.heap.size, 3, none⟩) (Nat.le_refl _) _

set_option maxRecDepth 20000 in
set_option maxHeartbeats 2000000 in
theorem din_any (ao : Option Addr) (cap : Nat) (bs : List Int) (w : World) (hb : Bytes w w.heap.size ao bs) (hl : bs.length ≤ 1048576) :
    Calls Try.prog 16 #[.slice ao bs.length cap] w fun e w' => ∃ bo c L x ta tc r, e = .returned (.tuple #[.slice (some ⟨bo, 0, none⟩) L.length c, aO x (.slice ta x.team.length tc), .int .i64 r]) ∧ w'.ownsRow w.heap.size 31 4 (.slice (some ⟨bo, 0, none⟩) L.length c) L.length (cellsO L) ∧ (∀ p ∈ L, TOwn w' w.heap.size p ∧ Small p.1) ∧ TOwn w' w.heap.size (x, .slice ta x.team.length tc) ∧ L.length ≤ 201 ∧ Small x ∧ -1 ≤ r ∧ r ≤ 1441 ∧ Below w.heap.size w w' := by
  have hbR : Below w.heap.size w (w.alloc (.cells #[.int .i64 0, .int .i64 0, .int .i64 0, .slice none 0 0] 31)) := (Below.refl _ _).alloc (Nat.le_refl _) _
  have hBR : TBox (w.alloc (.cells #[.int .i64 0, .int .i64 0, .int .i64 0, .slice none 0 0] 31)) w.heap.size #[.int .i64 0, .int .i64 0, .int .i64 0, .slice none 0 0] 31 := heap_alloc_new _ _
  have hz0 : (w.alloc (.cells #[.int .i64 0, .int .i64 0, .int .i64 0, .slice none 0 0] 31)).heap.size = w.heap.size + 1 := by simp
  have hby : Bytes (w.alloc (.cells #[.int .i64 0, .int .i64 0, .int .i64 0, .slice none 0 0] 31)) (w.alloc (.cells #[.int .i64 0, .int .i64 0, .int .i64 0, .slice none 0 0] 31)).heap.size ao bs := by
    have := hb.below hbR
    refine ⟨this.1, this.2.imp id ?_⟩
    rintro ⟨b, off, h1, h2, h3⟩
    exact ⟨b, off, h1, by omega, h3⟩
  have hzl : w.heap.size < (w.alloc (.cells #[.int .i64 0, .int .i64 0, .int .i64 0, .slice none 0 0] 31)).heap.size := by omega
  clear hb hz0
  go_enter Try.func16, Try.ntmps16
  generalize hwR : w.alloc (.cells #[.int .i64 0, .int .i64 0, .int .i64 0, .slice none 0 0] 31) = wR at *
  go_wp2_with fail
  refine (dea_any ao cap bs _ hby hl).mono ?_
  rintro e w1 ⟨bo, c, L, x, ta, tc, r, rfl, ho, ht, hx, hL, hs, hr0, hr1, hb1⟩
  have hB1 := hBR.below hb1
  have hbw := hbR.trans (hb1.mono (Nat.le_of_lt hzl))
  obtain ⟨⟨q0, q1, q2, q3⟩, qf⟩ := hB1.four
  have qf0 := qf 0
  have qf1 := qf 1
  have qf2 := qf 2
  have qf3 := qf 3
  have HB1 := hidden hB1
  have HO := hidden ho
  have HT := hidden ht
  have HX := hidden hx
  have HW := hidden hbw
  clear hB1 ho ht hx hbw hb1 hbR hBR hby hwR qf
  unfold aO
  go_wp2_with fail
  have hBf := HB1.out.put4 (.int .i64 x.room) (.int .i64 x.fr) (.int .i64 x.to) (.slice ta x.team.length tc)
  obtain ⟨⟨r0, r1, r2, r3⟩, -⟩ := hBf.four
  refine bodyPost_ret (v := .tuple #[.slice (some ⟨bo, 0, none⟩) L.length c, aO x (.slice ta x.team.length tc), .int .i64 r]) (by simp [results, Try.results16, go_sem, r0, r1, r2, r3, aO]) rfl ?_
  have hfar : ∀ (e s n : Nat) (v : Value) (xs : List Value), w1.ownsRow wR.heap.size e s v n xs → ((((w1.setCell ⟨w.heap.size, 0, none⟩ (.int .i64 x.room)).setCell ⟨w.heap.size, 1, none⟩ (.int .i64 x.fr)).setCell ⟨w.heap.size, 2, none⟩ (.int .i64 x.to)).setCell ⟨w.heap.size, 3, none⟩ (.slice ta x.team.length tc)).ownsRow w.heap.size e s v n xs := fun e s n v xs h => by
    have hne : ∀ k, v.ownBlock = some k → k ≠ w.heap.size := fun k hk => by
      have := (ownO_lt h k hk).1
      omega
    exact own_base (own_far (own_far (own_far (own_far h hne _) hne _) hne _) hne _) (Nat.le_of_lt hzl)
  refine ⟨bo, c, L, x, ta, tc, r, rfl, hfar _ _ _ _ _ HO.out, fun p hp => ⟨hfar _ _ _ _ _ (HT.out p hp).1, (HT.out p hp).2⟩, hfar _ _ _ _ _ HX.out, hL, hs, hr0, hr1, ?_⟩
  exact (((HW.out.setCell (p := ⟨w.heap.size, 0, none⟩) (Nat.le_refl _) _).setCell (p := ⟨w.heap.size, 1, none⟩) (Nat.le_refl _) _).setCell (p := ⟨w.heap.size, 2, none⟩) (Nat.le_refl _) _).setCell (p := ⟨w.heap.size, 3, none⟩) (Nat.le_refl _) _
end Go.Proofs.Ytcapmobhgffnhaa
