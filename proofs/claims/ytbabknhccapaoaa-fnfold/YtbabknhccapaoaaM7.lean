/-
  Missing: the program's.
-/
import Derived.Test.YtbabknhccapaoaaM4
import Derived.Test.YtbabknhccapaoaaM6
import Derived.Test.YtbabknhccapaoaaGx
import Derived.Maps.AppendAt
namespace Go.Proofs.Ytbabknhccapaoaa
open Go.RowKit Va Mg Go.Maps
set_option linter.all false

theorem ontoG {w w1 w2 : World} (h1 : Below w.heap.size w w1) (h2 : Below w1.heap.size w1 w2) : Below w.heap.size w w2 := h1.trans (h2.mono h1.size)

set_option maxRecDepth 20000 in
set_option maxHeartbeats 8000000 in
theorem imissing_any (ao : Option Addr) (n cap : Nat) (l : List Lt) (f : Int) (w : World) (h : VRw 5 cvLt w (.slice ao n cap) l) (hn : l.length ≤ 1048576) :
    Calls Try.prog 10 #[.slice ao n cap, .int .i64 f] w fun e w' => ∃ v', e = .returned v' ∧ VOwn 1 cvI w' w.heap.size v' (missing l f) ∧ Below w.heap.size w w' := by
  obtain rfl := h.len
  have HR := hidden h
  have HV : Hid (missing l f = if l.length ≤ 1000 then missTo (came l f) (most (came l f)).toNat else []) := rfl
  generalize missing l f = M at *
  obtain ⟨i0, hi0, hv0, hv1, hv2⟩ := info_partsW infoW64
  clear h
  by_cases g1 : (1000 : Int) < (l.length : Int)
  · have HE : Hid (M = []) := by rw [Hid, HV.out, if_neg (by omega)]
    clear HV
    go_enter Try.func10, Try.ntmps10
    go_wp2_with fail
    go_ret
    rw [HE.out]
    exact ⟨_, rfl, VOwn.nil _ _ _ _, by repeat (first | exact Below.refl _ _ | assumption | refine st_drew ?_ | refine st_drewN ?_ _ | refine Below.setCell ?_ (by first | omega | (simp; done) | (simp; omega)) _ | refine Below.alloc ?_ (by first | omega | (simp; done) | (simp; omega)) _)⟩
  have hl : l.length ≤ 1000 := by omega
  have HE : Hid (M = missTo (came l f) (most (came l f)).toNat) := by rw [Hid, HV.out, if_pos hl]
  have HO1 : Hid (((w.alloc (.cells #[] 2)).alloc (.cells #[] 2)).ownsRow (w.heap.size + 1) 2 1 (.slice (some ⟨(w.alloc (.cells #[] 2)).heap.size, 0, none⟩) 0 0) 0 []) := ownW_base (ownW_new (w.alloc (.cells #[] 2)) 2 1) (by simp)
  have HB1 : Hid (Below (w.heap.size + 1) (w.alloc (.cells #[] 2)) ((w.alloc (.cells #[] 2)).alloc (.cells #[] 2))) := (Below.refl _ _).alloc (by simp) _
  have HO0 := hidden (ownW_new w 2 1)
  have HB0 : Hid (Below w.heap.size w (w.alloc (.cells #[] 2))) := (Below.refl _ _).alloc (Nat.le_refl _) _
  have hw1 : (w.alloc (.cells #[] 2)).heap.size = w.heap.size + 1 := by simp
  have HW1 := hidden hw1
  clear HV g1 hw1
  generalize hWA : w.alloc (.cells #[] 2) = WA at *
  go_enter Try.func10, Try.ntmps10
  go_wp2_with fail
  go_loopw [6, 8, 20] (fun cv _ iv wr => ∃ (i : Nat) (L : List Int), i ≤ l.length ∧ iv = .int .i64 i ∧ Hid (L = came (l.take i) f) ∧ (∃ ad c, cv = .slice ad L.length c ∧ wr.ownsRow (w.heap.size + 1) 2 1 (.slice ad L.length c) L.length (L.map fun z => Value.int .i64 z)) ∧ Below (w.heap.size + 1) WA wr) (fun _ _ iv _ => l.length - (intOf iv).toNat)
  case atStart => exact ⟨0, [], Nat.zero_le _, rfl, rfl, ⟨_, _, rfl, HO1.out⟩, HB1.out⟩
  case round =>
    clear HO1 HB1
    obtain ⟨i, L, hi, rfl, HL, ⟨ad, c, rfl, ho⟩, hb⟩ := hrel
    have hLl : L.length ≤ i := by rw [HL.out]; exact came_len l f i
    have hsz := hb.size
    have hsz1 : w.heap.size + 1 ≤ wr.heap.size := by have := HW1.out; omega
    have hbw : Below w.heap.size w wr := HB0.out.trans (hb.mono (by omega))
    by_cases hlt : i < l.length
    · have hlti : (i : Int) < (l.length : Int) := by omega
      obtain ⟨x, hx⟩ := some_of l i hlt
      obtain ⟨g, off, rfl, hg, hcs⟩ := (HR.out.below hbw).at hx
      have c0 : wr.cell? ⟨g, off + i * 5, none⟩ = some (.int .i64 x.f) := hcs 0 (by omega)
      have c1 : wr.cell? ⟨g, off + i * 5 + 1, none⟩ = some (.int .i64 x.s) := hcs 1 (by omega)
      have c2 : wr.cell? ⟨g, off + i * 5 + 2, none⟩ = some (.int .i64 x.c) := hcs 2 (by omega)
      have c3 : wr.cell? ⟨g, off + i * 5 + 3, none⟩ = some (.int .i64 x.k) := hcs 3 (by omega)
      have c4 : wr.cell? ⟨g, off + i * 5 + 4, none⟩ = some (.int .i64 x.v) := hcs 4 (by omega)
      have k := iright_any x
      unfold aLt at k
      have HP := hidden (PB.new wr #[.int .i64 x.f, .int .i64 x.s, .int .i64 x.c, .int .i64 x.k, .int .i64 x.v] 29)
      have hbx : Below wr.heap.size wr (wr.alloc (.cells #[.int .i64 x.f, .int .i64 x.s, .int .i64 x.c, .int .i64 x.k, .int .i64 x.v] 29)) := (Below.refl _ _).alloc (Nat.le_refl _) _
      have HX := hidden hx
      have hO := hidden ho
      clear hcs hx ho hbw
      cases hq : ltB x with
      | false =>
          rw [hq] at k
          have HQ : Hid (L = came (l.take (i + 1)) f) := by rw [Hid, came_no HX.out (by simp [ofB, hq])]; exact HL.out
          clear hq
          go_wp2_with (go_at_call 25; (with_reducible refine (k _).mono ?_); rintro e w4 ⟨rfl, hb4⟩; have z4 := (ontoG hbx hb4).size; have e0 : w4.cell? ⟨wr.heap.size, 0, none⟩ = some (.int .i64 x.f) := (HP.out.below hb4).cell 0; have e1 : w4.cell? ⟨wr.heap.size, 1, none⟩ = some (.int .i64 x.s) := (HP.out.below hb4).cell 1)
          have b4 := ontoG hbx hb4
          have hbA := hb.trans (b4.mono hsz1)
          go_roundw
          case rel => exact ⟨i + 1, L, by omega, rfl, HQ, ⟨_, _, rfl, ownW_below hO.out b4⟩, hbA⟩
          case measure => simp [intOf]; omega
      | true =>
        rw [hq] at k
        by_cases hf : x.f = f
        · have HQ : Hid (L ++ [x.s] = came (l.take (i + 1)) f) := by rw [Hid, came_yes HX.out (by simp [ofB, hq, hf]), HL.out]
          have heq : (x.f == f) = true := by simp [hf]
          clear hq hf
          go_wp2_with (first | (go_at_call 25; (with_reducible refine (k _).mono ?_); rintro e w4 ⟨rfl, hb4⟩; have z4 := (ontoG hbx hb4).size; have e0 : w4.cell? ⟨wr.heap.size, 0, none⟩ = some (.int .i64 x.f) := (HP.out.below hb4).cell 0; have e1 : w4.cell? ⟨wr.heap.size, 1, none⟩ = some (.int .i64 x.s) := (HP.out.below hb4).cell 1) | (at_builtin; refine wpList_append_own_at _ rfl (.tmp 32) (.tmp 35) 33 rfl (w.heap.size + 1) 2 i0 (.int .i64 0) 1 8 Try.underlying33 hi0 hv0 hv1 hv2 rfl (by decide) _ L.length (L.map fun z => Value.int .i64 z) rfl ((ownW_below hO.out (ontoG hbx hb4)).alloc _) ⟨w4.heap.size, 0, none⟩ 1 1 [.int .i64 x.s] rfl rfl (cell_oneW _ _ _) (by simp [Value.oneCell']) (by unfold maxLen; omega) (by omega) (by simp; omega) ?_; intro v5 w5 ho5 hg5 hn5 hl5; obtain ⟨ad5, c5, rfl⟩ := ownW_slice ho5))
          have b4 := ontoG hbx hb4
          have hz4 := b4.size
          have b5 := ((hb.trans (b4.mono hsz1)).alloc (by omega) (.cells #[.int .i64 x.s] 2)).grown hg5 (by simp; omega) (fun k hk => (ownW_lt hO.out k hk).1)
          go_roundw
          case rel => exact ⟨i + 1, L ++ [x.s], by omega, rfl, HQ, ⟨_, _, by rw [List.length_append]; rfl, by rw [List.length_append, List.map_append]; exact ho5⟩, b5⟩
          case measure => simp [intOf]; omega
        · have HQ : Hid (L = came (l.take (i + 1)) f) := by rw [Hid, came_no HX.out (by simp [ofB, hf])]; exact HL.out
          have heq : (x.f == f) = false := by simp [hf]
          clear hq hf
          go_wp2_with (go_at_call 25; (with_reducible refine (k _).mono ?_); rintro e w4 ⟨rfl, hb4⟩; have z4 := (ontoG hbx hb4).size; have e0 : w4.cell? ⟨wr.heap.size, 0, none⟩ = some (.int .i64 x.f) := (HP.out.below hb4).cell 0; have e1 : w4.cell? ⟨wr.heap.size, 1, none⟩ = some (.int .i64 x.s) := (HP.out.below hb4).cell 1)
          have b4 := ontoG hbx hb4
          have hbA := hb.trans (b4.mono hsz1)
          go_roundw
          case rel => exact ⟨i + 1, L, by omega, rfl, HQ, ⟨_, _, rfl, ownW_below hO.out b4⟩, hbA⟩
          case measure => simp [intOf]; omega
    · have hlti : ¬ (i : Int) < (l.length : Int) := by omega
      have hil : i = l.length := by omega
      have HC : Hid (L = came l f) := by have := HL.out; rw [hil, List.take_length] at this; exact this
      have kr := rising_any ad c (w.heap.size + 1) L wr (by omega) ho
      have hri := rise_inv L
      have hrl := rise_len L
      have hR0 : ∀ y ∈ rise L, 0 ≤ y := fun y hy => by
        have := (hri.2 y).1 hy
        rw [HC.out] at this
        exact (came_bd this).1
      have hR1 : ∀ y ∈ rise L, y ≤ 9999 := fun y hy => by
        have := (hri.2 y).1 hy
        rw [HC.out] at this
        exact (came_bd this).2
      have HM : Hid (M = missTo L (nextOf (rise L) (rise L).length).toNat) := by rw [Hid, HE.out, ← HC.out, miss_end hri.1 hri.2 hR0]
      generalize rise L = R at *
      have HRI := hidden hri
      have HR0 := hidden hR0
      have HR1 := hidden hR1
      have hB := hidden hb
      clear HL HC HE ho hb hri hR0 hR1 hil
      go_wp2_with (go_at_call 26; (with_reducible refine kr.mono ?_); rintro e wR ⟨rfl, hoR, hbR⟩)
      have bR := hbR _ hB.out
      have hzR := bR.size
      have hO0 : wR.ownsRow w.heap.size 2 1 (.slice (some ⟨w.heap.size, 0, none⟩) 0 0) 0 [] := ownW_below HO0.out (by rw [HW1.out]; exact bR)
      have hzR1 : w.heap.size + 1 ≤ wR.heap.size := by have := HW1.out; omega
      have HOR := hidden hoR
      have bRw : Below w.heap.size w wR := HB0.out.trans (bR.mono (by omega))
      clear kr hbR hB hoR bR HO0 HB0
      go_loopw [5, 9, 11, 41] (fun mv nv _ iv ws => ∃ (j : Nat) (N : List Int), j ≤ R.length ∧ iv = .int .i64 j ∧ nv = .int .i64 (nextOf R j) ∧ Hid (N = missTo L (nextOf R j).toNat) ∧ (∃ ad2 c2, mv = .slice ad2 N.length c2 ∧ ws.ownsRow w.heap.size 2 1 (.slice ad2 N.length c2) N.length (N.map fun z => Value.int .i64 z) ∧ ∀ b, (Value.slice ad2 N.length c2).ownBlock = some b → b = w.heap.size ∨ wR.heap.size ≤ b) ∧ Hid (ws.ownsRow (w.heap.size + 1) 2 1 (.slice ad R.length c) R.length (R.map fun z => Value.int .i64 z)) ∧ wR.heap.size ≤ ws.heap.size ∧ Below w.heap.size w ws) (fun _ _ _ iv _ => R.length - (intOf iv).toNat)
      case atStart => exact ⟨0, [], Nat.zero_le _, rfl, rfl, rfl, ⟨_, _, rfl, hO0, fun b hb => Or.inl (by simpa [Value.ownBlock] using hb.symm)⟩, HOR, Nat.le_refl _, bRw⟩
      case round =>
        clear hO0 bRw
        obtain ⟨j, N, hj, rfl, rfl, HN, ⟨ad2, c2, rfl, hoN, hap⟩, HOw, hzs, hbs⟩ := hrel
        by_cases hlt2 : j < R.length
        · have hlti2 : (j : Int) < (R.length : Int) := by omega
          obtain ⟨y, hy⟩ := some_of R j hlt2
          have hnl := next_le HRI.out.1 hy HR0.out
          have hy1 := HR1.out y (List.mem_of_getElem? hy)
          have HGAP : Hid (∀ z : Int, nextOf R j ≤ z → z < y → z ∉ L) := fun z z1 z2 z3 => gap HRI.out.1 hy z1 z2 (by omega) HR0.out ((HRI.out.2 z).2 z3)
          have HYL : Hid (y ∈ L) := (HRI.out.2 y).1 (List.mem_of_getElem? hy)
          have HNX : Hid (nextOf R (j + 1) = y + 1) := next_succ hy
          obtain ⟨gR, offR, rfl, hgR, hcR⟩ := vint_cell (vownI HOw.out).row hy
          have HBL : Hid (∀ k, (Value.slice (some ⟨gR, offR, none⟩) R.length c).ownBlock = some k → w.heap.size + 1 ≤ k ∧ k < wR.heap.size) := fun k hk => ownW_lt HOR.out k hk
          clear hy
          generalize nextOf R j = nx at *
          obtain ⟨m0, rfl⟩ : ∃ m0 : Nat, nx = m0 := ⟨nx.toNat, by omega⟩
          have hm0 : (m0 : Int) ≤ y := hnl.2
          clear hnl
          have HN0 : Hid (N = missTo L m0) := HN.out
          have HoN := hidden hoN
          have HAP := hidden hap
          clear HN hoN hap
          go_wp2_with fail
          go_loopw [5, 9] (fun mv nv wt => ∃ (m : Nat) (N2 : List Int), m0 ≤ m ∧ (m : Int) ≤ y ∧ nv = .int .i64 m ∧ Hid (N2 = missTo L m) ∧ (∃ ad3 c3, mv = .slice ad3 N2.length c3 ∧ wt.ownsRow w.heap.size 2 1 (.slice ad3 N2.length c3) N2.length (N2.map fun z => Value.int .i64 z) ∧ ∀ b, (Value.slice ad3 N2.length c3).ownBlock = some b → b = w.heap.size ∨ wR.heap.size ≤ b) ∧ Hid (wt.ownsRow (w.heap.size + 1) 2 1 (.slice (some ⟨gR, offR, none⟩) R.length c) R.length (R.map fun z => Value.int .i64 z)) ∧ wR.heap.size ≤ wt.heap.size ∧ Below w.heap.size w wt) (fun _ nv _ => y.toNat - (intOf nv).toNat)
          case atStart => exact ⟨m0, N, Nat.le_refl _, hm0, rfl, HN0, ⟨_, _, rfl, HoN.out, HAP.out⟩, HOw, hzs, hbs⟩
          case round =>
            clear HN0 HoN HAP HOw hzs hbs hcR hgR
            obtain ⟨m, N2, hm1, hm2, rfl, HN2, ⟨ad3, c3, rfl, hoN2, hap2⟩, HOw2, hzt, hbt⟩ := hrel
            have hN2l : N2.length ≤ m := by rw [HN2.out]; exact miss_len L m
            have hsw := hbt.size
            by_cases hmy : (m : Int) < y
            · have HQ : Hid (N2 ++ [(m : Int)] = missTo L (m + 1)) := by rw [Hid, miss_no (HGAP.out m (by omega) hmy), HN2.out]
              have HoN2 := hidden hoN2
              have HAP2 := hidden hap2
              clear hoN2 hap2 HN2
              go_wp2_with (at_builtin; refine wpList_append_own_at _ rfl (.tmp 50) (.tmp 52) 33 rfl w.heap.size 2 i0 (.int .i64 0) 1 8 Try.underlying33 hi0 hv0 hv1 hv2 rfl (by decide) _ N2.length (N2.map fun z => Value.int .i64 z) rfl (HoN2.out.alloc _) ⟨wr.heap.size, 0, none⟩ 1 1 [.int .i64 (m : Int)] rfl rfl (cell_oneW _ _ _) (by simp [Value.oneCell']) (by unfold maxLen; omega) (by omega) (by simp; omega) ?_; intro v5 w5 ho5 hg5 hn5 hl5; obtain ⟨ad5, c5, rfl⟩ := ownW_slice ho5)
              have b5 := (hbt.alloc (by omega) (.cells #[.int .i64 (m : Int)] 2)).grown hg5 (by simp; omega) (fun k hk => (ownW_lt HoN2.out k hk).1)
              have z5 := hg5.size
              rw [World.size_alloc] at z5
              have HR5 := hidden (ownY_grown (HOw2.out.alloc (.cells #[.int .i64 (m : Int)] 2)) hg5 (fun k hk e => by
                have q1 := HBL.out k hk
                have q2 := HAP2.out k e.symm
                omega))
              have HA5 : Hid (∀ b, (Value.slice ad5 (N2.length + 1) c5).ownBlock = some b → b = w.heap.size ∨ wR.heap.size ≤ b) := fun b hb => by
                rcases hl5 with q | q
                · rw [q] at hb; exact HAP2.out b hb
                · rw [q] at hb
                  have : (wr.alloc (.cells #[.int .i64 (m : Int)] 2)).heap.size = b := by simpa using hb
                  rw [World.size_alloc] at this
                  right; omega
              go_roundw
              case rel => exact ⟨m + 1, N2 ++ [(m : Int)], by omega, by omega, rfl, HQ, ⟨_, _, by rw [List.length_append]; rfl, by rw [List.length_append, List.map_append]; exact ho5, by rw [List.length_append]; exact HA5.out⟩, HR5, by omega, b5⟩
              case measure => simp [intOf]; omega
            · obtain rfl : y = (m : Int) := by omega
              have HQ : Hid (N2 = missTo L (nextOf R (j + 1)).toNat) := by
                rw [Hid, HNX.out, show ((m : Int) + 1).toNat = m + 1 by omega, miss_yes HYL.out]; exact HN2.out
              have HNX' := hidden HNX.out.symm
              go_wp2_with fail
              go_roundw
              case rel => exact ⟨j + 1, N2, by omega, rfl, by rw [HNX.out], HQ, ⟨_, _, rfl, hoN2, hap2⟩, HOw2, hzt, hbt⟩
              case measure => simp [intOf]; omega
        · have hlti2 : ¬ (j : Int) < (R.length : Int) := by omega
          have hjl : j = R.length := by omega
          have HQ : Hid (N = M) := by rw [Hid, HM.out, HN.out, hjl]
          have HoN := hidden hoN
          clear hjl HN hoN
          go_wp2_with fail
          go_ret
          rw [← HQ.out]
          exact ⟨_, rfl, vownI HoN.out, hbs⟩
end Go.Proofs.Ytbabknhccapaoaa
