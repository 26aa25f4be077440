/-
  What slices.DeleteFunc leaves of a row of doses: the walk.
-/
import Derived.Test.YtcnhogghfedcdaaMi1
namespace Go.Proofs.Ytcnhogghfedcdaa
open Go.RowKit Va Ga
set_option linter.unusedVariables false

set_option maxRecDepth 20000 in
set_option maxHeartbeats 4000000 in
theorem idelete_any (G n Bd : Nat) (z : Int) (D : List Gv) (cur0 : Array Value) (w : World) (hP : PB w G cur0 49) (hs : cur0.size = n * 3) (hn : n = D.length) (hn2 : n ≤ 1048576) (hj : CJ cur0 D 0) (hB : Bd < G) (hc : w.cell? ⟨Bd, 0, none⟩ = some (.int .i64 z)) :
    Calls Try.prog 65 #[.slice (some ⟨G, 0, none⟩) n n, (.func (.func 66) #[] #[.pointer (some ⟨Bd, 0, none⟩)])] w fun e w' => e = .returned (.slice (some ⟨G, 0, none⟩) (D.filter (keep z)).length n) ∧ (∃ cur', PB w' G cur' 49 ∧ cur'.size = n * 3 ∧ CI cur' (D.filter (keep z)) (D.filter (keep z)).length) ∧ Below G w w' := by
  subst hn
  have hGl := hP.lt
  have hn : D.length = D.length := rfl
  have HS := hidden hs
  clear hs
  have hI := iindex_any (some ⟨G, 0, none⟩) D.length D.length Bd z D w (pb_row hP rfl (Nat.le_refl _) hj) (by omega) (by omega) hc
  have hzv : ∀ w, (zeroValue 49).run Try.prog w = .ok (.agg #[.int .i64 0, .int .i64 0, .int .i64 0]) w := fun w => by
    obtain ⟨i0, h1, h2, h3, h4⟩ := info_parts infoGvM
    simp [zeroValue, typeInfo, h1, h2]
  have HP := hidden hP
  have HJ := hidden hj
  clear hP hj
  generalize hK : D.filter (keep z) = K
  have HK := hidden hK
  clear hK
  go_enter Try.func65, Try.ntmps65
  go_wp2_with fail
  refine hI.mono ?_
  rintro e w1 ⟨⟨r, rfl, hr⟩, hb1⟩
  clear hI
  rcases hr with ⟨rfl, hall⟩ | ⟨k, y, rfl, hky, hnk, hfst⟩
  · have HF : Hid (K = D) := HK.out.symm.trans (List.filter_eq_self.2 hall)
    go_wp2_with fail
    go_ret
    rw [HF.out]
    refine ⟨rfl, ⟨cur0, HP.out.below hb1, HS.out, fun k x hk hx q hq => HJ.out k x (Nat.zero_le _) hx q hq⟩, hb1.mono (by omega)⟩
  have hkl := get_lt' hky
  obtain ⟨hf1, hf2⟩ := filt_first hfst (by omega)
  have HKL : Hid (((D.take (k + 1)).filter (keep z)).length = k) := by rw [Hid, filt_no hky hnk, hf1]
  have HCI : Hid (CI cur0 K k) := fun q x hq hx => HJ.out q x (Nat.zero_le _) (hf2 q x hq (by rw [HK.out]; exact hx))
  have HP1 := hidden (HP.out.below hb1)
  have HB1 := hidden (hb1.mono (show G ≤ w.heap.size by omega))
  have hsz1 := hb1.size
  clear hf1 hf2 hky hnk hfst hb1 HP
  have hk1 : ((k : Int) == -1) = false := by rw [beq_eq_false_iff_ne]; omega
  go_wp2_with fail
  go_loopw [5, 6, 7] (fun iv jv _ wr => ∃ (i j : Nat) (cur : Array Value), i < j ∧ j ≤ D.length ∧ iv = .int .i64 i ∧ jv = .int .i64 j ∧ Hid (((D.take j).filter (keep z)).length = i) ∧ Hid (Below G w wr) ∧ Hid (PB wr G cur 49) ∧ Hid (cur.size = D.length * 3) ∧ Hid (CI cur K i) ∧ Hid (CJ cur D j)) (fun _ jv _ _ => D.length - (intOf jv).toNat)
  case atStart => exact ⟨k, k + 1, cur0, by omega, by omega, rfl, rfl, HKL, HB1, HP1, HS, HCI, fun q x _ hx => HJ.out q x (Nat.zero_le _) hx⟩
  case round =>
    clear HKL HCI HP1 HB1 HJ HS hsz1
    obtain ⟨i, j, cur, hij, hjn, rfl, rfl, hil, hb, hPB, hcs, hci, hcj⟩ := hrel
    have hGw := hPB.out.lt
    have HCS := hidden hcs.out
    clear hcs
    by_cases hlt : j < D.length
    · have hlti : (j : Int) < (D.length : Int) := by omega
      obtain ⟨x, hx⟩ := some_of D j (by omega)
      have c0 : wr.cell? ⟨G, j * 3, none⟩ = some (.int .i64 x.d) := (hPB.out.cell _).trans (hcj.out j x (Nat.le_refl _) hx 0 (by omega))
      have c1 : wr.cell? ⟨G, j * 3 + 1, none⟩ = some (.int .i64 x.t) := (hPB.out.cell _).trans (hcj.out j x (Nat.le_refl _) hx 1 (by omega))
      have c2 : wr.cell? ⟨G, j * 3 + 2, none⟩ = some (.int .i64 x.n) := (hPB.out.cell _).trans (hcj.out j x (Nat.le_refl _) hx 2 (by omega))
      have bx : Below wr.heap.size wr (wr.alloc (.cells #[.int .i64 x.d, .int .i64 x.t, .int .i64 x.n] 49)) := (Below.refl _ _).alloc (Nat.le_refl _) _
      have hPx := PB.new wr #[.int .i64 x.d, .int .i64 x.t, .int .i64 x.n] 49
      have hPG := hPB.out.alloc (.cells #[.int .i64 x.d, .int .i64 x.t, .int .i64 x.n] 49)
      have hcc : (wr.alloc (.cells #[.int .i64 x.d, .int .i64 x.t, .int .i64 x.n] 49)).cell? ⟨Bd, 0, none⟩ = some (.int .i64 z) := (bx.cell (p := ⟨Bd, 0, none⟩) (show Bd < wr.heap.size by omega)).trans ((hb.out.cell (p := ⟨Bd, 0, none⟩) hB).trans hc)
      have hK := idel_any x Bd z (wr.alloc (.cells #[.int .i64 x.d, .int .i64 x.t, .int .i64 x.n] 49)) (by simp; omega) hcc
      unfold aGv at hK
      have HBx := hidden (hb.out.trans (bx.mono (show G ≤ wr.heap.size by omega)))
      have HPG := hidden hPG
      have HPx := hidden hPx
      cases hp : keep z x with
      | true =>
        rw [hp] at hK
        obtain ⟨f1, f2⟩ := filt_yes hx hp
        rw [hil.out] at f1 f2
        rw [HK.out] at f1
        have HF2 := hidden f2
        have HCI2 := hidden (hci.out.put (x := x) f1 (by have := HCS.out; omega))
        have HCJ2 := hidden (hcj.out.put (x := x) hij)
        clear hx hp hcc hPG hPx bx f1 f2 hil hci hcj hb hPB
        go_wp2_with fail
        refine hK.mono ?_
        rintro e w3 ⟨rfl, hb3⟩
        have hG3 := HPG.out.below hb3
        obtain ⟨d0, d1, d2⟩ := (HPx.out.below hb3).three
        have u0 : w3.cell? ⟨G, i * 3, none⟩ = some (cur[i * 3]'(by have := HCS.out; omega)) := (hG3.cell _).trans (Array.getElem?_eq_getElem (by have := HCS.out; omega))
        have u1 : w3.cell? ⟨G, i * 3 + 1, none⟩ = some (cur[i * 3 + 1]'(by have := HCS.out; omega)) := (hG3.cell _).trans (Array.getElem?_eq_getElem (by have := HCS.out; omega))
        have u2 : w3.cell? ⟨G, i * 3 + 2, none⟩ = some (cur[i * 3 + 2]'(by have := HCS.out; omega)) := (hG3.cell _).trans (Array.getElem?_eq_getElem (by have := HCS.out; omega))
        have v0 := hG3.frozen (i * 3)
        have v1 := hG3.frozen (i * 3 + 1)
        have v2 := hG3.frozen (i * 3 + 2)
        have HS3 := hidden (show PB (((w3.setCell ⟨G, i * 3, none⟩ (.int .i64 x.d)).setCell ⟨G, i * 3 + 1, none⟩ (.int .i64 x.t)).setCell ⟨G, i * 3 + 2, none⟩ (.int .i64 x.n)) G (set3 cur i x) 49 from ((hG3.set (i * 3) (.int .i64 x.d)).set (i * 3 + 1) (.int .i64 x.t)).set (i * 3 + 2) (.int .i64 x.n))
        have HB3 := hidden ((((HBx.out.trans (hb3.mono (by simp; omega))).setCell (p := ⟨G, i * 3, none⟩) (Nat.le_refl _) (.int .i64 x.d)).setCell (p := ⟨G, i * 3 + 1, none⟩) (Nat.le_refl _) (.int .i64 x.t)).setCell (p := ⟨G, i * 3 + 2, none⟩) (Nat.le_refl _) (.int .i64 x.n))
        generalize cur[i * 3]'(by have := HCS.out; omega) = p0 at u0
        generalize cur[i * 3 + 1]'(by have := HCS.out; omega) = p1 at u1
        generalize cur[i * 3 + 2]'(by have := HCS.out; omega) = p2 at u2
        have hlt2 : (i : Int) < (D.length : Int) := by omega
        clear hb3 hG3 HPG HPx HBx hK
        go_wp2_with fail
        go_roundw
        case rel => exact ⟨i + 1, j + 1, set3 cur i x, by omega, by omega, rfl, rfl, HF2, HB3, HS3, by rw [Hid, set3_size]; exact HCS.out, HCI2, HCJ2⟩
        case measure => simp [intOf]; omega
      | false =>
        rw [hp] at hK
        have HF2 : Hid (((D.take (j + 1)).filter (keep z)).length = i) := by rw [Hid, filt_no hx hp, hil.out]
        have HCJ2 := hidden hcj.out.next
        clear hx hp hcc hPG hPx bx hil hcj hb hPB
        go_wp2_with fail
        refine hK.mono ?_
        rintro e w3 ⟨rfl, hb3⟩
        have HG3 := hidden (HPG.out.below hb3)
        have HB3 := hidden (HBx.out.trans (hb3.mono (by simp; omega)))
        clear hb3 HPG HPx HBx hK
        go_wp2_with fail
        go_roundw
        case rel => exact ⟨i, j + 1, cur, by omega, by omega, rfl, rfl, HF2, HB3, HG3, HCS, hci, HCJ2⟩
        case measure => simp [intOf]; omega
    · have hlti : ¬ (j : Int) < (D.length : Int) := by omega
      have hjl : j = D.length := by omega
      subst hjl
      have hKi : K.length = i := by have := hil.out; rw [List.take_length, HK.out] at this; exact this
      have hin : (i : Int) < (D.length : Int) := by omega
      have HKi := hidden hKi
      clear hKi
      obtain ⟨cur2, hrun, hs2, hlow⟩ := run_clear_wide (P := Try.prog) wr 42 49 0 (.agg #[.int .i64 0, .int .i64 0, .int .i64 0]) 3 G (i * 3) (D.length - i) (D.length - i) cur 49 Try.underlying42 hzv rfl (by simp [Value.cells, Value.oneCell']) (by omega) (by omega) hPB.out (by have := HCS.out; omega)
      have HS2 := hidden hs2
      have HLow := hidden hlow
      clear hs2 hlow
      go_wp2_with fail
      have HP2 := hidden (PB.row (cur' := cur2) hPB.out)
      go_ret
      rw [HKi.out]
      refine ⟨rfl, ⟨cur2, HP2.out, by rw [HS2.out]; exact HCS.out, ?_⟩, below_setRow hb.out (Nat.le_refl _) cur2⟩
      intro k x hk hx q hq
      rw [HLow.out _ (by omega)]
      exact hci.out k x hk hx q hq
end Go.Proofs.Ytcnhogghfedcdaa
