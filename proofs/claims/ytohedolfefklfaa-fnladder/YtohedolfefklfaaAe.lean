/-
  Waits and a minute, drawn of bytes.
-/
import Derived.Test.YtohedolfefklfaaAd
namespace Go.Proofs.Ytohedolfefklfaa
open Go.RowKit Va Oa
set_option linter.unusedVariables false

set_option maxRecDepth 20000 in
set_option maxHeartbeats 4000000 in
theorem dladder_any (ao : Option Addr) (cap : Nat) (bs : List Int) (w : World) (hb : Bytes w w.heap.size ao bs) (hl : bs.length ≤ 1048576) :
    Calls Try.prog 10 #[.slice ao bs.length cap] w fun e w' => ∃ v l h, e = .returned (.tuple #[v, .int .i64 h]) ∧ IRw w' v l ∧ l.length ≤ 30 ∧ -1 ≤ h ∧ h ≤ 4611686018427387904 ∧ Below w.heap.size w w' := by
  obtain ⟨i0, hi0, hy0, hy1, hy2⟩ := info_partsO infoI64
  go_enter Try.func10, Try.ntmps10
  go_wp2_with fail
  refine (new_any ao cap bs w hb hl).mono ?_
  rintro e wN ⟨rfl, hcN, hbN⟩
  have HBN := hidden hbN
  have hgN : w.heap.size < wN.heap.size := hcN.1
  have h0 := DI.start hcN
  clear hbN hb
  generalize hG : w.heap.size = g at *
  generalize hwA : wN.alloc (.cells #[] 2) = wA at *
  go_wp2_with fail
  refine (below_any g ao cap bs 7 _ h0.cur (by omega)).mono ?_
  rintro e w1 ⟨y1, rfl, p1, q1, hc1, hk1⟩
  have h1 := h0.call hc1 hk1
  clear hwA h0 hc1 hk1
  obtain ⟨n1, rfl⟩ := Int.eq_ofNat_of_zero_le p1
  generalize hv0 : Value.slice (some ⟨wN.heap.size, 0, none⟩) 0 0 = v0 at *
  go_wp2_with fail
  go_loopw [5, 6] (fun v nv wr => ∃ (l : List Int) (k : Nat), nv = .int .i64 k ∧ l.length + k ≤ 7 ∧ DI wN wr g ao cap bs v l) (fun _ nv _ => (intOf nv).toNat)
  case atStart => exact ⟨[], n1, rfl, by simp; omega, h1⟩
  case round =>
    clear h1 hv0
    obtain ⟨l, k, rfl, hlk, hd⟩ := hrel
    obtain ⟨ad, c, rfl⟩ := hd.form
    by_cases hk0 : 0 < k
    · have hk1 : (0 : Int) < (k : Int) := by omega
      go_wp2_with fail
      refine (below_any g ao cap bs 20 _ hd.cur (by omega)).mono ?_
      rintro e w2 ⟨a1, rfl, a10, a11, hc2, hk2⟩
      have hd2 := hd.call hc2 hk2
      clear hc2 hk2 hd
      go_wp2_with (at_builtin; refine wpList_append_own _ rfl (.tmp 17) (.tmp 21) 24 rfl wN.heap.size 2 i0 (.int .i64 0) 1 8 Try.underlying24 hi0 hy0 hy1 hy2 rfl (by decide) _ l.length (l.map fun z => Value.int .i64 z) rfl (hd2.alloc _).own ⟨w2.heap.size, 0, none⟩ 1 1 [.int .i64 (1 + a1)] rfl rfl (cell_oneD _ _ _) (by simp [Value.oneCell']) (by unfold maxLen; omega) (by omega) (by have := hd2.keep.size; simp; omega) ?_; intro v6 w6 ho6 hg6 hnn6; have hd6 := (hd2.alloc _).app ho6 hg6; clear ho6 hg6 hnn6)
      go_roundw
      case rel => exact ⟨l ++ [1 + a1], k - 1, by congr 1; omega, by simp; omega, hd6⟩
      case measure => simp [intOf]; omega
    · have hk1 : ¬ (0 : Int) < (k : Int) := by omega
      have hl7 : l.length ≤ 7 := by omega
      clear hlk p1 q1
      go_upto_region 8 with (go_at_call 32; refine (below_any g ao cap bs 80 _ hd.cur (by omega)).mono ?_; rintro e w3 ⟨h3, rfl, h30, h31, hc3, hk3⟩)
      have hd3 := hd.call hc3 hk3
      clear hc3 hk3 hd
      go_upto_if 26 with (go_at_call 33; refine (once_any g ao cap bs 10 _ hd3.cur (by omega)).mono ?_; rintro e w4 ⟨t4, rfl, hc4, hk4⟩)
      have hd4 := hd3.call hc4 hk4
      clear hc4 hk4 hd3
      go_cut [7] (fun hv wx => ∃ h : Int, hv = .int .i64 h ∧ -1 ≤ h ∧ h ≤ 4611686018427387904 ∧ DI wN wx g ao cap bs (.slice ad l.length c) l)
      case first =>
        rcases t4 with _ | _
        · go_wp2_with fail
          go_meet
          case rel => exact ⟨h3, rfl, by omega, by omega, hd4⟩
        · have hdT := hd4.alloc (.cells #[.int .i64 (-1), .int .i64 0, .int .i64 4611686018427387904] 2)
          have hg9 := hd4.cur.1
          go_wp2_with fail
          refine (below_any g ao cap bs 3 _ hdT.cur (by omega)).mono ?_
          rintro e wC ⟨yC, rfl, hyA, hyB, hcC, hkC⟩
          have hdC := hdT.call hcC hkC
          have hzz : ∀ k : Nat, k < 3 → wC.cell? ⟨w4.heap.size, k, none⟩ = [Value.int .i64 (-1), .int .i64 0, .int .i64 4611686018427387904][k]? := fun k hk => by
            rw [hkC.cell (by simp) (by omega)]
            have e := heap_alloc_new w4 (.cells #[.int .i64 (-1), .int .i64 0, .int .i64 4611686018427387904] 2)
            simp only [World.cell?, e]
            simp
          clear hcC hkC hdT
          rcases (show yC = 0 ∨ yC = 1 ∨ yC = 2 by omega) with rfl | rfl | rfl
          · have c0 := hzz 0 (by omega)
            simp at c0
            clear hzz
            go_wp2_with fail
            go_meet
            case rel => exact ⟨-1, rfl, by omega, by omega, hdC⟩
          · have c0 := hzz 1 (by omega)
            simp at c0
            clear hzz
            go_wp2_with fail
            go_meet
            case rel => exact ⟨0, rfl, by omega, by omega, hdC⟩
          · have c0 := hzz 2 (by omega)
            simp at c0
            clear hzz
            go_wp2_with fail
            go_meet
            case rel => exact ⟨4611686018427387904, rfl, by omega, by omega, hdC⟩
      case rest =>
        obtain ⟨h, rfl, hh0, hh1, hd5⟩ := hcut
        clear hd4
        go_upto_region 10 with (fail)
        go_cut [38] (fun tv wx => ∃ t : Bool, tv = .bool t ∧ (t = true → 0 < l.length) ∧ DI wN wx g ao cap bs (.slice ad l.length c) l)
        case first =>
          by_cases hl0 : (0 : Int) < (l.length : Int)
          · go_wp2_with fail
            refine (once_any g ao cap bs 20 _ hd5.cur (by omega)).mono ?_
            rintro e w8 ⟨t8, rfl, hc8, hk8⟩
            have hd8 := hd5.call hc8 hk8
            clear hc8 hk8 hd5
            rcases t8 with _ | _
            · go_wp2_with fail
              go_meet
              case rel => exact ⟨_, rfl, (fun _ => (by omega)), hd8⟩
            · go_wp2_with fail
              go_meet
              case rel => exact ⟨_, rfl, (fun _ => (by omega)), hd8⟩
          · go_wp2_with fail
            refine (once_any g ao cap bs 20 _ hd5.cur (by omega)).mono ?_
            rintro e w8 ⟨t8, rfl, hc8, hk8⟩
            have hd8 := hd5.call hc8 hk8
            clear hc8 hk8 hd5
            rcases t8 with _ | _
            · go_wp2_with fail
              go_meet
              case rel => exact ⟨_, rfl, (fun q => (by cases q)), hd8⟩
            · go_wp2_with fail
              go_meet
              case rel => exact ⟨_, rfl, (fun q => of_decide_eq_true q), hd8⟩
        case rest =>
          obtain ⟨t, rfl, hl0, hd8⟩ := hcut
          clear hd5
          go_upto_if 38 with fail
          go_cut [] (fun wx => ∃ l' : List Int, Hid (l'.length = l.length) ∧ DI wN wx g ao cap bs (.slice ad l.length c) l')
          case first =>
            rcases t with _ | _
            · go_wp2_with fail
              go_meet
              case rel => exact ⟨l, rfl, hd8⟩
            · replace hl0 := hl0 rfl
              have hl1 : (0 : Int) < (l.length : Int) := by omega
              have hdT := hd8.alloc (.cells #[.int .i64 0, .int .i64 1000, .int .i64 1001] 2)
              have hg9 := hd8.cur.1
              go_wp2_with fail
              refine (below_any g ao cap bs 3 _ hdT.cur (by omega)).mono ?_
              rintro e wC ⟨yC, rfl, hyA, hyB, hcC, hkC⟩
              obtain ⟨kk, rfl⟩ := Int.eq_ofNat_of_zero_le hyA
              have hkk : kk < 3 := by omega
              obtain ⟨z, hz⟩ := tab_at [0, 1000, 1001] wc wC g _ hkC hg9 kk hkk
              have hdC := hdT.call hcC hkC
              obtain ⟨G, rfl, hgG, ⟨⟨u0, s0⟩, f0⟩, hst⟩ := hdC.front hl0
              obtain ⟨l', hl', hd'⟩ := hst z
              have HL' := hidden hl'
              clear hcC hkC hdT hst hl'
              go_wp2_with fail
              go_meet
              case rel => exact ⟨l', HL'.out, hd'⟩
          case rest =>
            obtain ⟨l', HL', hdR⟩ := hcut
            clear hd8 hl0
            have HL12 : Hid (l'.length ≤ 7) := by have := HL'.out; show _; rw [Hid]; omega
            rw [← HL'.out] at hdR
            rw [← HL'.out]
            clear HL' hl7
            go_upto_if 47 with (go_at_call 33; refine (once_any g ao cap bs 40 _ hdR.cur (by omega)).mono ?_; rintro e wS ⟨tS, rfl, hcS, hkS⟩)
            have hdS := hdR.call hcS hkS
            clear hcS hkS hdR
            have fin : ∀ (W : World) (v : Value) (m : List Int), DI wN W g ao cap bs v m → Below g w W := fun W v m hh => by
              have := HBN.out
              exact this.trans ((hh.keep.below (Nat.le_refl _) (by omega)))
            rcases tS with _ | _
            · go_wp2_with fail
              refine bodyPost_ret (v := .tuple #[.slice ad l'.length c, .int .i64 h]) (by simp [results, Try.results10, go_sem]) rfl ?_
              exact ⟨_, l', h, rfl, hdS.row, by have := HL12.out; omega, hh0, hh1, by rw [hG]; exact fin _ _ _ hdS⟩
            · generalize hvv : Value.slice ad l'.length c = vv at *
              go_wp2_with fail
              go_loopw [5] (fun v wr => ∃ l : List Int, l.length ≤ 21 ∧ DI wN wr g ao cap bs v l) (fun v _ => match v with | .slice _ n _ => 21 - n | _ => 0)
              case atStart => exact ⟨l', by have := HL12.out; omega, hdS⟩
              case round =>
                clear hdS hvv
                obtain ⟨l, hl, hdl⟩ := hrel
                obtain ⟨ad, c, rfl⟩ := hdl.form
                go_wp2_with fail
                refine (below_any g ao cap bs 2 _ hdl.cur (by omega)).mono ?_
                rintro e wb ⟨yb, rfl, hb0, hb1, hcb, hkb⟩
                have hdb := hdl.call hcb hkb
                clear hcb hkb hdl
                by_cases hlt : (l.length : Int) < 20 + yb
                · go_wp2_with (at_builtin; refine wpList_append_own _ rfl (.tmp 54) (.tmp 55) 24 rfl wN.heap.size 2 i0 (.int .i64 0) 1 8 Try.underlying24 hi0 hy0 hy1 hy2 rfl (by decide) _ l.length (l.map fun z => Value.int .i64 z) rfl (hdb.alloc _).own ⟨wb.heap.size, 0, none⟩ 1 1 [.int .i64 3] rfl rfl (cell_oneD _ _ _) (by simp [Value.oneCell']) (by unfold maxLen; omega) (by omega) (by have := hdb.keep.size; simp; omega) ?_; intro v6 w6 ho6 hg6 hnn6; have hd6 := (hdb.alloc _).app ho6 hg6; clear ho6 hg6 hnn6)
                  obtain ⟨ad6, c6, rfl⟩ := hd6.form
                  go_roundw
                  case rel => exact ⟨_, by rw [List.length_append]; simp; omega, hd6⟩
                  case measure => simp; omega
                · go_wp2_with fail
                  refine bodyPost_ret (v := .tuple #[.slice ad l.length c, .int .i64 h]) (by simp [results, Try.results10, go_sem]) rfl ?_
                  exact ⟨_, l, h, rfl, hdb.row, by omega, hh0, hh1, by rw [hG]; exact fin _ _ _ hdb⟩
end Go.Proofs.Ytohedolfefklfaa
