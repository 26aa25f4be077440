/-
  A queue drawn of a cursor: the second row, of 200 or one more.
-/
import Derived.Test.YtcfghnffacdekabSs
namespace Go.Proofs.Ytcfghnffacdekab
open Go.RowKit Va
set_option linter.unusedVariables false

set_option maxRecDepth 20000 in
set_option maxHeartbeats 4000000 in
theorem dqueue_any (g : Nat) (ao : Option Addr) (cap : Nat) (bs : List Int) (w : World) (hc : Cur w g ao cap bs) :
    Calls Try.prog 62 #[.pointer (some ⟨g, 0, none⟩)] w fun e w' => ∃ v l, e = .returned v ∧ DQ w w' g ao cap bs v l ∧ l.length ≤ 201 := by
  obtain ⟨i0, hi0, hy0, hy1, hy2⟩ := info_parts infoWt
  have h0 := DQ.start hc
  have hgl := hc.1
  go_enter Try.func62, Try.ntmps62
  generalize hwA : w.alloc (.cells #[] 61) = wA at *
  go_wp2_with fail
  refine (below_any g ao cap bs 12 _ h0.cur (by omega)).mono ?_
  rintro e w1 ⟨y1, rfl, p1, q1, hc1, hk1⟩
  have h1 := h0.call hc1 hk1
  clear hwA h0 hc1 hk1
  obtain ⟨n1, rfl⟩ := Int.eq_ofNat_of_zero_le p1
  generalize hv0 : Value.slice (some ⟨w.heap.size, 0, none⟩) 0 0 = v0 at *
  go_wp2_with fail
  go_loopw [3, 4] (fun v nv wr => ∃ (l : List Wt) (k : Nat), nv = .int .i64 k ∧ l.length + k ≤ 12 ∧ DQ w wr g ao cap bs v l) (fun _ nv _ => (intOf nv).toNat)
  case atStart => exact ⟨[], n1, rfl, by simp; omega, h1⟩
  case round =>
    obtain ⟨l, k, rfl, hlk, hd⟩ := hrel
    obtain ⟨ad, c, rfl⟩ := hd.form
    by_cases hk0 : 0 < k
    · have hk1 : (0 : Int) < (k : Int) := by omega
      go_wp2_with fail
      refine (below_any g ao cap bs 60 _ hd.cur (by omega)).mono ?_
      rintro e w2 ⟨a1, rfl, -, -, hc2, hk2⟩
      have hd2 := hd.call hc2 hk2
      clear hc2 hk2 hd
      go_wp2_with fail
      refine (below_any g ao cap bs 5 _ hd2.cur (by omega)).mono ?_
      rintro e w3 ⟨a2, rfl, a20, a21, hc3, hk3⟩
      have hd3 := hd2.call hc3 hk3
      clear hc3 hk3 hd2
      go_wp2_with fail
      refine (below_any g ao cap bs 60 _ hd3.cur (by omega)).mono ?_
      rintro e w4 ⟨a3, rfl, a30, a31, hc4, hk4⟩
      have hd4 := hd3.call hc4 hk4
      clear hc4 hk4 hd3
      have hdB := hd4.alloc (.cells #[.int .i64 a1, .int .i64 (1 + a2), .int .i64 (5 * a3)] 61)
      have hbx : (w4.alloc (.cells #[.int .i64 a1, .int .i64 (1 + a2), .int .i64 (5 * a3)] 61)).heap[w4.heap.size]? = some (.cells #[.int .i64 a1, .int .i64 (1 + a2), .int .i64 (5 * a3)] 61 (0, 0)) := heap_alloc_new _ _
      have hgV : g < w4.heap.size := hd4.cur.1
      clear hd4
      generalize hWW : w4.alloc (.cells #[.int .i64 a1, .int .i64 (1 + a2), .int .i64 (5 * a3)] 61) = wB at *
      generalize hVV : w4.heap.size = V at *
      go_wp2_with fail
      clear hWW hVV
      go_loopw [6, 7] (fun tv jv wr => ∃ (t : Bool) (j : Nat), tv = .bool t ∧ jv = .int .i64 j ∧ j ≤ l.length ∧ DQ w wr g ao cap bs (.slice ad l.length c) l ∧ wr.heap[V]? = some (.cells #[.int .i64 a1, .int .i64 (1 + a2), .int .i64 (5 * a3)] 61 (0, 0))) (fun _ jv _ => l.length - (intOf jv).toNat)
      case atStart => exact ⟨false, 0, rfl, rfl, Nat.zero_le _, hdB, hbx⟩
      case round =>
        clear hdB hbx
        obtain ⟨t, j, rfl, rfl, hj, hdn, hbx⟩ := hrel
        have b0 : wr.cell? ⟨V, 0, none⟩ = some (.int .i64 a1) := by simp only [World.cell?, hbx]; rfl
        have b1 : wr.cell? ⟨V, 1, none⟩ = some (.int .i64 (1 + a2)) := by simp only [World.cell?, hbx]; rfl
        have b2 : wr.cell? ⟨V, 2, none⟩ = some (.int .i64 (5 * a3)) := by simp only [World.cell?, hbx]; rfl
        by_cases hjl : j < l.length
        · have hji : (j : Int) < (l.length : Int) := by omega
          obtain ⟨y, hy⟩ := some_of l j hjl
          obtain ⟨G, off, rfl, hG, c0, -, -⟩ := wait_cells hdn.row hy
          rcases t with _ | _
          · go_wp2_with fail
            first
            | go_region_held3 (fun w' => w'.cell? ⟨G, off + j * 3, none⟩ = some (.int .i64 y.person) ∧ w'.cell? ⟨V, 0, none⟩ = some (.int .i64 a1)) (go_keep) (fail)
            | fail
            all_goals go_wp2_with fail
            all_goals go_roundw
            case rel => exact ⟨_, j + 1, rfl, rfl, by omega, hdn.drew, hbx⟩
            case measure => simp [intOf]; omega
          · go_wp2_with fail
            go_quiet (fail)
            all_goals go_wp2_with fail
            all_goals go_roundw
            all_goals first
              | (simp [intOf]; omega)
              | exact ⟨_, j + 1, rfl, rfl, by omega, hdn.drewN _, hbx⟩
        · have hji : ¬ (j : Int) < (l.length : Int) := by omega
          rcases t with _ | _
          · go_wp2_with (at_builtin; refine wpList_append_own _ rfl (.tmp 48) (.tmp 50) 55 rfl w.heap.size 61 i0 (.agg #[.int .i64 0, .int .i64 0, .int .i64 0]) 3 24 Try.underlying55 hi0 hy0 hy1 hy2 rfl (by decide) _ l.length (cellsL 3 csW l) rfl (hdn.alloc _).own ⟨wr.heap.size, 0, none⟩ 1 1 [.int .i64 a1, .int .i64 (1 + a2), .int .i64 (5 * a3)] rfl rfl (cell_three_new _ _ _ _ _) (three_one _ _ _) (by unfold maxLen; omega) (by omega) (by have := hdn.keep.size; simp; omega) ?_; intro v6 w6 ho6 hg6 hnn6; have hd6 := (hdn.alloc _).app (x := ⟨a1, 1 + a2, 5 * a3⟩) ho6 hg6; clear ho6 hg6 hnn6)
            go_roundw
            case rel => exact ⟨l ++ [⟨a1, 1 + a2, 5 * a3⟩], k - 1, by congr 1; omega, by simp; omega, hd6⟩
            case measure => simp [intOf]; omega
          · go_upto_if 47 with (go_at_call 50; refine (once_any g ao cap bs 40 _ hdn.cur (by omega)).mono ?_; rintro e w5 ⟨t5, rfl, hc5, hk5⟩)
            have hd5 := hdn.call hc5 hk5
            have hb5 := (hk5.block V (Array.getElem?_eq_some_iff.1 hbx).1 (by omega)).trans hbx
            have b0 : w5.cell? ⟨V, 0, none⟩ = some (.int .i64 a1) := by simp only [World.cell?, hb5]; rfl
            have b1 : w5.cell? ⟨V, 1, none⟩ = some (.int .i64 (1 + a2)) := by simp only [World.cell?, hb5]; rfl
            have b2 : w5.cell? ⟨V, 2, none⟩ = some (.int .i64 (5 * a3)) := by simp only [World.cell?, hb5]; rfl
            clear hc5 hk5 hdn hbx
            rcases t5 with _ | _
            · go_wp2_with fail
              go_roundw
              case rel => exact ⟨l, k - 1, by congr 1; omega, by omega, hd5⟩
              case measure => simp [intOf]; omega
            · go_wp2_with (at_builtin; refine wpList_append_own _ rfl (.tmp 48) (.tmp 50) 55 rfl w.heap.size 61 i0 (.agg #[.int .i64 0, .int .i64 0, .int .i64 0]) 3 24 Try.underlying55 hi0 hy0 hy1 hy2 rfl (by decide) _ l.length (cellsL 3 csW l) rfl (hd5.alloc _).own ⟨w5.heap.size, 0, none⟩ 1 1 [.int .i64 a1, .int .i64 (1 + a2), .int .i64 (5 * a3)] rfl rfl (cell_three_new _ _ _ _ _) (three_one _ _ _) (by unfold maxLen; omega) (by omega) (by have := hd5.keep.size; simp; omega) ?_; intro v6 w6 ho6 hg6 hnn6; have hd6 := (hd5.alloc _).app (x := ⟨a1, 1 + a2, 5 * a3⟩) ho6 hg6; clear ho6 hg6 hnn6)
              go_roundw
              case rel => exact ⟨l ++ [⟨a1, 1 + a2, 5 * a3⟩], k - 1, by congr 1; omega, by simp; omega, hd6⟩
              case measure => simp [intOf]; omega
    · have hk1 : ¬ (0 : Int) < (k : Int) := by omega
      have hl12 : l.length ≤ 12 := by omega
      clear hlk h1 p1 q1
      go_upto_region 13 with (fail)
      go_cut [58] (fun tv wx => ∃ t : Bool, tv = .bool t ∧ (t = true → 0 < l.length) ∧ DQ w wx g ao cap bs (.slice ad l.length c) l)
      case first =>
        by_cases hl0 : (0 : Int) < (l.length : Int)
        · go_wp2_with fail
          refine (once_any g ao cap bs 20 _ hd.cur (by omega)).mono ?_
          rintro e w8 ⟨t8, rfl, hc8, hk8⟩
          have hd8 := hd.call hc8 hk8
          clear hc8 hk8 hd
          rcases t8 with _ | _
          · go_wp2_with fail
            go_meet
            case rel => exact ⟨_, rfl, (fun _ => (by omega)), hd8⟩
          · go_wp2_with fail
            go_meet
            case rel => exact ⟨_, rfl, (fun _ => (by omega)), hd8⟩
        · go_wp2_with fail
          refine (once_any g ao cap bs 20 _ hd.cur (by omega)).mono ?_
          rintro e w8 ⟨t8, rfl, hc8, hk8⟩
          have hd8 := hd.call hc8 hk8
          clear hc8 hk8 hd
          rcases t8 with _ | _
          · go_wp2_with fail
            go_meet
            case rel => exact ⟨_, rfl, (fun q => (by cases q)), hd8⟩
          · go_wp2_with fail
            go_meet
            case rel => exact ⟨_, rfl, (fun q => of_decide_eq_true q), hd8⟩
      case rest =>
        obtain ⟨t, rfl, hl0, hd8⟩ := hcut
        go_upto_if 58 with fail
        go_cut [] (fun wx => ∃ l' : List Wt, Hid (l'.length = l.length) ∧ DQ w wx g ao cap bs (.slice ad l.length c) l')
        case first =>
          rcases t with _ | _
          · go_wp2_with fail
            go_meet
            case rel => exact ⟨l, rfl, hd8⟩
          · replace hl0 := hl0 rfl
            have hl1 : (0 : Int) < (l.length : Int) := by omega
            go_wp2_with fail
            refine (below_any g ao cap bs 3 _ hd8.cur (by omega)).mono ?_
            rintro e w9 ⟨y9, rfl, hy90, hy91, hc9, hk9⟩
            have hd9 := hd8.call hc9 hk9
            clear hc9 hk9 hd8
            rcases (show y9 = 0 ∨ y9 = 1 ∨ y9 = 2 by omega) with rfl | rfl | rfl
            · have hdT := hd9.alloc (.cells #[.int .i64 (-1), .int .i64 1000] 2)
              have hg9 := hd9.cur.1
              go_wp2_with fail
              refine (below_any g ao cap bs 2 _ hdT.cur (by omega)).mono ?_
              rintro e wC ⟨yC, rfl, hyA, hyB, hcC, hkC⟩
              obtain ⟨kk, rfl⟩ := Int.eq_ofNat_of_zero_le hyA
              have hkk : kk < 2 := by omega
              obtain ⟨z, hz⟩ := tab_at [-1, 1000] w9 wC g _ hkC hg9 kk hkk
              have hdC := hdT.call hcC hkC
              obtain ⟨G, rfl, hgG, hcl, hst⟩ := hdC.front hl0
              obtain ⟨⟨u0, s0⟩, f0⟩ := hcl 0 (by omega)
              obtain ⟨l', hl', hd'⟩ := hst 0 z (by omega)
              have HL' := hidden hl'
              clear hcC hkC hdT hcl hst hl'
              go_wp2_with fail
              go_meet
              case rel => exact ⟨l', HL'.out, hd'⟩
            · go_wp2_with fail
              refine (from_any g ao cap bs 0 6 _ hd9.cur (by omega) (by omega) (by omega)).mono ?_
              rintro e wC ⟨z, rfl, -, -, hcC, hkC⟩
              have hdC := hd9.call hcC hkC
              obtain ⟨G, rfl, hgG, hcl, hst⟩ := hdC.front hl0
              obtain ⟨⟨u0, s0⟩, f0⟩ := hcl 1 (by omega)
              obtain ⟨l', hl', hd'⟩ := hst 1 z (by omega)
              have HL' := hidden hl'
              clear hcC hkC hcl hst hl'
              go_wp2_with fail
              go_meet
              case rel => exact ⟨l', HL'.out, hd'⟩
            · have hdT := hd9.alloc (.cells #[.int .i64 (-1), .int .i64 10000000, .int .i64 10000001] 2)
              have hg9 := hd9.cur.1
              go_wp2_with fail
              refine (below_any g ao cap bs 3 _ hdT.cur (by omega)).mono ?_
              rintro e wC ⟨yC, rfl, hyA, hyB, hcC, hkC⟩
              obtain ⟨kk, rfl⟩ := Int.eq_ofNat_of_zero_le hyA
              have hkk : kk < 3 := by omega
              obtain ⟨z, hz⟩ := tab_at [-1, 10000000, 10000001] w9 wC g _ hkC hg9 kk hkk
              have hdC := hdT.call hcC hkC
              obtain ⟨G, rfl, hgG, hcl, hst⟩ := hdC.front hl0
              obtain ⟨⟨u0, s0⟩, f0⟩ := hcl 2 (by omega)
              obtain ⟨l', hl', hd'⟩ := hst 2 z (by omega)
              have HL' := hidden hl'
              clear hcC hkC hdT hcl hst hl'
              go_wp2_with fail
              go_meet
              case rel => exact ⟨l', HL'.out, hd'⟩
        case rest =>
          obtain ⟨l', HL', hdR⟩ := hcut
          clear hd8
          have HL12 : l'.length ≤ 12 := by have := HL'.out; omega
          go_upto_if 89 with (go_at_call 50; refine (once_any g ao cap bs 60 _ hdR.cur (by omega)).mono ?_; rintro e wS ⟨tS, rfl, hcS, hkS⟩)
          have hdS := hdR.call hcS hkS
          clear hcS hkS hdR
          rcases tS with _ | _
          · go_wp2_with fail
            go_ret
            exact ⟨_, l', rfl, hdS, by omega⟩
          · have hdN := hdS.anew
            clear hdS
            generalize hWN : wS.alloc (.cells #[] 61) = wN at *
            generalize hvN : Value.slice (some ⟨wS.heap.size, 0, none⟩) 0 0 = vN at *
            go_wp2_with fail
            clear hWN
            clear HL' HL12 hl12 hl0
            go_loopw [3, 8] (fun v iv wr => ∃ l : List Wt, iv = .int .i64 (l.length : Nat) ∧ l.length ≤ 201 ∧ DQ w wr g ao cap bs v l) (fun _ iv _ => 201 - (intOf iv).toNat)
            case atStart => exact ⟨[], rfl, by simp, hdN⟩
            case round =>
              clear hdN
              obtain ⟨l, rfl, hl, hdl⟩ := hrel
              go_wp2_with fail
              refine (below_any g ao cap bs 2 _ hdl.cur (by omega)).mono ?_
              rintro e wb ⟨yb, rfl, hb0, hb1, hcb, hkb⟩
              have hdb := hdl.call hcb hkb
              clear hcb hkb hdl
              by_cases hlt : (l.length : Int) < 200 + yb
              · obtain ⟨ad, c, rfl⟩ := hdb.form
                go_wp2_with (at_builtin; refine wpList_append_own _ rfl (.tmp 98) (.tmp 107) 55 rfl w.heap.size 61 i0 (.agg #[.int .i64 0, .int .i64 0, .int .i64 0]) 3 24 Try.underlying55 hi0 hy0 hy1 hy2 rfl (by decide) _ l.length (cellsL 3 csW l) rfl (hdb.alloc _).own ⟨wb.heap.size, 0, none⟩ 1 1 [.int .i64 _, .int .i64 _, .int .i64 _] rfl rfl (cell_three_new _ _ _ _ _) (three_one _ _ _) (by unfold maxLen; omega) (by omega) (by have := hdb.keep.size; simp; omega) ?_; intro v6 w6 ho6 hg6 hnn6; have hd6 := (hdb.alloc _).app (x := ⟨_, _, _⟩) ho6 hg6; clear ho6 hg6 hnn6)
                go_roundw
                case rel => exact ⟨_, by rw [List.length_append]; rfl, by rw [List.length_append]; simp; omega, hd6⟩
                case measure => simp [intOf]; omega
              · go_wp2_with fail
                go_ret
                exact ⟨_, l, rfl, hdb, hl⟩
end Go.Proofs.Ytcfghnffacdekab
