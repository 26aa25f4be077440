/-
  A house that may be wrong, drawn of a cursor: the walk.
-/
import Derived.Test.YtklgadaefngnnaaYm
import Derived.Deep.CutBlock
import Derived.BigQuiet
namespace Go.Proofs.Ytklgadaefngnnaa
open Go.RowKit Hm
set_option linter.all false

set_option maxRecDepth 20000 in
set_option maxHeartbeats 8000000 in
theorem dany_any (g : Nat) (ao : Option Addr) (cap : Nat) (bs : List Int) (w : World) (hc : Cur w g ao cap bs) :
    Calls Try.prog 35 #[.pointer (some ⟨g, 0, none⟩)] w fun e w' => ∃ vb vs B S t, e = .returned (.tuple #[.agg #[vb, vs], .int .i64 t]) ∧ HNew w' w.heap.size vb vs B S ∧ B.length = 7 ∧ S.length ≤ 1001 ∧ F700 S ∧ 0 ≤ t ∧ t ≤ 960 ∧ Cur w' g ao cap bs ∧ Keep g w w' := by
  obtain ⟨j0, hj0, hz0, hz1, hz2⟩ := info_partsH infoStayH
  have hgl := hc.1
  have hcA : Cur (w.alloc (.cells #[.slice none 0 0, .slice none 0 0] 27)) g ao cap bs := hc.below ((Below.refl _ _).alloc hgl _)
  have hkA : Keep g w (w.alloc (.cells #[.slice none 0 0, .slice none 0 0] 27)) := (Keep.refl g w).alloc _
  have hrA : (w.alloc (.cells #[.slice none 0 0, .slice none 0 0] 27)).heap[w.heap.size]? = some (.cells #[.slice none 0 0, .slice none 0 0] 27 (0, 0)) := heap_alloc_new _ _
  have hzA : w.heap.size < (w.alloc (.cells #[.slice none 0 0, .slice none 0 0] 27)).heap.size := by simp
  go_enter Try.func35, Try.ntmps35
  generalize hwA : w.alloc (.cells #[.slice none 0 0, .slice none 0 0] 27) = wA at *
  go_wp2_with fail
  refine (dhouse_any g ao cap bs _ hcA).mono ?_
  rintro e w1 ⟨vb, vs, S, t, rfl, hn1, hS1, hF1, ht0, ht1, hc1, hk1⟩
  have HF1 := hidden hF1
  clear hF1
  have hd1 : DH w (w1.alloc (.cells #[vb, vs] 27)) g ao cap bs w.heap.size w1.heap.size vb vs (B7 7) S := by
    have hz1' := hk1.size
    have hr1 := (hk1.block w.heap.size hzA (by omega)).trans hrA
    exact ⟨hc1.below ((Below.refl _ _).alloc hc1.1 _), (hkA.trans hk1).alloc _, heap_alloc_new _ _, (((Below.refl w1.heap.size w1).alloc (Nat.le_refl _) _).block _ (Array.getElem?_eq_some_iff.1 hr1).1).trans hr1, (hn1.base_le (by omega)).below ((Below.refl _ _).alloc (Nat.le_refl _) _), by omega, ⟨Nat.le_refl _, by omega⟩, hgl⟩
  clear hcA hkA hrA hzA hwA hn1 hk1 hc1
  obtain ⟨a1, c1, a2, c2, rfl, rfl⟩ := hd1.form
  generalize hVV : w1.alloc (.cells #[.slice a1 (B7 7).length c1, .slice a2 S.length c2] 27) = w2 at *
  generalize hXX : w1.heap.size = X at *
  have HX2 := hd1.xc
  obtain ⟨x0, x1, fx0, fx1⟩ := HX2
  go_upto_if 14 with (go_at_call 50; refine (once_any g ao cap bs 12 _ hd1.cur (by omega)).mono ?_; rintro e w3 ⟨t3, rfl, hc3, hk3⟩)
  have hd3 := hd1.call hc3 hk3
  clear hc3 hk3 hd1 x0 x1 fx0 fx1 hVV hXX
  go_cut [] (fun wx => ∃ (ub us : Value) (B' : List Bd) (S' : List St), DH w wx g ao cap bs w.heap.size X ub us B' S' ∧ B'.length = 7 ∧ S'.length ≤ 1001 ∧ Hid (F700 S'))
  case first =>
    rcases t3 with _ | _
    · go_wp2_with fail
      go_meet
      case rel => exact ⟨_, _, _, _, hd3, B7_len 7, by omega, HF1⟩
    · obtain ⟨x0, x1, fx0, fx1⟩ := hd3.xc
      go_upto_region 3 with fail
      go_cut [22] (fun tv wx => ∃ b : Bool, tv = .bool b ∧ (b = true → 0 < S.length) ∧ DH w wx g ao cap bs w.heap.size X (.slice a1 (B7 7).length c1) (.slice a2 S.length c2) (B7 7) S)
      case first =>
        by_cases hl0 : (0 : Int) < (S.length : Int)
        · go_wp2_with fail
          refine (once_any g ao cap bs 2 _ hd3.cur (by omega)).mono ?_
          rintro e w4 ⟨t4, rfl, hc4, hk4⟩
          have hd4 := hd3.call hc4 hk4
          clear hc4 hk4 hd3
          rcases t4 with _ | _
          · go_wp2_with fail
            go_meet
            case rel => exact ⟨_, rfl, (fun q => by cases q), hd4⟩
          · go_wp2_with fail
            go_meet
            case rel => exact ⟨_, rfl, (fun _ => by omega), hd4⟩
        · go_wp2_with fail
          go_meet
          case rel => exact ⟨_, rfl, (fun q => by first | (cases q; done) | (simp at q; omega)), hd3⟩
      case rest =>
        obtain ⟨b, rfl, hbS, hd5⟩ := hcut
        clear hd3 x0 x1 fx0 fx1
        obtain ⟨x0, x1, fx0, fx1⟩ := hd5.xc
        have hXl := hd5.lt.1
        rcases b with _ | _
        · -- a bed
          have hB7 : (B7 7).length = 7 := B7_len 7
          have hB7i : (0 : Int) < ((B7 7).length : Int) := by omega
          have HB7 := hidden hB7
          clear hB7
          go_upto_region 20 with fail
          go_cut [7] (fun pv wx => ∃ (i G : Nat), i < (B7 7).length ∧ pv = .pointer (some ⟨G, i * 2, none⟩) ∧ a1 = some ⟨G, 0, none⟩ ∧ DH w wx g ao cap bs w.heap.size X (.slice a1 (B7 7).length c1) (.slice a2 S.length c2) (B7 7) S)
          case first =>
            go_region_held3 (fun w' => w'.cell? ⟨X, 0, none⟩ = some (.slice a1 (B7 7).length c1)) (go_keep)
              (first | (go_at_call 49; refine (below_any g ao cap bs ((B7 7).length : Int) _ (by with_reducible exact hd5.drew.cur) hB7i).mono ?_; rintro e w6 ⟨y6, rfl, hy60, hy61, hc6, hk6⟩; obtain ⟨i, rfl⟩ := Int.eq_ofNat_of_zero_le hy60; have hd6 := hidden (hd5.drew.call hc6 hk6); have x16 := hd6.out.xc.1; have hi : i < (B7 7).length := (by omega); obtain ⟨G, hG, -⟩ := hd6.out.bed hi; subst hG; clear hc6 hk6) | fail)
            all_goals go_wp2_with fail
            all_goals go_meet
            all_goals exact ⟨i, G, hi, rfl, rfl, hd6.out⟩
          case rest =>
            obtain ⟨i, G, hi, rfl, rfl, hd6⟩ := hcut
            clear hd5 x0 x1 fx0 fx1
            go_wp2_with fail
            refine (once_any g ao cap bs 2 _ hd6.cur (by omega)).mono ?_
            rintro e w7 ⟨t7, rfl, hc7, hk7⟩
            have hd7 := hd6.call hc7 hk7
            clear hc7 hk7 hd6
            rcases t7 with _ | _
            · go_wp2_with fail
              refine (from_any g ao cap bs 0 4 _ hd7.cur (by omega) (by omega) (by omega)).mono ?_
              rintro e wC ⟨z, rfl, -, -, hcC, hkC⟩
              have hdC := hd7.call hcC hkC
              obtain ⟨G', e', -, hcl, hst⟩ := hdC.bed hi
              obtain rfl : G = G' := by simpa using e'
              obtain ⟨⟨u0, s0⟩, f0⟩ := hcl 1 (by omega)
              obtain ⟨B', hB', hd'⟩ := hst 1 z (by omega)
              have HS' := hidden hB'
              have HD' := hidden hd'
              clear hcC hkC hcl hst hB' e' hd7 hd'
              go_wp2_with fail
              go_meet
              case rel => exact ⟨_, _, B', S, HD'.out, by rw [HS'.out]; exact HB7.out, by omega, HF1⟩
            · have hdT := hd7.alloc (.cells #[.int .i64 (-1), .int .i64 0, .int .i64 999, .int .i64 1000, .int .i64 53] 2)
              have hgA := hd7.cur.1
              go_wp2_with fail
              refine (below_any g ao cap bs 5 _ hdT.cur (by omega)).mono ?_
              rintro e wC ⟨yC, rfl, hyA, hyB, hcC, hkC⟩
              obtain ⟨kk, rfl⟩ := Int.eq_ofNat_of_zero_le hyA
              have hkk : kk < 5 := by omega
              obtain ⟨z, hz⟩ := tab_atM [-1, 0, 999, 1000, 53] w7 wC g _ hkC hgA kk hkk
              have hdC := hdT.call hcC hkC
              obtain ⟨G', e', -, hcl, hst⟩ := hdC.bed hi
              obtain rfl : G = G' := by simpa using e'
              obtain ⟨⟨u0, s0⟩, f0⟩ := hcl 0 (by omega)
              obtain ⟨B', hB', hd'⟩ := hst 0 z (by omega)
              have HS' := hidden hB'
              simp only [Nat.add_zero] at s0 f0 hd'
              have HD' := hidden hd'
              clear hcC hkC hdT hcl hst hB' e' hd7 hd'
              go_wp2_with fail
              go_meet
              case rel => exact ⟨_, _, B', S, HD'.out, by rw [HS'.out]; exact HB7.out, by omega, HF1⟩
        · -- a stay
          have hl0 := hbS rfl
          have hl1 : (0 : Int) < (S.length : Int) := by omega
          go_upto_region 4 with fail
          go_cut [6] (fun pv wx => ∃ (i G : Nat), i < S.length ∧ pv = .pointer (some ⟨G, i * 6, none⟩) ∧ a2 = some ⟨G, 0, none⟩ ∧ DH w wx g ao cap bs w.heap.size X (.slice a1 (B7 7).length c1) (.slice a2 S.length c2) (B7 7) S)
          case first =>
            go_region_held3 (fun w' => w'.cell? ⟨X, 1, none⟩ = some (.slice a2 S.length c2)) (go_keep)
              (first | (go_at_call 49; refine (below_any g ao cap bs (S.length : Int) _ (by with_reducible exact hd5.drew.cur) hl1).mono ?_; rintro e w6 ⟨y6, rfl, hy60, hy61, hc6, hk6⟩; obtain ⟨i, rfl⟩ := Int.eq_ofNat_of_zero_le hy60; have hd6 := hidden (hd5.drew.call hc6 hk6); have x16 := hd6.out.xc.2.1; have hi : i < S.length := (by omega); obtain ⟨G, hG, -⟩ := hd6.out.stay hi; subst hG; clear hc6 hk6) | fail)
            all_goals go_wp2_with fail
            all_goals go_meet
            all_goals exact ⟨i, G, hi, rfl, rfl, hd6.out⟩
          case rest =>
            obtain ⟨i, G, hi, rfl, rfl, hd6⟩ := hcut
            clear hd5 x0 x1 fx0 fx1
            go_wp2_with fail
            refine (below_any g ao cap bs 7 _ hd6.cur (by omega)).mono ?_
            rintro e w7 ⟨y, rfl, hy0, hy1, hc7, hk7⟩
            have hd7 := hd6.call hc7 hk7
            clear hc7 hk7 hd6
            rcases (show y = 0 ∨ y = 1 ∨ y = 2 ∨ y = 3 ∨ y = 4 ∨ y = 5 ∨ y = 6 by omega) with rfl | rfl | rfl | rfl | rfl | rfl | rfl
            · go_wp2_with fail
              refine (from_any g ao cap bs (-1) 6 _ hd7.cur (by omega) (by omega) (by omega)).mono ?_
              rintro e wC ⟨z, rfl, hzl, hzh, hcC, hkC⟩
              have hdC := hd7.call hcC hkC
              obtain ⟨G', e', -, hcl, hst⟩ := hdC.stay hi
              obtain rfl : G = G' := by simpa using e'
              obtain ⟨⟨u0, s0⟩, f0⟩ := hcl 0 (by omega)
              obtain ⟨S', hS', hFS, hd'⟩ := hst 0 z (by omega)
              have HFS := hidden (hFS HF1.out (fun _ => by omega))
              clear hFS
              have HS' := hidden hS'
              have HD' := hidden hd'
              simp only [Nat.add_zero] at s0 f0
              clear hcC hkC hcl hst hS' e' hd7 hd'
              go_wp2_with fail
              go_meet
              case rel => exact ⟨_, _, B7 7, S', HD'.out, B7_len 7, by have := HS'.out; omega, HFS⟩
            · go_wp2_with fail
              refine (from_any g ao cap bs 0 3 _ hd7.cur (by omega) (by omega) (by omega)).mono ?_
              rintro e wC ⟨z, rfl, hzl, hzh, hcC, hkC⟩
              have hdC := hd7.call hcC hkC
              obtain ⟨G', e', -, hcl, hst⟩ := hdC.stay hi
              obtain rfl : G = G' := by simpa using e'
              obtain ⟨⟨u0, s0⟩, f0⟩ := hcl 1 (by omega)
              obtain ⟨S', hS', hFS, hd'⟩ := hst 1 z (by omega)
              have HFS := hidden (hFS HF1.out (fun _ => by omega))
              clear hFS
              have HS' := hidden hS'
              have HD' := hidden hd'
              skip
              clear hcC hkC hcl hst hS' e' hd7 hd'
              go_wp2_with fail
              go_meet
              case rel => exact ⟨_, _, B7 7, S', HD'.out, B7_len 7, by have := HS'.out; omega, HFS⟩
            · go_wp2_with fail
              refine (from_any g ao cap bs 0 4 _ hd7.cur (by omega) (by omega) (by omega)).mono ?_
              rintro e wC ⟨z, rfl, hzl, hzh, hcC, hkC⟩
              have hdC := hd7.call hcC hkC
              obtain ⟨G', e', -, hcl, hst⟩ := hdC.stay hi
              obtain rfl : G = G' := by simpa using e'
              obtain ⟨⟨u0, s0⟩, f0⟩ := hcl 2 (by omega)
              obtain ⟨S', hS', hFS, hd'⟩ := hst 2 z (by omega)
              have HFS := hidden (hFS HF1.out (fun _ => by omega))
              clear hFS
              have HS' := hidden hS'
              have HD' := hidden hd'
              skip
              clear hcC hkC hcl hst hS' e' hd7 hd'
              go_wp2_with fail
              go_meet
              case rel => exact ⟨_, _, B7 7, S', HD'.out, B7_len 7, by have := HS'.out; omega, HFS⟩
            · go_wp2_with fail
              refine (from_any g ao cap bs (-1) 7 _ hd7.cur (by omega) (by omega) (by omega)).mono ?_
              rintro e wC ⟨z, rfl, hzl, hzh, hcC, hkC⟩
              have hdC := hd7.call hcC hkC
              obtain ⟨G', e', -, hcl, hst⟩ := hdC.stay hi
              obtain rfl : G = G' := by simpa using e'
              obtain ⟨⟨u0, s0⟩, f0⟩ := hcl 3 (by omega)
              obtain ⟨S', hS', hFS, hd'⟩ := hst 3 z (by omega)
              have HFS := hidden (hFS HF1.out (fun _ => by omega))
              clear hFS
              have HS' := hidden hS'
              have HD' := hidden hd'
              skip
              clear hcC hkC hcl hst hS' e' hd7 hd'
              go_wp2_with fail
              go_meet
              case rel => exact ⟨_, _, B7 7, S', HD'.out, B7_len 7, by have := HS'.out; omega, HFS⟩
            · have hdT := hd7.alloc (.cells #[.int .i64 (-1), .int .i64 0, .int .i64 10000001] 2)
              have hgA := hd7.cur.1
              go_wp2_with fail
              refine (below_any g ao cap bs 3 _ hdT.cur (by omega)).mono ?_
              rintro e wC ⟨yC, rfl, hyA, hyB, hcC, hkC⟩
              obtain ⟨kk, rfl⟩ := Int.eq_ofNat_of_zero_le hyA
              have hkk : kk < 3 := by omega
              obtain ⟨z, hz⟩ := tab_atM [-1, 0, 10000001] w7 wC g _ hkC hgA kk hkk
              have hdC := hdT.call hcC hkC
              obtain ⟨G', e', -, hcl, hst⟩ := hdC.stay hi
              obtain rfl : G = G' := by simpa using e'
              obtain ⟨⟨u0, s0⟩, f0⟩ := hcl 4 (by omega)
              obtain ⟨S', hS', hFS, hd'⟩ := hst 4 z (by omega)
              have HFS := hidden (hFS HF1.out (fun _ => by omega))
              clear hFS
              have HS' := hidden hS'
              have HD' := hidden hd'
              clear hcC hkC hdT hcl hst hS' e' hd7 hd'
              go_wp2_with fail
              go_meet
              case rel => exact ⟨_, _, B7 7, S', HD'.out, B7_len 7, by have := HS'.out; omega, HFS⟩
            · have hdT := hd7.alloc (.cells #[.int .i64 (-2), .int .i64 (-1), .int .i64 0, .int .i64 10000001] 2)
              have hgA := hd7.cur.1
              go_wp2_with fail
              refine (below_any g ao cap bs 4 _ hdT.cur (by omega)).mono ?_
              rintro e wC ⟨yC, rfl, hyA, hyB, hcC, hkC⟩
              obtain ⟨kk, rfl⟩ := Int.eq_ofNat_of_zero_le hyA
              have hkk : kk < 4 := by omega
              obtain ⟨z, hz⟩ := tab_atM [-2, -1, 0, 10000001] w7 wC g _ hkC hgA kk hkk
              have hdC := hdT.call hcC hkC
              obtain ⟨G', e', -, hcl, hst⟩ := hdC.stay hi
              obtain rfl : G = G' := by simpa using e'
              obtain ⟨⟨u0, s0⟩, f0⟩ := hcl 5 (by omega)
              obtain ⟨S', hS', hFS, hd'⟩ := hst 5 z (by omega)
              have HFS := hidden (hFS HF1.out (fun _ => by omega))
              clear hFS
              have HS' := hidden hS'
              have HD' := hidden hd'
              clear hcC hkC hdT hcl hst hS' e' hd7 hd'
              go_wp2_with fail
              go_meet
              case rel => exact ⟨_, _, B7 7, S', HD'.out, B7_len 7, by have := HS'.out; omega, HFS⟩
            · obtain ⟨x, hx⟩ : ∃ x, S[i]? = some x := ⟨_, List.getElem?_eq_getElem hi⟩
              obtain ⟨G', off', eg, hgl', hcs⟩ := hd7.row.2.at hx
              obtain ⟨rfl, rfl⟩ : G = G' ∧ 0 = off' := by simpa using eg
              have d0 : w7.cell? ⟨G, i * 6, none⟩ = some (.int .i64 x.person) := by have := hcs 0 (by omega); simpa [csS] using this
              have d1 : w7.cell? ⟨G, i * 6 + 1, none⟩ = some (.int .i64 x.sex) := by have := hcs 1 (by omega); simpa [csS] using this
              have d2 : w7.cell? ⟨G, i * 6 + 2, none⟩ = some (.int .i64 x.need) := by have := hcs 2 (by omega); simpa [csS] using this
              have d3 : w7.cell? ⟨G, i * 6 + 3, none⟩ = some (.int .i64 x.bed) := by have := hcs 3 (by omega); simpa [csS] using this
              have d4 : w7.cell? ⟨G, i * 6 + 4, none⟩ = some (.int .i64 x.frm) := by have := hcs 4 (by omega); simpa [csS] using this
              have d5 : w7.cell? ⟨G, i * 6 + 5, none⟩ = some (.int .i64 x.til) := by have := hcs 5 (by omega); simpa [csS] using this
              obtain ⟨x0, x1, fx0, fx1⟩ := hd7.xc
              have hXl := hd7.lt.1
              have hGX : G ≠ X := by
                intro e
                obtain ⟨G'', e'', -⟩ := hd7.stay hi
                obtain ⟨c, hc⟩ : ∃ c, w7.heap[G]? = some (.cells c 36 (0, 0)) := (own_blk hd7.own.2 rfl).2.2
                rw [e, hd7.x] at hc
                have := Option.some.inj hc
                simp only [Obj.cells.injEq] at this
                exact absurd this.2.1 (by decide)
              have hzs := hd7.keep.size
              have HDA := hidden (fun o => (hd7.alloc o).drew)
              have HDB := hidden (fun o => hd7.drew.alloc o)
              have HFX : Hid (F700 (S ++ [x])) := fun y hy => by
                rcases List.mem_append.1 hy with q | q
                · exact HF1.out y q
                · rw [List.mem_singleton.1 q]; exact HF1.out x (List.mem_of_getElem? hx)
              clear hcs eg hx
              go_upto_region 19 with fail
              go_region_law (first
                | ((refine step_append_own rfl (.tmp 84) (.tmp 88) 25 rfl w.heap.size 36 j0 (.agg #[.int .i64 0, .int .i64 0, .int .i64 0, .int .i64 0, .int .i64 0, .int .i64 0]) 6 48 Try.underlying25 hj0 hz0 hz1 hz2 rfl (by decide) (.slice (some ⟨G, 0, none⟩) S.length c2) S.length (cellsL 6 csS S) (by first | ((simp [Act.eval]); done) | fail) (HDB.out _).own.2 ⟨w7.heap.size, 0, none⟩ 1 1 [.int .i64 x.person, .int .i64 x.sex, .int .i64 x.need, .int .i64 x.bed, .int .i64 x.frm, .int .i64 x.til] (by first | ((simp [Act.eval]); done) | fail) rfl (cell_listH _ _ _) (six_onesH _ _ _ _ _ _) (by unfold maxLen; omega) (by omega) (by simp; omega) ?_; intro v5 w5 ho5 hg5 hn5; obtain ⟨ad5, c5, rfl⟩ := own_sliceH ho5; have hG5 := (HDB.out (.cells #[.int .i64 x.person, .int .i64 x.sex, .int .i64 x.need, .int .i64 x.bed, .int .i64 x.frm, .int .i64 x.til] 36)).grown (b := 0) (HDB.out _).own.2 (by decide) hg5; have hd5 := hidden ((HDB.out (.cells #[.int .i64 x.person, .int .i64 x.sex, .int .i64 x.need, .int .i64 x.bed, .int .i64 x.frm, .int .i64 x.til] 36)).appS (s := x) ho5 hg5); obtain ⟨y0, y1, y2, y3⟩ := two_ofH hG5.2.2.1; clear ho5 hg5 hn5 hG5))
                | fail)
              all_goals go_wp2_with fail
              all_goals go_meet
              all_goals exact ⟨_, _, B7 7, _, hd5.out, B7_len 7, by rw [List.length_append]; simp; omega, HFX⟩
  case rest =>
    obtain ⟨ub, us, B', S', hdf, hB', hS', HF⟩ := hcut
    clear hd3
    obtain ⟨b1, e1, s1, e2, rfl, rfl⟩ := hdf.form
    obtain ⟨x0, x1, fx0, fx1⟩ := hdf.xc
    obtain ⟨r0, r1, fr0, fr1⟩ := hdf.rc
    obtain ⟨k0, k1, k2, k3, k4⟩ := hdf.told
    have hlt2 := hdf.lt
    have hnXR := hdf.ne
    have HB' := hidden hB'
    clear hB'
    go_wp2_with fail
    exact bodyPost_ret (v := .tuple #[.agg #[.slice b1 B'.length e1, .slice s1 S'.length e2], .int .i64 t]) (by simp [results, Try.results35, go_sem, k0, k1]) rfl ⟨_, _, B', S', t, rfl, k2, HB'.out, hS', HF.out, ht0, ht1, k3, k4⟩
end Go.Proofs.Ytklgadaefngnnaa
