/-
  An operation drawn of a cursor.
-/
import Derived.Test.YtcapmobhgffnhaaPb
namespace Go.Proofs.Ytcapmobhgffnhaa
open Go.RowKit Va Oa
set_option linter.unusedVariables false

theorem infoOpP : (Try.prog.info? 31).map (fun i => (i.zero, i.size, i.bytes)) = some (some (.agg #[.int .i64 0, .int .i64 0, .int .i64 0, .slice none 0 0]), 4, 48) := by kernel_rfl

theorem wrS {n : Int} (h : -9223372036854775808 ≤ n) (h2 : n ≤ 9223372036854775807) : IntKind.i64.wrap n = n := by rw [IntKind.wrap_i64]; omega

set_option maxRecDepth 20000 in
set_option maxHeartbeats 8000000 in
theorem dop_any (g : Nat) (ao : Option Addr) (cap : Nat) (bs : List Int) (w : World) (hc : Cur w g ao cap bs) :
    Calls Try.prog 41 #[.pointer (some ⟨g, 0, none⟩)] w fun e w' => ∃ x ta tc, e = .returned (aO x (.slice ta x.team.length tc)) ∧ Cur w' g ao cap bs ∧ Keep g w w' ∧ w'.ownsRow w.heap.size 2 1 (.slice ta x.team.length tc) x.team.length (x.team.map fun z => Value.int .i64 z) ∧ Small x := by
  obtain ⟨i0, hi0, hy0, hy1, hy2⟩ := info_partsO infoI64
  have hgl := hc.1
  have hcR : Cur (w.alloc (.cells #[.int .i64 0, .int .i64 0, .int .i64 0, .slice none 0 0] 31)) g ao cap bs := hc.below ((Below.refl _ _).alloc hgl _)
  have hkR : Keep g w (w.alloc (.cells #[.int .i64 0, .int .i64 0, .int .i64 0, .slice none 0 0] 31)) := (Keep.refl g w).alloc _
  have hbR : TBox (w.alloc (.cells #[.int .i64 0, .int .i64 0, .int .i64 0, .slice none 0 0] 31)) w.heap.size #[.int .i64 0, .int .i64 0, .int .i64 0, .slice none 0 0] 31 := heap_alloc_new _ _
  clear hc
  go_enter Try.func41, Try.ntmps41
  generalize hwR : w.alloc (.cells #[.int .i64 0, .int .i64 0, .int .i64 0, .slice none 0 0] 31) = wR at *
  go_wp2_with fail
  refine (below_any g ao cap bs 3 _ hcR (by omega)).mono ?_
  rintro e w1 ⟨a1, rfl, a10, a11, hc1, hk1⟩
  go_wp2_with fail
  refine (below_any g ao cap bs 60 _ hc1 (by omega)).mono ?_
  rintro e w2 ⟨a2, rfl, a20, a21, hc2, hk2⟩
  have hR2 := (hbR.keep hk1 (by omega)).keep hk2 (by omega)
  have hk2' := (hkR.trans hk1).trans hk2
  clear hwR hbR hkR hk1 hk2 hcR hc1
  have hd0 : DP w (w2.alloc (.cells #[.int .i64 a1, .int .i64 (10 * a2), .int .i64 0, .slice none 0 0] 31)) g ao cap bs w.heap.size w2.heap.size (.slice none 0 0) ⟨a1, 10 * a2, 0, []⟩ :=
    ⟨hc2.below ((Below.refl _ _).alloc hc2.1 _), hk2'.alloc _, hR2.below ((Below.refl _ _).alloc (Nat.le_refl _) _), heap_alloc_new _ _, ⟨rfl, .inl ⟨rfl, rfl⟩⟩, hgl, Nat.le_refl _, hk2'.size, by have := hR2.lt; omega⟩
  clear hc2 hk2' hR2
  go_upto_region 2 with fail
  generalize hwB : w2.alloc (.cells #[.int .i64 a1, .int .i64 (10 * a2), .int .i64 0, .slice none 0 0] 31) = wB at *
  generalize hVV : w2.heap.size = V at *
  clear hwB hVV
  go_cut [] (fun wx => ∃ t : Int, 10 ≤ t ∧ t ≤ 1000 ∧ DP w wx g ao cap bs w.heap.size V (.slice none 0 0) ⟨a1, 10 * a2, t, []⟩)
  case first =>
    obtain ⟨⟨v0, v1, v2, v3⟩, vf⟩ := hd0.box.four
    have vf2 := vf 2
    have HD := hidden hd0.drew
    have HC := hidden hd0.drew.cur
    clear hd0 vf
    first
      | go_region_with (go_at_call 63; refine (below_any g ao cap bs 9 _ (by first | with_reducible exact HC.out | fail) (by omega)).mono ?_; rintro e w5 ⟨y5, rfl, y50, y51, hc5, hk5⟩; have hd5 := hidden (HD.out.call hc5 hk5); obtain ⟨⟨p0, p1, p2, p3⟩, pf⟩ := hd5.out.box.four; have pf2 := pf 2; clear hc5 hk5 pf)
      | fail
    all_goals go_wp2_with fail
    all_goals go_meet
    all_goals exact ⟨_, by rw [wrS (n := 10 * a2 + 10) (by omega) (by omega), wrS (n := 10 * y5) (by omega) (by omega), wrS (by omega) (by omega)]; omega, by rw [wrS (n := 10 * a2 + 10) (by omega) (by omega), wrS (n := 10 * y5) (by omega) (by omega), wrS (by omega) (by omega)]; omega, hd5.out.to _⟩
  case rest =>
    obtain ⟨t, ht0, ht1, hd1⟩ := hcut
    clear hd0
    go_wp2_with fail
    refine (from_any g ao cap bs (-1) 2 _ hd1.cur (by omega) (by omega) (by omega)).mono ?_
    rintro e w3 ⟨p, rfl, hp0, hp1, hc3, hk3⟩
    have hd3 := hd1.call hc3 hk3
    clear hc3 hk3 hd1
    go_wp2_with fail
    refine (below_any g ao cap bs 3 _ hd3.cur (by omega)).mono ?_
    rintro e w4 ⟨n4, rfl, n40, n41, hc4, hk4⟩
    have hd4 := hd3.call hc4 hk4
    clear hc4 hk4 hd3
    obtain ⟨n4, rfl⟩ := Int.eq_ofNat_of_zero_le n40
    go_wp2_with fail
    go_loopw [4, 5] (fun pv nv wr => ∃ (p : Int) (k : Nat) (tv : Value) (tm : List Int), pv = .int .i64 p ∧ nv = .int .i64 k ∧ -1 ≤ p ∧ p + 4 * k ≤ 20 ∧ tm.length + k ≤ 3 ∧ (k = 0 → 1 ≤ tm.length) ∧ DP w wr g ao cap bs w.heap.size V tv ⟨a1, 10 * a2, t, tm⟩) (fun _ nv _ => (intOf nv).toNat)
    case atStart => exact ⟨p, 1 + n4, _, [], rfl, rfl, by omega, by omega, by simp; omega, by omega, hd4⟩
    case round =>
      clear hd4 hp0 hp1
      obtain ⟨p, k, tv, tm, rfl, rfl, hp0, hp1, hk3, hk1, hd⟩ := hrel
      obtain ⟨ad, c, rfl⟩ := hd.form
      dsimp only at *
      by_cases hk0 : 0 < k
      · have hki : (0 : Int) < (k : Int) := by omega
        go_wp2_with fail
        refine (below_any g ao cap bs 4 _ hd.cur (by omega)).mono ?_
        rintro e w5 ⟨y5, rfl, y50, y51, hc5, hk5⟩
        have hd5 := hd.call hc5 hk5
        clear hc5 hk5 hd
        obtain ⟨⟨v0, v1, v2, v3⟩, vf⟩ := hd5.box.four
        have hzs := hd5.keep.size
        go_wp2_with (at_builtin; refine wpList_append_own _ rfl (.tmp 35) (.tmp 37) 29 rfl w.heap.size 2 i0 (.int .i64 0) 1 8 Try.underlying29 hi0 hy0 hy1 hy2 rfl (by decide) _ tm.length (tm.map fun z => Value.int .i64 z) rfl (hd5.alloc _).team ⟨w5.heap.size, 0, none⟩ 1 1 [.int .i64 (p + 1 + y5)] rfl rfl (cell_oneD _ _ _) (by simp [Value.oneCell']) (by unfold maxLen; omega) (by omega) (by simp; omega) ?_; intro v6 w6 ho6 hg6 hnn6; obtain ⟨hbx6, hd6⟩ := (hd5.alloc _).grown ho6 hg6; obtain ⟨⟨q0, q1, q2, q3⟩, qf⟩ := hbx6.four; have qf3 := qf 3; obtain ⟨ad6, c6, rfl⟩ := ownO_slice ho6; have HD6 := hidden hd6; clear ho6 hg6 hnn6 hbx6 hd6 qf)
        go_roundw
        case rel => exact ⟨p + 1 + y5, k - 1, _, _, by first | rfl | (congr 1; omega), by congr 1; omega, by omega, by omega, by simp; omega, by simp, HD6.out⟩
        case measure => simp [intOf]; omega
      · have hki : ¬ (0 : Int) < (k : Int) := by omega
        obtain rfl : k = 0 := by omega
        have hm1 := hk1 rfl
        clear hk1 hk0
        go_upto_if 41 with (go_at_call 62; refine (once_any g ao cap bs 60 _ hd.cur (by omega)).mono ?_; rintro e w6 ⟨t6, rfl, hc6, hk6⟩)
        have hd6 := hd.call hc6 hk6
        clear hc6 hk6 hd
        go_cut [] (fun wx => ∃ (tv : Value) (x : Opn), Hid (Small x) ∧ DP w wx g ao cap bs w.heap.size V tv x)
        case first =>
          rcases t6 with _ | _
          · go_wp2_with fail
            go_meet
            case rel => exact ⟨_, _, ⟨by simp; omega, by simp; omega, by simp; omega, by simp; omega, hm1⟩, hd6⟩
          · go_wp2_with fail
            refine (below_any g ao cap bs 4 _ hd6.cur (by omega)).mono ?_
            rintro e w7 ⟨y7, rfl, y70, y71, hc7, hk7⟩
            have hd7 := hd6.call hc7 hk7
            clear hc7 hk7 hd6
            obtain ⟨⟨v0, v1, v2, v3⟩, vf⟩ := hd7.box.four
            rcases (show y7 = 0 ∨ y7 = 1 ∨ y7 = 2 ∨ y7 = 3 by omega) with rfl | rfl | rfl | rfl
            · have hdT := hd7.alloc (.cells #[.int .i64 (-1), .int .i64 99, .int .i64 100] 2)
              have hg9 := hd7.cur.1
              go_wp2_with fail
              refine (below_any g ao cap bs 3 _ hdT.cur (by omega)).mono ?_
              rintro e wC ⟨yC, rfl, hyA, hyB, hcC, hkC⟩
              have hdC := hdT.call hcC hkC
              have hzz : ∀ k : Nat, k < 3 → wC.cell? ⟨w7.heap.size, k, none⟩ = [Value.int .i64 (-1), .int .i64 99, .int .i64 100][k]? := fun k hk => by
                rw [hkC.cell (by simp) (by omega)]
                have e := heap_alloc_new w7 (.cells #[.int .i64 (-1), .int .i64 99, .int .i64 100] 2)
                simp only [World.cell?, e]
                simp
              clear hcC hkC hdT v0 v1 v2 v3 vf
              obtain ⟨⟨v0, v1, v2, v3⟩, vf⟩ := hdC.box.four
              have vf0 := vf 0
              rcases (show yC = 0 ∨ yC = 1 ∨ yC = 2 by omega) with rfl | rfl | rfl
              · have c0 := hzz 0 (by omega)
                simp at c0
                clear hzz
                go_wp2_with fail
                go_meet
                case rel => exact ⟨_, _, ⟨by simp, by simp; omega, by simp; omega, by simp; omega, hm1⟩, hdC.room _⟩
              · have c0 := hzz 1 (by omega)
                simp at c0
                clear hzz
                go_wp2_with fail
                go_meet
                case rel => exact ⟨_, _, ⟨by simp, by simp; omega, by simp; omega, by simp; omega, hm1⟩, hdC.room _⟩
              · have c0 := hzz 2 (by omega)
                simp at c0
                clear hzz
                go_wp2_with fail
                go_meet
                case rel => exact ⟨_, _, ⟨by simp, by simp; omega, by simp; omega, by simp; omega, hm1⟩, hdC.room _⟩
            · have vf2 := vf 2
              have HD := hidden hd7.drew
              have HC := hidden hd7.drew.cur
              clear hd7 vf
              go_upto_region 14 with fail
              first
                | go_region_with (go_at_call 67; refine (from_any g ao cap bs (-1) 0 _ (by first | with_reducible exact HC.out | fail) (by omega) (by omega) (by omega)).mono ?_; rintro e w5 ⟨y5, rfl, y50, y51, hc5, hk5⟩; have hd5 := hidden (HD.out.call hc5 hk5); obtain ⟨⟨p0, p1, p2, p3⟩, pf⟩ := hd5.out.box.four; have pf2 := pf 2; clear hc5 hk5 pf)
                | fail
              all_goals go_wp2_with fail
              all_goals go_meet
              all_goals exact ⟨_, _, ⟨by simp; omega, by simp; omega, by dsimp only; rw [wrS (by omega) (by omega)]; omega, by simp; omega, hm1⟩, hd5.out.to _⟩
            · obtain ⟨G, y, rfl, hG, hy, c0⟩ := hd7.head hm1
              have hVl := hd7.box.lt
              have hzs := hd7.keep.size
              have HT := hidden (fun o => (hd7.drew.alloc o).team)
              have HG := hidden (fun (o : Obj) (W' : World) (tv' : Value) ho hg => (hd7.drew.alloc o).grown (W' := W') (tv' := tv') (y := y) ho hg)
              have hl1 : 0 < tm.length := hm1
              clear hy vf
              go_upto_region 16 with fail
              go_region_law (first
                    | ((refine step_append_ownP rfl (.tmp 63) (.tmp 68) 29 rfl w.heap.size 2 i0 (.int .i64 0) 1 8 Try.underlying29 hi0 hy0 hy1 hy2 rfl (by decide) (.slice (some ⟨G, 0, none⟩) tm.length c) tm.length (tm.map fun z => Value.int .i64 z) (by first | ((simp [Act.eval]); done) | fail) (HT.out _) ⟨w7.heap.size, 0, none⟩ 1 1 [.int .i64 y] (by first | ((simp [Act.eval]); done) | fail) rfl (cell_oneD _ _ _) (by simp [Value.oneCell']) (by unfold maxLen; omega) (by omega) (by simp; omega) ?_; intro v8 w8 ho8 hg8 hn8; obtain ⟨hbx8, hd8⟩ := HG.out _ _ _ ho8 hg8; obtain ⟨⟨q0, q1, q2, q3⟩, qf⟩ := hbx8.four; have qf3 := qf 3; obtain ⟨ad8, c8, rfl⟩ := ownO_slice ho8; have HD8 := hidden hd8; clear ho8 hg8 hn8 hbx8 hd8 qf))
                    | fail)
              all_goals go_wp2_with fail
              all_goals go_meet
              all_goals exact ⟨_, _, ⟨by simp; omega, by simp; omega, by simp; omega, by simp; omega, by simp⟩, HD8.out⟩
            · have hdT := hd7.alloc (.cells #[.int .i64 10000000, .int .i64 10000001] 2)
              have hg9 := hd7.cur.1
              go_wp2_with fail
              refine (below_any g ao cap bs 2 _ hdT.cur (by omega)).mono ?_
              rintro e wC ⟨yC, rfl, hyA, hyB, hcC, hkC⟩
              have hdC := hdT.call hcC hkC
              have hzz : ∀ k : Nat, k < 2 → wC.cell? ⟨w7.heap.size, k, none⟩ = [Value.int .i64 10000000, .int .i64 10000001][k]? := fun k hk => by
                rw [hkC.cell (by simp) (by omega)]
                have e := heap_alloc_new w7 (.cells #[.int .i64 10000000, .int .i64 10000001] 2)
                simp only [World.cell?, e]
                simp
              clear hcC hkC hdT v0 v1 v2 v3 vf
              obtain ⟨⟨v0, v1, v2, v3⟩, vf⟩ := hdC.box.four
              have vf2 := vf 2
              rcases (show yC = 0 ∨ yC = 1 by omega) with rfl | rfl
              · have c0 := hzz 0 (by omega)
                simp at c0
                clear hzz
                go_wp2_with fail
                go_meet
                case rel => exact ⟨_, _, ⟨by simp; omega, by simp; omega, by simp, by simp; omega, hm1⟩, hdC.to _⟩
              · have c0 := hzz 1 (by omega)
                simp at c0
                clear hzz
                go_wp2_with fail
                go_meet
                case rel => exact ⟨_, _, ⟨by simp; omega, by simp; omega, by simp, by simp; omega, hm1⟩, hdC.to _⟩
        case rest =>
          obtain ⟨tv, x, HS, hdR⟩ := hcut
          clear hd6
          obtain ⟨ad, c, rfl⟩ := hdR.form
          obtain ⟨⟨v0, v1, v2, v3⟩, vf⟩ := hdR.box.four
          obtain ⟨⟨r0, r1, r2, r3⟩, rf⟩ := hdR.res.four
          have rf0 := rf 0
          have rf1 := rf 1
          have rf2 := rf 2
          have rf3 := rf 3
          obtain ⟨hT1, hT2, hT3, hT4⟩ := hdR.done
          clear hdR vf rf
          go_wp2_with fail
          refine bodyPost_ret (v := aO x (.slice ad x.team.length c)) ?_ rfl ⟨x, ad, c, rfl, hT2, hT3, hT4, HS.out⟩
          have hL := run_loadVar_row (P := Try.prog) _ w.heap.size 31 31 _ (0, 0) _ hT1 Try.underlying31 rfl (by kernel_rfl)
          simp [results, Try.results41, asAddr, hL, aO]
end Go.Proofs.Ytcapmobhgffnhaa
