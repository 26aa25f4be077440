/-
  All who wait stand in the order once, the more urgent ahead: the walk of the law.
-/
import Derived.Test.YtcfghnffacdekabSv
import Derived.Test.YtcfghnffacdekabSi
import Derived.BigQuiet
namespace Go.Proofs.Ytcfghnffacdekab
open Go.RowKit Va
set_option linter.unusedVariables false

set_option maxRecDepth 20000 in
set_option maxHeartbeats 8000000 in
theorem fso_walk (ao : Option Addr) (cap : Nat) (bs : List Int) (w : World) (hb : Bytes w w.heap.size ao bs) :
    Calls Try.prog 7 #[.slice ao bs.length cap] w fun e w' => e = .returned (.bool true) ∧ Below w.heap.size w w' := by
  have hB := big_any ao cap bs.length
  have HBY := hidden hb
  clear hb
  by_cases hbig : (4096 : Int) < (bs.length : Int)
  · rw [decide_eq_true hbig] at hB
    go_enter Try.func7, Try.ntmps7
    go_wp2_with fail
    refine (hB _).mono ?_
    rintro e w1 ⟨rfl, rfl⟩
    go_wp2_with fail
    go_ret
    exact ⟨rfl, Below.refl _ _⟩
  rw [decide_eq_false hbig] at hB
  have hl : bs.length ≤ 4096 := by omega
  obtain ⟨i0, hi0, hy0, hy1, hy2⟩ := info_parts infoTruth
  go_enter Try.func7, Try.ntmps7
  go_wp2_with fail
  refine (hB w).mono ?_
  rintro e w1 ⟨rfl, hw1⟩
  subst hw1
  clear hB
  go_wp2_with fail
  refine (dso_any ao cap bs _ HBY.out (by omega)).mono ?_
  rintro e w2 ⟨ad, c, q, t, rfl, hq2, hq201, b2⟩
  go_wp2_with fail
  refine (iseen_any ad _ c q t _ hq2 (by omega)).mono ?_
  rintro e w3 ⟨ad3, c3, L, rfl, ho3, hT, hb3⟩
  have hq3 := hq2.below hb3
  go_wp2_with fail
  refine (sseen_any ad _ c q t _ hq3 (by omega)).mono ?_
  rintro e w4 ⟨ad4, c4, M, rfl, ho4, hM, hb4⟩
  obtain rfl := told_same hT hM
  have hq4 := hq3.below hb4
  have ho5 := own_below2 ho3 hb4
  have b4 : Below w1.heap.size w1 w4 := b2.trans ((hb3.trans (hb4.mono hb3.size)).mono b2.size)
  clear hb3 hb4 hq2 hq3 ho3 ho4 hM b2
  have hL201 : L.length ≤ 201 := by
    rcases told_cases hT with rfl | ⟨-, -, h3⟩
    · simp
    · have := h3.1.length_eq; simp [places] at this; omega
  have HQ := hidden hq4
  have HO := hidden ho5
  have HT := hidden hT
  clear hq4 ho5 hT
  go_wp2_with (refine wpList_make_full _ rfl (.tmp 29) (.tmp 29) 59 rfl w4.heap.size 4 i0 (.bool false) 1 Try.underlying59 hi0 hy0 hy1 .i64 .i64 _ _ q.length rfl rfl rfl rfl (by rw [hy2]; omega) (by unfold maxLen; omega) (Nat.le_refl _) ?_; intro w5 ho6 hg6)
  have hm5 := Mk.made ho6
  have b5 : Below w4.heap.size w4 w5 := (Below.refl _ _).grown hg6 (Nat.le_refl _) (fun k hk => by cases hk)
  clear ho6 hg6
  go_loopw [7, 8] (fun uv iv wr => ∃ (i : Nat) (u : Int), iv = .int .i64 i ∧ uv = .int .i64 u ∧ i ≤ L.length ∧ Hid ((i = 0 ∧ u = 0) ∨ ∃ x, 0 < i ∧ L[i - 1]? = some x ∧ u = nowU (wAt q x) t) ∧ Mk wr w4.heap.size q.length (L.take i) ∧ Below w4.heap.size w4 wr) (fun _ iv _ => L.length - (intOf iv).toNat)
  case atStart => exact ⟨0, 0, rfl, rfl, Nat.zero_le _, Or.inl ⟨rfl, rfl⟩, hm5, b5⟩
  case round =>
    clear hm5 b5
    obtain ⟨i, u, rfl, rfl, hi, HU, hm, br⟩ := hrel
    by_cases hlt : i < L.length
    · have hlti : (i : Int) < (L.length : Int) := by omega
      obtain ⟨x, hx⟩ := some_of L i hlt
      obtain ⟨k, y, rfl, hk, hqk, hwy, hok, htm⟩ := told_at HT.out hx
      have hX : Hid (L[i]? = some (k : Int)) := hx
      obtain ⟨G, rfl, hG1, hG2, hcl⟩ := ints_at HO.out hx
      obtain ⟨g2, off, rfl, hg2, c0, c1, c2⟩ := wait_cells HQ.out hqk
      have hnm : (k : Int) ∉ L.take i := by
        intro hmem
        obtain ⟨j, hj⟩ := List.getElem?_of_mem hmem
        rw [List.getElem?_take] at hj
        split at hj
        · exact told_apart HT.out ‹_› hj hx rfl
        · cases hj
      have hn := nowU_law (t := t) hok
      have hbd := nowU_bd (t := t) hok
      have hge : u ≤ nowU y t := by
        rcases HU.out with ⟨-, rfl⟩ | ⟨x', h0, hx', rfl⟩
        · omega
        · have := (told_next HT.out (show i - 1 < i by omega) hx' hx).1
          rwa [hwy] at this
      have co : wr.cell? ⟨G, i, none⟩ = some (.int .i64 k) := (br.cell (p := ⟨G, i, none⟩) hG2).trans (hcl i _ hx)
      have d1 : wr.cell? ⟨g2, off + k * 3 + 1, none⟩ = some (.int .i64 y.urg) := (br.cell (p := ⟨g2, off + k * 3 + 1, none⟩) hg2).trans c1
      have d2 : wr.cell? ⟨g2, off + k * 3 + 2, none⟩ = some (.int .i64 y.since) := (br.cell (p := ⟨g2, off + k * 3 + 2, none⟩) hg2).trans c2
      have mf := hm.not hk hnm
      have mz := (hm.2 k hk).2
      have hms := hm.set hk
      have hbs : Below w4.heap.size w4 (wr.setCell ⟨w4.heap.size, k, none⟩ (.bool true)) := br.setCell (Nat.le_refl _) _
      have hkn : ¬ (k : Int) < 0 := by omega
      have hkq : ¬ (q.length : Int) ≤ (k : Int) := by omega
      have hkl : (k : Int) < (q.length : Int) := by omega
      unfold wOk at hok
      rw [Bool.and_eq_true, Bool.and_eq_true, rng_iff, tmv_iff] at hok
      rw [tmv_iff] at htm
      obtain ⟨-, ⟨hu1, hu2⟩, hs1, hs2⟩ := hok
      obtain ⟨ht1, ht2⟩ := htm
      clear hx hqk hnm hm c0 c1 c2
      have hne1 : G ≠ w4.heap.size := by omega
      have hne2 : g2 ≠ w4.heap.size := by omega
      have HP : Hid (0 < i → ∃ k' y', L[i - 1]? = some ((k' : Nat) : Int) ∧ k' < q.length ∧ q[k']? = some y' ∧ (nowU y t = u → y'.since ≤ y.since)) := by
        intro h0
        rcases HU.out with ⟨h1, -⟩ | ⟨x', -, hx', rfl⟩
        · omega
        · obtain ⟨k', y', rfl, hk', hqk', hwy', -, -⟩ := told_at HT.out hx'
          refine ⟨k', y', hx', hk', hqk', fun he => ?_⟩
          have := (told_next HT.out (show i - 1 < i by omega) hx' hX.out).2
          rw [hwy, hwy'] at this
          rw [hwy'] at he
          exact this he
      go_upto_region 17 with fail
      have eo : (wr.setCell ⟨w4.heap.size, k, none⟩ (.bool true)).cell? ⟨G, i, none⟩ = some (.int .i64 k) := (World.cell?_setCell_far _ _ _ _ (fun e => hne1 e.symm)).trans co
      have e2 : (wr.setCell ⟨w4.heap.size, k, none⟩ (.bool true)).cell? ⟨g2, off + k * 3 + 2, none⟩ = some (.int .i64 y.since) := (World.cell?_setCell_far _ _ _ _ (fun e => hne2 e.symm)).trans d2
      generalize hW' : wr.setCell ⟨w4.heap.size, k, none⟩ (.bool true) = W' at *
      have HWY := hidden hwy
      clear co d1 d2 mf mz br hW' hwy HU
      go_upto_if 85 with fail
      go_cut [10] from 31 to 126 (fun lv wx => wx = W' ∧ lv = .int .i64 (if t - y.since < 0 then 0 else t - y.since))
      case first =>
        by_cases hneg : t - y.since < 0
        · go_wp2_with fail
          go_meet
          case rel => exact ⟨rfl, by rw [if_pos hneg]⟩
        · go_wp2_with fail
          go_meet
          case rel => exact ⟨rfl, by rw [if_neg (show ¬ t - y.since < 0 by omega)]⟩
      case rest =>
        obtain ⟨rfl, rfl⟩ := hcut
        have hg0 : 0 ≤ (if t - y.since < 0 then 0 else t - y.since) ∧ (if t - y.since < 0 then 0 else t - y.since) ≤ 10000000 := by split <;> omega
        generalize (if t - y.since < 0 then 0 else t - y.since) = lg at *
        obtain ⟨hg0, hg1⟩ := hg0
        go_upto_if 87 with fail
        go_cut [9] from 31 to 126 (fun uv wx => wx = wc ∧ uv = .int .i64 (if y.urg = 5 then 2 else y.urg))
        case first =>
          by_cases h5 : y.urg = 5
          · rw [h5]
            go_wp2_with fail
            go_meet
            case rel => exact ⟨rfl, by rw [if_pos h5]⟩
          · go_wp2_with fail
            go_meet
            case rel => exact ⟨rfl, by rw [if_neg h5]⟩
        case rest =>
          obtain ⟨rfl, rfl⟩ := hcut
          have hn2 : nowU y t = if 3 ≤ (if y.urg = 5 then 2 else y.urg) then (if (if y.urg = 5 then 2 else y.urg) - lg / 60 < 2 then 2 else (if y.urg = 5 then 2 else y.urg) - lg / 60) else (if y.urg = 5 then 2 else y.urg) := by
            rw [hn]
            by_cases h5 : y.urg = 5
            · rw [if_pos h5, if_pos h5, if_neg (by omega)]
            · rw [if_neg h5, if_neg h5]
          have hv1 : 1 ≤ (if y.urg = 5 then 2 else y.urg) ∧ (if y.urg = 5 then 2 else y.urg) ≤ 4 := by split <;> omega
          generalize (if y.urg = 5 then 2 else y.urg) = v1 at *
          obtain ⟨hv1, hv2⟩ := hv1
          clear hn
          have HN2 := hidden hn2
          clear hn2
          go_upto_if 89 with fail
          go_cut [9] from 31 to 126 (fun uv wx => wx = wc ∧ uv = .int .i64 (nowU y t))
          case first =>
            by_cases h3 : 3 ≤ v1
            · by_cases h2 : v1 - lg / 60 < 2
              · go_wp2_with fail
                go_meet
                case rel => exact ⟨rfl, by rw [HN2.out, if_pos h3, if_pos h2]⟩
              · go_wp2_with fail
                go_meet
                case rel => exact ⟨rfl, by rw [HN2.out, if_pos h3, if_neg (by omega)]⟩
            · go_wp2_with fail
              go_meet
              case rel => exact ⟨rfl, by rw [HN2.out, if_neg (by omega)]⟩
          case rest =>
            obtain ⟨rfl, rfl⟩ := hcut
            clear HN2
            generalize hnu : nowU y t = nu at *
            have hge1 : ¬ nu < u := by omega
            have HNU := hidden hnu
            have HTK : Hid (L.take i ++ [(k : Int)] = L.take (i + 1)) := (take_snocW hX.out).symm
            clear hnu
            by_cases h0 : (0 : Int) < (i : Int)
            · obtain ⟨k', y', hx', hk', hq', hle⟩ := HP.out (by omega)
              by_cases hE : nu = u
              · have hns : ¬ y.since < y'.since := by have := hle (by first | exact hE | (rw [HNU.out]; exact hE)); omega
                obtain ⟨g3, off3, he, hg3, -, -, c2'⟩ := wait_cells HQ.out hq'
                obtain ⟨rfl, rfl⟩ : g2 = g3 ∧ off = off3 := by simpa using he
                have f1 : wc.cell? ⟨G, i - 1, none⟩ = some (.int .i64 k') := (hbs.cell (p := ⟨G, i - 1, none⟩) hG2).trans (hcl (i - 1) _ hx')
                have f2 : wc.cell? ⟨g2, off + k' * 3 + 2, none⟩ = some (.int .i64 y'.since) := (hbs.cell (p := ⟨g2, off + k' * 3 + 2, none⟩) hg2).trans c2'
                have h7 : (0 : Int) ≤ (i : Int) - 1 := by omega
                have h8 : (i : Int) - 1 < (L.length : Int) := by omega
                have h9 : ((i : Int) - 1).toNat = i - 1 := by omega
                have h6 : ¬ (i : Int) - 1 < 0 := by omega
                have hi2 : i - 1 < L.length := by omega
                have hkl' : (k' : Int) < (q.length : Int) := by omega
                subst hE
                have hgi : decide (0 < i) = true := by simp; omega
                clear hle hx' hq' c2' he
                go_wp2_with fail
                go_quiet (fail)
                all_goals go_wp2_with fail
                all_goals go_roundw
                all_goals first
                  | (simp [intOf]; omega)
                  | exact ⟨i + 1, nu, by go_num, rfl, by omega, Or.inr ⟨(k : Int), by omega, by rw [Nat.add_sub_cancel]; exact hX.out, by rw [HWY.out]; exact HNU.out.symm⟩, by rw [← HTK.out]; exact hms, st_drewN hbs _⟩
                  | exact ⟨i + 1, nu, by go_num, rfl, by omega, Or.inr ⟨(k : Int), by omega, by rw [Nat.add_sub_cancel]; exact hX.out, by rw [HWY.out]; exact HNU.out.symm⟩, by rw [← HTK.out]; exact hms, st_drew hbs⟩
                  | exact ⟨i + 1, nu, by go_num, rfl, by omega, Or.inr ⟨(k : Int), by omega, by rw [Nat.add_sub_cancel]; exact hX.out, by rw [HWY.out]; exact HNU.out.symm⟩, by rw [← HTK.out]; exact hms, hbs⟩
              · have hnn : (nu == u) = false := by simpa using hE
                have hgi : decide (0 < i) = true := by simp; omega
                clear hle hx' hq'
                go_wp2_with fail
                go_quiet (fail)
                all_goals go_wp2_with fail
                all_goals go_roundw
                all_goals first
                  | (simp [intOf]; omega)
                  | exact ⟨i + 1, nu, by go_num, rfl, by omega, Or.inr ⟨(k : Int), by omega, by rw [Nat.add_sub_cancel]; exact hX.out, by rw [HWY.out]; exact HNU.out.symm⟩, by rw [← HTK.out]; exact hms, st_drewN hbs _⟩
                  | exact ⟨i + 1, nu, by go_num, rfl, by omega, Or.inr ⟨(k : Int), by omega, by rw [Nat.add_sub_cancel]; exact hX.out, by rw [HWY.out]; exact HNU.out.symm⟩, by rw [← HTK.out]; exact hms, st_drew hbs⟩
                  | exact ⟨i + 1, nu, by go_num, rfl, by omega, Or.inr ⟨(k : Int), by omega, by rw [Nat.add_sub_cancel]; exact hX.out, by rw [HWY.out]; exact HNU.out.symm⟩, by rw [← HTK.out]; exact hms, hbs⟩
            · have hgi : decide (0 < i) = false := by simp; omega
              go_wp2_with fail
              go_quiet (fail)
              all_goals go_wp2_with fail
              all_goals go_roundw
              all_goals first
                | (simp [intOf]; omega)
                | exact ⟨i + 1, nu, by go_num, rfl, by omega, Or.inr ⟨(k : Int), by omega, by rw [Nat.add_sub_cancel]; exact hX.out, by rw [HWY.out]; exact HNU.out.symm⟩, by rw [← HTK.out]; exact hms, st_drewN hbs _⟩
    · have hlti : ¬ (i : Int) < (L.length : Int) := by omega
      go_wp2_with fail
      go_ret
      exact ⟨rfl, b4.trans (br.mono b4.size)⟩
end Go.Proofs.Ytcfghnffacdekab
