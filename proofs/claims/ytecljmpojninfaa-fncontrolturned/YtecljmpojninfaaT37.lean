/-
  A target, a step and values, drawn of bytes.
-/
import Derived.Test.YtecljmpojninfaaT37a
import Derived.Test.YtecljmpojninfaaT21
import Derived.Deep.CutRange
namespace Go.Proofs.Ytecljmpojninfaa
open Go.RowKit Va Lb
set_option linter.all false

theorem tab_in (zs : List Int) (W W' : World) (g : Nat) (t : TypeId) (hk : Keep g (W.alloc (.cells (zs.map (fun z => Value.int .i64 z)).toArray t)) W') (hg : g < W.heap.size) (k : Nat) (hz : k < zs.length) : ∃ z : Int, z ∈ zs ∧ W'.cell? ⟨W.heap.size, k, none⟩ = some (.int .i64 z) := by
  refine ⟨zs[k], List.getElem_mem hz, ?_⟩
  rw [hk.cell (by simp) (by omega)]
  have e := heap_alloc_new W (.cells (zs.map (fun z => Value.int .i64 z)).toArray t)
  simp only [World.cell?, e]
  simp [hz]
theorem inr_app {l : List Int} {x : Int} (h : ∀ y ∈ l, InR y) (hx : InR x) : ∀ y ∈ l ++ [x], InR y := fun y hy => by
  rcases List.mem_append.1 hy with h1 | h1
  · exact h y h1
  · rw [List.mem_singleton.1 h1]; exact hx
theorem lean_small {a b : Int} (h1 : -2 ≤ a) (h2 : a ≤ 2) (h3 : 0 ≤ b) (h4 : b < 6) : -12 ≤ a * (1 + b) ∧ a * (1 + b) ≤ 12 := by
  rcases (show a = -2 ∨ a = -1 ∨ a = 0 ∨ a = 1 ∨ a = 2 by omega) with rfl | rfl | rfl | rfl | rfl <;> omega

set_option maxRecDepth 20000 in
set_option maxHeartbeats 8000000 in
theorem dcontrol_any (ao : Option Addr) (cap : Nat) (bs : List Int) (w : World) (hb : Bytes w w.heap.size ao bs) (hl : bs.length ≤ 1048576) :
    Calls Try.prog 10 #[.slice ao bs.length cap] w fun e w' => ∃ (t s : Int) (v : Value) (l : List Int), e = .returned (.tuple #[.int .i64 t, .int .i64 s, v]) ∧ VRw 1 cvI w' v l ∧ l.length ≤ 25 ∧ InR t ∧ (∀ x ∈ l, InR x) ∧ Below w.heap.size w w' := by
  obtain ⟨i0, hi0, hy0, hy1, hy2⟩ := info_partsW infoW64
  go_enter Try.func10, Try.ntmps10
  go_wp2_with fail
  refine (new_any ao cap bs w hb hl).mono ?_
  rintro e wM ⟨rfl, hcM, hbM⟩
  have hgM : w.heap.size < wM.heap.size := hcM.1
  clear hb
  generalize hG : w.heap.size = g at *
  go_wp2_with fail
  refine (from_any g ao cap bs (-20) 100 _ hcM (by omega) (by omega) (by omega)).mono ?_
  rintro e w1 ⟨t, rfl, t0, t1, hc1, hk1⟩
  go_wp2_with fail
  refine (below_any g ao cap bs 6 _ hc1 (by omega)).mono ?_
  rintro e wN ⟨s, rfl, s0, s1, hcN, hkN⟩
  have HBN := hidden (hbM.trans ((hk1.trans hkN).below (B := g) (Nat.le_refl _) (by omega)))
  have hgN : g < wN.heap.size := hcN.1
  have h0 := DI.start hcN
  clear hbM hcM hkN hk1 hc1
  generalize hwA : wN.alloc (.cells #[] 2) = wA at *
  go_wp2_with fail
  refine (from_any g ao cap bs (-2) 2 _ h0.cur (by omega) (by omega) (by omega)).mono ?_
  rintro e w2 ⟨le, rfl, e0, e1, hc2, hk2⟩
  have h1 := h0.call hc2 hk2
  have hm := lean_small e0 e1 s0 s1
  clear hwA h0 hc2 hk2
  go_wp2_with fail
  refine (below_any g ao cap bs 24 _ h1.cur (by omega)).mono ?_
  rintro e w3 ⟨n1, rfl, p1, q1, hc3, hk3⟩
  have h2 := h1.call hc3 hk3
  clear h1 hc3 hk3
  obtain ⟨n1, rfl⟩ := Int.eq_ofNat_of_zero_le p1
  generalize hv0 : Value.slice (some ⟨wN.heap.size, 0, none⟩) 0 0 = v0 at *
  go_wp2_with fail
  go_loopw [8, 10, 11] (fun v nv _ wr => ∃ (l : List Int) (k : Nat), nv = .int .i64 k ∧ l.length + k ≤ 24 ∧ (∀ x ∈ l, InR x) ∧ DI wN wr g ao cap bs v l) (fun _ nv _ _ => (intOf nv).toNat)
  case atStart => exact ⟨[], n1, rfl, by simp; omega, (fun x hx => by cases hx), h2⟩
  case round =>
    clear h2 hv0
    obtain ⟨l, k, rfl, hlk, hlr, hd⟩ := hrel
    obtain ⟨ad, c, rfl⟩ := hd.form
    by_cases hk0 : 0 < k
    · have hk1 : (0 : Int) < (k : Int) := by omega
      go_wp2_with fail
      refine (from_any g ao cap bs _ _ _ hd.cur (by omega) (by omega) (by omega)).mono ?_
      rintro e w4 ⟨z, rfl, z0, z1, hc4, hk4⟩
      have hd4 := hd.call hc4 hk4
      clear hc4 hk4 hd
      go_upto_if 42 with (go_at_call 36; refine (once_any g ao cap bs 4 _ hd4.cur (by omega)).mono ?_; rintro e w5 ⟨t5, rfl, hc5, hk5⟩)
      have hd5 := hd4.call hc5 hk5
      clear hc5 hk5 hd4
      go_cut [11] from 24 to 58 (fun xv wx => ∃ x : Int, xv = .int .i64 x ∧ InR x ∧ DI wN wx g ao cap bs (.slice ad l.length c) l)
      case first =>
        cases t5 with
        | false =>
          go_wp2_with fail
          go_meet
          case rel => exact ⟨_, rfl, by unfold InR; omega, hd5⟩
        | true =>
          go_upto_region 11 with fail
          refine regK11 (t := t) (s := 1 + s) rfl rfl rfl rfl hd5.cur ?_
          intro b' w6 x hf hc6 hk6 hv hx
          rw [layK11 hf, hv]
          clear hv hf
          generalize Rg.out (Rg.opsOf Try.f10 11) b' 0 = y0; generalize Rg.out (Rg.opsOf Try.f10 11) b' 1 = y1; generalize Rg.out (Rg.opsOf Try.f10 11) b' 2 = y2; generalize Rg.out (Rg.opsOf Try.f10 11) b' 3 = y3; generalize Rg.out (Rg.opsOf Try.f10 11) b' 4 = y4; generalize Rg.out (Rg.opsOf Try.f10 11) b' 5 = y5; generalize Rg.out (Rg.opsOf Try.f10 11) b' 6 = y6; generalize Rg.out (Rg.opsOf Try.f10 11) b' 7 = y7; generalize Rg.out (Rg.opsOf Try.f10 11) b' 8 = y8; generalize Rg.out (Rg.opsOf Try.f10 11) b' 9 = y9; generalize Rg.out (Rg.opsOf Try.f10 11) b' 10 = y10; generalize Rg.out (Rg.opsOf Try.f10 11) b' 11 = y11
          have hd6 := hd5.call hc6 hk6
          clear hd5 hc6 hk6
          go_frame
          go_wp2_with fail
          go_meet
          case rel => exact ⟨_, rfl, hx, hd6⟩
      case rest =>
        clear hd5
        obtain ⟨x, rfl, hx, hd2⟩ := hcut
        go_wp2_with (at_builtin; refine wpList_append_own _ rfl (.tmp 55) (.tmp 57) 24 rfl wN.heap.size 2 i0 (.int .i64 0) 1 8 Try.underlying24 hi0 hy0 hy1 hy2 rfl (by decide) _ l.length (l.map fun z => Value.int .i64 z) rfl (hd2.alloc _).own ⟨wc.heap.size, 0, none⟩ 1 1 [.int .i64 x] rfl rfl (cell_oneD _ _ _) (by simp [Value.oneCell']) (by unfold maxLen; omega) (by omega) (by have := hd2.keep.size; simp; omega) ?_; intro v6 w6 ho6 hg6 hnn6; have hd6 := (hd2.alloc _).app ho6 hg6; clear ho6 hg6 hnn6)
        go_roundw
        case rel => exact ⟨l ++ [x], k - 1, by congr 1; omega, by simp; omega, inr_app hlr hx, hd6⟩
        case measure => simp [intOf]; omega
    · have hk1 : ¬ (0 : Int) < (k : Int) := by omega
      have hl7 : l.length ≤ 24 := by omega
      clear hlk p1 q1
      go_upto_if 60 with (go_at_call 36; refine (once_any g ao cap bs 30 _ hd.cur (by omega)).mono ?_; rintro e w4 ⟨t4, rfl, hc4, hk4⟩)
      have hd4 := hd.call hc4 hk4
      clear hc4 hk4 hd
      go_cut [6, 7, 8] (fun tv sv v wx => ∃ (t9 s9 : Int) (l9 : List Int), tv = .int .i64 t9 ∧ sv = .int .i64 s9 ∧ InR t9 ∧ l9.length ≤ 25 ∧ (∀ x ∈ l9, InR x) ∧ DI wN wx g ao cap bs v l9)
      case first =>
        cases t4 with
        | false =>
          go_wp2_with fail
          go_meet
          case rel => exact ⟨t, _, l, rfl, rfl, by unfold InR; omega, by omega, hlr, hd4⟩
        | true =>
          go_upto_region 15 with (go_at_call 35; refine (below_any g ao cap bs 3 _ hd4.cur (by omega)).mono ?_; rintro e w5 ⟨y5, rfl, y50, y51, hc5, hk5⟩)
          have hd5 := hd4.call hc5 hk5
          clear hc5 hk5 hd4
          rcases (show y5 = 0 ∨ y5 = 1 ∨ y5 = 2 by omega) with rfl | rfl | rfl
          · have hdT := hd5.alloc (.cells #[.int .i64 100000, .int .i64 100001, .int .i64 (-100001)] 2)
            have hgr := hd5.cur.1
            go_wp2_with fail
            refine (below_any g ao cap bs 3 _ hdT.cur (by omega)).mono ?_
            rintro e w6 ⟨y6, rfl, y60, y61, hc6, hk6⟩
            obtain ⟨j, rfl⟩ := Int.eq_ofNat_of_zero_le y60
            obtain ⟨z, hzin, hz⟩ := tab_in [100000, 100001, -100001] w5 w6 g 2 hk6 hgr j (by simp; omega)
            have hzr : InR z := by (simp at hzin; unfold InR; omega)
            have hd2 := hdT.call hc6 hk6
            clear hc6 hk6 hd5 hdT hzin

            go_wp2_with fail
            go_meet
            case rel => exact ⟨z, _, l, rfl, rfl, hzr, by omega, hlr, hd2⟩
          · have hdT := hd5.alloc (.cells #[.int .i64 0, .int .i64 100000, .int .i64 100001] 2)
            have hgr := hd5.cur.1
            go_wp2_with fail
            refine (below_any g ao cap bs 3 _ hdT.cur (by omega)).mono ?_
            rintro e w6 ⟨y6, rfl, y60, y61, hc6, hk6⟩
            obtain ⟨j, rfl⟩ := Int.eq_ofNat_of_zero_le y60
            obtain ⟨z, hzin, hz⟩ := tab_in [0, 100000, 100001] w5 w6 g 2 hk6 hgr j (by simp; omega)
            have hzr : InR z := by (simp at hzin; unfold InR; omega)
            have hd2 := hdT.call hc6 hk6
            clear hc6 hk6 hd5 hdT hzin

            go_wp2_with fail
            go_meet
            case rel => exact ⟨t, z, l, rfl, rfl, by unfold InR; omega, by omega, hlr, hd2⟩
          · have hdT := hd5.alloc (.cells #[.int .i64 100000, .int .i64 100001, .int .i64 (-100001)] 2)
            have hgr := hd5.cur.1
            go_wp2_with fail
            refine (below_any g ao cap bs 3 _ hdT.cur (by omega)).mono ?_
            rintro e w6 ⟨y6, rfl, y60, y61, hc6, hk6⟩
            obtain ⟨j, rfl⟩ := Int.eq_ofNat_of_zero_le y60
            obtain ⟨z, hzin, hz⟩ := tab_in [100000, 100001, -100001] w5 w6 g 2 hk6 hgr j (by simp; omega)
            have hzr : InR z := by (simp at hzin; unfold InR; omega)
            have hd2 := hdT.call hc6 hk6
            clear hc6 hk6 hd5 hdT hzin

            go_wp2_with (at_builtin; refine wpList_append_own _ rfl (.tmp 79) (.tmp 85) 24 rfl wN.heap.size 2 i0 (.int .i64 0) 1 8 Try.underlying24 hi0 hy0 hy1 hy2 rfl (by decide) _ l.length (l.map fun z => Value.int .i64 z) rfl (hd2.alloc _).own ⟨w6.heap.size, 0, none⟩ 1 1 [.int .i64 z] rfl rfl (cell_oneD _ _ _) (by simp [Value.oneCell']) (by unfold maxLen; omega) (by omega) (by have := hd2.keep.size; simp; omega) ?_; intro v6 w6 ho6 hg6 hnn6; have hd6 := (hd2.alloc _).app ho6 hg6; clear ho6 hg6 hnn6)
            go_meet
            case rel => exact ⟨t, _, l ++ [z], rfl, rfl, by unfold InR; omega, by simp; omega, inr_app hlr hzr, hd6⟩
      case rest =>
        clear hd4
        obtain ⟨t9, s9, l9, rfl, rfl, ht9, hl9, hr9, hd9⟩ := hcut
        obtain ⟨ad9, c9, rfl⟩ := hd9.form
        have hrow := hd9.row
        have bel := hd9.keep.below (B := g) (Nat.le_refl _) (by omega)
        clear hd9
        go_wp2_with fail
        refine bodyPost_ret (v := .tuple #[.int .i64 t9, .int .i64 s9, .slice ad9 l9.length c9]) (by simp [results, Try.results10, go_sem]) rfl ?_
        exact ⟨_, _, _, l9, rfl, hrow, hl9, ht9, hr9, by rw [hG]; exact HBN.out.trans bel⟩
end Go.Proofs.Ytecljmpojninfaa
