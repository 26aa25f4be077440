/-
  A history of steps drawn of a cursor.
-/
import Derived.Test.YtklgadaefngnnaaZb
import Derived.Deep.CutBlock
namespace Go.Proofs.Ytklgadaefngnnaa
open Go.RowKit Va Wa
set_option linter.all false

def lenV (v : Value) : Nat := match v with | .slice _ n _ => n | _ => 0
set_option maxRecDepth 20000 in
set_option maxHeartbeats 4000000 in
theorem dsteps_any (g : Nat) (ao : Option Addr) (cap : Nat) (bs : List Int) (w : World) (hc : Cur w g ao cap bs) :
    Calls Try.prog 71 #[.pointer (some ⟨g, 0, none⟩)] w fun e w' => ∃ v l, e = .returned v ∧ DS w w' g ao cap bs v l ∧ l.length ≤ 1001 := by
  obtain ⟨i0, hi0, hy0, hy1, hy2⟩ := info_partsZ infoStp
  have h0 := DS.start hc
  have hgl := hc.1
  go_enter Try.func71, Try.ntmps71
  generalize hwA : w.alloc (.cells #[] 58) = wA at *
  go_wp2_with fail
  refine (below_any g ao cap bs 16 _ h0.cur (by omega)).mono ?_
  rintro e w1 ⟨y1, rfl, p1, q1, hc1, hk1⟩
  have h1 := h0.call hc1 hk1
  clear hwA h0 hc1 hk1
  obtain ⟨n1, rfl⟩ := Int.eq_ofNat_of_zero_le p1
  generalize hv0 : Value.slice (some ⟨w.heap.size, 0, none⟩) 0 0 = v0 at *
  go_wp2_with fail
  go_loopw [3, 4] (fun v nv wr => ∃ (l : List Stp) (k : Nat), nv = .int .i64 k ∧ l.length + 4 * k ≤ 64 ∧ DS w wr g ao cap bs v l) (fun _ nv _ => (intOf nv).toNat)
  case atStart => exact ⟨[], n1, rfl, by simp; omega, h1⟩
  case round =>
    clear h1
    obtain ⟨l, k, rfl, hlk, hd⟩ := hrel
    obtain ⟨ad, c, rfl⟩ := hd.form
    by_cases hk0 : 0 < k
    · have hk1 : (0 : Int) < (k : Int) := by omega
      go_wp2_with fail
      refine (below_any g ao cap bs 3 _ hd.cur (by omega)).mono ?_
      rintro e w2 ⟨a1, rfl, a10, a11, hc2, hk2⟩
      have hd2 := hd.call hc2 hk2
      clear hc2 hk2 hd
      go_wp2_with fail
      refine (below_any g ao cap bs 4 _ hd2.cur (by omega)).mono ?_
      rintro e w3 ⟨a2, rfl, a20, a21, hc3, hk3⟩
      have hd3 := hd2.call hc3 hk3
      clear hc3 hk3 hd2
      go_wp2_with fail
      refine (below_any g ao cap bs 5 _ hd3.cur (by omega)).mono ?_
      rintro e w4 ⟨y, rfl, y0, y1, hc4, hk4⟩
      have hd4 := hd3.call hc4 hk4
      clear hc4 hk4 hd3
      rcases (show y = 0 ∨ y = 1 ∨ y = 2 ∨ y = 3 ∨ y = 4 by omega) with rfl | rfl | rfl | rfl | rfl
      · go_wp2_with (at_builtin; refine wpList_append_own _ rfl (.tmp 23) (.tmp 29) 53 rfl w.heap.size 58 i0 (.agg #[.int .i64 0, .int .i64 0, .int .i64 0, .int .i64 0]) 4 32 Try.underlying53 hi0 hy0 hy1 hy2 rfl (by decide) _ l.length (cellsL 4 csT l) rfl (hd4.alloc _).own ⟨w4.heap.size, 0, none⟩ 2 2 [.int .i64 1, .int .i64 a1, .int .i64 0, .int .i64 0, .int .i64 2, .int .i64 a1, .int .i64 a2, .int .i64 0] rfl rfl (cell_list_new _ _ _) (cellsT_one [⟨1, a1, 0, 0⟩, ⟨2, a1, a2, 0⟩]) (by unfold maxLen; omega) (by omega) (by have := hd4.keep.size; simp; omega) ?_; intro v6 w6 ho6 hg6 hnn6; have hd6 := (hd4.alloc _).app (ms := [⟨1, a1, 0, 0⟩, ⟨2, a1, a2, 0⟩]) (by simp only [Fresh, List.mem_cons, List.not_mem_nil, or_false, forall_eq_or_imp, forall_eq]; omega) ho6 hg6; clear ho6 hg6 hnn6)
        go_roundw
        case rel => exact ⟨l ++ [⟨1, a1, 0, 0⟩, ⟨2, a1, a2, 0⟩], k - 1, by congr 1; omega, by simp only [List.length_append, List.length_cons, List.length_nil]; omega, hd6⟩
        case measure => simp [intOf]; omega
      · go_wp2_with (at_builtin; refine wpList_append_own _ rfl (.tmp 33) (.tmp 36) 53 rfl w.heap.size 58 i0 (.agg #[.int .i64 0, .int .i64 0, .int .i64 0, .int .i64 0]) 4 32 Try.underlying53 hi0 hy0 hy1 hy2 rfl (by decide) _ l.length (cellsL 4 csT l) rfl (hd4.alloc _).own ⟨w4.heap.size, 0, none⟩ 1 1 [.int .i64 3, .int .i64 0, .int .i64 a2, .int .i64 0] rfl rfl (cell_list_new _ _ _) (cellsT_one [⟨3, 0, a2, 0⟩]) (by unfold maxLen; omega) (by omega) (by have := hd4.keep.size; simp; omega) ?_; intro v6 w6 ho6 hg6 hnn6; have hd6 := (hd4.alloc _).app (ms := [⟨3, 0, a2, 0⟩]) (by simp only [Fresh, List.mem_cons, List.not_mem_nil, or_false, forall_eq_or_imp, forall_eq]; omega) ho6 hg6; clear ho6 hg6 hnn6)
        go_roundw
        case rel => exact ⟨l ++ [⟨3, 0, a2, 0⟩], k - 1, by congr 1; omega, by simp only [List.length_append, List.length_cons, List.length_nil]; omega, hd6⟩
        case measure => simp [intOf]; omega
      · go_wp2_with fail
        refine (below_any g ao cap bs 4 _ hd4.cur (by omega)).mono ?_
        rintro e w5 ⟨a3, rfl, a30, a31, hc5, hk5⟩
        have hd5 := hd4.call hc5 hk5
        clear hc5 hk5 hd4
        go_wp2_with (at_builtin; refine wpList_append_own _ rfl (.tmp 40) (.tmp 45) 53 rfl w.heap.size 58 i0 (.agg #[.int .i64 0, .int .i64 0, .int .i64 0, .int .i64 0]) 4 32 Try.underlying53 hi0 hy0 hy1 hy2 rfl (by decide) _ l.length (cellsL 4 csT l) rfl (hd5.alloc _).own ⟨w5.heap.size, 0, none⟩ 1 1 [.int .i64 5, .int .i64 a1, .int .i64 0, .int .i64 a3] rfl rfl (cell_list_new _ _ _) (cellsT_one [⟨5, a1, 0, a3⟩]) (by unfold maxLen; omega) (by omega) (by have := hd5.keep.size; simp; omega) ?_; intro v6 w6 ho6 hg6 hnn6; have hd6 := (hd5.alloc _).app (ms := [⟨5, a1, 0, a3⟩]) (by simp only [Fresh, List.mem_cons, List.not_mem_nil, or_false, forall_eq_or_imp, forall_eq]; omega) ho6 hg6; clear ho6 hg6 hnn6)
        go_roundw
        case rel => exact ⟨l ++ [⟨5, a1, 0, a3⟩], k - 1, by congr 1; omega, by simp only [List.length_append, List.length_cons, List.length_nil]; omega, hd6⟩
        case measure => simp [intOf]; omega
      · go_wp2_with fail
        refine (below_any g ao cap bs 4 _ hd4.cur (by omega)).mono ?_
        rintro e w5 ⟨a3, rfl, a30, a31, hc5, hk5⟩
        have hd5 := hd4.call hc5 hk5
        clear hc5 hk5 hd4
        go_wp2_with (at_builtin; refine wpList_append_own _ rfl (.tmp 49) (.tmp 61) 53 rfl w.heap.size 58 i0 (.agg #[.int .i64 0, .int .i64 0, .int .i64 0, .int .i64 0]) 4 32 Try.underlying53 hi0 hy0 hy1 hy2 rfl (by decide) _ l.length (cellsL 4 csT l) rfl (hd5.alloc _).own ⟨w5.heap.size, 0, none⟩ 4 4 [.int .i64 1, .int .i64 a1, .int .i64 0, .int .i64 0, .int .i64 2, .int .i64 a1, .int .i64 a2, .int .i64 0, .int .i64 3, .int .i64 0, .int .i64 a2, .int .i64 0, .int .i64 5, .int .i64 a1, .int .i64 0, .int .i64 a3] rfl rfl (cell_list_new _ _ _) (cellsT_one [⟨1, a1, 0, 0⟩, ⟨2, a1, a2, 0⟩, ⟨3, 0, a2, 0⟩, ⟨5, a1, 0, a3⟩]) (by unfold maxLen; omega) (by omega) (by have := hd5.keep.size; simp; omega) ?_; intro v6 w6 ho6 hg6 hnn6; have hd6 := (hd5.alloc _).app (ms := [⟨1, a1, 0, 0⟩, ⟨2, a1, a2, 0⟩, ⟨3, 0, a2, 0⟩, ⟨5, a1, 0, a3⟩]) (by simp only [Fresh, List.mem_cons, List.not_mem_nil, or_false, forall_eq_or_imp, forall_eq]; omega) ho6 hg6; clear ho6 hg6 hnn6)
        go_roundw
        case rel => exact ⟨l ++ [⟨1, a1, 0, 0⟩, ⟨2, a1, a2, 0⟩, ⟨3, 0, a2, 0⟩, ⟨5, a1, 0, a3⟩], k - 1, by congr 1; omega, by simp only [List.length_append, List.length_cons, List.length_nil]; omega, hd6⟩
        case measure => simp [intOf]; omega
      · have hdT := hd4.alloc (.cells #[.int .i64 4, .int .i64 0, .int .i64 a2, .int .i64 0, .int .i64 6, .int .i64 a1, .int .i64 0, .int .i64 0, .int .i64 1, .int .i64 a1, .int .i64 0, .int .i64 0, .int .i64 2, .int .i64 a1, .int .i64 a2, .int .i64 0] 58)
        have hg4 := hd4.cur.1
        go_wp2_with fail
        refine (below_any g ao cap bs 4 _ hdT.cur (by omega)).mono ?_
        rintro e w5 ⟨yC, rfl, hyA, hyB, hc5, hk5⟩
        obtain ⟨kk, rfl⟩ := Int.eq_ofNat_of_zero_le hyA
        have hkk : kk < 4 := by omega
        obtain ⟨x, hxm, hx0, hx1, hx2, hx3⟩ := tab_steps [⟨4, 0, a2, 0⟩, ⟨6, a1, 0, 0⟩, ⟨1, a1, 0, 0⟩, ⟨2, a1, a2, 0⟩] w4 w5 g _ hk5 hg4 kk hkk
        have hd5 := hdT.call hc5 hk5
        have hxf : x.cyc ≠ 900 ∧ x.per ≠ 77 := by
          simp only [List.mem_cons, List.not_mem_nil, or_false] at hxm
          rcases hxm with rfl | rfl | rfl | rfl <;> simp <;> omega
        obtain ⟨xk, xt, xc, xp⟩ := x
        simp only at hx0 hx1 hx2 hx3 hxf
        clear hc5 hk5 hd4 hdT hxm
        go_wp2_with (at_builtin; refine wpList_append_own _ rfl (.tmp 65) (.tmp 80) 53 rfl w.heap.size 58 i0 (.agg #[.int .i64 0, .int .i64 0, .int .i64 0, .int .i64 0]) 4 32 Try.underlying53 hi0 hy0 hy1 hy2 rfl (by decide) _ l.length (cellsL 4 csT l) rfl (hd5.alloc _).own ⟨w5.heap.size, 0, none⟩ 1 1 [.int .i64 xk, .int .i64 xt, .int .i64 xc, .int .i64 xp] rfl rfl (cell_list_new _ _ _) (cellsT_one [⟨xk, xt, xc, xp⟩]) (by unfold maxLen; omega) (by omega) (by have := hd5.keep.size; simp; omega) ?_; intro v6 w6 ho6 hg6 hnn6; have hd6 := (hd5.alloc _).app (ms := [⟨xk, xt, xc, xp⟩]) (by simp only [Fresh, List.mem_cons, List.not_mem_nil, or_false, forall_eq_or_imp, forall_eq]; omega) ho6 hg6; clear ho6 hg6 hnn6)
        go_roundw
        case rel => exact ⟨l ++ [⟨xk, xt, xc, xp⟩], k - 1, by congr 1; omega, by simp only [List.length_append, List.length_cons, List.length_nil]; omega, hd6⟩
        case measure => simp [intOf]; omega
    · have hk1 : ¬ (0 : Int) < (k : Int) := by omega
      have hl64 : l.length ≤ 64 := by omega
      clear hlk p1 q1
      go_upto_region 18 with (fail)
      go_cut [88] (fun tv wx => ∃ t : Bool, tv = .bool t ∧ (t = true → 0 < l.length) ∧ DS w wx g ao cap bs (.slice ad l.length c) l)
      case first =>
        go_wp2_with fail
        refine (once_any g ao cap bs 14 _ hd.cur (by omega)).mono ?_
        rintro e w8 ⟨t8, rfl, hc8, hk8⟩
        have hd8 := hd.call hc8 hk8
        clear hc8 hk8 hd
        rcases t8 with _ | _
        · go_wp2_with fail
          go_meet
          case rel => exact ⟨_, rfl, (fun q => (by cases q)), hd8⟩
        · by_cases hl0 : (0 : Int) < (l.length : Int)
          · go_wp2_with fail
            go_meet
            case rel => exact ⟨_, rfl, (fun _ => (by omega)), hd8⟩
          · go_wp2_with fail
            go_meet
            case rel => exact ⟨_, rfl, (fun q => by simp at q; omega), hd8⟩
      case rest =>
        obtain ⟨t, rfl, hl0, hd8⟩ := hcut
        go_upto_if 88 with fail
        go_cut [] (fun wx => ∃ l' : List Stp, Hid (l'.length = l.length) ∧ DS w wx g ao cap bs (.slice ad l.length c) l')
        case first =>
          rcases t with _ | _
          · go_wp2_with fail
            go_meet
            case rel => exact ⟨l, rfl, hd8⟩
          · replace hl0 := hl0 rfl
            have hl1 : (0 : Int) < (l.length : Int) := by omega
            go_wp2_with fail
            refine (below_any g ao cap bs (l.length : Int) _ hd8.cur hl1).mono ?_
            rintro e w9 ⟨y9, rfl, hy90, hy91, hc9, hk9⟩
            obtain ⟨i, rfl⟩ := Int.eq_ofNat_of_zero_le hy90
            have hi : i < l.length := by omega
            have hd9 := hd8.call hc9 hk9
            obtain ⟨G, rfl, hgG, hGl, -, -⟩ := hd9.one hi
            clear hc9 hk9 hd8
            go_wp2_with fail
            refine (below_any g ao cap bs 4 _ hd9.cur (by omega)).mono ?_
            rintro e wA ⟨yA, rfl, hyA0, hyA1, hcA, hkA⟩
            have hdA := hd9.call hcA hkA
            clear hcA hkA hd9
            rcases (show yA = 0 ∨ yA = 1 ∨ yA = 2 ∨ yA = 3 by omega) with rfl | rfl | rfl | rfl
            · go_wp2_with fail
              refine (from_any g ao cap bs 0 7 _ hdA.cur (by omega) (by omega) (by omega)).mono ?_
              rintro e wC ⟨z, rfl, -, -, hcC, hkC⟩
              have hdC := hdA.call hcC hkC
              obtain ⟨G', e', -, -, hcl, hst⟩ := hdC.one hi
              obtain rfl : G = G' := by simpa using e'
              obtain ⟨⟨u0, s0⟩, f0⟩ := hcl 0 (by omega)
              obtain ⟨l', hl', hd'⟩ := hst 0 z (by omega) (by omega) (by omega)
              have HL' := hidden hl'
              simp only [Nat.add_zero] at s0 f0 hd'
              clear hcC hkC hcl hst hl' e'
              go_wp2_with fail
              go_meet
              case rel => exact ⟨l', HL'.out, hd'⟩
            · have hdT := hdA.alloc (.cells #[.int .i64 (-1), .int .i64 999, .int .i64 1000] 2)
              have hgA := hdA.cur.1
              go_wp2_with fail
              refine (below_any g ao cap bs 3 _ hdT.cur (by omega)).mono ?_
              rintro e wC ⟨yC, rfl, hyA, hyB, hcC, hkC⟩
              obtain ⟨kk, rfl⟩ := Int.eq_ofNat_of_zero_le hyA
              have hkk : kk < 3 := by omega
              obtain ⟨z, hzm, hz⟩ := tab_in [-1, 999, 1000] wA wC g _ hkC hgA kk hkk
              have hzf : z ≠ 900 ∧ z ≠ 77 := by
                simp only [List.mem_cons, List.not_mem_nil, or_false] at hzm
                omega
              have hdC := hdT.call hcC hkC
              obtain ⟨G', e', -, -, hcl, hst⟩ := hdC.one hi
              obtain rfl : G = G' := by simpa using e'
              obtain ⟨⟨u0, s0⟩, f0⟩ := hcl 1 (by omega)
              obtain ⟨l', hl', hd'⟩ := hst 1 z (by omega) (by omega) (by omega)
              have HL' := hidden hl'
              clear hcC hkC hdT hcl hst hl' e' hzm hdA
              go_wp2_with fail
              go_meet
              case rel => exact ⟨l', HL'.out, hd'⟩
            · have hdT := hdA.alloc (.cells #[.int .i64 (-1), .int .i64 999, .int .i64 1000] 2)
              have hgA := hdA.cur.1
              go_wp2_with fail
              refine (below_any g ao cap bs 3 _ hdT.cur (by omega)).mono ?_
              rintro e wC ⟨yC, rfl, hyA, hyB, hcC, hkC⟩
              obtain ⟨kk, rfl⟩ := Int.eq_ofNat_of_zero_le hyA
              have hkk : kk < 3 := by omega
              obtain ⟨z, hzm, hz⟩ := tab_in [-1, 999, 1000] wA wC g _ hkC hgA kk hkk
              have hzf : z ≠ 900 ∧ z ≠ 77 := by
                simp only [List.mem_cons, List.not_mem_nil, or_false] at hzm
                omega
              have hdC := hdT.call hcC hkC
              obtain ⟨G', e', -, -, hcl, hst⟩ := hdC.one hi
              obtain rfl : G = G' := by simpa using e'
              obtain ⟨⟨u0, s0⟩, f0⟩ := hcl 2 (by omega)
              obtain ⟨l', hl', hd'⟩ := hst 2 z (by omega) (by omega) (by omega)
              have HL' := hidden hl'
              clear hcC hkC hdT hcl hst hl' e' hzm hdA
              go_wp2_with fail
              go_meet
              case rel => exact ⟨l', HL'.out, hd'⟩
            · have hdT := hdA.alloc (.cells #[.int .i64 (-1), .int .i64 999, .int .i64 1000, .int .i64 1] 2)
              have hgA := hdA.cur.1
              go_wp2_with fail
              refine (below_any g ao cap bs 4 _ hdT.cur (by omega)).mono ?_
              rintro e wC ⟨yC, rfl, hyA, hyB, hcC, hkC⟩
              obtain ⟨kk, rfl⟩ := Int.eq_ofNat_of_zero_le hyA
              have hkk : kk < 4 := by omega
              obtain ⟨z, hzm, hz⟩ := tab_in [-1, 999, 1000, 1] wA wC g _ hkC hgA kk hkk
              have hzf : z ≠ 900 ∧ z ≠ 77 := by
                simp only [List.mem_cons, List.not_mem_nil, or_false] at hzm
                omega
              have hdC := hdT.call hcC hkC
              obtain ⟨G', e', -, -, hcl, hst⟩ := hdC.one hi
              obtain rfl : G = G' := by simpa using e'
              obtain ⟨⟨u0, s0⟩, f0⟩ := hcl 3 (by omega)
              obtain ⟨l', hl', hd'⟩ := hst 3 z (by omega) (by omega) (by omega)
              have HL' := hidden hl'
              clear hcC hkC hdT hcl hst hl' e' hzm hdA
              go_wp2_with fail
              go_meet
              case rel => exact ⟨l', HL'.out, hd'⟩
        case rest =>
          obtain ⟨l', HL', hdR⟩ := hcut
          clear hd8
          have HL64 : l'.length ≤ 64 := by have := HL'.out; omega
          go_upto_if 135 with (go_at_call 50; refine (once_any g ao cap bs 60 _ hdR.cur (by omega)).mono ?_; rintro e wS ⟨tS, rfl, hcS, hkS⟩)
          have hdS := hdR.call hcS hkS
          clear hcS hkS hdR
          rcases tS with _ | _
          · go_wp2_with fail
            go_ret
            exact ⟨_, l', rfl, hdS, by omega⟩
          · have HS : ∃ m : List Stp, m.length ≤ 1001 ∧ DS w wS g ao cap bs (.slice ad l.length c) m := ⟨l', by omega, hdS⟩
            clear hdS HL' HL64 hl64 hl0
            generalize hVS : Value.slice ad l.length c = vS at *
            clear hVS
            go_wp2_with fail
            go_loopw [3] (fun v wr => ∃ m : List Stp, m.length ≤ 1001 ∧ DS w wr g ao cap bs v m) (fun v _ => 1001 - lenV v)
            case atStart => exact HS
            case round =>
              clear HS
              obtain ⟨m, hm, hdl⟩ := hrel
              obtain ⟨ad, c, rfl⟩ := hdl.form
              go_wp2_with fail
              refine (below_any g ao cap bs 2 _ hdl.cur (by omega)).mono ?_
              rintro e wb ⟨yb, rfl, hb0, hb1, hcb, hkb⟩
              have hdb := hdl.call hcb hkb
              clear hcb hkb hdl
              by_cases hlt : (m.length : Int) < 1000 + yb
              · go_wp2_with (at_builtin; refine wpList_append_own _ rfl (.tmp 142) (.tmp 144) 53 rfl w.heap.size 58 i0 (.agg #[.int .i64 0, .int .i64 0, .int .i64 0, .int .i64 0]) 4 32 Try.underlying53 hi0 hy0 hy1 hy2 rfl (by decide) _ m.length (cellsL 4 csT m) rfl (hdb.alloc _).own ⟨wb.heap.size, 0, none⟩ 1 1 [.int .i64 1, .int .i64 5, .int .i64 0, .int .i64 0] rfl rfl (cell_list_new _ _ _) (cellsT_one [⟨1, 5, 0, 0⟩]) (by unfold maxLen; omega) (by omega) (by have := hdb.keep.size; simp; omega) ?_; intro v6 w6 ho6 hg6 hnn6; have hd6 := (hdb.alloc _).app (ms := [⟨1, 5, 0, 0⟩]) (by simp only [Fresh, List.mem_cons, List.not_mem_nil, or_false, forall_eq_or_imp, forall_eq]; omega) ho6 hg6; clear ho6 hg6 hnn6)
                go_roundw
                case rel => exact ⟨m ++ [⟨1, 5, 0, 0⟩], by simp only [List.length_append, List.length_cons, List.length_nil]; omega, hd6⟩
                case measure =>
                  obtain ⟨_, _, rfl⟩ := hd6.form
                  simp only [lenV, List.length_append, List.length_cons, List.length_nil]; omega
              · go_wp2_with fail
                go_ret
                exact ⟨_, m, rfl, hdb, hm⟩
end Go.Proofs.Ytklgadaefngnnaa
