/-
  Results, drawn of a cursor.
-/
import Derived.Test.YtecljmpojninfaaT25
namespace Go.Proofs.Ytecljmpojninfaa
open Go.RowKit Go.Maps Va Lb
set_option linter.all false

set_option maxRecDepth 20000 in
set_option maxHeartbeats 8000000 in
theorem dres_any (g : Nat) (ao : Option Addr) (cap : Nat) (bs : List Int) (w : World) (hc : Cur w g ao cap bs) :
    Calls Try.prog 52 #[.pointer (some ⟨g, 0, none⟩)] w fun e w' => ∃ (v : Value) (l : List Rs), e = .returned v ∧ l.length ≤ 2001 ∧ DRs w w' g ao cap bs v l := by
  obtain ⟨i0, hi0, hy0, hy1, hy2⟩ := info_partsW infoRs
  have hgN : g < w.heap.size := hc.1
  have h0 := DRs.start hc
  clear hc
  go_enter Try.func52, Try.ntmps52
  generalize hwA : w.alloc (.cells #[] 46) = wA at *
  go_wp2_with fail
  refine (below_any g ao cap bs 100 _ h0.cur (by omega)).mono ?_
  rintro e w0 ⟨t0, rfl, t00, t01, hc0, hk0⟩
  have h1 := h0.call hc0 hk0
  clear hwA h0 hc0 hk0
  go_wp2_with fail
  refine (below_any g ao cap bs 12 _ h1.cur (by omega)).mono ?_
  rintro e w1 ⟨n1, rfl, p1, q1, hc1, hk1⟩
  have h2 := h1.call hc1 hk1
  clear h1 hc1 hk1
  obtain ⟨n1, rfl⟩ := Int.eq_ofNat_of_zero_le p1
  generalize hv0 : Value.slice (some ⟨w.heap.size, 0, none⟩) 0 0 = v0 at *
  go_wp2_with fail
  go_loopw [3, 4, 5, 6] (fun v tv nv _ wr => ∃ (l : List Rs) (k : Nat) (t : Int), nv = .int .i64 k ∧ tv = .int .i64 t ∧ l.length + k ≤ 12 ∧ DRs w wr g ao cap bs v l) (fun _ _ nv _ _ => (intOf nv).toNat)
  case atStart => exact ⟨[], n1, t0, rfl, rfl, by simp; omega, h2⟩
  case round =>
    clear h2 hv0
    obtain ⟨l, k, t, rfl, rfl, hlk, hd⟩ := hrel
    obtain ⟨ad, c, rfl⟩ := hd.form
    by_cases hk0 : 0 < k
    · have hk1 : (0 : Int) < (k : Int) := by omega
      go_wp2_with fail
      refine (once_any g ao cap bs 5 _ hd.cur (by omega)).mono ?_
      rintro e w2 ⟨t2, rfl, hc2, hk2⟩
      have hd2 := hd.call hc2 hk2
      clear hc2 hk2 hd
      cases t2 with
      | true =>
        have hdA := hd2.alloc (.cells #[.int .i64 0, .int .i64 t, .bool false] 46)
        have HPB := hidden (PB.new w2 #[.int .i64 0, .int .i64 t, .bool false] 46)
        go_upto_region 7 with fail
        generalize w2.alloc (.cells #[.int .i64 0, .int .i64 t, .bool false] 46) = wB at *
        obtain ⟨x0, x1, x2⟩ := HPB.out.three
        go_wp2_with (at_builtin; refine wpList_append_own _ rfl (.tmp 27) (.tmp 29) 41 rfl w.heap.size 46 i0 (.agg #[.int .i64 0, .int .i64 0, .bool false]) 3 24 Try.underlying41 hi0 hy0 hy1 hy2 rfl (by decide) _ l.length (vcellsL 3 cvRs l) rfl (hdA.alloc _).own ⟨wB.heap.size, 0, none⟩ 1 1 [.int .i64 0, .int .i64 t, .bool false] rfl rfl (cell_three25 _ _ _ _ _) (by simp [Value.oneCell']) (by unfold maxLen; omega) (by omega) (by have := hdA.keep.size; simp; omega) ?_; intro v6 w6 ho6 hg6 hnn6; have hd6 := (hdA.alloc _).app (y := ⟨0, t, false⟩) ho6 hg6; clear ho6 hg6 hnn6)
        clear x0 x1 x2 HPB hdA hd2
        obtain ⟨ad6, c6, rfl⟩ := hd6.form
        have hdT := hd6.alloc (.cells #[.int .i64 0, .int .i64 1, .int .i64 20, .int .i64 59, .int .i64 60, .int .i64 61, .int .i64 100] 2)
        have hgr := hd6.cur.1
        go_wp2_with fail
        refine (below_any g ao cap bs 7 _ hdT.cur (by omega)).mono ?_
        rintro e w7 ⟨a1, rfl, a10, a11, hc7, hk7⟩
        obtain ⟨j, rfl⟩ := Int.eq_ofNat_of_zero_le a10
        obtain ⟨z, hz⟩ := tab_at [0, 1, 20, 59, 60, 61, 100] w6 w7 g 2 hk7 hgr j (by simp; omega)
        have hd7 := hdT.call hc7 hk7
        clear hc7 hk7 hdT
        simp only [List.length_append, List.length_singleton] at hd7
        go_wp2_with fail
        go_roundw
        case rel => exact ⟨l ++ [⟨0, t, false⟩], k - 1, _, by congr 1; omega, rfl, by rw [List.length_append, List.length_singleton]; omega, hd7⟩
        case measure => simp [intOf]; omega
      | false =>
        have hdB := hd2.alloc (.cells #[.int .i64 0, .int .i64 t, .bool true] 46)
        have HPB := hidden (PB.new w2 #[.int .i64 0, .int .i64 t, .bool true] 46)
        have hl2 := hd2.lt
        have hs2 := hd2.keep.size
        generalize hwB : w2.alloc (.cells #[.int .i64 0, .int .i64 t, .bool true] 46) = wB at *
        obtain ⟨x0, x1, x2⟩ := HPB.out.three
        go_wp2_with fail
        refine (from_any g ao cap bs 0 30 _ hdB.cur (by omega) (by omega) (by omega)).mono ?_
        rintro e w3 ⟨y3, rfl, y30, y31, hc3, hk3⟩
        have hd3 := hdB.call hc3 hk3
        have hP3 : PB w3 w2.heap.size #[.int .i64 0, .int .i64 t, .bool true] 46 := (hk3.block _ HPB.out.lt (by have := hd2.cur.1; omega)).trans HPB.out
        have hdA := hd3.far (B := w2.heap.size) hs2 (fun e => by have := (hl2 _ e).2; omega) 0 (.int .i64 y3)
        have hP4 := hP3.put 0 (.int .i64 y3) (vs' := #[.int .i64 y3, .int .i64 t, .bool true]) rfl
        clear x0 x1 x2 hwB
        obtain ⟨x0, x1, x2⟩ := hP3.three
        have f0 := hP3.frozen 0
        obtain ⟨z0, z1, z2⟩ := hP4.three
        clear hc3 hk3 HPB hP3 hd3 hdB
        generalize hwC : w3.setCell ⟨w2.heap.size, 0, none⟩ (.int .i64 y3) = wC at *
        go_wp2_with (at_builtin; refine wpList_append_own _ rfl (.tmp 27) (.tmp 29) 41 rfl w.heap.size 46 i0 (.agg #[.int .i64 0, .int .i64 0, .bool false]) 3 24 Try.underlying41 hi0 hy0 hy1 hy2 rfl (by decide) _ l.length (vcellsL 3 cvRs l) rfl (hdA.alloc _).own ⟨wC.heap.size, 0, none⟩ 1 1 [.int .i64 y3, .int .i64 t, .bool true] rfl rfl (cell_three25 _ _ _ _ _) (by simp [Value.oneCell']) (by unfold maxLen; omega) (by omega) (by have := hdA.keep.size; simp; omega) ?_; intro v6 w6 ho6 hg6 hnn6; have hd6 := (hdA.alloc _).app (y := ⟨y3, t, true⟩) ho6 hg6; clear ho6 hg6 hnn6)
        clear hwC x0 x1 x2 z0 z1 z2 f0 hP4 hdA hd2
        obtain ⟨ad6, c6, rfl⟩ := hd6.form
        have hdT := hd6.alloc (.cells #[.int .i64 0, .int .i64 1, .int .i64 20, .int .i64 59, .int .i64 60, .int .i64 61, .int .i64 100] 2)
        have hgr := hd6.cur.1
        go_wp2_with fail
        refine (below_any g ao cap bs 7 _ hdT.cur (by omega)).mono ?_
        rintro e w7 ⟨a1, rfl, a10, a11, hc7, hk7⟩
        obtain ⟨j, rfl⟩ := Int.eq_ofNat_of_zero_le a10
        obtain ⟨z, hz⟩ := tab_at [0, 1, 20, 59, 60, 61, 100] w6 w7 g 2 hk7 hgr j (by simp; omega)
        have hd7 := hdT.call hc7 hk7
        clear hc7 hk7 hdT
        simp only [List.length_append, List.length_singleton] at hd7
        go_wp2_with fail
        go_roundw
        case rel => exact ⟨l ++ [⟨y3, t, true⟩], k - 1, _, by congr 1; omega, rfl, by rw [List.length_append, List.length_singleton]; omega, hd7⟩
        case measure => simp [intOf]; omega
    · have hk1 : ¬ (0 : Int) < (k : Int) := by omega
      have hl7 : l.length ≤ 12 := by omega
      clear hlk p1 q1
      go_upto_region 11 with fail
      go_cut [44] (fun tv wx => ∃ t : Bool, tv = .bool t ∧ (t = true → 0 < l.length) ∧ DRs w wx g ao cap bs (.slice ad l.length c) l)
      case first =>
        by_cases hl0 : (0 : Int) < (l.length : Int)
        · go_wp2_with fail
          refine (once_any g ao cap bs 30 _ hd.cur (by omega)).mono ?_
          rintro e w8 ⟨t8, rfl, hc8, hk8⟩
          have hd8 := hd.call hc8 hk8
          clear hc8 hk8 hd
          rcases t8 with _ | _
          · go_wp2_with fail
            go_meet
            case rel => exact ⟨_, rfl, (fun _ => (by omega)), hd8⟩
          · go_wp2_with fail
            go_meet
            case rel => exact ⟨_, rfl, (fun _ => (by omega)), hd8⟩
        · go_wp2_with fail
          refine (once_any g ao cap bs 30 _ hd.cur (by omega)).mono ?_
          rintro e w8 ⟨t8, rfl, hc8, hk8⟩
          have hd8 := hd.call hc8 hk8
          clear hc8 hk8 hd
          rcases t8 with _ | _
          · go_wp2_with fail
            go_meet
            case rel => exact ⟨_, rfl, (fun h => by first | (cases h; done) | simpa using h), hd8⟩
          · go_wp2_with fail
            go_meet
            case rel => exact ⟨_, rfl, (fun h => by first | (cases h; done) | simpa using h), hd8⟩
      case rest =>
        clear hd
        obtain ⟨t4, rfl, ht4, hd4⟩ := hcut
        go_upto_if 44 with fail
        go_cut [] (fun wx => ∃ l' : List Rs, Hid (l'.length = l.length) ∧ DRs w wx g ao cap bs (.slice ad l.length c) l')
        case first =>
          cases t4 with
          | false =>
            clear ht4
            go_wp2_with fail
            go_meet
            case rel => exact ⟨l, rfl, hd4⟩
          | true =>
            have hl0 : (0 : Int) < (l.length : Int) := by have := ht4 rfl; omega
            clear ht4
            · go_upto_region 14 with (go_at_call 35; first | (with_reducible refine (below_any g ao cap bs (l.length : Int) _ hd4.cur (by omega)).mono ?_; rintro e w45 ⟨q, rfl, q0, q1, hc45, hk45⟩; have hd45 := hd4.call hc45 hk45; clear hc45 hk45) | (with_reducible refine (below_any g ao cap bs 3 _ hd45.cur (by omega)).mono ?_; rintro e w5 ⟨y5, rfl, y50, y51, hc5, hk5⟩))
              have hd5 := hd45.call hc5 hk5
              clear hc5 hk5 hd45 hd4
              obtain ⟨q, rfl⟩ := Int.eq_ofNat_of_zero_le q0
              obtain ⟨x, hx⟩ := some_of l q (by omega)
              have hqi : (q : Int) < (l.length : Int) := by omega
              obtain ⟨G, hG2, -, -⟩ : ∃ G, ad = some ⟨G, 0, none⟩ ∧ True ∧ True := by
                rcases hd5.own.2 with ⟨e1, e2⟩ | ⟨G, cc, cur, e1, -⟩
                · omega
                · simp only [Value.slice.injEq] at e1
                  exact ⟨G, e1.1, trivial, trivial⟩
              subst hG2
              rcases (show y5 = 0 ∨ y5 = 1 ∨ y5 = 2 by omega) with rfl | rfl | rfl
              · skip
                have hdT := hd5.alloc (.cells #[.int .i64 100000, .int .i64 100001, .int .i64 (-100001)] 2)
                have hgr := hd5.cur.1
                go_wp2_with fail
                refine (below_any g ao cap bs 3 _ hdT.cur (by omega)).mono ?_
                rintro e w6 ⟨y6, rfl, y60, y61, hc6, hk6⟩
                obtain ⟨j, rfl⟩ := Int.eq_ofNat_of_zero_le y60
                obtain ⟨z, hz⟩ := tab_at [100000, 100001, -100001] w5 w6 g 2 hk6 hgr j (by simp; omega)
                have hd6 := hdT.call hc6 hk6
                clear hc6 hk6 hd5 hdT
                have ca := ownU_at hd6.own (k := q * 3 + 0) (vcellsL_get (s := 3) (cs := cvRs) l q x hx 0 (by omega))
                have F := hd6.put (f := 0) (x' := ⟨z, x.t, x.k⟩) hx (by omega) (fun k hk hne => by match k, hk with | 0, _ => exact absurd rfl hne | 1, _ => rfl | 2, _ => rfl)
                try simp only [Nat.add_zero] at ca F
                obtain ⟨ca1, ca2⟩ := ca
                have HF := hidden F
                clear F
                go_wp2_with fail
                go_meet
                case rel => exact ⟨l.set q ⟨z, x.t, x.k⟩, by rw [Hid, List.length_set], HF.out⟩
              · skip
                have hdT := hd5.alloc (.cells #[.int .i64 (-1), .int .i64 0, .int .i64 10000000, .int .i64 10000001] 2)
                have hgr := hd5.cur.1
                go_wp2_with fail
                refine (below_any g ao cap bs 4 _ hdT.cur (by omega)).mono ?_
                rintro e w6 ⟨y6, rfl, y60, y61, hc6, hk6⟩
                obtain ⟨j, rfl⟩ := Int.eq_ofNat_of_zero_le y60
                obtain ⟨z, hz⟩ := tab_at [-1, 0, 10000000, 10000001] w5 w6 g 2 hk6 hgr j (by simp; omega)
                have hd6 := hdT.call hc6 hk6
                clear hc6 hk6 hd5 hdT
                have ca := ownU_at hd6.own (k := q * 3 + 1) (vcellsL_get (s := 3) (cs := cvRs) l q x hx 1 (by omega))
                have F := hd6.put (f := 1) (x' := ⟨x.v, z, x.k⟩) hx (by omega) (fun k hk hne => by match k, hk with | 0, _ => rfl | 1, _ => exact absurd rfl hne | 2, _ => rfl)
                try simp only [Nat.add_zero] at ca F
                obtain ⟨ca1, ca2⟩ := ca
                have HF := hidden F
                clear F
                go_wp2_with fail
                go_meet
                case rel => exact ⟨l.set q ⟨x.v, z, x.k⟩, by rw [Hid, List.length_set], HF.out⟩
              · have ca := ownU_at hd5.own (k := q * 3 + 2) (vcellsL_get (s := 3) (cs := cvRs) l q x hx 2 (by omega))
                have F := hd5.put (f := 2) (x' := ⟨x.v, x.t, !x.k⟩) hx (by omega) (fun k hk hne => by match k, hk with | 0, _ => rfl | 1, _ => rfl | 2, _ => exact absurd rfl hne)
                obtain ⟨ca1, ca2⟩ := ca
                have ca3 : w5.cell? ⟨G, q * 3 + 2, none⟩ = some (.bool x.k) := ca1
                clear ca1
                have HF := hidden F
                clear F
                go_wp2_with fail
                go_meet
                case rel => exact ⟨l.set q ⟨x.v, x.t, !x.k⟩, by rw [Hid, List.length_set], HF.out⟩
        case rest =>
          clear hd4
          obtain ⟨l2, HL2, hd5⟩ := hcut
          have hl2 : l2.length ≤ 12 := by rw [HL2.out]; exact hl7
          rw [← HL2.out] at hd5 ⊢
          clear hl7
          obtain ⟨ad2, c2, hsl⟩ := hd5.form
          obtain ⟨rfl, rfl⟩ : ad = ad2 ∧ c = c2 := by simpa using hsl
          clear hsl
          go_upto_if 86 with (go_at_call 36; refine (once_any g ao cap bs 60 _ hd5.cur (by omega)).mono ?_; rintro e w6 ⟨t6, rfl, hc6, hk6⟩)
          have hd6 := hd5.call hc6 hk6
          clear hc6 hk6 hd5
          cases t6 with
          | false =>
            go_wp2_with fail
            go_ret
            exact ⟨_, l2, rfl, by omega, hd6⟩
          | true =>
            go_wp2_with fail
            refine (below_any g ao cap bs 2 _ hd6.cur (by omega)).mono ?_
            rintro e w7 ⟨y7, rfl, y70, y71, hc7, hk7⟩
            obtain ⟨j, rfl⟩ := Int.eq_ofNat_of_zero_le y70
            have hd7 := hd6.call hc7 hk7
            have hs7 := hd7.keep.size
            clear hc7 hk7 hd6
            go_wp2_with (refine wpList_make_full _ rfl (.tmp 89) (.tmp 89) 41 rfl w.heap.size 46 i0 (.agg #[.int .i64 0, .int .i64 0, .bool false]) 3 Try.underlying41 hi0 hy0 hy1 .i64 .i64 _ _ (2000 + j) rfl rfl (by omega) (by omega) (by rw [hy2]; omega) (by unfold maxLen; omega) (by omega) ?_; intro w8 ho8 hg8; rw [made_res] at ho8; have hd8 := hd7.made (l' := List.replicate (2000 + j) ⟨0, 0, false⟩) (by rw [List.length_replicate]; exact ho8) hg8; clear ho8 hg8)
            go_ret
            exact ⟨_, List.replicate (2000 + j) ⟨0, 0, false⟩, rfl, by rw [List.length_replicate]; omega, hd8⟩
end Go.Proofs.Ytecljmpojninfaa
