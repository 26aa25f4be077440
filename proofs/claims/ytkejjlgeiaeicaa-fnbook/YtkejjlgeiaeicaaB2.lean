/-
  A start and lines that are drawn of a cursor.
-/
import Derived.Test.YtkejjlgeiaeicaaB1
namespace Go.Proofs.Ytkejjlgeiaeicaa
open Go.RowKit Va Ua
set_option linter.all false

theorem ownB_one (w : World) (z : Int) : (w.alloc (.cells #[.int .i64 z] 2)).ownsRow w.heap.size 2 1 (.slice (some ⟨w.heap.size, 0, none⟩) 1 1) 1 [.int .i64 z] :=
  ⟨rfl, .inr ⟨w.heap.size, 1, #[.int .i64 z], rfl, Nat.le_refl _, heap_alloc_new w _, Nat.le_refl _, by unfold maxLen; omega, rfl, rfl⟩⟩
theorem ownB_cell {w : World} {b n G c : Nat} {L : List Int} (h : w.ownsRow b 2 1 (.slice (some ⟨G, 0, none⟩) n c) n (L.map fun z => Value.int .i64 z)) {i : Nat} {z : Int} (hi : L[i]? = some z) : w.cell? ⟨G, i, none⟩ = some (.int .i64 z) := by
  obtain ⟨h1, ⟨h2, _⟩ | ⟨g, cap, cur, h2, hb, hg, hc, hm, hs, ht⟩⟩ := h
  · cases h2
  · simp only [Value.slice.injEq, Option.some.injEq, Addr.mk.injEq, and_true, true_and] at h2
    obtain ⟨rfl, rfl⟩ := h2
    have hk : (L.map fun z => Value.int .i64 z)[i]? = some (.int .i64 z) := by rw [List.getElem?_map, hi]; rfl
    rw [← ht, List.getElem?_take] at hk
    split at hk
    · rw [Array.getElem?_toList] at hk
      simp only [World.cell?, hg]
      exact hk
    · cases hk

theorem ownB_nn {w : World} {b e s n : Nat} {v : Value} {xs : List Value} (h : w.ownsRow b e s v n xs) (hn : v ≠ .slice none 0 0) : ∃ G c, v = .slice (some ⟨G, 0, none⟩) n c := by
  obtain ⟨_, ⟨h1, _⟩ | ⟨g, cap, cur, h1, _⟩⟩ := h
  · exact absurd h1 hn
  · exact ⟨g, cap, h1⟩
theorem map_at {L : List Int} {j : Nat} {u : Value} (h : (L.map fun z => Value.int .i64 z)[j]? = some u) : ∃ z, L[j]? = some z ∧ u = .int .i64 z := by
  rw [List.getElem?_map] at h
  cases hz : L[j]? with
  | none => rw [hz] at h; cases h
  | some z => rw [hz] at h; exact ⟨z, rfl, by simpa using h.symm⟩
theorem ints_one (L : List Int) : ∀ u ∈ (L.map fun z => Value.int .i64 z), u.oneCell' = true := fun u hu => by
  obtain ⟨z, _, rfl⟩ := List.mem_map.1 hu
  rfl

set_option maxRecDepth 20000 in
set_option maxHeartbeats 16000000 in
theorem dbook_any (ao : Option Addr) (cap : Nat) (bs : List Int) (w : World) (hb : Bytes w w.heap.size ao bs) (hl : bs.length ≤ 1048576) :
    Calls Try.prog 7 #[.slice ao bs.length cap] w fun e w' => ∃ (n : Int) (ad : Option Addr) (c : Nat) (l : List Ln), e = .returned (.tuple #[.int .i64 n, .slice ad l.length c]) ∧ l.length ≤ 12 ∧ Rw 4 csLn w' (.slice ad l.length c) l ∧ Below w.heap.size w w' := by
  obtain ⟨i0, hi0, hv0, hv1, hv2⟩ := info_partsW infoLnB
  obtain ⟨j0, hj0, hu0, hu1, hu2⟩ := info_partsW infoW64
  have hN := new_any ao cap bs w hb hl
  go_enter Try.func7, Try.ntmps7
  go_wp2_with (go_at_call 21; refine hN.mono ?_; rintro e w1 ⟨rfl, hcu, hbw⟩)
  have HBw := hidden hbw
  have hgw : w.heap.size < w1.heap.size := hcu.1
  clear hN hb hbw
  generalize hg : w.heap.size = g at *
  refine (below_any g ao cap bs 50 _ hcu (by omega)).mono ?_
  rintro e w2 ⟨x2, rfl, x20, x21, hc2, hk2⟩
  go_wp2_with fail
  refine (once_any g ao cap bs 14 _ hc2 (by omega)).mono ?_
  rintro e w3 ⟨t3, rfl, hc3, hk3⟩
  have hk13 := hk2.trans hk3
  clear hk2 hk3 hc2 hcu
  go_upto_if 17 with fail
  go_cut [5] (fun nv wx => ∃ n : Int, nv = .int .i64 n ∧ Cur wx g ao cap bs ∧ Keep g w1 wx)
  case first =>
    rcases t3 with _ | _
    · go_wp2_with fail
      go_meet
      case rel => exact ⟨x2, rfl, hc3, hk13⟩
    · have hT := Tb.new (g := g) (w := w3) [-1, 1000000000, 1000000001, 999999997] hc3.1
      have hcT := hc3.alloc (.cells ([-1, 1000000000, 1000000001, 999999997].map (fun z : Int => Value.int .i64 z)).toArray 2)
      have hkT := hk13.alloc (.cells ([-1, 1000000000, 1000000001, 999999997].map (fun z : Int => Value.int .i64 z)).toArray 2)
      go_wp2_with fail
      refine (below_any g ao cap bs 4 _ hcT (by omega)).mono ?_
      rintro e w4 ⟨x4, rfl, x40, x41, hc4, hk4⟩
      obtain ⟨n4, rfl⟩ := Int.eq_ofNat_of_zero_le x40
      have hn4 : n4 < 4 := by omega
      have hT4 := (hT.keep hk4).at (k := n4) (by simpa using hn4)
      generalize hz4 : ([-1, 1000000000, 1000000001, 999999997] : List Int)[n4]'(by simpa using hn4) = z4 at hT4
      have hk14 := hkT.trans hk4
      clear hT hcT hkT hk4 hk13 hc3 hz4
      go_wp2_with fail
      go_meet
      case rel => exact ⟨z4, rfl, hc4, hk14⟩
  case rest =>
    obtain ⟨n, rfl, hcN, hkN⟩ := hcut
    clear hk13 hc3 x20 x21
    have hBN : Below g w wc := HBw.out.trans (hkN.below (Nat.le_refl _) (by omega))
    have hgN : g < wc.heap.size := hcN.1
    obtain ⟨wN, hwN⟩ : ∃ wN, wN = wc := ⟨_, rfl⟩
    rw [← hwN] at hcN hkN hBN hgN ⊢
    clear hwN hkN
    have hd0 := DN.start hcN
    clear hcN
    go_upto_region 6 with fail
    generalize wN.alloc (.cells #[] 30) = wA at *
    generalize Value.slice (some ⟨wN.heap.size, 0, none⟩) 0 0 = v0 at *
    go_wp2_with fail
    refine (below_any g ao cap bs 12 _ hd0.cur (by omega)).mono ?_
    rintro e w5 ⟨x5, rfl, x50, x51, hc5, hk5⟩
    have hd5 := hd0.call hc5 hk5
    clear hd0 hc5 hk5
    obtain ⟨n5, rfl⟩ := Int.eq_ofNat_of_zero_le x50
    go_wp2_with fail
    go_loopw [6, 7, 8, 9, 10, 11] (fun sv zv kv _ _ _ wr => ∃ (k : Nat) (l : List Ln), k + l.length ≤ 12 ∧ kv = .int .i64 k ∧ (∃ z : Int, zv = .int .i64 z) ∧ DN wN wr g ao cap bs sv l) (fun _ _ kv _ _ _ _ => (intOf kv).toNat)
    case atStart => exact ⟨n5, [], by simp; omega, rfl, ⟨_, rfl⟩, hd5⟩
    case round =>
      clear hd5
      obtain ⟨k, l, hkl, rfl, ⟨z0, rfl⟩, hd⟩ := hrel
      obtain ⟨ad, c, rfl⟩ := hd.form
      by_cases hk0 : 0 < k
      · have hki : (0 : Int) < (k : Int) := by omega
        go_wp2_with fail
        refine (below_any g ao cap bs 4 _ hd.cur (by omega)).mono ?_
        rintro e wa ⟨xa, rfl, xa0, xa1, hca, hka⟩
        have hda := hd.call hca hka
        clear hd hca hka
        go_wp2_with fail
        refine (below_any g ao cap bs 20 _ hda.cur (by omega)).mono ?_
        rintro e wb ⟨xb, rfl, xb0, xb1, hcb, hkb⟩
        have hdb := hda.call hcb hkb
        clear hda hcb hkb
        go_wp2_with fail
        refine (below_any g ao cap bs 3 _ hdb.cur (by omega)).mono ?_
        rintro e wd ⟨xd, rfl, xd0, xd1, hcd, hkd⟩
        have hdd := hdb.call hcd hkd
        clear hdb hcd hkd
        go_wp2_with fail
        refine (below_any g ao cap bs 3 _ hdd.cur (by omega)).mono ?_
        rintro e we ⟨xe, rfl, xe0, xe1, hce, hke⟩
        have hde := hdd.call hce hke
        clear hdd hce hke
        go_upto_region 11 with fail
        have hV := PB.new we #[.int .i64 (1 + xa), .int .i64 (1 + xb), .int .i64 xd, .int .i64 (3 + xe)] 30
        have hVb : wN.heap.size ≤ we.heap.size := hde.keep.size
        have hVr : ∀ k, (Value.slice ad l.length c).ownBlock = some k → k ≠ we.heap.size := fun k hk => by have := (hde.lt k hk).2; omega
        have hd := hde.alloc (.cells #[.int .i64 (1 + xa), .int .i64 (1 + xb), .int .i64 xd, .int .i64 (3 + xe)] 30)
        obtain ⟨x, hx⟩ : ∃ x : Ln, x = ⟨1 + xa, 1 + xb, xd, 3 + xe⟩ := ⟨_, rfl⟩
        have hV : PB (we.alloc (.cells #[.int .i64 (1 + xa), .int .i64 (1 + xb), .int .i64 xd, .int .i64 (3 + xe)] 30)) we.heap.size #[.int .i64 x.k, .int .i64 x.n, .int .i64 x.b, .int .i64 x.a] 30 := by rw [hx]; exact hV
        have hgV : g < we.heap.size := hde.cur.1
        clear hde hx
        generalize we.alloc (.cells #[.int .i64 (1 + xa), .int .i64 (1 + xb), .int .i64 xd, .int .i64 (3 + xe)] 30) = w9 at *
        generalize we.heap.size = V at *
        have hVg : V ≠ g := by omega
        clear xa0 xa1 xb0 xb1 xd0 xd1 xe0 xe1 hgV
        obtain ⟨e0, e1, e2, e3⟩ := hV.four
        go_cut [50] (fun tv wx => ∃ t : Bool, tv = .bool t ∧ DN wN wx g ao cap bs (.slice ad l.length c) l ∧ PB wx V #[.int .i64 x.k, .int .i64 x.n, .int .i64 x.b, .int .i64 x.a] 30)
        case first =>
          by_cases hx4 : x.k = 4
          · have hq : (x.k == 4) = true := by simpa using hx4
            have e0' : w9.cell? ⟨V, 0, none⟩ = some (.int .i64 4) := by rw [e0, hx4]
            clear e0 hq
            have HV := hidden hV
            have HD := hidden hd
            clear hV hd hx4
            go_wp2_with (go_at_call 23; refine (once_any g ao cap bs 3 _ HD.out.cur (by omega)).mono ?_; rintro e wf ⟨tf, rfl, hcf, hkf⟩)
            go_meet
            case rel => exact ⟨_, rfl, HD.out.call hcf hkf, HV.out.keep hkf hVg⟩
          · have hq : (x.k == 4) = false := by simpa using hx4
            go_wp2_with fail
            go_meet
            case rel => exact ⟨false, rfl, hd, hV⟩
        case rest =>
          clear e0 e1 e2 e3 hd hV
          obtain ⟨tb, rfl, hd, hV⟩ := hcut
          obtain ⟨wP, hwP⟩ : ∃ wP, wP = wc := ⟨_, rfl⟩
          rw [← hwP] at hd hV ⊢
          clear hwP
          go_upto_if 50 with fail
          go_cut [7, 10, 11] (fun zv _ _ wx => (∃ z : Int, zv = .int .i64 z) ∧ ∃ n' : Int, DN wN wx g ao cap bs (.slice ad l.length c) l ∧ PB wx V #[.int .i64 x.k, .int .i64 n', .int .i64 x.b, .int .i64 x.a] 30)
          case first =>
            rcases tb with _ | _
            · go_wp2_with fail
              go_meet
              case rel => exact ⟨⟨_, rfl⟩, x.n, hd, hV⟩
            · have hdL := hd.alloc (.cells #[.int .i64 n] 2)
              have hVL := hV.alloc (.cells #[.int .i64 n] 2)
              have hO1 := ownB_one wP n
              have hVl := hV.lt
              have hrl := hd.lt
              have hBk := sbookS_any n ad l.length c l _ hdL.row (by omega)
              have hbl := book_len n l
              have hszP := hd.keep.size
              clear hd hV
              generalize book n l = L at *
              have HD := hidden hdL
              have HV := hidden hVL
              have HO := hidden hO1
              clear hdL hVL hO1
              have hpl : wP.heap.size < (wP.alloc (.cells #[.int .i64 n] 2)).heap.size := by simp
              go_wp2_with (first | (go_at_call 9; refine hBk.mono ?_; rintro e wq ⟨G, cG, rfl, hoG, hbG⟩; have HD2 := hidden (HD.out.below hbG); have HV2 := hidden (HV.out.below hbG); have HO2 := hidden (ownW_below HO.out hbG); have hsq := hbG.size) | (at_builtin; refine wpList_append_own_at _ rfl (.tmp 52) (.tmp 55) 27 rfl wP.heap.size 2 j0 (.int .i64 0) 1 8 Try.underlying27 hj0 hu0 hu1 hu2 rfl (by decide) _ 1 [.int .i64 n] rfl HO2.out ⟨G, 0, none⟩ L.length cG (L.map fun z => Value.int .i64 z) rfl (by simp) (fun j u hu => by obtain ⟨z, hz, rfl⟩ := map_at hu; rw [Addr.add_lit, Nat.zero_add]; exact ownB_cell hoG hz) (ints_one L) (by unfold maxLen; omega) (by omega) (by omega) ?_; intro vA wr2 hoA hgA hnA hloA; obtain ⟨G2, c2, rfl⟩ := ownB_nn hoA (fun e => by cases (hnA.1 e).1)))
              have hdA := HD2.out.grown hgA (fun k hk => by
                have hk2 : wP.heap.size = k := Option.some.inj hk
                subst hk2
                exact ⟨hszP, fun e => by have := (hrl _ e).2; omega⟩)
              have hVA : PB wr2 V #[.int .i64 x.k, .int .i64 x.n, .int .i64 x.b, .int .i64 x.a] 30 := (hgA.block V (by omega) (fun e => by have e2 : some V = some wP.heap.size := e; have := Option.some.inj e2; omega)).trans HV2.out
              have HRA : Hid (wr2.ownsRow wP.heap.size 2 1 (.slice (some ⟨G2, 0, none⟩) (1 + L.length) c2) (1 + L.length) ((n :: L).map fun z => Value.int .i64 z)) := hoA
              clear hoA hgA hnA hloA HD2 HV2 HO2 HD HV HO hoG hbG hsq hBk hrl
              go_loopw [7, 11] (fun zv iv wr => wr = wr2 ∧ ∃ (i : Nat) (z : Int), i ≤ 1 + L.length ∧ iv = .int .i64 i ∧ zv = .int .i64 z) (fun _ iv _ => 1 + L.length - (intOf iv).toNat)
              case atStart => exact ⟨rfl, 0, _, Nat.zero_le _, rfl, rfl⟩
              case round =>
                obtain ⟨hwr, i, z, hi, rfl, rfl⟩ := hrel
                have hwr2 := hwr.symm
                clear hwr
                subst hwr2
                by_cases hlt : i < 1 + L.length
                · have hlti : (i : Int) < ((1 + L.length : Nat) : Int) := by omega
                  have hlti2 : (i : Int) < 1 + (L.length : Int) := by omega
                  obtain ⟨y, hy⟩ : ∃ y, (n :: L)[i]? = some y := ⟨_, List.getElem?_eq_getElem (by simp; omega)⟩
                  have c0 := ownB_cell HRA.out hy
                  clear hy
                  by_cases hy0 : 0 ≤ y
                  · go_wp2_with fail
                    go_roundw
                    case rel => exact ⟨by first | rfl | trivial, i + 1, y, by omega, rfl, rfl⟩
                    case measure => simp [intOf]; omega
                  · go_wp2_with fail
                    go_roundw
                    case rel => exact ⟨by first | rfl | trivial, i + 1, z, by omega, rfl, rfl⟩
                    case measure => simp [intOf]; omega
                · have hlti : ¬ (i : Int) < ((1 + L.length : Nat) : Int) := by omega
                  have hlti2 : ¬ (i : Int) < 1 + (L.length : Int) := by omega
                  have hdE := hdA.far hVb hVr 1 (.int .i64 z)
                  have hVE := hVA.put 1 (.int .i64 z) (vs' := #[.int .i64 x.k, .int .i64 z, .int .i64 x.b, .int .i64 x.a]) (by simp)
                  obtain ⟨e0, e1, e2, e3⟩ := hVA.four
                  obtain ⟨f0, f1, f2, f3, -⟩ := hVA.cold
                  clear hdA hVA
                  go_wp2_with fail
                  go_meet
                  case rel => exact ⟨⟨_, rfl⟩, z, hdE, hVE⟩
          case rest =>
            clear hd hV
            obtain ⟨⟨z1, rfl⟩, n', hd, hV⟩ := hcut
            obtain ⟨wQ, hwQ⟩ : ∃ wQ, wQ = wc := ⟨_, rfl⟩
            rw [← hwQ] at hd hV ⊢
            clear hwQ
            obtain ⟨x9, hx9⟩ : ∃ x9 : Ln, x9 = ⟨x.k, n', x.b, x.a⟩ := ⟨_, rfl⟩
            have hV : PB wQ V #[.int .i64 x9.k, .int .i64 x9.n, .int .i64 x9.b, .int .i64 x9.a] 30 := by rw [hx9]; exact hV
            clear hx9
            obtain ⟨x, hx⟩ : ∃ x : Ln, x = x9 := ⟨_, rfl⟩
            rw [← hx] at hV
            clear hx
            go_wp2_with fail
            refine (once_any g ao cap bs 14 _ hd.cur (by omega)).mono ?_
            rintro e w6 ⟨t6, rfl, hc6, hk6⟩
            have hV6 := hV.keep hk6 hVg
            have hd6 := hd.call hc6 hk6
            clear hd hV hc6 hk6
            rcases t6 with _ | _
            · have hd := hd6
              have hV := hV6
              clear hd6 hV6
              obtain ⟨wz, hwz⟩ : ∃ wz, wz = w6 := ⟨_, rfl⟩
              rw [← hwz] at hd hV ⊢
              clear hwz
              have HX := hidden (hd.alloc (.cells #[.int .i64 x.k, .int .i64 x.n, .int .i64 x.b, .int .i64 x.a] 30))
              have hszA := hd.keep.size
              obtain ⟨e0, e1, e2, e3⟩ := hV.four
              clear hd hV
              go_wp2_with (at_builtin; refine wpList_append_own _ rfl (.tmp 101) (.tmp 103) 24 rfl wN.heap.size 30 i0 (.agg #[.int .i64 0, .int .i64 0, .int .i64 0, .int .i64 0]) 4 32 Try.underlying24 hi0 hv0 hv1 hv2 rfl (by decide) _ l.length (cellsL 4 csLn l) rfl HX.out.own ⟨wz.heap.size, 0, none⟩ 1 1 [.int .i64 x.k, .int .i64 x.n, .int .i64 x.b, .int .i64 x.a] rfl rfl (cellB_one _ _ _ _ _ _) (by simp [Value.oneCell']) (by unfold maxLen; omega) (by omega) (by simp; omega) ?_; intro vA wA2 hoA hgA hnA)
              have hdA := HX.out.app (y := x) hoA hgA
              go_roundw
              case rel => exact ⟨k - 1, l ++ [x], by simp; omega, by congr 1; omega, ⟨_, rfl⟩, hdA⟩
              case measure => simp [intOf]; omega

            · go_wp2_with fail
              refine (below_any g ao cap bs 3 _ hd6.cur (by omega)).mono ?_
              rintro e w7 ⟨x7, rfl, x70, x71, hc7, hk7⟩
              have hd7 := hd6.call hc7 hk7
              have hV7 := hV6.keep hk7 hVg
              clear hd6 hV6 hc7 hk7
              rcases (show x7 = 0 ∨ x7 = 1 ∨ x7 = 2 by omega) with rfl | rfl | rfl
              · go_wp2_with fail
                refine (from_any g ao cap bs 0 5 _ hd7.cur (by omega) (by omega) (by omega)).mono ?_
                rintro e w8 ⟨x8, rfl, -, -, hc8, hk8⟩
                have hd8 := hd7.call hc8 hk8
                have hV8 := hV7.keep hk8 hVg
                clear hd7 hV7 hc8 hk8
                have hd := hd8.far hVb hVr 0 (.int .i64 x8)
                have hV := hV8.put 0 (.int .i64 x8) (vs' := #[.int .i64 (⟨x8, x.n, x.b, x.a⟩ : Ln).k, .int .i64 (⟨x8, x.n, x.b, x.a⟩ : Ln).n, .int .i64 (⟨x8, x.n, x.b, x.a⟩ : Ln).b, .int .i64 (⟨x8, x.n, x.b, x.a⟩ : Ln).a]) (by simp)
                obtain ⟨e0, e1, e2, e3⟩ := hV8.four
                obtain ⟨f0, f1, f2, f3, -⟩ := hV8.cold
                clear hd8 hV8
                go_upto_region 27 with fail
                clear e0 e1 e2 e3 f0 f1 f2 f3
                generalize w8.setCell ⟨V, 0, none⟩ (.int .i64 x8) = wz at *
                obtain ⟨y, hy⟩ : ∃ y : Ln, y = ⟨x8, x.n, x.b, x.a⟩ := ⟨_, rfl⟩
                have hV : PB wz V #[.int .i64 y.k, .int .i64 y.n, .int .i64 y.b, .int .i64 y.a] 30 := by rw [hy]; exact hV
                clear hy
                have HX := hidden (hd.alloc (.cells #[.int .i64 y.k, .int .i64 y.n, .int .i64 y.b, .int .i64 y.a] 30))
                have hszA := hd.keep.size
                obtain ⟨e0, e1, e2, e3⟩ := hV.four
                clear hd hV
                go_wp2_with (at_builtin; refine wpList_append_own _ rfl (.tmp 101) (.tmp 103) 24 rfl wN.heap.size 30 i0 (.agg #[.int .i64 0, .int .i64 0, .int .i64 0, .int .i64 0]) 4 32 Try.underlying24 hi0 hv0 hv1 hv2 rfl (by decide) _ l.length (cellsL 4 csLn l) rfl HX.out.own ⟨wz.heap.size, 0, none⟩ 1 1 [.int .i64 y.k, .int .i64 y.n, .int .i64 y.b, .int .i64 y.a] rfl rfl (cellB_one _ _ _ _ _ _) (by simp [Value.oneCell']) (by unfold maxLen; omega) (by omega) (by simp; omega) ?_; intro vA wA2 hoA hgA hnA)
                have hdA := HX.out.app (y := y) hoA hgA
                go_roundw
                case rel => exact ⟨k - 1, l ++ [y], by simp; omega, by congr 1; omega, ⟨_, rfl⟩, hdA⟩
                case measure => simp [intOf]; omega

              · have hT := Tb.new (g := g) (w := w7) [0, -1, 1000000000, 1000000001] hd7.cur.1
                have hd7 := hd7.alloc (.cells ([0, -1, 1000000000, 1000000001].map (fun z : Int => Value.int .i64 z)).toArray 2)
                have hV7 := hV7.alloc (.cells ([0, -1, 1000000000, 1000000001].map (fun z : Int => Value.int .i64 z)).toArray 2)
                go_wp2_with fail
                refine (below_any g ao cap bs 4 _ hd7.cur (by omega)).mono ?_
                rintro e w8 ⟨x8, rfl, x80, x81, hc8, hk8⟩
                obtain ⟨n8, rfl⟩ := Int.eq_ofNat_of_zero_le x80
                have hn8 : n8 < 4 := by omega
                have hT8 := (hT.keep hk8).at (k := n8) (by simpa using hn8)
                generalize hz8 : ([0, -1, 1000000000, 1000000001] : List Int)[n8]'(by simpa using hn8) = z8 at hT8
                have hd8 := hd7.call hc8 hk8
                have hV8 := hV7.keep hk8 hVg
                clear hd7 hV7 hc8 hk8 hT hz8
                have hd := hd8.far hVb hVr 1 (.int .i64 z8)
                have hV := hV8.put 1 (.int .i64 z8) (vs' := #[.int .i64 (⟨x.k, z8, x.b, x.a⟩ : Ln).k, .int .i64 (⟨x.k, z8, x.b, x.a⟩ : Ln).n, .int .i64 (⟨x.k, z8, x.b, x.a⟩ : Ln).b, .int .i64 (⟨x.k, z8, x.b, x.a⟩ : Ln).a]) (by simp)
                obtain ⟨e0, e1, e2, e3⟩ := hV8.four
                obtain ⟨f0, f1, f2, f3, -⟩ := hV8.cold
                clear hd8 hV8
                go_upto_region 27 with fail
                clear e0 e1 e2 e3 f0 f1 f2 f3 hT8
                generalize w8.setCell ⟨V, 1, none⟩ (.int .i64 z8) = wz at *
                obtain ⟨y, hy⟩ : ∃ y : Ln, y = ⟨x.k, z8, x.b, x.a⟩ := ⟨_, rfl⟩
                have hV : PB wz V #[.int .i64 y.k, .int .i64 y.n, .int .i64 y.b, .int .i64 y.a] 30 := by rw [hy]; exact hV
                clear hy
                have HX := hidden (hd.alloc (.cells #[.int .i64 y.k, .int .i64 y.n, .int .i64 y.b, .int .i64 y.a] 30))
                have hszA := hd.keep.size
                obtain ⟨e0, e1, e2, e3⟩ := hV.four
                clear hd hV
                go_wp2_with (at_builtin; refine wpList_append_own _ rfl (.tmp 101) (.tmp 103) 24 rfl wN.heap.size 30 i0 (.agg #[.int .i64 0, .int .i64 0, .int .i64 0, .int .i64 0]) 4 32 Try.underlying24 hi0 hv0 hv1 hv2 rfl (by decide) _ l.length (cellsL 4 csLn l) rfl HX.out.own ⟨wz.heap.size, 0, none⟩ 1 1 [.int .i64 y.k, .int .i64 y.n, .int .i64 y.b, .int .i64 y.a] rfl rfl (cellB_one _ _ _ _ _ _) (by simp [Value.oneCell']) (by unfold maxLen; omega) (by omega) (by simp; omega) ?_; intro vA wA2 hoA hgA hnA)
                have hdA := HX.out.app (y := y) hoA hgA
                go_roundw
                case rel => exact ⟨k - 1, l ++ [y], by simp; omega, by congr 1; omega, ⟨_, rfl⟩, hdA⟩
                case measure => simp [intOf]; omega

              · go_upto_region 26 with fail
                refine regB26 (x := x) (V := V) rfl rfl rfl hd7.cur hV7 hVg ?_
                intro b' w8 z hf hc8 hk8
                rw [layB26 hf]
                clear hf
                have hd8 := hd7.call hc8 hk8
                have hV8 := hV7.keep hk8 hVg
                have hd := hd8.far hVb hVr 3 (.int .i64 z)
                have hV := hV8.put 3 (.int .i64 z) (vs' := #[.int .i64 (⟨x.k, x.n, x.b, z⟩ : Ln).k, .int .i64 (⟨x.k, x.n, x.b, z⟩ : Ln).n, .int .i64 (⟨x.k, x.n, x.b, z⟩ : Ln).b, .int .i64 (⟨x.k, x.n, x.b, z⟩ : Ln).a]) (by simp)
                clear hd7 hV7 hc8 hk8 hd8 hV8
                generalize w8.setCell ⟨V, 3, none⟩ (.int .i64 z) = wz at *
                obtain ⟨y, hy⟩ : ∃ y : Ln, y = ⟨x.k, x.n, x.b, z⟩ := ⟨_, rfl⟩
                have hV : PB wz V #[.int .i64 y.k, .int .i64 y.n, .int .i64 y.b, .int .i64 y.a] 30 := by rw [hy]; exact hV
                clear hy
                generalize Rg.out (Rg.opsOf Try.f7 26) b' 0 = y0
                generalize Rg.out (Rg.opsOf Try.f7 26) b' 1 = y1
                generalize Rg.out (Rg.opsOf Try.f7 26) b' 2 = y2
                generalize Rg.out (Rg.opsOf Try.f7 26) b' 3 = y3
                generalize Rg.out (Rg.opsOf Try.f7 26) b' 4 = y4
                generalize Rg.out (Rg.opsOf Try.f7 26) b' 5 = y5
                generalize Rg.out (Rg.opsOf Try.f7 26) b' 6 = y6
                generalize Rg.out (Rg.opsOf Try.f7 26) b' 7 = y7
                go_frame
                have HX := hidden (hd.alloc (.cells #[.int .i64 y.k, .int .i64 y.n, .int .i64 y.b, .int .i64 y.a] 30))
                have hszA := hd.keep.size
                obtain ⟨e0, e1, e2, e3⟩ := hV.four
                clear hd hV
                go_wp2_with (at_builtin; refine wpList_append_own _ rfl (.tmp 101) (.tmp 103) 24 rfl wN.heap.size 30 i0 (.agg #[.int .i64 0, .int .i64 0, .int .i64 0, .int .i64 0]) 4 32 Try.underlying24 hi0 hv0 hv1 hv2 rfl (by decide) _ l.length (cellsL 4 csLn l) rfl HX.out.own ⟨wz.heap.size, 0, none⟩ 1 1 [.int .i64 y.k, .int .i64 y.n, .int .i64 y.b, .int .i64 y.a] rfl rfl (cellB_one _ _ _ _ _ _) (by simp [Value.oneCell']) (by unfold maxLen; omega) (by omega) (by simp; omega) ?_; intro vA wA2 hoA hgA hnA)
                have hdA := HX.out.app (y := y) hoA hgA
                go_roundw
                case rel => exact ⟨k - 1, l ++ [y], by simp; omega, by congr 1; omega, ⟨_, rfl⟩, hdA⟩
                case measure => simp [intOf]; omega
      · have hki : ¬ (0 : Int) < (k : Int) := by omega
        go_wp2_with fail
        go_ret2
        exact ⟨n, ad, c, l, rfl, by omega, hd.row, by have := hd.keep.below (B := g) (Nat.le_refl _) (by omega); exact hBN.trans this⟩
end Go.Proofs.Ytkejjlgeiaeicaa
