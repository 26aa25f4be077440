/-
  A drug, doses given, a time and an amount, drawn.
-/
import Derived.Test.YtcnhogghfedcdaaJo1
namespace Go.Proofs.Ytcnhogghfedcdaa
open Go.RowKit Va Ga
set_option linter.unusedVariables false

theorem cell3J (w : World) (a b c : Value) (t : TypeId) : ∀ (j : Nat) (u : Value), [a, b, c][j]? = some u → (w.alloc (.cells #[a, b, c] t)).cell? ((⟨w.heap.size, 0, none⟩ : Addr).add j) = some u := fun j u hu => by
  have e0 := heap_alloc_new w (Obj.cells #[a, b, c] t)
  have e1 : (w.alloc (.cells #[a, b, c] t)).cell? ((⟨w.heap.size, 0, none⟩ : Addr).add j) = [a, b, c][j]? := by
    rw [Addr.add_lit, Nat.zero_add]
    simp only [World.cell?, e0]
    simp
  rw [e1, hu]
theorem three_oneJ (a b c : Int) : ∀ u ∈ [Value.int .i64 a, .int .i64 b, .int .i64 c], u.oneCell' = true := by
  intro u hu
  simp only [List.mem_cons, List.not_mem_nil, or_false] at hu
  rcases hu with rfl | rfl | rfl <;> rfl
theorem DM.fin {wN W W' : World} {g cap R V : Nat} {ao : Option Addr} {bs : List Int} {x : Dg} {ad : Option Addr} {c : Nat} {v : Value} {l : List Gv} (h : DM wN W g ao cap bs R V x ad c v l) (hs : W'.heap.size = W.heap.size) (hh : ∀ b, wN.heap.size ≤ b → W'.heap[b]? = W.heap[b]?) : IRw W' (.slice ad x.cls.length c) x.cls ∧ Rw 3 csGv W' v l := by
  refine ⟨h.di.row_of hs hh, ?_⟩
  have ho : W'.ownsRow wN.heap.size 49 3 v l.length (cellsL 3 csGv l) := by
    obtain ⟨q, ⟨q1, q2⟩ | ⟨b, k, cur, e, hb, h4, r⟩⟩ := h.own
    · exact ⟨q, Or.inl ⟨q1, q2⟩⟩
    · exact ⟨q, Or.inr ⟨b, k, cur, e, hb, (hh b hb).trans h4, r⟩⟩
  exact (own_of rfl ho).row

set_option maxRecDepth 20000 in
set_option maxHeartbeats 16000000 in
theorem dmay_any (ao : Option Addr) (cap : Nat) (bs : List Int) (w : World) (hb : Bytes w w.heap.size ao bs) (hl : bs.length ≤ 1048576) :
    Calls Try.prog 17 #[.slice ao bs.length cap] w fun e w' => ∃ (x : Dg) (ad : Option Addr) (c : Nat) (v : Value) (L : List Gv) (t a : Int), e = .returned (.tuple #[aD x (.slice ad x.cls.length c), v, .int .i64 t, .int .i64 a]) ∧ x.cls.length ≤ 4 ∧ L.length ≤ 1000 ∧ IRw w' (.slice ad x.cls.length c) x.cls ∧ Rw 3 csGv w' v L ∧ Below w.heap.size w w' := by
  obtain ⟨i0, hi0, hv0, hv1, hv2⟩ := info_parts infoGvJ
  have hbA : Below w.heap.size w (w.alloc (.cells #[.int .i64 0, .slice none 0 0, .int .i64 0, .int .i64 0, .int .i64 0, .int .i64 0] 26)) := (Below.refl _ _).alloc (Nat.le_refl _) _
  have hby := bytes_upY hb hbA
  have hR := PB.new w #[.int .i64 0, .slice none 0 0, .int .i64 0, .int .i64 0, .int .i64 0, .int .i64 0] 26
  clear hb
  go_enter Try.func17, Try.ntmps17
  go_upto_region 1 with fail
  generalize w.alloc (.cells #[.int .i64 0, .slice none 0 0, .int .i64 0, .int .i64 0, .int .i64 0, .int .i64 0] 26) = wA at *
  go_wp2_with fail
  refine (new_any ao cap bs wA hby hl).mono ?_
  rintro e wN ⟨rfl, hcN, hbN⟩
  have hRg0 : w.heap.size < wA.heap.size := hR.lt
  have hRN := hR.below hbN
  have hbW := onto hbA hbN
  have hwN : w.heap.size < wN.heap.size := hRN.lt
  clear hR hbA hbN hby
  generalize wA.heap.size = g at *
  have hRg : w.heap.size ≠ g := by omega
  have HW := hidden (fun W (hk : Keep g wN W) => hbW.trans (hk.below (by omega) hbW.size))
  clear hbW
  have hDD := ddrug_any g ao cap bs wN hcN
  unfold aD at hDD
  go_wp2_with fail
  refine hDD.mono ?_
  rintro e w1 ⟨x, ad, c, rfl, hlen, hdi⟩
  clear hDD
  go_upto_region 3 with fail
  have PV := PB.new w1 #[.int .i64 x.id, .slice ad x.cls.length c, .int .i64 x.pk, .int .i64 x.most, .int .i64 x.day, .int .i64 x.kid] 26
  have PR := (hRN.keep hdi.keep hRg).alloc (.cells #[.int .i64 x.id, .slice ad x.cls.length c, .int .i64 x.pk, .int .i64 x.most, .int .i64 x.day, .int .i64 x.kid] 26)
  have hi := hdi.alloc (.cells #[.int .i64 x.id, .slice ad x.cls.length c, .int .i64 x.pk, .int .i64 x.most, .int .i64 x.day, .int .i64 x.kid] 26)
  have hVg : w1.heap.size ≠ g := Nat.ne_of_gt hdi.cur.1
  clear hRN hdi hcN
  generalize w1.alloc (.cells #[.int .i64 x.id, .slice ad x.cls.length c, .int .i64 x.pk, .int .i64 x.most, .int .i64 x.day, .int .i64 x.kid] 26) = w2 at *
  generalize w1.heap.size = V at *
  go_wp2_with fail
  refine (below_any g ao cap bs 100 _ hi.cur (by omega)).mono ?_
  rintro e w3 ⟨b1, rfl, b10, b11, hc3, hk3⟩
  have hi3 := hi.call hc3 hk3
  have PR3 := PR.keep hk3 hRg
  have PV3 := PV.keep hk3 hVg
  clear hi PR PV hc3 hk3
  have hd := DM.start hi3 PR3 PV3 hRg hVg
  clear hi3 PR3 PV3
  go_upto_region 5 with fail
  have ht0 : 0 ≤ 1000 + 30 * b1 := by omega
  have ht1 : 1000 + 30 * b1 ≤ 4000 := by omega
  generalize 1000 + 30 * b1 = t at *
  clear b10 b11
  generalize w3.alloc (.cells #[] 49) = w4 at *
  generalize Value.slice (some ⟨w3.heap.size, 0, none⟩) 0 0 = v0 at *
  go_wp2_with fail
  refine (below_any g ao cap bs 9 _ hd.di.cur (by omega)).mono ?_
  rintro e w5 ⟨b2, rfl, b20, b21, hc5, hk5⟩
  have hd5 := hd.call hc5 hk5
  clear hd hc5 hk5
  obtain ⟨n2, rfl⟩ := Int.eq_ofNat_of_zero_le b20
  go_wp2_with fail
  go_loopw [9, 10, 11] (fun sv kv _ wr => ∃ (k : Nat) (L : List Gv), k + L.length ≤ 8 ∧ kv = .int .i64 k ∧ DM wN wr g ao cap bs w.heap.size V x ad c sv L) (fun _ kv _ _ => (intOf kv).toNat)
  case atStart => exact ⟨n2, [], by simp; omega, rfl, hd5⟩
  case round =>
    clear hd5
    obtain ⟨k, L, hkl, rfl, hd⟩ := hrel
    obtain ⟨a1, c1, rfl⟩ := hd.form
    by_cases hk0 : 0 < k
    · have hki : (0 : Int) < (k : Int) := by omega
      go_upto_region 8 with fail
      refine regG8 (x := x) (t := t) rfl rfl rfl rfl hd.di.cur hd.box hd.vg ?_
      intro b' w5 B y hf hc5 hk5 hv hBl hBP
      rw [layG8 hf, hv]
      clear hv hf
      generalize Rg.out (Rg.opsOf Try.f17 8) b' 0 = y0
      generalize Rg.out (Rg.opsOf Try.f17 8) b' 1 = y1
      generalize Rg.out (Rg.opsOf Try.f17 8) b' 2 = y2
      generalize Rg.out (Rg.opsOf Try.f17 8) b' 3 = y3
      generalize Rg.out (Rg.opsOf Try.f17 8) b' 4 = y4
      generalize Rg.out (Rg.opsOf Try.f17 8) b' 5 = y5
      generalize Rg.out (Rg.opsOf Try.f17 8) b' 6 = y6
      generalize Rg.out (Rg.opsOf Try.f17 8) b' 7 = y7
      generalize Rg.out (Rg.opsOf Try.f17 8) b' 8 = y8
      generalize Rg.out (Rg.opsOf Try.f17 8) b' 9 = y9
      generalize Rg.out (Rg.opsOf Try.f17 8) b' 10 = y10
      generalize Rg.out (Rg.opsOf Try.f17 8) b' 11 = y11
      have hd5 := hd.call hc5 hk5
      have hneB : ∀ k, (Value.slice a1 L.length c1).ownBlock = some k → k ≠ B := fun k hk => by have := (ownW_lt hd.own k hk).2; omega
      have hgeB : wN.heap.size ≤ B := Nat.le_trans hd.di.keep.size hBl
      have hgg := hd.di.gg
      have hBg : B ≠ g := by omega
      have P1 := hBP.put 0 (.int .i64 y.d) (vs' := #[.int .i64 y.d, .int .i64 0, .int .i64 0]) (by simp)
      have P2 := P1.put 1 (.int .i64 y.t) (vs' := #[.int .i64 y.d, .int .i64 y.t, .int .i64 0]) (by simp)
      have P := P2.put 2 (.int .i64 y.n) (vs' := #[.int .i64 y.d, .int .i64 y.t, .int .i64 y.n]) (by simp)
      have hd6 := ((hd5.far hBP hgeB hneB 0 (.int .i64 y.d)).far P1 hgeB hneB 1 (.int .i64 y.t)).far P2 hgeB hneB 2 (.int .i64 y.n)
      clear hd hd5 hc5 hk5 hBP P1 P2 hBl
      generalize ((w5.setCell ⟨B, 0, none⟩ (.int .i64 y.d)).setCell ⟨B, 1, none⟩ (.int .i64 y.t)).setCell ⟨B, 2, none⟩ (.int .i64 y.n) = w6 at *
      go_frame
      go_wp2_with fail
      refine (once_any g ao cap bs 4 _ hd6.di.cur (by omega)).mono ?_
      rintro e w7 ⟨t7, rfl, hc7, hk7⟩
      have hd := hd6.call hc7 hk7
      have P7 := P.keep hk7 hBg
      clear hd6 P hc7 hk7
      rcases t7 with _ | _
      · have P := P7
        clear P7
        go_wp2_with fail
        refine (once_any g ao cap bs 6 _ hd.di.cur (by omega)).mono ?_
        rintro e wo ⟨tq, rfl, hco, hko⟩
        have hdo := hd.call hco hko
        have Po := P.keep hko hBg
        clear hd P hco hko
        rcases tq with _ | _
        · have hd := hdo
          clear hdo
          obtain ⟨d0, d1, d2⟩ := Po.three
          clear Po
          have HX := hidden (hd.alloc (.cells #[.int .i64 y.d, .int .i64 y.t, .int .i64 y.n] 49))
          have hszA := hd.di.keep.size
          clear hd
          go_wp2_with (at_builtin; refine wpList_append_own _ rfl (.tmp 57) (.tmp 59) 42 rfl wN.heap.size 49 i0 (.agg #[.int .i64 0, .int .i64 0, .int .i64 0]) 3 24 Try.underlying42 hi0 hv0 hv1 hv2 rfl (by decide) _ L.length (cellsL 3 csGv L) rfl HX.out.own ⟨wo.heap.size, 0, none⟩ 1 1 [.int .i64 y.d, .int .i64 y.t, .int .i64 y.n] rfl rfl (cell3J _ _ _ _ _) (three_oneJ _ _ _) (by unfold maxLen; omega) (by omega) (by simp; omega) ?_; intro vA wA2 hoA hgA hnA)
          have hdA := HX.out.app (y := y) hoA hgA
          go_roundw
          case rel => exact ⟨k - 1, L ++ [y], by simp; omega, by congr 1; omega, hdA⟩
          case measure => simp [intOf]; omega
        · go_wp2_with fail
          refine (below_any g ao cap bs 5 _ hdo.di.cur (by omega)).mono ?_
          rintro e wp ⟨yp, rfl, yp0, yp1, hcp, hkp⟩
          have hdp := hdo.call hcp hkp
          have Pp := Po.keep hkp hBg
          have hd := hdp.far Pp hgeB hneB 0 (.int .i64 (1 + yp))
          have P2 := Pp.put 0 (.int .i64 (1 + yp)) (vs' := #[.int .i64 (1 + yp), .int .i64 y.t, .int .i64 y.n]) (by simp)
          obtain ⟨g0, g1, g2⟩ := Pp.three
          have fz := Pp.frozen 0
          have HD := hidden hd
          have HP2 := hidden P2
          clear hdo Po hcp hkp hdp Pp hd P2
          go_upto_region 13 with fail
          have hd := HD.out
          have P2 := HP2.out
          clear HD HP2
          generalize wp.setCell ⟨B, 0, none⟩ (.int .i64 (1 + yp)) = wq at *
          clear g0 g1 g2 fz
          obtain ⟨d0, d1, d2⟩ := P2.three
          clear P2
          have HX := hidden (hd.alloc (.cells #[.int .i64 (⟨1 + yp, y.t, y.n⟩ : Gv).d, .int .i64 (⟨1 + yp, y.t, y.n⟩ : Gv).t, .int .i64 (⟨1 + yp, y.t, y.n⟩ : Gv).n] 49))
          have hszA := hd.di.keep.size
          clear hd
          go_wp2_with (at_builtin; refine wpList_append_own _ rfl (.tmp 57) (.tmp 59) 42 rfl wN.heap.size 49 i0 (.agg #[.int .i64 0, .int .i64 0, .int .i64 0]) 3 24 Try.underlying42 hi0 hv0 hv1 hv2 rfl (by decide) _ L.length (cellsL 3 csGv L) rfl HX.out.own ⟨wq.heap.size, 0, none⟩ 1 1 [.int .i64 (⟨1 + yp, y.t, y.n⟩ : Gv).d, .int .i64 (⟨1 + yp, y.t, y.n⟩ : Gv).t, .int .i64 (⟨1 + yp, y.t, y.n⟩ : Gv).n] rfl rfl (cell3J _ _ _ _ _) (three_oneJ _ _ _) (by unfold maxLen; omega) (by omega) (by simp; omega) ?_; intro vA wA2 hoA hgA hnA)
          have hdA := HX.out.app (y := (⟨1 + yp, y.t, y.n⟩ : Gv)) hoA hgA
          go_roundw
          case rel => exact ⟨k - 1, L ++ [(⟨1 + yp, y.t, y.n⟩ : Gv)], by simp; omega, by congr 1; omega, hdA⟩
          case measure => simp [intOf]; omega

      · have hT := Tb.new (g := g) (w := w7) [(-1440), (-1439), 1439, 1440, 0] hd.di.cur.1
        have HT := hidden hT
        have hdT := hd.alloc (.cells #[.int .i64 (-1440), .int .i64 (-1439), .int .i64 1439, .int .i64 1440, .int .i64 0] 2)
        have PT := P7.alloc (.cells #[.int .i64 (-1440), .int .i64 (-1439), .int .i64 1439, .int .i64 1440, .int .i64 0] 2)
        clear hT hd P7
        go_wp2_with fail
        refine (below_any g ao cap bs 5 _ hdT.di.cur (by omega)).mono ?_
        rintro e w8 ⟨a8, rfl, a80, a81, hc8, hk8⟩
        obtain ⟨k8, rfl⟩ := Int.eq_ofNat_of_zero_le a80
        have hkl8 : k8 < 5 := by omega
        have hcell8 := (HT.out.keep hk8).at (k := k8) hkl8
        have hzb : -1440 ≤ ([(-1440), (-1439), 1439, 1440, 0] : List Int)[k8] ∧ ([(-1440), (-1439), 1439, 1440, 0] : List Int)[k8] ≤ 1440 := by
          have := List.getElem_mem (l := ([(-1440), (-1439), 1439, 1440, 0] : List Int)) hkl8
          generalize ([(-1440), (-1439), 1439, 1440, 0] : List Int)[k8] = z at *
          simp only [List.mem_cons, List.not_mem_nil, or_false] at this
          omega
        generalize hz8 : ([(-1440), (-1439), 1439, 1440, 0] : List Int)[k8] = z8 at hcell8 hzb
        have hd8 := hdT.call hc8 hk8
        have P8 := PT.keep hk8 hBg
        clear hz8 HT hdT PT hc8 hk8
        have HD8 := hidden hd8
        have HP8 := hidden P8
        obtain ⟨g0, g1, g2⟩ := P8.three
        have fz := P8.frozen 1
        clear hd8 P8
        go_wp2_with fail
        refine (smax_any _ _ _).mono ?_
        rintro e w9 ⟨rfl, rfl⟩
        generalize max (0 : Int) (t + z8) = m8
        go_upto_region 11 with fail
        have P := HP8.out.put 1 (.int .i64 m8) (vs' := #[.int .i64 y.d, .int .i64 m8, .int .i64 y.n]) (by simp)
        have hd := HD8.out.far HP8.out hgeB hneB 1 (.int .i64 m8)
        clear HD8 HP8 g0 g1 g2 fz
        generalize w8.setCell ⟨B, 1, none⟩ (.int .i64 m8) = wq at *
        go_wp2_with fail
        refine (once_any g ao cap bs 6 _ hd.di.cur (by omega)).mono ?_
        rintro e wo ⟨tq, rfl, hco, hko⟩
        have hdo := hd.call hco hko
        have Po := P.keep hko hBg
        clear hd P hco hko
        rcases tq with _ | _
        · have hd := hdo
          clear hdo
          obtain ⟨d0, d1, d2⟩ := Po.three
          clear Po
          have HX := hidden (hd.alloc (.cells #[.int .i64 (⟨y.d, m8, y.n⟩ : Gv).d, .int .i64 (⟨y.d, m8, y.n⟩ : Gv).t, .int .i64 (⟨y.d, m8, y.n⟩ : Gv).n] 49))
          have hszA := hd.di.keep.size
          clear hd
          go_wp2_with (at_builtin; refine wpList_append_own _ rfl (.tmp 57) (.tmp 59) 42 rfl wN.heap.size 49 i0 (.agg #[.int .i64 0, .int .i64 0, .int .i64 0]) 3 24 Try.underlying42 hi0 hv0 hv1 hv2 rfl (by decide) _ L.length (cellsL 3 csGv L) rfl HX.out.own ⟨wo.heap.size, 0, none⟩ 1 1 [.int .i64 (⟨y.d, m8, y.n⟩ : Gv).d, .int .i64 (⟨y.d, m8, y.n⟩ : Gv).t, .int .i64 (⟨y.d, m8, y.n⟩ : Gv).n] rfl rfl (cell3J _ _ _ _ _) (three_oneJ _ _ _) (by unfold maxLen; omega) (by omega) (by simp; omega) ?_; intro vA wA2 hoA hgA hnA)
          have hdA := HX.out.app (y := (⟨y.d, m8, y.n⟩ : Gv)) hoA hgA
          go_roundw
          case rel => exact ⟨k - 1, L ++ [(⟨y.d, m8, y.n⟩ : Gv)], by simp; omega, by congr 1; omega, hdA⟩
          case measure => simp [intOf]; omega
        · go_wp2_with fail
          refine (below_any g ao cap bs 5 _ hdo.di.cur (by omega)).mono ?_
          rintro e wp ⟨yp, rfl, yp0, yp1, hcp, hkp⟩
          have hdp := hdo.call hcp hkp
          have Pp := Po.keep hkp hBg
          have hd := hdp.far Pp hgeB hneB 0 (.int .i64 (1 + yp))
          have P2 := Pp.put 0 (.int .i64 (1 + yp)) (vs' := #[.int .i64 (1 + yp), .int .i64 (⟨y.d, m8, y.n⟩ : Gv).t, .int .i64 (⟨y.d, m8, y.n⟩ : Gv).n]) (by simp)
          obtain ⟨g0, g1, g2⟩ := Pp.three
          have fz := Pp.frozen 0
          have HD := hidden hd
          have HP2 := hidden P2
          clear hdo Po hcp hkp hdp Pp hd P2
          go_upto_region 13 with fail
          have hd := HD.out
          have P2 := HP2.out
          clear HD HP2
          generalize wp.setCell ⟨B, 0, none⟩ (.int .i64 (1 + yp)) = wq at *
          clear g0 g1 g2 fz
          obtain ⟨d0, d1, d2⟩ := P2.three
          clear P2
          have HX := hidden (hd.alloc (.cells #[.int .i64 (⟨1 + yp, (⟨y.d, m8, y.n⟩ : Gv).t, (⟨y.d, m8, y.n⟩ : Gv).n⟩ : Gv).d, .int .i64 (⟨1 + yp, (⟨y.d, m8, y.n⟩ : Gv).t, (⟨y.d, m8, y.n⟩ : Gv).n⟩ : Gv).t, .int .i64 (⟨1 + yp, (⟨y.d, m8, y.n⟩ : Gv).t, (⟨y.d, m8, y.n⟩ : Gv).n⟩ : Gv).n] 49))
          have hszA := hd.di.keep.size
          clear hd
          go_wp2_with (at_builtin; refine wpList_append_own _ rfl (.tmp 57) (.tmp 59) 42 rfl wN.heap.size 49 i0 (.agg #[.int .i64 0, .int .i64 0, .int .i64 0]) 3 24 Try.underlying42 hi0 hv0 hv1 hv2 rfl (by decide) _ L.length (cellsL 3 csGv L) rfl HX.out.own ⟨wq.heap.size, 0, none⟩ 1 1 [.int .i64 (⟨1 + yp, (⟨y.d, m8, y.n⟩ : Gv).t, (⟨y.d, m8, y.n⟩ : Gv).n⟩ : Gv).d, .int .i64 (⟨1 + yp, (⟨y.d, m8, y.n⟩ : Gv).t, (⟨y.d, m8, y.n⟩ : Gv).n⟩ : Gv).t, .int .i64 (⟨1 + yp, (⟨y.d, m8, y.n⟩ : Gv).t, (⟨y.d, m8, y.n⟩ : Gv).n⟩ : Gv).n] rfl rfl (cell3J _ _ _ _ _) (three_oneJ _ _ _) (by unfold maxLen; omega) (by omega) (by simp; omega) ?_; intro vA wA2 hoA hgA hnA)
          have hdA := HX.out.app (y := (⟨1 + yp, (⟨y.d, m8, y.n⟩ : Gv).t, (⟨y.d, m8, y.n⟩ : Gv).n⟩ : Gv)) hoA hgA
          go_roundw
          case rel => exact ⟨k - 1, L ++ [(⟨1 + yp, (⟨y.d, m8, y.n⟩ : Gv).t, (⟨y.d, m8, y.n⟩ : Gv).n⟩ : Gv)], by simp; omega, by congr 1; omega, hdA⟩
          case measure => simp [intOf]; omega
    · have hki : ¬ (0 : Int) < (k : Int) := by omega
      go_wp2_with fail
      refine (below_any g ao cap bs 300 _ hd.di.cur (by omega)).mono ?_
      rintro e wu ⟨yu, rfl, yu0, yu1, hcu, hku⟩
      have hdu := hd.call hcu hku
      clear hd hcu hku
      go_wp2_with fail
      refine (once_any g ao cap bs 20 _ hdu.di.cur (by omega)).mono ?_
      rintro e wv ⟨tv, rfl, hcv, hkv⟩
      have hd := hdu.call hcv hkv
      clear hdu hcv hkv
      rcases tv with _ | _
      · obtain ⟨e0, e1, e2, e3, e4, e5⟩ := hd.box.six
        obtain ⟨z0, z1, z2, z3, z4, z5⟩ := hd.res.six
        obtain ⟨f0, f1, f2, f3, f4, f5, -⟩ := hd.res.cold
        have HR := hidden (hd.res.fill6 (.int .i64 x.id) (.slice ad x.cls.length c) (.int .i64 x.pk) (.int .i64 x.most) (.int .i64 x.day) (.int .i64 x.kid))
        have hb0 := HW.out _ hd.di.keep
        have HBf := hidden ((((((hb0.setCell (p := ⟨w.heap.size, 0, none⟩) (Nat.le_refl _) (.int .i64 x.id)).setCell (p := ⟨w.heap.size, 1, none⟩) (Nat.le_refl _) (.slice ad x.cls.length c)).setCell (p := ⟨w.heap.size, 2, none⟩) (Nat.le_refl _) (.int .i64 x.pk)).setCell (p := ⟨w.heap.size, 3, none⟩) (Nat.le_refl _) (.int .i64 x.most)).setCell (p := ⟨w.heap.size, 4, none⟩) (Nat.le_refl _) (.int .i64 x.day)).setCell (p := ⟨w.heap.size, 5, none⟩) (Nat.le_refl _) (.int .i64 x.kid))
        have HRow := hidden (fun (W' : World) (hs : W'.heap.size = _) (hh : ∀ b, wN.heap.size ≤ b → W'.heap[b]? = _) => hd.fin (W' := W') hs hh)
        clear hd hb0
        go_wp2_with fail
        try simp only [Exit.inBlock, Exit.then]
        refine bodyPost_ret (results_cttt Try.results17 _ _ w.heap.size 26 _ _ rfl HR.out Try.underlying26 rfl (by kernel_rfl)) rfl ⟨x, ad, c, _, L, _, _, rfl, hlen, by omega, (HRow.out _ (by simp [World.setCell]) (fun b hb => ?_)).1, (HRow.out _ (by simp [World.setCell]) (fun b hb => ?_)).2, HBf.out⟩
        all_goals (have hbw : b ≠ w.heap.size := by omega)
        all_goals (repeat rw [heap_setCell_other _ _ b _ (show b ≠ w.heap.size from hbw)])
      · go_wp2_with fail
        refine (below_any g ao cap bs 4 _ hd.di.cur (by omega)).mono ?_
        rintro e wv ⟨a7, rfl, a70, a71, hc7, hk7⟩
        obtain ⟨k7, rfl⟩ := Int.eq_ofNat_of_zero_le a70
        have hdv := hd.call hc7 hk7
        clear hd hc7 hk7
        have hd := hdv
        clear hdv
        rcases (show k7 = 0 ∨ k7 = 1 ∨ k7 = 2 ∨ k7 = 3 by omega) with rfl | rfl | rfl | rfl
        · have hT := Tb.new (g := g) (w := wv) [(-1), 0, 10000000, 10000001] hd.di.cur.1
          have HT := hidden hT
          have hdT := hd.alloc (.cells #[.int .i64 (-1), .int .i64 0, .int .i64 10000000, .int .i64 10000001] 2)
          clear hT hd
          go_wp2_with fail
          refine (below_any g ao cap bs 4 _ hdT.di.cur (by omega)).mono ?_
          rintro e wt ⟨at8, rfl, a80, a81, hc8, hk8⟩
          obtain ⟨k8, rfl⟩ := Int.eq_ofNat_of_zero_le a80
          have hkl8 : k8 < 4 := by omega
          have hcell8 := (HT.out.keep hk8).at (k := k8) hkl8
          generalize hz8 : ([(-1), 0, 10000000, 10000001] : List Int)[k8] = z8 at hcell8
          have hd := hdT.call hc8 hk8
          clear hz8 HT hdT hc8 hk8

          obtain ⟨e0, e1, e2, e3, e4, e5⟩ := hd.box.six
          obtain ⟨z0, z1, z2, z3, z4, z5⟩ := hd.res.six
          obtain ⟨f0, f1, f2, f3, f4, f5, -⟩ := hd.res.cold
          have HR := hidden (hd.res.fill6 (.int .i64 x.id) (.slice ad x.cls.length c) (.int .i64 x.pk) (.int .i64 x.most) (.int .i64 x.day) (.int .i64 x.kid))
          have hb0 := HW.out _ hd.di.keep
          have HBf := hidden ((((((hb0.setCell (p := ⟨w.heap.size, 0, none⟩) (Nat.le_refl _) (.int .i64 x.id)).setCell (p := ⟨w.heap.size, 1, none⟩) (Nat.le_refl _) (.slice ad x.cls.length c)).setCell (p := ⟨w.heap.size, 2, none⟩) (Nat.le_refl _) (.int .i64 x.pk)).setCell (p := ⟨w.heap.size, 3, none⟩) (Nat.le_refl _) (.int .i64 x.most)).setCell (p := ⟨w.heap.size, 4, none⟩) (Nat.le_refl _) (.int .i64 x.day)).setCell (p := ⟨w.heap.size, 5, none⟩) (Nat.le_refl _) (.int .i64 x.kid))
          have HRow := hidden (fun (W' : World) (hs : W'.heap.size = _) (hh : ∀ b, wN.heap.size ≤ b → W'.heap[b]? = _) => hd.fin (W' := W') hs hh)
          clear hd hb0
          go_wp2_with fail
          try simp only [Exit.inBlock, Exit.then]
          refine bodyPost_ret (results_cttt Try.results17 _ _ w.heap.size 26 _ _ rfl HR.out Try.underlying26 rfl (by kernel_rfl)) rfl ⟨x, ad, c, _, L, _, _, rfl, hlen, by omega, (HRow.out _ (by simp [World.setCell]) (fun b hb => ?_)).1, (HRow.out _ (by simp [World.setCell]) (fun b hb => ?_)).2, HBf.out⟩
          all_goals (have hbw : b ≠ w.heap.size := by omega)
          all_goals (repeat rw [heap_setCell_other _ _ b _ (show b ≠ w.heap.size from hbw)])
        · have hT := Tb.new (g := g) (w := wv) [0, 1000000000, 1000000001] hd.di.cur.1
          have HT := hidden hT
          have hdT := hd.alloc (.cells #[.int .i64 0, .int .i64 1000000000, .int .i64 1000000001] 2)
          clear hT hd
          go_wp2_with fail
          refine (below_any g ao cap bs 3 _ hdT.di.cur (by omega)).mono ?_
          rintro e wt ⟨at8, rfl, a80, a81, hc8, hk8⟩
          obtain ⟨k8, rfl⟩ := Int.eq_ofNat_of_zero_le a80
          have hkl8 : k8 < 3 := by omega
          have hcell8 := (HT.out.keep hk8).at (k := k8) hkl8
          generalize hz8 : ([0, 1000000000, 1000000001] : List Int)[k8] = z8 at hcell8
          have hd := hdT.call hc8 hk8
          clear hz8 HT hdT hc8 hk8

          obtain ⟨e0, e1, e2, e3, e4, e5⟩ := hd.box.six
          obtain ⟨z0, z1, z2, z3, z4, z5⟩ := hd.res.six
          obtain ⟨f0, f1, f2, f3, f4, f5, -⟩ := hd.res.cold
          have HR := hidden (hd.res.fill6 (.int .i64 x.id) (.slice ad x.cls.length c) (.int .i64 x.pk) (.int .i64 x.most) (.int .i64 x.day) (.int .i64 x.kid))
          have hb0 := HW.out _ hd.di.keep
          have HBf := hidden ((((((hb0.setCell (p := ⟨w.heap.size, 0, none⟩) (Nat.le_refl _) (.int .i64 x.id)).setCell (p := ⟨w.heap.size, 1, none⟩) (Nat.le_refl _) (.slice ad x.cls.length c)).setCell (p := ⟨w.heap.size, 2, none⟩) (Nat.le_refl _) (.int .i64 x.pk)).setCell (p := ⟨w.heap.size, 3, none⟩) (Nat.le_refl _) (.int .i64 x.most)).setCell (p := ⟨w.heap.size, 4, none⟩) (Nat.le_refl _) (.int .i64 x.day)).setCell (p := ⟨w.heap.size, 5, none⟩) (Nat.le_refl _) (.int .i64 x.kid))
          have HRow := hidden (fun (W' : World) (hs : W'.heap.size = _) (hh : ∀ b, wN.heap.size ≤ b → W'.heap[b]? = _) => hd.fin (W' := W') hs hh)
          clear hd hb0
          go_wp2_with fail
          try simp only [Exit.inBlock, Exit.then]
          refine bodyPost_ret (results_cttt Try.results17 _ _ w.heap.size 26 _ _ rfl HR.out Try.underlying26 rfl (by kernel_rfl)) rfl ⟨x, ad, c, _, L, _, _, rfl, hlen, by omega, (HRow.out _ (by simp [World.setCell]) (fun b hb => ?_)).1, (HRow.out _ (by simp [World.setCell]) (fun b hb => ?_)).2, HBf.out⟩
          all_goals (have hbw : b ≠ w.heap.size := by omega)
          all_goals (repeat rw [heap_setCell_other _ _ b _ (show b ≠ w.heap.size from hbw)])

        · go_upto_region 22 with fail
          refine regG22 (x := x) (t := t) (L := L) rfl rfl rfl rfl rfl hd (by omega) ?_
          intro b' w8 v8 yy hf hv8 hd8
          rw [layG22 hf, hv8]
          clear hf hv8 hd
          generalize Rg.out (Rg.opsOf Try.f17 22) b' 0 = y0
          generalize Rg.out (Rg.opsOf Try.f17 22) b' 1 = y1
          generalize Rg.out (Rg.opsOf Try.f17 22) b' 2 = y2
          generalize Rg.out (Rg.opsOf Try.f17 22) b' 3 = y3
          generalize Rg.out (Rg.opsOf Try.f17 22) b' 4 = y4
          generalize Rg.out (Rg.opsOf Try.f17 22) b' 5 = y5
          generalize Rg.out (Rg.opsOf Try.f17 22) b' 6 = y6
          generalize Rg.out (Rg.opsOf Try.f17 22) b' 7 = y7
          generalize Rg.out (Rg.opsOf Try.f17 22) b' 8 = y8
          generalize Rg.out (Rg.opsOf Try.f17 22) b' 9 = y9
          generalize Rg.out (Rg.opsOf Try.f17 22) b' 10 = y10
          generalize Rg.out (Rg.opsOf Try.f17 22) b' 11 = y11
          have hd := hd8
          clear hd8
          obtain ⟨a8, c8, rfl⟩ := hd.form
          go_frame
          obtain ⟨e0, e1, e2, e3, e4, e5⟩ := hd.box.six
          obtain ⟨z0, z1, z2, z3, z4, z5⟩ := hd.res.six
          obtain ⟨f0, f1, f2, f3, f4, f5, -⟩ := hd.res.cold
          have HR := hidden (hd.res.fill6 (.int .i64 x.id) (.slice ad x.cls.length c) (.int .i64 x.pk) (.int .i64 x.most) (.int .i64 x.day) (.int .i64 x.kid))
          have hb0 := HW.out _ hd.di.keep
          have HBf := hidden ((((((hb0.setCell (p := ⟨w.heap.size, 0, none⟩) (Nat.le_refl _) (.int .i64 x.id)).setCell (p := ⟨w.heap.size, 1, none⟩) (Nat.le_refl _) (.slice ad x.cls.length c)).setCell (p := ⟨w.heap.size, 2, none⟩) (Nat.le_refl _) (.int .i64 x.pk)).setCell (p := ⟨w.heap.size, 3, none⟩) (Nat.le_refl _) (.int .i64 x.most)).setCell (p := ⟨w.heap.size, 4, none⟩) (Nat.le_refl _) (.int .i64 x.day)).setCell (p := ⟨w.heap.size, 5, none⟩) (Nat.le_refl _) (.int .i64 x.kid))
          have HRow := hidden (fun (W' : World) (hs : W'.heap.size = _) (hh : ∀ b, wN.heap.size ≤ b → W'.heap[b]? = _) => hd.fin (W' := W') hs hh)
          clear hd hb0
          go_wp2_with fail
          try simp only [Exit.inBlock, Exit.then]
          refine bodyPost_ret (results_cttt Try.results17 _ _ w.heap.size 26 _ _ rfl HR.out Try.underlying26 rfl (by kernel_rfl)) rfl ⟨x, ad, c, _, (L ++ [yy]), _, _, rfl, hlen, by simp; omega, (HRow.out _ (by simp [World.setCell]) (fun b hb => ?_)).1, (HRow.out _ (by simp [World.setCell]) (fun b hb => ?_)).2, HBf.out⟩
          all_goals (have hbw : b ≠ w.heap.size := by omega)
          all_goals (repeat rw [heap_setCell_other _ _ b _ (show b ≠ w.heap.size from hbw)])

        · have HS : ∃ M : List Gv, M.length ≤ 501 ∧ DM wN wv g ao cap bs w.heap.size V x ad c (.slice a1 L.length c1) M := ⟨L, by omega, hd⟩
          clear hd
          generalize hVS : Value.slice a1 L.length c1 = vS at *
          clear hVS
          go_wp2_with fail
          go_loopw [9] (fun v wr => ∃ M : List Gv, M.length ≤ 501 ∧ DM wN wr g ao cap bs w.heap.size V x ad c v M) (fun v _ => match v with | .slice _ n _ => 501 - n | _ => 0)
          case atStart => exact HS
          case round =>
            clear HS
            obtain ⟨M, hM, hdl⟩ := hrel
            obtain ⟨a2, c2, rfl⟩ := hdl.form
            go_wp2_with fail
            refine (below_any g ao cap bs 2 _ hdl.di.cur (by omega)).mono ?_
            rintro e wb ⟨yb, rfl, hb0, hb1, hcb, hkb⟩
            have hd := hdl.call hcb hkb
            clear hcb hkb hdl
            by_cases hlt : (M.length : Int) < 500 + yb
            · have hlM : M.length ≤ 500 := by omega
              have HX := hidden (hd.alloc (.cells #[.int .i64 1000, .int .i64 t, .int .i64 1] 49))
              have hszA := hd.di.keep.size
              clear hd
              go_wp2_with (at_builtin; refine wpList_append_own _ rfl (.tmp 104) (.tmp 107) 42 rfl wN.heap.size 49 i0 (.agg #[.int .i64 0, .int .i64 0, .int .i64 0]) 3 24 Try.underlying42 hi0 hv0 hv1 hv2 rfl (by decide) _ M.length (cellsL 3 csGv M) rfl HX.out.own ⟨wb.heap.size, 0, none⟩ 1 1 [.int .i64 1000, .int .i64 t, .int .i64 1] rfl rfl (cell3J _ _ _ _ _) (three_oneJ _ _ _) (by unfold maxLen; omega) (by omega) (by simp; omega) ?_; intro vA wA2 hoA hgA hnA)
              have hdA := HX.out.app (y := ⟨1000, t, 1⟩) hoA hgA

              obtain ⟨a6, c6, rfl⟩ := hdA.form
              go_roundw
              case rel => exact ⟨_, by rw [List.length_append]; simp; omega, hdA⟩
              case measure => simp; omega
            · have hlM : M.length ≤ 501 := hM
              have HD := hidden hd
              clear hd
              go_upto_region 26 with fail
              have hd := HD.out
              clear HD
              obtain ⟨e0, e1, e2, e3, e4, e5⟩ := hd.box.six
              obtain ⟨z0, z1, z2, z3, z4, z5⟩ := hd.res.six
              obtain ⟨f0, f1, f2, f3, f4, f5, -⟩ := hd.res.cold
              have HR := hidden (hd.res.fill6 (.int .i64 x.id) (.slice ad x.cls.length c) (.int .i64 x.pk) (.int .i64 x.most) (.int .i64 x.day) (.int .i64 x.kid))
              have hb0 := HW.out _ hd.di.keep
              have HBf := hidden ((((((hb0.setCell (p := ⟨w.heap.size, 0, none⟩) (Nat.le_refl _) (.int .i64 x.id)).setCell (p := ⟨w.heap.size, 1, none⟩) (Nat.le_refl _) (.slice ad x.cls.length c)).setCell (p := ⟨w.heap.size, 2, none⟩) (Nat.le_refl _) (.int .i64 x.pk)).setCell (p := ⟨w.heap.size, 3, none⟩) (Nat.le_refl _) (.int .i64 x.most)).setCell (p := ⟨w.heap.size, 4, none⟩) (Nat.le_refl _) (.int .i64 x.day)).setCell (p := ⟨w.heap.size, 5, none⟩) (Nat.le_refl _) (.int .i64 x.kid))
              have HRow := hidden (fun (W' : World) (hs : W'.heap.size = _) (hh : ∀ b, wN.heap.size ≤ b → W'.heap[b]? = _) => hd.fin (W' := W') hs hh)
              clear hd hb0
              go_wp2_with fail
              try simp only [Exit.inBlock, Exit.then]
              refine bodyPost_ret (results_cttt Try.results17 _ _ w.heap.size 26 _ _ rfl HR.out Try.underlying26 rfl (by kernel_rfl)) rfl ⟨x, ad, c, _, M, _, _, rfl, hlen, by omega, (HRow.out _ (by simp [World.setCell]) (fun b hb => ?_)).1, (HRow.out _ (by simp [World.setCell]) (fun b hb => ?_)).2, HBf.out⟩
              all_goals (have hbw : b ≠ w.heap.size := by omega)
              all_goals (repeat rw [heap_setCell_other _ _ b _ (show b ≠ w.heap.size from hbw)])
end Go.Proofs.Ytcnhogghfedcdaa
