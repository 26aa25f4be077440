/-
  A join that is undone: the law's own walk.
-/
import Derived.Test.YtdnnenklkfkhcaaDd
namespace Go.Proofs.Ytdnnenklkfkhcaa
open Go.RowKit Jn Go.Maps

theorem ok_of {l : List J} (h : okB l = true) : Ok l := by unfold okB at h; simpa using h
theorem do0 {l : List J} {k g : Int} (h : doC l k g = 0) : Ok l ∧ l.length < 200 ∧ may k g = true ∧ isG l k = false ∧ isG l g = false ∧ doL l k g = l ++ [(k, g)] := by
  unfold doC at h
  cases ho : okB l with
  | false => rw [ho] at h; simp at h
  | true =>
    have hO := ok_of ho
    rw [ho, if_pos rfl] at h
    cases hm : may k g with
    | false => rw [hm] at h; simp at h
    | true =>
      rw [hm, if_pos rfl] at h
      cases hg : (isG l k || isG l g) with
      | true => rw [hg] at h; simp at h
      | false =>
        rw [hg] at h
        by_cases h2 : l.length = 200
        · rw [if_pos h2] at h; simp at h
        · have := hO.1
          refine ⟨hO, by omega, rfl, ?_, ?_, ?_⟩
          · revert hg; cases isG l k <;> simp
          · revert hg; cases isG l k <;> cases isG l g <;> simp
          · unfold doL
            rw [ho, if_pos rfl, hm, hg, decide_eq_false h2]; rfl
/-- What a join done says. -/
structure Done (l M : List J) (k g : Int) : Prop where
  ok : Ok M
  back : undoL M g = l
  code : undoC M g = 0
  pk : pers k = true
  pg : pers g = true
  one : stands M g = stands M k
theorem done_of {l : List J} {k g : Int} (h : doC l k g = 0) : Done l (l ++ [(k, g)]) k g := by
  obtain ⟨hO, hlt, hm, hk, hg, _⟩ := do0 h
  have hok := ok_app l k g hO.2 hm hk hg
  have hM : Ok (l ++ [(k, g)]) := ⟨by simp; omega, hok⟩
  have hgM : isG (l ++ [(k, g)]) g = true := by rw [isG_append, hg]; simp [isG]
  have hpl : place (l ++ [(k, g)]) g = l.length := by
    have hp : ¬ place l g < l.length := fun q => by have := (isG_place l g).2 q; rw [hg] at this; cases this
    rw [place_app, if_neg hp, if_pos rfl]
  have hka : keepAt (l ++ [(k, g)]) g = k := by unfold keepAt; rw [hpl, getD_app_last]
  refine ⟨hM, ?_, ?_, (may_pers hm).1, (may_pers hm).2, ?_⟩
  · unfold undoL
    rw [okB_true hM, if_pos rfl, List.filter_append, filter_all l g hg]
    simp
  · unfold undoC
    rw [okB_true hM, hgM]; rfl
  · rw [stands_hop _ hok g hgM, hka]
theorem tog_eq {M : List J} {x : Int} (h : Ok M) (hx : pers x = true) : Jn.tog M x = togN M (stands M x) 1000 := by
  unfold Jn.tog; rw [okB_true h, hx]; rfl
theorem person_eq {M : List J} {x : Int} (h : Ok M) (hx : pers x = true) : person M x = stands M x := by
  unfold person; rw [okB_true h, hx]; rfl
theorem Done.tog {l M : List J} {k g y : Int} (h : Done l M k g) (hy : y ∈ Jn.tog M k) : person M y = stands M k ∧ Jn.tog M y = Jn.tog M k := by
  rw [tog_eq h.ok h.pk] at hy ⊢
  have h2 := (togN_mem _ _ _).1 hy
  rw [person_eq h.ok h2.1, tog_eq h.ok h2.1, h2.2]
  exact ⟨rfl, rfl⟩
theorem Done.here {l M : List J} {k g : Int} (h : Done l M k g) : k ∈ Jn.tog M k ∧ g ∈ Jn.tog M k ∧ person M g = stands M k := by
  rw [tog_eq h.ok h.pk, person_eq h.ok h.pg]
  exact ⟨(togN_mem _ _ _).2 ⟨h.pk, rfl⟩, (togN_mem _ _ _).2 ⟨h.pg, h.one⟩, h.one⟩
theorem tog_len (l : List J) (x : Int) : (Jn.tog l x).length ≤ 1000 := by
  unfold Jn.tog
  split
  · exact togN_len _ _ _
  · simp

set_option maxRecDepth 20000 in
set_option maxHeartbeats 4000000 in
theorem fju_walk (ao : Option Addr) (cap : Nat) (bs : List Int) (w : World) (hb : Bytes w w.heap.size ao bs) :
    Calls Try.prog 6 #[.slice ao bs.length cap] w fun e w' => e = .returned (.bool true) ∧ Below w.heap.size w w' := by
  have hB := big_any ao cap bs.length w
  by_cases hbig : 4096 < (bs.length : Int)
  · rw [decide_eq_true hbig] at hB
    clear hb
    go_enter Try.func6, Try.ntmps6
    go_wp2_with fail
    refine hB.mono ?_
    rintro e w1 ⟨rfl, hw1⟩
    have hw2 := hw1.symm
    clear hw1
    subst hw2
    go_wp2_with fail
    go_ret
    exact ⟨rfl, Below.refl _ _⟩
  rw [decide_eq_false hbig] at hB
  have HD := hidden (ddo_any ao cap bs w hb (by omega))
  clear hb
  go_enter Try.func6, Try.ntmps6
  go_wp2_with fail
  refine hB.mono ?_
  rintro e w1 ⟨rfl, hw1⟩
  have hw2 := hw1.symm
  clear hw1 hB
  subst hw2
  go_wp2_with fail
  refine HD.out.mono ?_
  rintro e w1 ⟨v, l, k, g, rfl, ho1, hl1, hk0, hk1, hg0, hg1, b1⟩
  have HO1 := hidden ho1
  have hwg : wfI g := WalkArith.wf_i64 (by omega)
  have HWG := hidden hwg
  clear HD hwg
  obtain ⟨G1, c1, rfl, -⟩ := ho1
  go_wp2_with fail
  refine (ido_any _ l k g w1 HO1.out.own.row).mono ?_
  rintro e w2 ⟨v2, rfl, ho2, hb2⟩
  have HO2 := hidden ho2
  have B2 := hidden (onto b1 hb2)
  have HJ2 := hidden (HO1.out.below hb2)
  clear hb2 b1 ho2 HO1
  go_wp2_with fail
  refine (sdo_any _ l k g _ w2 HJ2.out).mono ?_
  rintro e w3 ⟨v3, rfl, -, hb3⟩
  have HO3 := hidden (HO2.out.below hb3)
  have B3 := hidden (onto B2.out hb3)
  have HJ3 := hidden (HJ2.out.below hb3)
  clear hb3 B2 HO2 HJ2
  by_cases hz : doC l k g = 0
  · have hD := done_of hz
    have hLM := (do0 hz).2.2.2.2.2
    have HO3' : Hid (Own w3 w1.heap.size v2 (l ++ [(k, g)])) := by rw [Hid, ← hLM]; exact HO3.out
    rw [hz]
    clear hz HO3 hLM
    generalize l ++ [(k, g)] = M at *
    have HDN := hidden hD
    have HB := hidden hD.back
    have HCD := hidden hD.code
    have HT := hidden (tog_len M k)
    have HSK := hidden (fun W (hW : JRow W v2 M) => sok_any v2 M W hW)
    clear hD
    go_wp2_with fail
    refine (iundo_any v2 M g w3 HO3'.out.row HWG.out).mono ?_
    rintro e w4 ⟨v4, rfl, ho4, hb4⟩
    rw [HB.out] at ho4
    rw [HCD.out]
    have HO4 := hidden (HO3'.out.below hb4)
    have B4 := hidden (onto B3.out hb4)
    have HJ4 := hidden (HJ3.out.below hb4)
    have HK4 := hidden ho4
    clear hb4 B3 HO3' HJ3
    obtain ⟨ao4, c4, rfl, -⟩ := ho4
    have hsk := HSK.out w4 HO4.out.row
    rw [okB_true HDN.out.ok] at hsk
    go_wp2_with fail
    refine hsk.mono ?_
    rintro e w5 ⟨rfl, hb5⟩
    have HO5 := hidden (HO4.out.below hb5)
    have B5 := hidden (onto B4.out hb5)
    have HJ5 := hidden (HJ4.out.below hb5).own.row
    have HK5 := hidden (HK4.out.below hb5).row
    clear hb5 B4 HO4 HJ4 HK4 hsk HSK
    go_wp2_with fail
    go_loopw [12] (fun iv wr => ∃ i : Nat, i ≤ l.length ∧ iv = .int .i64 i ∧ Below w5.heap.size w5 wr) (fun iv _ => l.length - (intOf iv).toNat)
    case atStart => exact ⟨0, Nat.zero_le _, rfl, Below.refl _ _⟩
    case round =>
      obtain ⟨i, hil, rfl, hb⟩ := hrel
      by_cases hlt : i < l.length
      · have hlti : (i : Int) < (l.length : Int) := by omega
        have hi0 : (0 : Int) ≤ (i : Int) := by omega
        obtain ⟨a1, d1, e1, hr1⟩ := HK5.out
        obtain ⟨rfl, rfl⟩ : ao4 = a1 ∧ c4 = d1 := by simpa using e1
        obtain ⟨a2, d2, e2, hr2⟩ := HJ5.out
        obtain ⟨rfl, rfl⟩ : some ⟨G1, 0, none⟩ = a2 ∧ c1 = d2 := by simpa using e2
        rcases hr1 with h0 | ⟨p1, o1, rfl, hp1, hcells⟩
        · omega
        rcases hr2 with h0 | ⟨p2, o2, e3, hp2, hcells'⟩
        · omega
        obtain ⟨rfl, rfl⟩ : G1 = p2 ∧ 0 = o2 := by simpa using e3
        obtain ⟨hc1, hc2⟩ := hcells i hlt
        obtain ⟨hd1, hd2⟩ := hcells' i hlt
        rw [Nat.zero_add] at hd1 hd2
        have hc1' := (hb.cell (p := ⟨p1, o1 + i * 2, none⟩) hp1).trans hc1
        have hc2' := (hb.cell (p := ⟨p1, o1 + i * 2 + 1, none⟩) hp1).trans hc2
        have hd1' := (hb.cell (p := ⟨G1, i * 2, none⟩) hp2).trans hd1
        have hd2' := (hb.cell (p := ⟨G1, i * 2 + 1, none⟩) hp2).trans hd2
        clear hc1 hc2 hcells hd1 hd2 hcells' e1 e2 e3
        generalize (l.getD i (0, 0)).1 = q1 at *
        generalize (l.getD i (0, 0)).2 = q2 at *
        go_wp2_with fail
        go_region_with fail
        all_goals go_wp2_with fail
        all_goals go_roundw
        all_goals first
          | exact ⟨i + 1, by omega, rfl, by first | exact hb | exact st_drew hb⟩
          | (simp [intOf]; omega)
          | (trace_state; fail)
      · have hlti : ¬ (i : Int) < (l.length : Int) := by omega
        have HO6 := hidden (HO5.out.below hb)
        have B6 := hidden (onto B5.out hb)
        clear HK5 HJ5 HO5 B5
        go_wp2_with fail
        refine (itog_any v2 M k wr HO6.out.row).mono ?_
        rintro e w6 ⟨v6, rfl, ho6, hb6⟩
        have HO7 := hidden (HO6.out.below hb6)
        have B7 := hidden (onto B6.out hb6)
        have HI := hidden ho6
        clear hb6 HO6 B6 hb
        obtain ⟨ao6, c6, rfl, -⟩ := ho6
        obtain ⟨N, hN⟩ : ∃ N, (Jn.tog M k).length = N := ⟨_, rfl⟩
        rw [hN]
        have HN := hidden hN
        have hN9 : N ≤ 1000 := by rw [← hN]; exact HT.out
        have HI' : Hid (IOwn w6 wr.heap.size (.slice ao6 N c6) (Jn.tog M k)) := by rw [Hid, ← hN]; exact HI.out
        clear hN HI
        go_wp2_with fail
        go_loopw [14] (fun iv wx => ∃ j : Nat, j ≤ N ∧ iv = .int .i64 j ∧ Below w6.heap.size w6 wx) (fun iv _ => N - (intOf iv).toNat)
        case atStart => exact ⟨0, Nat.zero_le _, rfl, Below.refl _ _⟩
        case round =>
          obtain ⟨j, hjl, rfl, hb⟩ := hrel
          by_cases hlt2 : j < N
          · have hltj : (j : Int) < (N : Int) := by omega
            obtain ⟨a1, d1, e1, hr1⟩ := HI'.out
            rw [HN.out] at e1 hr1
            obtain ⟨rfl, rfl⟩ : ao6 = a1 ∧ c6 = d1 := by simpa using e1
            rcases hr1 with h0 | ⟨p1, rfl, -, hcells⟩
            · omega
            have hmem : (Jn.tog M k).getD j 0 ∈ Jn.tog M k := by
              rw [List.getD_eq_getElem?_getD, List.getElem?_eq_getElem (by rw [HN.out]; exact hlt2)]; exact List.getElem_mem _
            have hcj := fun W (hW : Below w6.heap.size w6 W) => (hW.cell (p := ⟨p1, j, none⟩) hcells.1).trans (hcells.2.2 j hlt2)
            have HTG := hidden (HDN.out.tog hmem)
            have HGP := hidden HDN.out.here.2.2
            generalize (Jn.tog M k).getD j 0 = y at *
            have hc0 := hcj _ hb
            have HCJ := hidden hcj
            clear hcj hcells e1 hmem
            go_wp2_with fail
            refine (ipers_any v2 M y _ (HO7.out.below hb).row).mono ?_
            rintro e w8 ⟨rfl, hb8⟩
            have b8 := onto hb hb8
            rw [HTG.out.1]
            clear hb8
            go_wp2_with fail
            refine (ipers_any v2 M g _ (HO7.out.below b8).row).mono ?_
            rintro e w9 ⟨rfl, hb9⟩
            have b9 := onto b8 hb9
            rw [HGP.out]
            have hc9 := HCJ.out _ b9
            clear hb9
            generalize stands M k = p at *
            go_wp2_with fail
            refine (itog_any v2 M y _ (HO7.out.below b9).row).mono ?_
            rintro e w10 ⟨v10, rfl, ho10, hb10⟩
            have b10 := onto b9 hb10
            rw [HTG.out.2] at ho10
            have HI10 := hidden ho10
            clear hb10 ho10
            go_wp2_with fail
            refine (same_any v10 (.slice (some ⟨p1, 0, none⟩) N c6) (Jn.tog M k) _ _ w10 HI10.out (HI'.out.below b10) (by rw [HN.out]; omega)).mono ?_
            rintro e w11 ⟨rfl, hb11⟩
            have b11 := onto b10 hb11
            go_wp2_with fail
            go_roundw
            case rel => exact ⟨j + 1, by omega, rfl, b11⟩
            case measure => simp [intOf]; omega
          · have hltj : ¬ (j : Int) < (N : Int) := by omega
            have B8 := hidden (onto B7.out hb)
            go_wp2_with fail
            refine (has_any _ (Jn.tog M k) _ k _ (HI'.out.below hb) (by rw [HN.out]; omega) HDN.out.here.1).mono ?_
            rintro e w8 ⟨rfl, hw8⟩
            have hw9 := hw8.symm
            clear hw8
            subst hw9
            go_wp2_with fail
            refine (has_any _ (Jn.tog M k) _ g _ (HI'.out.below hb) (by rw [HN.out]; omega) HDN.out.here.2.1).mono ?_
            rintro e w8 ⟨rfl, hw8⟩
            have hw9 := hw8.symm
            clear hw8
            subst hw9
            go_wp2_with fail
            go_ret
            exact ⟨rfl, B8.out⟩
  · have hz2 : (doC l k g == 0) = false := by simpa using hz
    generalize doC l k g = cc at *
    go_wp2_with fail
    go_ret
    exact ⟨rfl, B3.out⟩
end Go.Proofs.Ytdnnenklkfkhcaa
