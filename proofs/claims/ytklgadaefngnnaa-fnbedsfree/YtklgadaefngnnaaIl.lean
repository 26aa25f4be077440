/-
  What a move does, the specification's, somebody comes.
-/
import Derived.Test.YtklgadaefngnnaaIj
import Derived.BigQuiet
namespace Go.Proofs.Ytklgadaefngnnaa
open Go.RowKit Hm
set_option linter.unusedVariables false

set_option maxRecDepth 20000 in
set_option maxHeartbeats 4000000 in
theorem sdo_in (ao ao2 : Option Addr) (cap cap2 : Nat) (B : List Bd) (S : List St) (pr sx nd tm : Int) (kb : Nat) (w : World) (h : HRw w (.slice ao B.length cap) (.slice ao2 S.length cap2) B S) (hn : B.length ≤ 200) (hm : S.length ≤ 1000) (hok : mvOk B.length ⟨1, pr, sx, nd, kb, tm⟩ = true) (hlt : late tm S = false) (hpl : thereAt pr S = -1) (hfi : fits B.length S) (hkb : kb < B.length) :
    Calls Try.prog 40 #[.agg #[.slice ao B.length cap, .slice ao2 S.length cap2], .agg #[.int .i64 1, .int .i64 pr, .int .i64 sx, .int .i64 nd, .int .i64 kb, .int .i64 tm]] w fun e w' => ∃ b1 b2 b3 s1 s2 s3, e = .returned (.tuple #[.agg #[.slice b1 b2 b3, .slice s1 s2 s3], .int .i64 (placed B S S ⟨pr, sx, nd, kb, tm, -1⟩).2]) ∧ HNew w' w.heap.size (.slice b1 b2 b3) (.slice s1 s2 s3) B (placed B S S ⟨pr, sx, nd, kb, tm, -1⟩).1 ∧ Below w.heap.size w w' := by
  obtain ⟨i0, hi, hz0, hz1, hz2⟩ := info_parts infoSt
  have HROW := hidden h
  have HC := hidden (fun W (hW : Below w.heap.size w W) => scopy_any ao ao2 B.length cap S.length cap2 B S W (h.below hW) (by omega) (by omega))
  have HM := hidden (smove_any ao ao2 B.length cap S.length cap2 ⟨1, pr, sx, nd, kb, tm⟩)
  unfold aM at HM
  rw [hok] at HM
  have HT := hidden (fun W (hW : Below w.heap.size w W) => sthere_any ao ao2 B.length cap S.length cap2 S pr W (h.below hW).2 (by omega))
  rw [hpl] at HT
  have HLT := hidden hlt
  have HFI := hidden hfi
  clear h hok hlt hpl hfi
  go_enter Try.func40, Try.ntmps40
  go_wp2_with fail
  refine (HC.out _ (by repeat (first | exact Below.refl _ _ | assumption | refine st_drew ?_ | refine st_drewN ?_ _ | refine Below.setCell ?_ (by first | omega | (simp; done) | (simp; omega)) _ | refine Below.alloc ?_ (by first | omega | (simp; done) | (simp; omega)) _))).mono ?_
  rintro e w1 ⟨a1, c1, a2, c2, rfl, hN1, hb1⟩
  simp only [World.size_alloc] at hN1
  have bA1 := onto (show Below w.heap.size w _ from by repeat (first | exact Below.refl _ _ | assumption | refine st_drew ?_ | refine st_drewN ?_ _ | refine Below.setCell ?_ (by first | omega | (simp; done) | (simp; omega)) _ | refine Below.alloc ?_ (by first | omega | (simp; done) | (simp; omega)) _)) hb1
  have z1 := hb1.size
  simp only [World.size_alloc] at z1
  have BP := (Bx.start w _ _ _ _ _ _ _ _).below hb1 (by simp)
  have bX : Below w1.heap.size w1 (w1.alloc (.cells #[.slice a1 B.length c1, .slice a2 S.length c2] 27)) := (Below.refl _ _).alloc (Nat.le_refl _) _
  have bAX := onto bA1 bX
  have B1 := BP.below bX (by omega)
  have N1 := hidden (hN1.below bX)
  have O1 := Ob.start w1 (.slice a1 B.length c1) (.slice a2 S.length c2)
  have zX : w1.heap.size < (w1.alloc (.cells #[.slice a1 B.length c1, .slice a2 S.length c2] 27)).heap.size := by simp
  clear bX BP hN1 hb1
  generalize hWX : (w1.alloc (.cells #[.slice a1 B.length c1, .slice a2 S.length c2] 27)) = WX at *
  have ⟨q1h0, q1h1, q1m0, q1m1, q1m2, q1m3, q1m4, q1m5, q1r0, q1r1, q1f0, q1f1, q1ty⟩ := B1
  have ⟨ob10, ob11, ob1f0, ob1f1, ob1ty⟩ := O1
  go_upto_region 6 with (first | (go_at_call 80; refine (HM.out _).mono ?_; rintro e w2 ⟨rfl, hb2⟩; have bA2 := onto bAX hb2; have z2 := hb2.size; have B2 := B1.below hb2 (by omega); have O2 := O1.below hb2 (by omega); have N2 := hidden (N1.out.below hb2); have ⟨q2h0, q2h1, q2m0, q2m1, q2m2, q2m3, q2m4, q2m5, q2r0, q2r1, q2f0, q2f1, q2ty⟩ := B2; have ⟨ob20, ob21, ob2f0, ob2f1, ob2ty⟩ := O2) | (go_at_call 81; refine (HT.out _ bA2).mono ?_; rintro e w3 ⟨rfl, hb3⟩; have bA3 := onto bA2 hb3; have z3 := hb3.size; have B3 := B2.below hb3 (by omega); have O3 := O2.below hb3 (by omega); have N3 := hidden (N2.out.below hb3); have ⟨q3h0, q3h1, q3m0, q3m1, q3m2, q3m3, q3m4, q3m5, q3r0, q3r1, q3f0, q3f1, q3ty⟩ := B3; have ⟨ob30, ob31, ob3f0, ob3f1, ob3ty⟩ := O3) | fail)
  go_cut [37] (fun v wx => (∃ nn, wx = w3.drewN nn) ∧ v = .bool false)
  case first =>
    rcases Nat.eq_zero_or_pos S.length with q | q
    · have HR : Hid (late tm S = false) := by unfold late; rw [Hid, decide_eq_false (show ¬ 0 < S.length by omega)]; rfl
      have hd : decide (0 < S.length) = false := decide_eq_false (show ¬ 0 < S.length by omega)
      have HL : Hid (false = false) := by first | exact (HLT.out.symm.trans HR.out) | fail
      clear q HR
      go_quiet (fail)
      go_wp2_with fail
      go_meet
      exact ⟨⟨_, rfl⟩, by first | rfl | rw [HL.out]⟩
    · obtain ⟨j, hj⟩ : ∃ j, S.length = j + 1 := ⟨S.length - 1, by omega⟩
      obtain ⟨y, hy⟩ := some_at S j (by omega)
      obtain ⟨gy, offy, rfl, hgy, -, -, -, -, cy, -⟩ := stay_cells (HROW.out.below bA3).2 hy
      have HR : Hid (late tm S = decide (tm < y.frm)) := by
        unfold late
        have e : S.getD (S.length - 1) default = y := by rw [hj, Nat.add_sub_cancel, List.getD_eq_getElem?_getD, hy]; rfl
        rw [Hid, e, decide_eq_true q]; rfl
      have hd : decide (0 < S.length) = true := decide_eq_true (show 0 < S.length by omega)
      have k0 : (S.length : Int) - 1 = (j : Int) := by omega
      have k1 : (0 : Int) ≤ (j : Int) := by omega
      have k2 : (j : Int) < (S.length : Int) := by omega
      have HL : Hid (decide (tm < y.frm) = false) := HR.out.symm.trans HLT.out
      clear q hj hy HR
      go_quiet (fail)
      go_wp2_with fail
      go_meet
      exact ⟨⟨_, rfl⟩, by first | (rw [HL.out]; done) | rw [← HL.out]⟩
  case rest =>
    obtain ⟨⟨nn, rfl⟩, rfl⟩ := hcut
    have b4 : Below w3.heap.size w3 (w3.drewN nn) := st_drewN (Below.refl _ _) _
    have bA4 := onto bA3 b4
    have z4 := b4.size
    have B4 := B3.below b4 (by omega)
    have O4 := O3.below b4 (by omega)
    have N4 := hidden (N3.out.below b4)
    clear b4
    generalize w3.drewN nn = w4 at *
    have ⟨q4h0, q4h1, q4m0, q4m1, q4m2, q4m3, q4m4, q4m5, q4r0, q4r1, q4f0, q4f1, q4ty⟩ := B4
    have ⟨ob40, ob41, ob4f0, ob4f1, ob4ty⟩ := O4
    have b5 : Below w4.heap.size w4 (w4.alloc (.cells #[.int .i64 pr, .int .i64 sx, .int .i64 nd, .int .i64 kb, .int .i64 tm, .int .i64 (-1)] 36)) := (Below.refl _ _).alloc (Nat.le_refl _) _
    have bA5 := onto bA4 b5
    have B5 := B4.below b5 (by omega)
    have O5 := O4.below b5 (by omega)
    have N5 := hidden (N4.out.below b5)
    have nb0 : (w4.alloc (.cells #[.int .i64 pr, .int .i64 sx, .int .i64 nd, .int .i64 kb, .int .i64 tm, .int .i64 (-1)] 36)).cell? ⟨w4.heap.size, 0, none⟩ = some (.int .i64 pr) := by simp [go_sem]
    have nb1 : (w4.alloc (.cells #[.int .i64 pr, .int .i64 sx, .int .i64 nd, .int .i64 kb, .int .i64 tm, .int .i64 (-1)] 36)).cell? ⟨w4.heap.size, 1, none⟩ = some (.int .i64 sx) := by simp [go_sem]
    have nb2 : (w4.alloc (.cells #[.int .i64 pr, .int .i64 sx, .int .i64 nd, .int .i64 kb, .int .i64 tm, .int .i64 (-1)] 36)).cell? ⟨w4.heap.size, 2, none⟩ = some (.int .i64 nd) := by simp [go_sem]
    have nb3 : (w4.alloc (.cells #[.int .i64 pr, .int .i64 sx, .int .i64 nd, .int .i64 kb, .int .i64 tm, .int .i64 (-1)] 36)).cell? ⟨w4.heap.size, 3, none⟩ = some (.int .i64 kb) := by simp [go_sem]
    have nb4 : (w4.alloc (.cells #[.int .i64 pr, .int .i64 sx, .int .i64 nd, .int .i64 kb, .int .i64 tm, .int .i64 (-1)] 36)).cell? ⟨w4.heap.size, 4, none⟩ = some (.int .i64 tm) := by simp [go_sem]
    have nb5 : (w4.alloc (.cells #[.int .i64 pr, .int .i64 sx, .int .i64 nd, .int .i64 kb, .int .i64 tm, .int .i64 (-1)] 36)).cell? ⟨w4.heap.size, 5, none⟩ = some (.int .i64 (-1)) := by simp [go_sem]
    have nf1 : (w4.alloc (.cells #[.int .i64 pr, .int .i64 sx, .int .i64 nd, .int .i64 kb, .int .i64 tm, .int .i64 (-1)] 36)).frozen? ⟨w4.heap.size, 1, none⟩ = false := by simp [go_sem]
    have nf2 : (w4.alloc (.cells #[.int .i64 pr, .int .i64 sx, .int .i64 nd, .int .i64 kb, .int .i64 tm, .int .i64 (-1)] 36)).frozen? ⟨w4.heap.size, 2, none⟩ = false := by simp [go_sem]
    have z5 : w4.heap.size < (w4.alloc (.cells #[.int .i64 pr, .int .i64 sx, .int .i64 nd, .int .i64 kb, .int .i64 tm, .int .i64 (-1)] 36)).heap.size := by simp
    clear b5
    generalize hW5 : (w4.alloc (.cells #[.int .i64 pr, .int .i64 sx, .int .i64 nd, .int .i64 kb, .int .i64 tm, .int .i64 (-1)] 36)) = W5 at *
    have ⟨q5h0, q5h1, q5m0, q5m1, q5m2, q5m3, q5m4, q5m5, q5r0, q5r1, q5f0, q5f1, q5ty⟩ := B5
    have ⟨ob50, ob51, ob5f0, ob5f1, ob5ty⟩ := O5
    have HLEN : Hid (S.length ≤ 1000) := hm
    have HFR := hidden (fun W (hW : Below W5.heap.size W5 W) => l3free_any a1 a2 B.length c1 S.length c2 B S sx nd W (N5.out.below hW).own.row (by omega) (Nat.le_trans HLEN.out (by omega)) HFI.out)
    have HLE : Hid ((freeL B S sx nd).length ≤ 1048576) := Nat.le_trans (freeTo_len _ _ _ _ _) (by omega)
    have HME : Hid (decide ((kb : Int) ∈ freeL B S sx nd) = isFr B S sx nd kb) := by
      rw [Hid]
      cases hq : isFr B S sx nd kb with
      | false => exact decide_eq_false (fun q => by rw [(mem_free.1 q).2] at hq; cases hq)
      | true => exact decide_eq_true (mem_free.2 ⟨⟨by omega, by omega⟩, hq⟩)
    obtain ⟨y2, y2f⟩ := far (show w.heap.size + 1 + 1 ≠ w1.heap.size by omega)
    cases hq : isFr B S sx nd kb with
    | false =>
      have EP : Hid (placed B S S ⟨pr, sx, nd, kb, tm, -1⟩ = (S, 6)) := by unfold placed; rw [Hid, if_neg (by show ¬ isFr B S sx nd kb = true; rw [hq]; decide)]
      have HHAS := hidden (fun ad c W (hW : Rw 1 csI W (.slice ad (freeL B S sx nd).length c) (freeL B S sx nd)) => shas_any ad _ c _ kb W hW HLE.out)
      rw [HME.out, hq] at HHAS
      clear HME HLE hq
      generalize freeL B S sx nd = l at *
      go_upto_region 19 with fail
      go_region_held3 (fun w' => w'.cell? ⟨w1.heap.size, 0, none⟩ = some (.slice a1 B.length c1) ∧ w'.cell? ⟨w1.heap.size, 1, none⟩ = some (.slice a2 S.length c2) ∧ w'.cell? ⟨w4.heap.size, 1, none⟩ = some (.int .i64 sx) ∧ w'.cell? ⟨w4.heap.size, 2, none⟩ = some (.int .i64 nd) ∧ w'.cell? ⟨w.heap.size + 1, 4, none⟩ = some (.int .i64 kb)) (go_keep) (first | (go_at_call 54; refine (HFR.out _ (by repeat (first | exact Below.refl _ _ | refine st_drew ?_ | refine st_drewN ?_ _ | refine Below.setCell ?_ (by first | omega | (simp; done) | (simp; omega)) _ | refine Below.alloc ?_ (by first | omega | (simp; done) | (simp; omega)) _))).mono ?_; rintro e wF ⟨vF, rfl, hOF, hbF⟩; have hOF2 := hOF; obtain ⟨adF, cF, hvF, -⟩ := hOF2; subst hvF; have bF := (show Below W5.heap.size W5 _ from by repeat (first | exact Below.refl _ _ | refine st_drew ?_ | refine st_drewN ?_ _ | refine Below.setCell ?_ (by first | omega | (simp; done) | (simp; omega)) _ | refine Below.alloc ?_ (by first | omega | (simp; done) | (simp; omega)) _)).trans (hbF.mono (by simp)); have bAF := onto bA5 bF; have zF := bF.size; have BF := B5.below bF (by omega); have OF := O5.below bF (by omega); have NF := hidden (N5.out.below bF); have nF0 := (bF.cell (p := ⟨w4.heap.size, 0, none⟩) z5).trans nb0; have nF1 := (bF.cell (p := ⟨w4.heap.size, 1, none⟩) z5).trans nb1; have nF2 := (bF.cell (p := ⟨w4.heap.size, 2, none⟩) z5).trans nb2; have nF3 := (bF.cell (p := ⟨w4.heap.size, 3, none⟩) z5).trans nb3; have nF4 := (bF.cell (p := ⟨w4.heap.size, 4, none⟩) z5).trans nb4; have nF5 := (bF.cell (p := ⟨w4.heap.size, 5, none⟩) z5).trans nb5; have ⟨qFh0, qFh1, qFm0, qFm1, qFm2, qFm3, qFm4, qFm5, qFr0, qFr1, qFf0, qFf1, qFty⟩ := BF; have ⟨obF0, obF1, obFf0, obFf1, obFty⟩ := OF) | (go_at_call 82; refine (HHAS.out adF cF _ (hOF.row.below (by repeat (first | exact Below.refl _ _ | refine st_drew ?_ | refine st_drewN ?_ _ | refine Below.setCell ?_ (by first | omega | (simp; done) | (simp; omega)) _ | refine Below.alloc ?_ (by first | omega | (simp; done) | (simp; omega)) _)))).mono ?_; rintro e wH ⟨rfl, rfl⟩) | fail)
      all_goals go_wp2_with (first | (go_at_call 79; refine (HC.out _ (by repeat (first | exact Below.refl _ _ | assumption | refine st_drew ?_ | refine st_drewN ?_ _ | refine Below.setCell ?_ (by first | omega | (simp; done) | (simp; omega)) _ | refine Below.alloc ?_ (by first | omega | (simp; done) | (simp; omega)) _))).mono ?_; rintro e wC ⟨d1, e1, d2, e2, rfl, hNC, hbC⟩; (try simp only [World.size_drew] at hNC); have bAC := onto (show Below w.heap.size w _ from by repeat (first | exact Below.refl _ _ | assumption | refine st_drew ?_ | refine st_drewN ?_ _ | refine Below.setCell ?_ (by first | omega | (simp; done) | (simp; omega)) _ | refine Below.alloc ?_ (by first | omega | (simp; done) | (simp; omega)) _)) hbC; have zC := hbC.size; (try simp only [World.size_drew] at zC); have BC := (BF.below (show Below wF.heap.size wF _ from by repeat (first | exact Below.refl _ _ | refine st_drew ?_ | refine st_drewN ?_ _ | refine Below.setCell ?_ (by first | omega | (simp; done) | (simp; omega)) _ | refine Below.alloc ?_ (by first | omega | (simp; done) | (simp; omega)) _)) (by omega)).below hbC (by first | omega | (simp; omega) | fail); have ⟨qCh0, qCh1, qCm0, qCm1, qCm2, qCm3, qCm4, qCm5, qCr0, qCr1, qCf0, qCf1, qCty⟩ := BC) | fail)
      all_goals exact bodyPost_ret (v := .tuple #[.agg #[.slice d1 B.length e1, .slice d2 S.length e2], .int .i64 6]) (by simp [results, Try.results40, go_sem, qCr0, qCr1]) rfl ⟨_, _, _, _, _, _, by rw [EP.out], by rw [EP.out]; exact ((hNC.base_le (by omega)).ty qCty (by decide) (by decide) _).ty (qCty.setCell _ _) (by decide) (by decide) _, (bAC.setCell (p := ⟨w.heap.size + 1 + 1, 0, none⟩) (by show w.heap.size ≤ w.heap.size + 1 + 1; omega) _).setCell (p := ⟨w.heap.size + 1 + 1, 1, none⟩) (by show w.heap.size ≤ w.heap.size + 1 + 1; omega) _⟩
    | true =>
      have HHAS := hidden (fun ad c W (hW : Rw 1 csI W (.slice ad (freeL B S sx nd).length c) (freeL B S sx nd)) => shas_any ad _ c _ kb W hW HLE.out)
      rw [HME.out, hq] at HHAS
      have HQ := hidden hq
      clear HME HLE hq
      generalize freeL B S sx nd = l at *
      by_cases hful : S.length = 1000
      · have EP : Hid (placed B S S ⟨pr, sx, nd, kb, tm, -1⟩ = (S, 7)) := by unfold placed; rw [Hid, if_pos HQ.out, if_pos (hful)]
        have hful2 : (((S.length : Nat) : Int) == 1000) = true := by simp; omega
        clear hful HQ
        go_upto_region 19 with fail
        go_region_held3 (fun w' => w'.cell? ⟨w1.heap.size, 0, none⟩ = some (.slice a1 B.length c1) ∧ w'.cell? ⟨w1.heap.size, 1, none⟩ = some (.slice a2 S.length c2) ∧ w'.cell? ⟨w4.heap.size, 1, none⟩ = some (.int .i64 sx) ∧ w'.cell? ⟨w4.heap.size, 2, none⟩ = some (.int .i64 nd) ∧ w'.cell? ⟨w.heap.size + 1, 4, none⟩ = some (.int .i64 kb)) (go_keep) (first | (go_at_call 54; refine (HFR.out _ (by repeat (first | exact Below.refl _ _ | refine st_drew ?_ | refine st_drewN ?_ _ | refine Below.setCell ?_ (by first | omega | (simp; done) | (simp; omega)) _ | refine Below.alloc ?_ (by first | omega | (simp; done) | (simp; omega)) _))).mono ?_; rintro e wF ⟨vF, rfl, hOF, hbF⟩; have hOF2 := hOF; obtain ⟨adF, cF, hvF, -⟩ := hOF2; subst hvF; have bF := (show Below W5.heap.size W5 _ from by repeat (first | exact Below.refl _ _ | refine st_drew ?_ | refine st_drewN ?_ _ | refine Below.setCell ?_ (by first | omega | (simp; done) | (simp; omega)) _ | refine Below.alloc ?_ (by first | omega | (simp; done) | (simp; omega)) _)).trans (hbF.mono (by simp)); have bAF := onto bA5 bF; have zF := bF.size; have BF := B5.below bF (by omega); have OF := O5.below bF (by omega); have NF := hidden (N5.out.below bF); have nF0 := (bF.cell (p := ⟨w4.heap.size, 0, none⟩) z5).trans nb0; have nF1 := (bF.cell (p := ⟨w4.heap.size, 1, none⟩) z5).trans nb1; have nF2 := (bF.cell (p := ⟨w4.heap.size, 2, none⟩) z5).trans nb2; have nF3 := (bF.cell (p := ⟨w4.heap.size, 3, none⟩) z5).trans nb3; have nF4 := (bF.cell (p := ⟨w4.heap.size, 4, none⟩) z5).trans nb4; have nF5 := (bF.cell (p := ⟨w4.heap.size, 5, none⟩) z5).trans nb5; have ⟨qFh0, qFh1, qFm0, qFm1, qFm2, qFm3, qFm4, qFm5, qFr0, qFr1, qFf0, qFf1, qFty⟩ := BF; have ⟨obF0, obF1, obFf0, obFf1, obFty⟩ := OF) | (go_at_call 82; refine (HHAS.out adF cF _ (hOF.row.below (by repeat (first | exact Below.refl _ _ | refine st_drew ?_ | refine st_drewN ?_ _ | refine Below.setCell ?_ (by first | omega | (simp; done) | (simp; omega)) _ | refine Below.alloc ?_ (by first | omega | (simp; done) | (simp; omega)) _)))).mono ?_; rintro e wH ⟨rfl, rfl⟩) | fail)
        all_goals go_wp2_with (first | (go_at_call 79; refine (HC.out _ (by repeat (first | exact Below.refl _ _ | assumption | refine st_drew ?_ | refine st_drewN ?_ _ | refine Below.setCell ?_ (by first | omega | (simp; done) | (simp; omega)) _ | refine Below.alloc ?_ (by first | omega | (simp; done) | (simp; omega)) _))).mono ?_; rintro e wC ⟨d1, e1, d2, e2, rfl, hNC, hbC⟩; (try simp only [World.size_drew] at hNC); have bAC := onto (show Below w.heap.size w _ from by repeat (first | exact Below.refl _ _ | assumption | refine st_drew ?_ | refine st_drewN ?_ _ | refine Below.setCell ?_ (by first | omega | (simp; done) | (simp; omega)) _ | refine Below.alloc ?_ (by first | omega | (simp; done) | (simp; omega)) _)) hbC; have zC := hbC.size; (try simp only [World.size_drew] at zC); have BC := (BF.below (show Below wF.heap.size wF _ from by repeat (first | exact Below.refl _ _ | refine st_drew ?_ | refine st_drewN ?_ _ | refine Below.setCell ?_ (by first | omega | (simp; done) | (simp; omega)) _ | refine Below.alloc ?_ (by first | omega | (simp; done) | (simp; omega)) _)) (by omega)).below hbC (by first | omega | (simp; omega) | fail); have ⟨qCh0, qCh1, qCm0, qCm1, qCm2, qCm3, qCm4, qCm5, qCr0, qCr1, qCf0, qCf1, qCty⟩ := BC) | fail)
        all_goals exact bodyPost_ret (v := .tuple #[.agg #[.slice d1 B.length e1, .slice d2 S.length e2], .int .i64 7]) (by simp [results, Try.results40, go_sem, qCr0, qCr1]) rfl ⟨_, _, _, _, _, _, by rw [EP.out], by rw [EP.out]; exact ((hNC.base_le (by omega)).ty qCty (by decide) (by decide) _).ty (qCty.setCell _ _) (by decide) (by decide) _, (bAC.setCell (p := ⟨w.heap.size + 1 + 1, 0, none⟩) (by show w.heap.size ≤ w.heap.size + 1 + 1; omega) _).setCell (p := ⟨w.heap.size + 1 + 1, 1, none⟩) (by show w.heap.size ≤ w.heap.size + 1 + 1; omega) _⟩
      · have EP : Hid (placed B S S ⟨pr, sx, nd, kb, tm, -1⟩ = (S ++ [⟨pr, sx, nd, kb, tm, -1⟩], 0)) := by unfold placed; rw [Hid, if_pos HQ.out, if_neg (hful)]
        have hful2 : (((S.length : Nat) : Int) == 1000) = false := by simp; omega
        clear hful HQ
        go_upto_region 19 with fail
        go_region_held3 (fun w' => w'.cell? ⟨w1.heap.size, 0, none⟩ = some (.slice a1 B.length c1) ∧ w'.cell? ⟨w1.heap.size, 1, none⟩ = some (.slice a2 S.length c2) ∧ w'.cell? ⟨w4.heap.size, 1, none⟩ = some (.int .i64 sx) ∧ w'.cell? ⟨w4.heap.size, 2, none⟩ = some (.int .i64 nd) ∧ w'.cell? ⟨w.heap.size + 1, 4, none⟩ = some (.int .i64 kb)) (go_keep) (first | (go_at_call 54; refine (HFR.out _ (by repeat (first | exact Below.refl _ _ | refine st_drew ?_ | refine st_drewN ?_ _ | refine Below.setCell ?_ (by first | omega | (simp; done) | (simp; omega)) _ | refine Below.alloc ?_ (by first | omega | (simp; done) | (simp; omega)) _))).mono ?_; rintro e wF ⟨vF, rfl, hOF, hbF⟩; have hOF2 := hOF; obtain ⟨adF, cF, hvF, -⟩ := hOF2; subst hvF; have bF := (show Below W5.heap.size W5 _ from by repeat (first | exact Below.refl _ _ | refine st_drew ?_ | refine st_drewN ?_ _ | refine Below.setCell ?_ (by first | omega | (simp; done) | (simp; omega)) _ | refine Below.alloc ?_ (by first | omega | (simp; done) | (simp; omega)) _)).trans (hbF.mono (by simp)); have bAF := onto bA5 bF; have zF := bF.size; have BF := B5.below bF (by omega); have OF := O5.below bF (by omega); have NF := hidden (N5.out.below bF); have nF0 := (bF.cell (p := ⟨w4.heap.size, 0, none⟩) z5).trans nb0; have nF1 := (bF.cell (p := ⟨w4.heap.size, 1, none⟩) z5).trans nb1; have nF2 := (bF.cell (p := ⟨w4.heap.size, 2, none⟩) z5).trans nb2; have nF3 := (bF.cell (p := ⟨w4.heap.size, 3, none⟩) z5).trans nb3; have nF4 := (bF.cell (p := ⟨w4.heap.size, 4, none⟩) z5).trans nb4; have nF5 := (bF.cell (p := ⟨w4.heap.size, 5, none⟩) z5).trans nb5; have ⟨qFh0, qFh1, qFm0, qFm1, qFm2, qFm3, qFm4, qFm5, qFr0, qFr1, qFf0, qFf1, qFty⟩ := BF; have ⟨obF0, obF1, obFf0, obFf1, obFty⟩ := OF) | (go_at_call 82; refine (HHAS.out adF cF _ (hOF.row.below (by repeat (first | exact Below.refl _ _ | refine st_drew ?_ | refine st_drewN ?_ _ | refine Below.setCell ?_ (by first | omega | (simp; done) | (simp; omega)) _ | refine Below.alloc ?_ (by first | omega | (simp; done) | (simp; omega)) _)))).mono ?_; rintro e wH ⟨rfl, rfl⟩) | fail)
        all_goals have bs : Below wF.heap.size wF (wF.alloc (.cells #[.int .i64 pr, .int .i64 sx, .int .i64 nd, .int .i64 kb, .int .i64 tm, .int .i64 (-1)] 36)) := (Below.refl _ _).alloc (Nat.le_refl _) _
        all_goals have n3a : HNew (wF.alloc (.cells #[.int .i64 pr, .int .i64 sx, .int .i64 nd, .int .i64 kb, .int .i64 tm, .int .i64 (-1)] 36)) (w.heap.size + 1 + 1 + 1) (.slice a1 B.length c1) (.slice a2 S.length c2) B S := ⟨NF.out.1.alloc _, NF.out.2.alloc _⟩
        all_goals have to1 : IsT (wF.alloc (.cells #[.int .i64 pr, .int .i64 sx, .int .i64 nd, .int .i64 kb, .int .i64 tm, .int .i64 (-1)] 36)) w1.heap.size 27 := obFty.below bs (by omega)
        all_goals have to2 : IsT (wF.alloc (.cells #[.int .i64 pr, .int .i64 sx, .int .i64 nd, .int .i64 kb, .int .i64 tm, .int .i64 (-1)] 36)) (w.heap.size + 1 + 1) 27 := qFty.below bs (by omega)
        all_goals go_wp2_with (first | (at_builtin; refine wpList_append_own _ rfl (.tmp 111) (.tmp 113) 25 rfl (w.heap.size + 1 + 1 + 1) 36 i0 (.agg #[.int .i64 0, .int .i64 0, .int .i64 0, .int .i64 0, .int .i64 0, .int .i64 0]) 6 48 Try.underlying25 hi hz0 hz1 hz2 rfl (by decide) (.slice a2 S.length c2) S.length (cellsL 6 csS S) rfl n3a.2 ⟨wF.heap.size, 0, none⟩ 1 1 [.int .i64 pr, .int .i64 sx, .int .i64 nd, .int .i64 kb, .int .i64 tm, .int .i64 (-1)] rfl rfl (cell_six_new _ _ _ _ _ _ _ _) (six_one _ _ _ _ _ _) (by have := HLEN.out; unfold maxLen; omega) (by have := HLEN.out; omega) (by simp; omega) ?_; intro v4 wA ho4 hg4 hnn4; obtain ⟨ad4, c4, rfl⟩ := own_slice ho4; have bA := (onto bAF bs).grown hg4 (by simp; omega) (fun k hk => Nat.le_trans (by omega) (own_lt n3a.2 k hk)); have nA := own_grown n3a.1 n3a.2 (by decide) hg4; have HG1 := hidden (fun k hk => ne_ty (own_T n3a.2 k hk) to1 (by decide)); have HG2 := hidden (fun k hk => ne_ty (own_T n3a.2 k hk) to2 (by decide)); have t1 := IsT.grown to1 hg4 HG1.out; have t2 := IsT.grown to2 hg4 HG2.out; obtain ⟨g0, f0⟩ := forall_and.1 (gcell hg4 (b := w1.heap.size) (by simp; omega) HG1.out); obtain ⟨g2, f2⟩ := forall_and.1 (gcell hg4 (b := w.heap.size + 1 + 1) (by simp; omega) HG2.out); have dA0 := (g0 0).trans ((bs.cell (p := ⟨w1.heap.size, 0, none⟩) (by show w1.heap.size < wF.heap.size; omega)).trans obF0); have dA1 := (g0 1).trans ((bs.cell (p := ⟨w1.heap.size, 1, none⟩) (by show w1.heap.size < wF.heap.size; omega)).trans obF1); have dR0 := (g2 0).trans ((bs.cell (p := ⟨w.heap.size + 1 + 1, 0, none⟩) (by show w.heap.size + 1 + 1 < wF.heap.size; omega)).trans qFr0); have dR1 := (g2 1).trans ((bs.cell (p := ⟨w.heap.size + 1 + 1, 1, none⟩) (by show w.heap.size + 1 + 1 < wF.heap.size; omega)).trans qFr1); have kA0 := (f0 0).trans ((bs.frozen (p := ⟨w1.heap.size, 0, none⟩) (by show w1.heap.size < wF.heap.size; omega)).trans obFf0); have kA1 := (f0 1).trans ((bs.frozen (p := ⟨w1.heap.size, 1, none⟩) (by show w1.heap.size < wF.heap.size; omega)).trans obFf1); have kR0 := (f2 0).trans ((bs.frozen (p := ⟨w.heap.size + 1 + 1, 0, none⟩) (by show w.heap.size + 1 + 1 < wF.heap.size; omega)).trans qFf0); have kR1 := (f2 1).trans ((bs.frozen (p := ⟨w.heap.size + 1 + 1, 1, none⟩) (by show w.heap.size + 1 + 1 < wF.heap.size; omega)).trans qFf1); clear g0 g2 f0 f2) | fail)
        all_goals have nZ : HNew wA (w.heap.size + 1 + 1 + 1) (.slice a1 B.length c1) (.slice ad4 (S.length + 1) c4) B (S ++ [⟨pr, sx, nd, kb, tm, -1⟩]) := ⟨nA, by rw [cells_stay, List.length_append]; exact ho4⟩
        all_goals exact bodyPost_ret (v := .tuple #[.agg #[.slice a1 B.length c1, .slice ad4 (S.length + 1) c4], .int .i64 0]) (by simp [results, Try.results40, go_sem, y2, dR0, dR1]) rfl ⟨_, _, _, _, _, _, by rw [EP.out], by rw [EP.out]; exact (((nZ.base_le (by omega)).ty t1 (by decide) (by decide) _).ty (t2.setCell _ _) (by decide) (by decide) _).ty ((t2.setCell _ _).setCell _ _) (by decide) (by decide) _, ((bA.setCell (p := ⟨w1.heap.size, 1, none⟩) (by show w.heap.size ≤ w1.heap.size; omega) _).setCell (p := ⟨w.heap.size + 1 + 1, 0, none⟩) (by show w.heap.size ≤ w.heap.size + 1 + 1; omega) _).setCell (p := ⟨w.heap.size + 1 + 1, 1, none⟩) (by show w.heap.size ≤ w.heap.size + 1 + 1; omega) _⟩

end Go.Proofs.Ytklgadaefngnnaa
