/-
  Minutes, the program's and the specification's.
-/
import Derived.Test.YtmigcbbjejbcgabHj
import Derived.Test.YtmigcbbjejbcgabHp
namespace Go.Proofs.Ytmigcbbjejbcgab
open Go.RowKit Hm
set_option linter.unusedVariables false

set_option maxRecDepth 20000 in
set_option maxHeartbeats 1000000 in
theorem endby_any (s : St) (t : Int) (w : World) :
    Calls Try.prog 53 #[aS s, .int .i64 t] w fun e w' => e = .returned (.int .i64 (endBy t s.til)) ∧ Below w.heap.size w w' := by
  unfold aS endBy
  by_cases h1 : s.til = -1
  · rw [if_pos h1, h1]
    go_enter Try.func53, Try.ntmps53
    go_wp2
    go_ret
    exact ⟨rfl, by repeat (first | exact Below.refl _ _ | assumption | refine st_drew ?_ | refine st_drewN ?_ _ | refine Below.setCell ?_ (by first | omega | (simp; done) | (simp; omega)) _ | refine Below.alloc ?_ (by first | omega | (simp; done) | (simp; omega)) _)⟩
  · rw [if_neg h1]
    have n1 : (s.til == -1) = false := by simpa using h1
    by_cases h2 : s.til < t
    · rw [if_pos h2]
      go_enter Try.func53, Try.ntmps53
      go_wp2
      all_goals go_ret
      all_goals exact ⟨ret_int (by omega), by repeat (first | exact Below.refl _ _ | assumption | refine st_drew ?_ | refine st_drewN ?_ _ | refine Below.setCell ?_ (by first | omega | (simp; done) | (simp; omega)) _ | refine Below.alloc ?_ (by first | omega | (simp; done) | (simp; omega)) _)⟩
    · rw [if_neg h2]
      go_enter Try.func53, Try.ntmps53
      go_wp2
      all_goals go_ret
      all_goals exact ⟨ret_int (by omega), by repeat (first | exact Below.refl _ _ | assumption | refine st_drew ?_ | refine st_drewN ?_ _ | refine Below.setCell ?_ (by first | omega | (simp; done) | (simp; omega)) _ | refine Below.alloc ?_ (by first | omega | (simp; done) | (simp; omega)) _)⟩

set_option maxRecDepth 20000 in
set_option maxHeartbeats 4000000 in
theorem imin_any (ao ao2 : Option Addr) (n cap m cap2 : Nat) (B : List Bd) (S : List St) (p t : Int) (w : World) (h : HRw w (.slice ao n cap) (.slice ao2 m cap2) B S) :
    Calls Try.prog 21 #[.agg #[.slice ao n cap, .slice ao2 m cap2], .int .i64 p, .int .i64 t] w fun e w' => e = .returned (.int .i64 (minutes B S p t)) ∧ Below w.heap.size w w' := by
  have HH := hidden h
  have HS := hidden h.2
  obtain rfl := h.1.len
  obtain rfl := h.2.len
  have hOK := hidden (fun W (hW : Below w.heap.size w W) => iok_any ao ao2 B.length cap S.length cap2 B S W (HH.out.below hW))
  have hT := itime_any t
  have hb0 : Below w.heap.size w (w.alloc (.cells #[.slice ao B.length cap, .slice ao2 S.length cap2] 27)) := (Below.refl _ _).alloc (Nat.le_refl _) _
  cases hk : okB B S with
  | false =>
    have HR : Hid (minutes B S p t = -1) := by unfold minutes; rw [Hid, hk]; rfl
    rw [hk] at hOK
    clear h
    go_enter Try.func21, Try.ntmps21
    go_wp2_with fail
    refine (hOK.out _ hb0).mono ?_
    rintro e w1 ⟨rfl, hb1⟩
    have b1 := onto hb0 hb1
    go_wp2_with fail
    go_ret
    exact ⟨ret_int HR.out.symm, b1⟩
  | true =>
    rw [hk] at hOK
    cases hk2 : tm t with
    | false =>
      have HR : Hid (minutes B S p t = -1) := by unfold minutes; rw [Hid, hk, hk2]; rfl
      rw [hk2] at hT
      clear h
      go_enter Try.func21, Try.ntmps21
      go_wp2_with fail
      refine (hOK.out _ hb0).mono ?_
      rintro e w1 ⟨rfl, hb1⟩
      have b1 := onto hb0 hb1
      go_wp2_with (go_at_call 52; refine (hT _).mono ?_; rintro e w2 ⟨rfl, rfl⟩)
      go_ret
      exact ⟨ret_int HR.out.symm, b1⟩
    | true =>
      have HR : Hid (minutes B S p t = minsL p t S) := by unfold minutes; rw [Hid, hk, hk2]; rfl
      rw [hk2] at hT
      have hok := ok_of hk
      have hl2 := hok.2.1
      have t1 := (tm_iff.1 hk2).1
      have t2 := (tm_iff.1 hk2).2
      have HST := hidden hok.2.2.2.1
      clear h hk hk2 hok
      go_enter Try.func21, Try.ntmps21
      go_wp2_with fail
      refine (hOK.out _ hb0).mono ?_
      rintro e w1 ⟨rfl, hb1⟩
      have b1 := onto hb0 hb1
      have d1 : w1.cell? ⟨w.heap.size, 1, none⟩ = some (.slice ao2 S.length cap2) := ((bcell hb1).1 _ _ (by first | omega | (simp; done) | (simp; omega))).trans (by simp [go_sem])
      go_wp2_with (go_at_call 52; refine (hT _).mono ?_; rintro e w2 ⟨rfl, rfl⟩)
      clear hOK hT d1 hb1
      go_loopw [7, 21] (fun sv iv wr => ∃ i : Nat, i ≤ S.length ∧ iv = .int .i64 i ∧ sv = .int .i64 (minsL p t (S.take i)) ∧ Below w.heap.size w wr) (fun _ iv _ => S.length - (intOf iv).toNat)
      case atStart => exact ⟨0, Nat.zero_le _, rfl, rfl, b1⟩
      case round =>
        clear b1
        obtain ⟨i, hi, rfl, rfl, hb⟩ := hrel
        have hsz := hb.size
        by_cases hlt : i < S.length
        · have hlti : (i : Int) < (S.length : Int) := by omega
          obtain ⟨x, hx⟩ := some_at S i hlt
          obtain ⟨g, off, rfl, hg, c0, c1, c2, c3, c4, c5⟩ := stay_cells (HS.out.below hb) hx
          have HT := hidden (take_snoc hx)
          have hbd := mins_take HST.out (p := p) t2 i
          have hsn : minsL p t (S.take (i + 1)) = minsL p t (S.take i) + minuteOf p t x := by rw [HT.out, minsL_snoc]
          have hst := (HST.out i x hlt hx).1
          have hmb := minute_bd (p := p) hst t2
          unfold stOk tm at hst
          simp only [Bool.and_eq_true, decide_eq_true_eq] at hst
          have f1 := hst.1.2.1
          have f2 := hst.1.2.2
          have HSN := hidden hsn
          clear hx hst hsn
          generalize minsL p t (S.take i) = sm at *
          obtain ⟨sm1, sm2⟩ := hbd
          by_cases q1 : x.person = p
          · by_cases q2 : x.frm < t
            · have hE := endby_any x t
              have HMO : Hid (minuteOf p t x = endBy t x.til - x.frm) := by unfold minuteOf; rw [Hid, if_pos ⟨q1, q2⟩]
              rw [HMO.out] at hmb HSN
              unfold aS at hE
              rw [q1] at hE c0
              obtain ⟨hm1, hm2⟩ := hmb
              have e1 : endBy t x.til ≤ 20000000 := by omega
              have e2 : 0 ≤ endBy t x.til := by omega
              generalize endBy t x.til = eb at *
              clear q1 HMO
              go_wp2_with fail
              go_region_with (go_at_call 53; refine (hE _).mono ?_; rintro e w3 ⟨rfl, hb3⟩; obtain ⟨hc3, hf3⟩ := bcell hb3; have bA := onto (show Below w.heap.size w _ from by repeat (first | exact Below.refl _ _ | assumption | refine st_drew ?_ | refine st_drewN ?_ _ | refine Below.setCell ?_ (by first | omega | (simp; done) | (simp; omega)) _ | refine Below.alloc ?_ (by first | omega | (simp; done) | (simp; omega)) _)) hb3)
              all_goals go_wp2_with fail
              all_goals go_roundw
              all_goals first
                | (simp [intOf]; omega)
                | exact ⟨i + 1, by omega, rfl, by rw [HSN.out], by repeat (first | exact Below.refl _ _ | assumption | refine st_drew ?_ | refine st_drewN ?_ _ | refine Below.setCell ?_ (by first | omega | (simp; done) | (simp; omega)) _ | refine Below.alloc ?_ (by first | omega | (simp; done) | (simp; omega)) _)⟩
            · have HMO : Hid (minsL p t (S.take (i + 1)) = sm) := by rw [Hid, HSN.out]; unfold minuteOf; rw [if_neg (by omega)]; omega
              rw [q1] at c0
              clear HSN hmb q1
              go_wp2_with fail
              go_roundw
              case rel => exact ⟨i + 1, by omega, rfl, by rw [HMO.out], by repeat (first | exact Below.refl _ _ | assumption | refine st_drew ?_ | refine st_drewN ?_ _ | refine Below.setCell ?_ (by first | omega | (simp; done) | (simp; omega)) _ | refine Below.alloc ?_ (by first | omega | (simp; done) | (simp; omega)) _)⟩
              case measure => simp [intOf]; omega
          · have HMO : Hid (minsL p t (S.take (i + 1)) = sm) := by rw [Hid, HSN.out]; unfold minuteOf; rw [if_neg (fun q => q1 q.1)]; omega
            have n1 : (x.person == p) = false := by simpa using q1
            clear HSN hmb
            go_wp2_with fail
            go_roundw
            case rel => exact ⟨i + 1, by omega, rfl, by rw [HMO.out], by repeat (first | exact Below.refl _ _ | assumption | refine st_drew ?_ | refine st_drewN ?_ _ | refine Below.setCell ?_ (by first | omega | (simp; done) | (simp; omega)) _ | refine Below.alloc ?_ (by first | omega | (simp; done) | (simp; omega)) _)⟩
            case measure => simp [intOf]; omega
        · have hlti : ¬ (i : Int) < (S.length : Int) := by omega
          have hil : i = S.length := by omega
          subst hil
          have HRR : Hid (minutes B S p t = minsL p t (S.take S.length)) := by rw [Hid, HR.out, List.take_length]
          generalize minsL p t (S.take S.length) = sm at *
          go_wp2_with fail
          go_ret
          exact ⟨ret_int HRR.out.symm, hb⟩

end Go.Proofs.Ytmigcbbjejbcgab
