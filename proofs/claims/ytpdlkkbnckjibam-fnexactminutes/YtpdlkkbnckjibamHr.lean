/-
  Minutes, the specification's.
-/
import Derived.Test.YtpdlkkbnckjibamHj
import Derived.Test.YtpdlkkbnckjibamHp
namespace Go.Proofs.Ytpdlkkbnckjibam
open Go.RowKit Hm
set_option linter.unusedVariables false

set_option maxRecDepth 20000 in
set_option maxHeartbeats 4000000 in
theorem smin_any (ao ao2 : Option Addr) (n cap m cap2 : Nat) (B : List Bd) (S : List St) (p t : Int) (w : World) (h : HRw w (.slice ao n cap) (.slice ao2 m cap2) B S)
    (hOK0 : ∀ W, HRw W (.slice ao n cap) (.slice ao2 m cap2) B S → Calls Try.prog 30 #[.agg #[.slice ao n cap, .slice ao2 m cap2]] W fun e w' => e = .returned (.bool (okB B S)) ∧ Below W.heap.size W w') :
    Calls Try.prog 19 #[.agg #[.slice ao n cap, .slice ao2 m cap2], .int .i64 p, .int .i64 t] w fun e w' => e = .returned (.int .i64 (minutes B S p t)) ∧ Below w.heap.size w w' := by
  have HH := hidden h
  have HS := hidden h.2
  obtain rfl := h.1.len
  obtain rfl := h.2.len
  have hOK := hidden (fun W (hW : Below w.heap.size w W) => hOK0 W (HH.out.below hW))
  have hT := stime_any t
  have hb0 : Below w.heap.size w (w.alloc (.cells #[.slice ao B.length cap, .slice ao2 S.length cap2] 32)) := (Below.refl _ _).alloc (Nat.le_refl _) _
  clear hOK0
  cases hk : okB B S with
  | false =>
    have HR : Hid (minutes B S p t = -1) := by unfold minutes; rw [Hid, hk]; rfl
    rw [hk] at hOK
    clear h
    go_enter Try.func19, Try.ntmps19
    go_wp2_with fail
    refine (hOK.out _ hb0).mono ?_
    rintro e w1 ⟨rfl, hb1⟩
    have b1 := onto hb0 hb1
    go_wp2_with fail
    go_ret
    exact ⟨ret_int HR.out.symm, b1⟩
  | true =>
    rw [hk] at hOK
    cases hk2 : tm t with
    | false =>
      have HR : Hid (minutes B S p t = -1) := by unfold minutes; rw [Hid, hk, hk2]; rfl
      rw [hk2] at hT
      clear h
      go_enter Try.func19, Try.ntmps19
      go_wp2_with fail
      refine (hOK.out _ hb0).mono ?_
      rintro e w1 ⟨rfl, hb1⟩
      have b1 := onto hb0 hb1
      go_wp2_with (go_at_call 45; refine (hT _).mono ?_; rintro e w2 ⟨rfl, rfl⟩)
      go_ret
      exact ⟨ret_int HR.out.symm, b1⟩
    | true =>
      have HR : Hid (minutes B S p t = minsL p t S) := by unfold minutes; rw [Hid, hk, hk2]; rfl
      rw [hk2] at hT
      have hok := ok_of hk
      have hl2 := hok.2.1
      have t1 := (tm_iff.1 hk2).1
      have t2 := (tm_iff.1 hk2).2
      have HST := hidden hok.2.2.2.1
      clear h hk hk2 hok
      go_enter Try.func19, Try.ntmps19
      go_wp2_with fail
      refine (hOK.out _ hb0).mono ?_
      rintro e w1 ⟨rfl, hb1⟩
      have b1 := onto hb0 hb1
      have z1 := hb1.size
      simp only [World.size_alloc] at z1
      have z1' : w.heap.size < w1.heap.size := by omega
      have d1 : w1.cell? ⟨w.heap.size, 1, none⟩ = some (.slice ao2 S.length cap2) := ((bcell hb1).1 _ _ (by first | omega | (simp; done) | (simp; omega))).trans (by simp [go_sem])
      go_wp2_with (go_at_call 45; refine (hT _).mono ?_; rintro e w2 ⟨rfl, rfl⟩)
      clear hOK hT hb1 z1
      go_loopw [7, 8] (fun sv iv wr => ∃ i : Nat, i ≤ S.length ∧ iv = .int .i64 i ∧ sv = .int .i64 (minsL p t (S.take i)) ∧ Below w.heap.size w wr ∧ w.heap.size < wr.heap.size ∧ wr.cell? ⟨w.heap.size, 1, none⟩ = some (.slice ao2 S.length cap2)) (fun _ iv _ => S.length - (intOf iv).toNat)
      case atStart => exact ⟨0, Nat.zero_le _, rfl, rfl, b1, z1', d1⟩
      case round =>
        clear b1 z1' d1
        obtain ⟨i, hi, rfl, rfl, hb, hz, d1⟩ := hrel
        have hsz := hb.size
        by_cases hlt : i < S.length
        · have hlti : (i : Int) < (S.length : Int) := by omega
          obtain ⟨x, hx⟩ := some_at S i hlt
          obtain ⟨g, off, rfl, hg, c0, c1, c2, c3, c4, c5⟩ := stay_cells (HS.out.below hb) hx
          have HT := hidden (take_snoc hx)
          have hbd := mins_take HST.out (p := p) t2 i
          have hsn : minsL p t (S.take (i + 1)) = minsL p t (S.take i) + minuteOf p t x := by rw [HT.out, minsL_snoc]
          have hst := (HST.out i x hlt hx).1
          have hmb := minute_bd (p := p) hst t2
          unfold stOk toOk tm at hst
          simp only [Bool.and_eq_true, Bool.or_eq_true, decide_eq_true_eq] at hst
          have f1 := hst.1.2.1
          have f2 := hst.1.2.2
          have f3 := hst.2
          have HSN := hidden hsn
          have HDD : Hid (∀ x, Below w.heap.size w (wr.alloc x) ∧ w.heap.size < (wr.alloc x).heap.size ∧ (wr.alloc x).cell? ⟨w.heap.size, 1, none⟩ = some (.slice (some ⟨g, off, none⟩) S.length cap2)) := fun x => ⟨hb.alloc hsz x, by simp; omega, (old_cell hz _ _).trans d1⟩
          clear hx hst hsn
          generalize minsL p t (S.take i) = sm at *
          obtain ⟨sm1, sm2⟩ := hbd
          by_cases q1 : x.person = p
          · by_cases q2 : x.frm < t
            · have HMO : Hid (minuteOf p t x = endBy t x.til - x.frm) := by unfold minuteOf; rw [Hid, if_pos ⟨q1, q2⟩]
              rw [HMO.out] at HSN
              rw [q1] at c0
              have q2' : ¬ t ≤ x.frm := by omega
              clear q1 HMO hmb
              unfold endBy at HSN
              by_cases q3 : x.til = -1
              · rw [if_pos q3] at HSN
                rw [q3] at c5
                clear q3 f3
                go_wp2_with fail
                go_roundw
                case rel => exact ⟨i + 1, by omega, rfl, by rw [HSN.out]; congr 1; omega, HDD.out _⟩
                case measure => simp [intOf]; omega
              · have n3 : (x.til == -1) = false := by simpa using q3
                have f4 := f3.resolve_left q3
                clear f3
                rw [if_neg q3] at HSN
                by_cases q4 : x.til < t
                · rw [if_pos q4] at HSN
                  go_wp2_with fail
                  go_roundw
                  case rel => exact ⟨i + 1, by omega, rfl, by rw [HSN.out]; congr 1; omega, HDD.out _⟩
                  case measure => simp [intOf]; omega
                · rw [if_neg q4] at HSN
                  go_wp2_with fail
                  go_roundw
                  case rel => exact ⟨i + 1, by omega, rfl, by rw [HSN.out]; congr 1; omega, HDD.out _⟩
                  case measure => simp [intOf]; omega
            · have HMO : Hid (minsL p t (S.take (i + 1)) = sm) := by rw [Hid, HSN.out]; unfold minuteOf; rw [if_neg (by omega)]; omega
              have q2' : t ≤ x.frm := by omega
              rw [q1] at c0
              clear HSN hmb q1
              go_wp2_with fail
              go_roundw
              case rel => exact ⟨i + 1, by omega, rfl, by rw [HMO.out], HDD.out _⟩
              case measure => simp [intOf]; omega
          · have HMO : Hid (minsL p t (S.take (i + 1)) = sm) := by rw [Hid, HSN.out]; unfold minuteOf; rw [if_neg (fun q => q1 q.1)]; omega
            have n1 : (x.person == p) = false := by simpa using q1
            clear HSN hmb
            go_wp2_with fail
            go_roundw
            case rel => exact ⟨i + 1, by omega, rfl, by rw [HMO.out], HDD.out _⟩
            case measure => simp [intOf]; omega
        · have hlti : ¬ (i : Int) < (S.length : Int) := by omega
          have hil : i = S.length := by omega
          subst hil
          have HRR : Hid (minutes B S p t = minsL p t (S.take S.length)) := by rw [Hid, HR.out, List.take_length]
          generalize minsL p t (S.take S.length) = sm at *
          go_wp2_with fail
          go_ret
          exact ⟨ret_int HRR.out.symm, hb⟩

end Go.Proofs.Ytpdlkkbnckjibam
