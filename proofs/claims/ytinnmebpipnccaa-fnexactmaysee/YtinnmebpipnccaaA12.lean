/-
  What may be seen: the specification.
-/
import Derived.Test.YtinnmebpipnccaaA10
import Derived.BigQuiet
import Derived.BigRegion
namespace Go.Proofs.Ytinnmebpipnccaa
open Go.RowKit Va Ax
set_option linter.all false

theorem any_endA {α : Type} {l : List α} {i : Nat} {p : α → Bool} {t : Bool} (h : (l.take i).any p = t) (hi : ¬ i < l.length) : l.any p = t := by
  rw [List.take_of_length_le (by omega)] at h
  exact h

set_option maxRecDepth 20000 in
set_option maxHeartbeats 16000000 in
theorem ssee_any (ag : Option Addr) (ng cg : Nat) (ac : Option Addr) (nc cc : Nat) (ar : Option Addr) (nr cr : Nat) (G : List Gr) (C : List Cr) (R : List Rf) (pw pr pp ps pt : Int) (w : World) (hG : VRw 2 cvGr w (.slice ag ng cg) G) (hC : VRw 4 cvCr w (.slice ac nc cc) C) (hR : VRw 2 cvRf w (.slice ar nr cr) R) (lG : G.length ≤ 1048576) (lC : C.length ≤ 1048576) (lR : R.length ≤ 1048576) :
    Calls Try.prog 47 #[.agg #[.slice ag ng cg, .slice ac nc cc, .slice ar nr cr], .int .i64 pw, .int .i64 pr, .int .i64 pp, .int .i64 ps, .int .i64 pt] w fun e w' => e = .returned (.int .i64 (see G C R ⟨pw, pr, pp, ps, pt, false⟩)) ∧ Below w.heap.size w w' := by
  obtain rfl := hG.len
  obtain rfl := hC.len
  obtain rfl := hR.len
  have HG := hidden hG
  have HC := hidden hC
  have HR := hidden hR
  have hb0 : Below w.heap.size w (w.alloc (.cells #[.slice ag G.length cg, .slice ac C.length cc, .slice ar R.length cr] 40)) := (Below.refl _ _).alloc (Nat.le_refl _) _
  have P0 := PB.new w #[.slice ag G.length cg, .slice ac C.length cc, .slice ar R.length cr] 40
  clear hG hC hR
  have HV : Hid (see G C R ⟨pw, pr, pp, ps, pt, false⟩ = if (peB pw && (twB pr && (peB pp && (twB ps && tiB pt)))) = false then 1 else if G.any (isG ⟨pw, pr, pp, ps, pt, false⟩) = false then 2 else if C.any (isC ⟨pw, pr, pp, ps, pt, false⟩) = false then 3 else if R.any (isR ⟨pw, pr, pp, ps, pt, false⟩) = true then 4 else 0) := rfl
  have k0 := speA_any pw
  have k1 := stwA_any pr
  have k2 := speA_any pp
  have k3 := stwA_any ps
  have k4 := stiA_any pt
  generalize peB pw = t0 at *
  generalize twB pr = t1 at *
  generalize peB pp = t2 at *
  generalize twB ps = t3 at *
  generalize tiB pt = t4 at *
  cases t0 with
  | false =>
    have HF : Hid (see G C R ⟨pw, pr, pp, ps, pt, false⟩ = 1) := by rw [Hid, HV.out]; simp
    clear HV
    go_enter Try.func47, Try.ntmps47
    go_upto_region 1 with fail
    generalize w.alloc (.cells #[.slice ag G.length cg, .slice ac C.length cc, .slice ar R.length cr] 40) = w1 at *
    go_wp2_with (first | (with_reducible refine (k0 _).mono ?_; rintro e w2 ⟨rfl, rfl⟩) | (with_reducible refine (k1 _).mono ?_; rintro e w2 ⟨rfl, rfl⟩) | (with_reducible refine (k2 _).mono ?_; rintro e w2 ⟨rfl, rfl⟩) | (with_reducible refine (k3 _).mono ?_; rintro e w2 ⟨rfl, rfl⟩) | (with_reducible refine (k4 _).mono ?_; rintro e w2 ⟨rfl, rfl⟩))
    go_ret
    exact ⟨ret_intA HF.out.symm, hb0⟩
  | true =>
  cases t1 with
  | false =>
    have HF : Hid (see G C R ⟨pw, pr, pp, ps, pt, false⟩ = 1) := by rw [Hid, HV.out]; simp
    clear HV
    go_enter Try.func47, Try.ntmps47
    go_upto_region 1 with fail
    generalize w.alloc (.cells #[.slice ag G.length cg, .slice ac C.length cc, .slice ar R.length cr] 40) = w1 at *
    go_wp2_with (first | (with_reducible refine (k0 _).mono ?_; rintro e w2 ⟨rfl, rfl⟩) | (with_reducible refine (k1 _).mono ?_; rintro e w2 ⟨rfl, rfl⟩) | (with_reducible refine (k2 _).mono ?_; rintro e w2 ⟨rfl, rfl⟩) | (with_reducible refine (k3 _).mono ?_; rintro e w2 ⟨rfl, rfl⟩) | (with_reducible refine (k4 _).mono ?_; rintro e w2 ⟨rfl, rfl⟩))
    go_ret
    exact ⟨ret_intA HF.out.symm, hb0⟩
  | true =>
  cases t2 with
  | false =>
    have HF : Hid (see G C R ⟨pw, pr, pp, ps, pt, false⟩ = 1) := by rw [Hid, HV.out]; simp
    clear HV
    go_enter Try.func47, Try.ntmps47
    go_upto_region 1 with fail
    generalize w.alloc (.cells #[.slice ag G.length cg, .slice ac C.length cc, .slice ar R.length cr] 40) = w1 at *
    go_wp2_with (first | (with_reducible refine (k0 _).mono ?_; rintro e w2 ⟨rfl, rfl⟩) | (with_reducible refine (k1 _).mono ?_; rintro e w2 ⟨rfl, rfl⟩) | (with_reducible refine (k2 _).mono ?_; rintro e w2 ⟨rfl, rfl⟩) | (with_reducible refine (k3 _).mono ?_; rintro e w2 ⟨rfl, rfl⟩) | (with_reducible refine (k4 _).mono ?_; rintro e w2 ⟨rfl, rfl⟩))
    go_ret
    exact ⟨ret_intA HF.out.symm, hb0⟩
  | true =>
  cases t3 with
  | false =>
    have HF : Hid (see G C R ⟨pw, pr, pp, ps, pt, false⟩ = 1) := by rw [Hid, HV.out]; simp
    clear HV
    go_enter Try.func47, Try.ntmps47
    go_upto_region 1 with fail
    generalize w.alloc (.cells #[.slice ag G.length cg, .slice ac C.length cc, .slice ar R.length cr] 40) = w1 at *
    go_wp2_with (first | (with_reducible refine (k0 _).mono ?_; rintro e w2 ⟨rfl, rfl⟩) | (with_reducible refine (k1 _).mono ?_; rintro e w2 ⟨rfl, rfl⟩) | (with_reducible refine (k2 _).mono ?_; rintro e w2 ⟨rfl, rfl⟩) | (with_reducible refine (k3 _).mono ?_; rintro e w2 ⟨rfl, rfl⟩) | (with_reducible refine (k4 _).mono ?_; rintro e w2 ⟨rfl, rfl⟩))
    go_ret
    exact ⟨ret_intA HF.out.symm, hb0⟩
  | true =>
  cases t4 with
  | false =>
    have HF : Hid (see G C R ⟨pw, pr, pp, ps, pt, false⟩ = 1) := by rw [Hid, HV.out]; simp
    clear HV
    go_enter Try.func47, Try.ntmps47
    go_upto_region 1 with fail
    generalize w.alloc (.cells #[.slice ag G.length cg, .slice ac C.length cc, .slice ar R.length cr] 40) = w1 at *
    go_wp2_with (first | (with_reducible refine (k0 _).mono ?_; rintro e w2 ⟨rfl, rfl⟩) | (with_reducible refine (k1 _).mono ?_; rintro e w2 ⟨rfl, rfl⟩) | (with_reducible refine (k2 _).mono ?_; rintro e w2 ⟨rfl, rfl⟩) | (with_reducible refine (k3 _).mono ?_; rintro e w2 ⟨rfl, rfl⟩) | (with_reducible refine (k4 _).mono ?_; rintro e w2 ⟨rfl, rfl⟩))
    go_ret
    exact ⟨ret_intA HF.out.symm, hb0⟩
  | true =>
  go_enter Try.func47, Try.ntmps47
  go_upto_region 1 with fail
  generalize w.alloc (.cells #[.slice ag G.length cg, .slice ac C.length cc, .slice ar R.length cr] 40) = w1 at *
  have PS := hidden P0
  have bS := hb0
  go_wp2_with (first | (with_reducible refine (k0 _).mono ?_; rintro e w2 ⟨rfl, rfl⟩) | (with_reducible refine (k1 _).mono ?_; rintro e w2 ⟨rfl, rfl⟩) | (with_reducible refine (k2 _).mono ?_; rintro e w2 ⟨rfl, rfl⟩) | (with_reducible refine (k3 _).mono ?_; rintro e w2 ⟨rfl, rfl⟩) | (with_reducible refine (k4 _).mono ?_; rintro e w2 ⟨rfl, rfl⟩))
  clear P0 hb0 k0 k1 k2 k3 k4
  go_loopw [13, 14] (fun bv iv wr => ∃ (i : Nat) (t : Bool), i ≤ G.length ∧ iv = .int .i64 i ∧ bv = .bool t ∧ Below w.heap.size w wr ∧ Hid (PB wr w.heap.size #[.slice ag G.length cg, .slice ac C.length cc, .slice ar R.length cr] 40) ∧ Hid ((G.take i).any (isG ⟨pw, pr, pp, ps, pt, false⟩) = t)) (fun _ iv _ => G.length - (intOf iv).toNat)
  case atStart => exact ⟨0, false, Nat.zero_le _, rfl, rfl, bS, PS, rfl⟩
  case round =>
    clear bS PS
    obtain ⟨i, t, hi, rfl, rfl, hb1, PH, hok⟩ := hrel
    obtain ⟨p0, p1, p2⟩ := PH.out.three
    have hsz := hb1.size
    by_cases hlt : i < G.length
    · have hlti : (i : Int) < (G.length : Int) := by omega
      obtain ⟨x, hx⟩ := some_of G i hlt
      obtain ⟨g, off, rfl, hg, hcs⟩ := (HG.out.below hb1).at hx
      have c0 : wr.cell? ⟨g, off + i * 2, none⟩ = some (.int .i64 x.r) := hcs 0 (by omega)
      have c1 : wr.cell? ⟨g, off + i * 2 + 1, none⟩ = some (.int .i64 x.s) := hcs 1 (by omega)
      have HX := hidden hx
      clear hx hcs
      have HST : Hid ((G.take (i + 1)).any (isG ⟨pw, pr, pp, ps, pt, false⟩) = (t || isG ⟨pw, pr, pp, ps, pt, false⟩ x)) := by rw [Hid, any_stepA HX.out, hok.out]
      cases t with
      | true =>
        have HN : Hid ((G.take (i + 1)).any (isG ⟨pw, pr, pp, ps, pt, false⟩) = true) := by rw [Hid, HST.out]; simp
        clear HST
        go_wp2_with fail
        go_roundw
        case rel => exact ⟨i + 1, true, by omega, rfl, rfl, hb1, PH, HN⟩
        case measure => simp [intOf]; omega
      | false =>
        by_cases q1 : x.r = pr
        · by_cases q2 : x.s = ps
          · have g1 : (x.r == pr) = true := by simp [q1]
            have g2 : (x.s == ps) = true := by simp [q2]
            have HQ : Hid (x.r = pr ∧ x.s = ps) := ⟨q1, q2⟩
            clear q1 q2
            have HN : Hid ((G.take (i + 1)).any (isG ⟨pw, pr, pp, ps, pt, false⟩) = true) := by rw [Hid, HST.out]; simp [isG, HQ.out.1, HQ.out.2]
            clear HST
            go_wp2_with fail
            go_roundw
            case rel => exact ⟨i + 1, true, by omega, rfl, rfl, hb1, PH, HN⟩
            case measure => simp [intOf]; omega
          · have g1 : (x.r == pr) = true := by simp [q1]
            have g2 : (x.s == ps) = false := by simp [q2]
            have HQ : Hid (¬ x.s = ps) := q2
            clear q1 q2
            have HN : Hid ((G.take (i + 1)).any (isG ⟨pw, pr, pp, ps, pt, false⟩) = false) := by rw [Hid, HST.out]; simp [isG, HQ.out]
            clear HST
            go_wp2_with fail
            go_roundw
            case rel => exact ⟨i + 1, false, by omega, rfl, rfl, hb1, PH, HN⟩
            case measure => simp [intOf]; omega
        · have g1 : (x.r == pr) = false := by simp [q1]
          have HQ : Hid (¬ x.r = pr) := q1
          clear q1
          have HN : Hid ((G.take (i + 1)).any (isG ⟨pw, pr, pp, ps, pt, false⟩) = false) := by rw [Hid, HST.out]; simp [isG, HQ.out]
          clear HST
          go_wp2_with fail
          go_roundw
          case rel => exact ⟨i + 1, false, by omega, rfl, rfl, hb1, PH, HN⟩
          case measure => simp [intOf]; omega
    · have hlti : ¬ (i : Int) < (G.length : Int) := by omega
      have HAG : Hid (G.any (isG ⟨pw, pr, pp, ps, pt, false⟩) = t) := any_endA hok.out hlt
      clear hok hi hlt
      have bS := hb1
      have PS := PH
      go_wp2_with fail
      clear p0 p1 p2 PH hb1 hlti hsz
      generalize hgt : t = tg at *
      clear hgt
      go_loopw [15, 16, 17] (fun bv iv _ wr => ∃ (i : Nat) (t : Bool), i ≤ C.length ∧ iv = .int .i64 i ∧ bv = .bool t ∧ Below w.heap.size w wr ∧ Hid (PB wr w.heap.size #[.slice ag G.length cg, .slice ac C.length cc, .slice ar R.length cr] 40) ∧ Hid ((C.take i).any (isC ⟨pw, pr, pp, ps, pt, false⟩) = t)) (fun _ iv _ _ => C.length - (intOf iv).toNat)
      case atStart => exact ⟨0, false, Nat.zero_le _, rfl, rfl, bS, PS, rfl⟩
      case round =>
        clear bS PS
        obtain ⟨i, t, hi, rfl, rfl, hb1, PH, hok⟩ := hrel
        obtain ⟨p0, p1, p2⟩ := PH.out.three
        have hsz := hb1.size
        by_cases hlt : i < C.length
        · have hlti : (i : Int) < (C.length : Int) := by omega
          obtain ⟨x, hx⟩ := some_of C i hlt
          obtain ⟨g, off, rfl, hg, hcs⟩ := (HC.out.below hb1).at hx
          have c0 : wr.cell? ⟨g, off + i * 4, none⟩ = some (.int .i64 x.w) := hcs 0 (by omega)
          have c1 : wr.cell? ⟨g, off + i * 4 + 1, none⟩ = some (.int .i64 x.p) := hcs 1 (by omega)
          have c2 : wr.cell? ⟨g, off + i * 4 + 2, none⟩ = some (.int .i64 x.f) := hcs 2 (by omega)
          have c3 : wr.cell? ⟨g, off + i * 4 + 3, none⟩ = some (.int .i64 x.t) := hcs 3 (by omega)
          have HX := hidden hx
          clear hx hcs
          have HST : Hid ((C.take (i + 1)).any (isC ⟨pw, pr, pp, ps, pt, false⟩) = (t || isC ⟨pw, pr, pp, ps, pt, false⟩ x)) := by rw [Hid, any_stepA HX.out, hok.out]
          have hbN : Below w.heap.size w (wr.alloc (.cells #[.int .i64 x.w, .int .i64 x.p, .int .i64 x.f, .int .i64 x.t] 64)) := hb1.alloc hsz _
          have PN := hidden (PH.out.alloc (.cells #[.int .i64 x.w, .int .i64 x.p, .int .i64 x.f, .int .i64 x.t] 64))
          have kI := lin_any pt x.f x.t
          cases t with
          | true =>
            have HN : Hid ((C.take (i + 1)).any (isC ⟨pw, pr, pp, ps, pt, false⟩) = true) := by rw [Hid, HST.out]; simp
            clear HST
            go_wp2_with (with_reducible refine (kI _).mono ?_; rintro e w2 ⟨rfl, rfl⟩)
            go_roundw
            case rel => exact ⟨i + 1, true, by omega, rfl, rfl, hbN, PN, HN⟩
            case measure => simp [intOf]; omega
          | false =>
            by_cases q1 : x.w = pw
            · by_cases q2 : x.p = pp
              · have g1 : (x.w == pw) = true := by simp [q1]
                have g2 : (x.p == pp) = true := by simp [q2]
                have HQ : Hid (x.w = pw ∧ x.p = pp) := ⟨q1, q2⟩
                clear q1 q2
                have HPR : Hid (isC ⟨pw, pr, pp, ps, pt, false⟩ x = rng pt x.f x.t) := by simp [Hid, isC, HQ.out.1, HQ.out.2]
                generalize rng pt x.f x.t = t5 at *
                have HN : Hid ((C.take (i + 1)).any (isC ⟨pw, pr, pp, ps, pt, false⟩) = t5) := by rw [Hid, HST.out]; rw [HPR.out]; rfl
                clear HST
                go_wp2_with (with_reducible refine (kI _).mono ?_; rintro e w2 ⟨rfl, rfl⟩)
                go_roundw
                case rel => exact ⟨i + 1, t5, by omega, rfl, rfl, hbN, PN, HN⟩
                case measure => simp [intOf]; omega
              · have g1 : (x.w == pw) = true := by simp [q1]
                have g2 : (x.p == pp) = false := by simp [q2]
                have HQ : Hid (¬ x.p = pp) := q2
                clear q1 q2
                have HN : Hid ((C.take (i + 1)).any (isC ⟨pw, pr, pp, ps, pt, false⟩) = false) := by rw [Hid, HST.out]; simp [isC, HQ.out]
                clear HST
                go_wp2_with (with_reducible refine (kI _).mono ?_; rintro e w2 ⟨rfl, rfl⟩)
                go_roundw
                case rel => exact ⟨i + 1, false, by omega, rfl, rfl, hbN, PN, HN⟩
                case measure => simp [intOf]; omega
            · have g1 : (x.w == pw) = false := by simp [q1]
              have HQ : Hid (¬ x.w = pw) := q1
              clear q1
              have HN : Hid ((C.take (i + 1)).any (isC ⟨pw, pr, pp, ps, pt, false⟩) = false) := by rw [Hid, HST.out]; simp [isC, HQ.out]
              clear HST
              go_wp2_with (with_reducible refine (kI _).mono ?_; rintro e w2 ⟨rfl, rfl⟩)
              go_roundw
              case rel => exact ⟨i + 1, false, by omega, rfl, rfl, hbN, PN, HN⟩
              case measure => simp [intOf]; omega
        · have hlti : ¬ (i : Int) < (C.length : Int) := by omega
          have HAC : Hid (C.any (isC ⟨pw, pr, pp, ps, pt, false⟩) = t) := any_endA hok.out hlt
          clear hok hi hlt
          have bS := hb1
          have PS := PH
          go_wp2_with fail
          clear p0 p1 p2 PH hb1 hlti hsz
          generalize hgt : t = tc at *
          clear hgt
          go_loopw [18, 19] (fun bv iv wr => ∃ (i : Nat) (t : Bool), i ≤ R.length ∧ iv = .int .i64 i ∧ bv = .bool t ∧ Below w.heap.size w wr ∧ Hid (PB wr w.heap.size #[.slice ag G.length cg, .slice ac C.length cc, .slice ar R.length cr] 40) ∧ Hid ((R.take i).any (isR ⟨pw, pr, pp, ps, pt, false⟩) = t)) (fun _ iv _ => R.length - (intOf iv).toNat)
          case atStart => exact ⟨0, false, Nat.zero_le _, rfl, rfl, bS, PS, rfl⟩
          case round =>
            clear bS PS
            obtain ⟨i, t, hi, rfl, rfl, hb1, PH, hok⟩ := hrel
            obtain ⟨p0, p1, p2⟩ := PH.out.three
            have hsz := hb1.size
            by_cases hlt : i < R.length
            · have hlti : (i : Int) < (R.length : Int) := by omega
              obtain ⟨x, hx⟩ := some_of R i hlt
              obtain ⟨g, off, rfl, hg, hcs⟩ := (HR.out.below hb1).at hx
              have c0 : wr.cell? ⟨g, off + i * 2, none⟩ = some (.int .i64 x.p) := hcs 0 (by omega)
              have c1 : wr.cell? ⟨g, off + i * 2 + 1, none⟩ = some (.int .i64 x.r) := hcs 1 (by omega)
              have HX := hidden hx
              clear hx hcs
              have HST : Hid ((R.take (i + 1)).any (isR ⟨pw, pr, pp, ps, pt, false⟩) = (t || isR ⟨pw, pr, pp, ps, pt, false⟩ x)) := by rw [Hid, any_stepA HX.out, hok.out]
              cases t with
              | true =>
                have HN : Hid ((R.take (i + 1)).any (isR ⟨pw, pr, pp, ps, pt, false⟩) = true) := by rw [Hid, HST.out]; simp
                clear HST
                go_wp2_with fail
                go_roundw
                case rel => exact ⟨i + 1, true, by omega, rfl, rfl, hb1, PH, HN⟩
                case measure => simp [intOf]; omega
              | false =>
                by_cases q1 : x.p = pp
                · by_cases q2 : x.r = pr
                  · have g1 : (x.p == pp) = true := by simp [q1]
                    have g2 : (x.r == pr) = true := by simp [q2]
                    have HQ : Hid (x.p = pp ∧ x.r = pr) := ⟨q1, q2⟩
                    clear q1 q2
                    have HN : Hid ((R.take (i + 1)).any (isR ⟨pw, pr, pp, ps, pt, false⟩) = true) := by rw [Hid, HST.out]; simp [isR, HQ.out.1, HQ.out.2]
                    clear HST
                    go_wp2_with fail
                    go_roundw
                    case rel => exact ⟨i + 1, true, by omega, rfl, rfl, hb1, PH, HN⟩
                    case measure => simp [intOf]; omega
                  · have g1 : (x.p == pp) = true := by simp [q1]
                    have g2 : (x.r == pr) = false := by simp [q2]
                    have HQ : Hid (¬ x.r = pr) := q2
                    clear q1 q2
                    have HN : Hid ((R.take (i + 1)).any (isR ⟨pw, pr, pp, ps, pt, false⟩) = false) := by rw [Hid, HST.out]; simp [isR, HQ.out]
                    clear HST
                    go_wp2_with fail
                    go_roundw
                    case rel => exact ⟨i + 1, false, by omega, rfl, rfl, hb1, PH, HN⟩
                    case measure => simp [intOf]; omega
                · have g1 : (x.p == pp) = false := by simp [q1]
                  have HQ : Hid (¬ x.p = pp) := q1
                  clear q1
                  have HN : Hid ((R.take (i + 1)).any (isR ⟨pw, pr, pp, ps, pt, false⟩) = false) := by rw [Hid, HST.out]; simp [isR, HQ.out]
                  clear HST
                  go_wp2_with fail
                  go_roundw
                  case rel => exact ⟨i + 1, false, by omega, rfl, rfl, hb1, PH, HN⟩
                  case measure => simp [intOf]; omega
            · have hlti : ¬ (i : Int) < (R.length : Int) := by omega
              have HAR : Hid (R.any (isR ⟨pw, pr, pp, ps, pt, false⟩) = t) := any_endA hok.out hlt
              clear hok hi hlt
              have HF : Hid (see G C R ⟨pw, pr, pp, ps, pt, false⟩ = if tg = false then 2 else if tc = false then 3 else if t = true then 4 else 0) := by rw [Hid, HV.out, HAG.out, HAC.out, HAR.out]; simp
              clear HV HAG HAC HAR
              cases tg with
              | false =>
                go_wp2_with fail
                go_ret
                exact ⟨ret_intA HF.out.symm, hb1⟩
              | true =>
              cases tc with
              | false =>
                go_wp2_with fail
                go_ret
                exact ⟨ret_intA HF.out.symm, hb1⟩
              | true =>
              cases t with
              | false =>
                go_wp2_with fail
                go_ret
                exact ⟨ret_intA HF.out.symm, hb1⟩
              | true =>
                go_wp2_with fail
                go_ret
                exact ⟨ret_intA HF.out.symm, hb1⟩

set_option maxRecDepth 20000 in
set_option maxHeartbeats 4000000 in
theorem smay_any (ag : Option Addr) (ng cg : Nat) (ac : Option Addr) (nc cc : Nat) (ar : Option Addr) (nr cr : Nat) (G : List Gr) (C : List Cr) (R : List Rf) (pw pr pp ps pt : Int) (w : World) (hG : VRw 2 cvGr w (.slice ag ng cg) G) (hC : VRw 4 cvCr w (.slice ac nc cc) C) (hR : VRw 2 cvRf w (.slice ar nr cr) R) (lG : G.length ≤ 1048576) (lC : C.length ≤ 1048576) (lR : R.length ≤ 1048576) :
    Calls Try.prog 18 #[.agg #[.slice ag ng cg, .slice ac nc cc, .slice ar nr cr], .int .i64 pw, .int .i64 pr, .int .i64 pp, .int .i64 ps, .int .i64 pt] w fun e w' => e = .returned (.int .i64 (maySee G C R ⟨pw, pr, pp, ps, pt, false⟩)) ∧ Below w.heap.size w w' := by
  obtain rfl := hG.len
  obtain rfl := hC.len
  obtain rfl := hR.len
  have HG := hidden hG
  have HC := hidden hC
  have HR := hidden hR
  have hb0 : Below w.heap.size w (w.alloc (.cells #[.slice ag G.length cg, .slice ac C.length cc, .slice ar R.length cr] 40)) := (Below.refl _ _).alloc (Nat.le_refl _) _
  have P0 := PB.new w #[.slice ag G.length cg, .slice ac C.length cc, .slice ar R.length cr] 40
  clear hG hC hR
  have KR := hidden (fun W (hW : Below w.heap.size w W) => srules_any ag G.length cg ac C.length cc ar R.length cr G C R W (HG.out.below hW) (HC.out.below hW) (HR.out.below hW) lG lC lR)
  have KS := hidden (fun W (hW : Below w.heap.size w W) => ssee_any ag G.length cg ac C.length cc ar R.length cr G C R pw pr pp ps pt W (HG.out.below hW) (HC.out.below hW) (HR.out.below hW) lG lC lR)
  have HV : Hid (maySee G C R ⟨pw, pr, pp, ps, pt, false⟩ = if rulesB G C R = true then see G C R ⟨pw, pr, pp, ps, pt, false⟩ else 1) := rfl
  generalize rulesB G C R = t at *
  generalize see G C R ⟨pw, pr, pp, ps, pt, false⟩ = z at *
  go_enter Try.func18, Try.ntmps18
  go_upto_region 1 with fail
  generalize w.alloc (.cells #[.slice ag G.length cg, .slice ac C.length cc, .slice ar R.length cr] 40) = w1 at *
  obtain ⟨p0, p1, p2⟩ := P0.three
  cases t with
  | false =>
    go_wp2_with (go_at_call 14; with_reducible refine (KR.out _ hb0).mono ?_; rintro e w2 ⟨rfl, hb2⟩; have bA := ontoA hb0 hb2 hb0.size; clear hb2)
    go_ret
    exact ⟨ret_intA (by rw [HV.out]; rfl), bA⟩
  | true =>
    go_wp2_with (first | (go_at_call 14; with_reducible refine (KR.out _ hb0).mono ?_; rintro e w2 ⟨rfl, hb2⟩; have bA := ontoA hb0 hb2 hb0.size; have P1 := P0.below hb2; obtain ⟨r0, r1, r2⟩ := P1.three; clear hb2) | (go_at_call 47; with_reducible refine (KS.out _ bA).mono ?_; rintro e w3 ⟨rfl, hb3⟩; have bB := ontoA bA hb3 bA.size; clear hb3))
    go_ret
    exact ⟨ret_intA (by rw [HV.out]; rfl), bB⟩
end Go.Proofs.Ytinnmebpipnccaa
