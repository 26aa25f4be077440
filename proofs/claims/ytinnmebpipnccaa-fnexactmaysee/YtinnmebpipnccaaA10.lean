/-
  What rules are right: the specification.
-/
import Derived.Test.YtinnmebpipnccaaA8
import Derived.Test.YtinnmebpipnccaaA2
import Derived.BigQuiet
import Derived.BigRegion
namespace Go.Proofs.Ytinnmebpipnccaa
open Go.RowKit Va Ax
set_option linter.all false

set_option maxHeartbeats 1000000 in
theorem stwA_any (p : Int) (w : World) : Calls Try.prog 35 #[.int .i64 p] w fun e w' => e = .returned (.bool (twB p)) ∧ w = w' := by
  have h1 := lin_any p 0 19
  unfold twB
  go_enter Try.func35, Try.ntmps35
  go_wp2_with (with_reducible (refine (h1 _).mono ?_); rintro e w1 ⟨rfl, rfl⟩)
  go_ret
  exact ⟨rfl, rfl⟩

set_option maxHeartbeats 1000000 in
theorem speA_any (p : Int) (w : World) : Calls Try.prog 36 #[.int .i64 p] w fun e w' => e = .returned (.bool (peB p)) ∧ w = w' := by
  have h1 := lin_any p 0 999
  unfold peB
  go_enter Try.func36, Try.ntmps36
  go_wp2_with (with_reducible (refine (h1 _).mono ?_); rintro e w1 ⟨rfl, rfl⟩)
  go_ret
  exact ⟨rfl, rfl⟩

set_option maxHeartbeats 1000000 in
theorem stiA_any (p : Int) (w : World) : Calls Try.prog 37 #[.int .i64 p] w fun e w' => e = .returned (.bool (tiB p)) ∧ w = w' := by
  have h1 := lin_any p 0 10000000
  unfold tiB
  go_enter Try.func37, Try.ntmps37
  go_wp2_with (with_reducible (refine (h1 _).mono ?_); rintro e w1 ⟨rfl, rfl⟩)
  go_ret
  exact ⟨rfl, rfl⟩

set_option maxRecDepth 20000 in
set_option maxHeartbeats 8000000 in
theorem srules_any (ag : Option Addr) (ng cg : Nat) (ac : Option Addr) (nc cc : Nat) (ar : Option Addr) (nr cr : Nat) (G : List Gr) (C : List Cr) (R : List Rf) (w : World) (hG : VRw 2 cvGr w (.slice ag ng cg) G) (hC : VRw 4 cvCr w (.slice ac nc cc) C) (hR : VRw 2 cvRf w (.slice ar nr cr) R) (lG : G.length ≤ 1048576) (lC : C.length ≤ 1048576) (lR : R.length ≤ 1048576) :
    Calls Try.prog 14 #[.agg #[.slice ag ng cg, .slice ac nc cc, .slice ar nr cr]] w fun e w' => e = .returned (.bool (rulesB G C R)) ∧ Below w.heap.size w w' := by
  obtain rfl := hG.len
  obtain rfl := hC.len
  obtain rfl := hR.len
  have HG := hidden hG
  have HC := hidden hC
  have HR := hidden hR
  have hb0 : Below w.heap.size w (w.alloc (.cells #[.slice ag G.length cg, .slice ac C.length cc, .slice ar R.length cr] 40)) := (Below.refl _ _).alloc (Nat.le_refl _) _
  have P0 := PB.new w #[.slice ag G.length cg, .slice ac C.length cc, .slice ar R.length cr] 40
  clear hG hC hR
  have HV : Hid (rulesB G C R = ((decide (G.length ≤ 200) && G.all grB) && ((decide (C.length ≤ 200) && C.all crB) && (decide (R.length ≤ 200) && R.all rfB)))) := rfl
  by_cases qG : (200 : Int) < (G.length : Int)
  · have HF : Hid (rulesB G C R = false) := by rw [Hid, HV.out, decide_eq_false (show ¬ G.length ≤ 200 by omega)]; simp
    go_enter Try.func14, Try.ntmps14
    go_upto_region 1 with fail
    generalize w.alloc (.cells #[.slice ag G.length cg, .slice ac C.length cc, .slice ar R.length cr] 40) = w1 at *
    obtain ⟨p0, p1, p2⟩ := P0.three
    go_wp2_with fail
    go_ret
    exact ⟨ret_boolA HF.out.symm, hb0⟩
  by_cases qC : (200 : Int) < (C.length : Int)
  · have HF : Hid (rulesB G C R = false) := by rw [Hid, HV.out, decide_eq_false (show ¬ C.length ≤ 200 by omega)]; simp
    go_enter Try.func14, Try.ntmps14
    go_upto_region 1 with fail
    generalize w.alloc (.cells #[.slice ag G.length cg, .slice ac C.length cc, .slice ar R.length cr] 40) = w1 at *
    obtain ⟨p0, p1, p2⟩ := P0.three
    go_wp2_with fail
    go_ret
    exact ⟨ret_boolA HF.out.symm, hb0⟩
  by_cases qR : (200 : Int) < (R.length : Int)
  · have HF : Hid (rulesB G C R = false) := by rw [Hid, HV.out, decide_eq_false (show ¬ R.length ≤ 200 by omega)]; simp
    go_enter Try.func14, Try.ntmps14
    go_upto_region 1 with fail
    generalize w.alloc (.cells #[.slice ag G.length cg, .slice ac C.length cc, .slice ar R.length cr] 40) = w1 at *
    obtain ⟨p0, p1, p2⟩ := P0.three
    go_wp2_with fail
    go_ret
    exact ⟨ret_boolA HF.out.symm, hb0⟩
  have HBadG : Hid (G.all grB = false → rulesB G C R = false) := fun h => by rw [HV.out, h]; simp
  have HBadC : Hid (C.all crB = false → rulesB G C R = false) := fun h => by rw [HV.out, h]; simp
  have HBadR : Hid (R.all rfB = false → rulesB G C R = false) := fun h => by rw [HV.out, h]; simp
  have HGood : Hid (G.all grB = true → C.all crB = true → R.all rfB = true → rulesB G C R = true) := fun h1 h2 h3 => by rw [HV.out, h1, h2, h3, decide_eq_true (show G.length ≤ 200 by omega), decide_eq_true (show C.length ≤ 200 by omega), decide_eq_true (show R.length ≤ 200 by omega)]; rfl
  clear HV
  go_enter Try.func14, Try.ntmps14
  go_upto_region 1 with fail
  generalize w.alloc (.cells #[.slice ag G.length cg, .slice ac C.length cc, .slice ar R.length cr] 40) = w1 at *
  have PS := hidden P0
  have bS := hb0
  obtain ⟨p0, p1, p2⟩ := P0.three
  go_wp2_with fail
  clear p0 p1 p2 P0 hb0
  go_loopw [3] (fun iv wr => ∃ i : Nat, i ≤ G.length ∧ iv = .int .i64 i ∧ Below w.heap.size w wr ∧ Hid (PB wr w.heap.size #[.slice ag G.length cg, .slice ac C.length cc, .slice ar R.length cr] 40) ∧ Hid ((G.take i).all grB = true)) (fun iv _ => G.length - (intOf iv).toNat)
  case atStart => exact ⟨0, Nat.zero_le _, rfl, bS, PS, rfl⟩
  case round =>
    clear bS PS
    obtain ⟨i, hi, rfl, hb1, PH, hok⟩ := hrel
    obtain ⟨p0, p1, p2⟩ := PH.out.three
    have hsz := hb1.size
    by_cases hlt : i < G.length
    · have hlti : (i : Int) < (G.length : Int) := by omega
      obtain ⟨x, hx⟩ := some_of G i hlt
      obtain ⟨g, off, rfl, hg, hcs⟩ := (HG.out.below hb1).at hx
      have c0 : wr.cell? ⟨g, off + i * 2, none⟩ = some (.int .i64 x.r) := hcs 0 (by omega)
      have c1 : wr.cell? ⟨g, off + i * 2 + 1, none⟩ = some (.int .i64 x.s) := hcs 1 (by omega)
      have HX := hidden hx
      clear hx hcs
      have k0 := stwA_any x.r
      have k1 := stwA_any x.s
      have HBB : Hid (grB x = (twB x.r && (twB x.s))) := rfl
      generalize twB x.r = t0 at *
      generalize twB x.s = t1 at *
      cases t0 with
      | false =>
        have HF : Hid (rulesB G C R = false) := HBadG.out (all_falseA HX.out (by rw [HBB.out]; simp))
        clear HBB
        go_wp2_with (first | (with_reducible refine (k0 _).mono ?_; rintro e w2 ⟨rfl, rfl⟩) | (with_reducible refine (k1 _).mono ?_; rintro e w2 ⟨rfl, rfl⟩))
        go_ret
        exact ⟨ret_boolA HF.out.symm, hb1⟩
      | true =>
      cases t1 with
      | false =>
        have HF : Hid (rulesB G C R = false) := HBadG.out (all_falseA HX.out (by rw [HBB.out]; simp))
        clear HBB
        go_wp2_with (first | (with_reducible refine (k0 _).mono ?_; rintro e w2 ⟨rfl, rfl⟩) | (with_reducible refine (k1 _).mono ?_; rintro e w2 ⟨rfl, rfl⟩))
        go_ret
        exact ⟨ret_boolA HF.out.symm, hb1⟩
      | true =>
      have HN : Hid ((G.take (i + 1)).all grB = true) := all_takeA hok.out HX.out (by rw [HBB.out]; rfl)
      clear HBB
      go_wp2_with (first | (with_reducible refine (k0 _).mono ?_; rintro e w2 ⟨rfl, rfl⟩) | (with_reducible refine (k1 _).mono ?_; rintro e w2 ⟨rfl, rfl⟩))
      go_roundw
      case rel => exact ⟨i + 1, by omega, rfl, hb1, PH, HN⟩
      case measure => simp [intOf]; omega
    · have hlti : ¬ (i : Int) < (G.length : Int) := by omega
      have HAG : Hid (G.all grB = true) := all_endA hok.out hlt
      clear hok hi hlt
      have bS := hb1
      have PS := PH
      go_wp2_with fail
      clear p0 p1 p2 PH hb1 hlti hsz
      go_loopw [4, 5] (fun iv _ wr => ∃ i : Nat, i ≤ C.length ∧ iv = .int .i64 i ∧ Below w.heap.size w wr ∧ Hid (PB wr w.heap.size #[.slice ag G.length cg, .slice ac C.length cc, .slice ar R.length cr] 40) ∧ Hid ((C.take i).all crB = true)) (fun iv _ _ => C.length - (intOf iv).toNat)
      case atStart => exact ⟨0, Nat.zero_le _, rfl, bS, PS, rfl⟩
      case round =>
        clear bS PS
        obtain ⟨i, hi, rfl, hb1, PH, hok⟩ := hrel
        obtain ⟨p0, p1, p2⟩ := PH.out.three
        have hsz := hb1.size
        by_cases hlt : i < C.length
        · have hlti : (i : Int) < (C.length : Int) := by omega
          obtain ⟨x, hx⟩ := some_of C i hlt
          obtain ⟨g, off, rfl, hg, hcs⟩ := (HC.out.below hb1).at hx
          have c0 : wr.cell? ⟨g, off + i * 4, none⟩ = some (.int .i64 x.w) := hcs 0 (by omega)
          have c1 : wr.cell? ⟨g, off + i * 4 + 1, none⟩ = some (.int .i64 x.p) := hcs 1 (by omega)
          have c2 : wr.cell? ⟨g, off + i * 4 + 2, none⟩ = some (.int .i64 x.f) := hcs 2 (by omega)
          have c3 : wr.cell? ⟨g, off + i * 4 + 3, none⟩ = some (.int .i64 x.t) := hcs 3 (by omega)
          have HX := hidden hx
          clear hx hcs
          have k0 := speA_any x.w
          have k1 := speA_any x.p
          have k2 := stiA_any x.f
          have k3 := stiA_any x.t
          have HBB : Hid (crB x = (peB x.w && (peB x.p && (tiB x.f && (tiB x.t && decide (x.f ≤ x.t)))))) := rfl
          generalize peB x.w = t0 at *
          generalize peB x.p = t1 at *
          generalize tiB x.f = t2 at *
          generalize tiB x.t = t3 at *
          have hbN : Below w.heap.size w (wr.alloc (.cells #[.int .i64 x.w, .int .i64 x.p, .int .i64 x.f, .int .i64 x.t] 64)) := hb1.alloc hsz _
          have PN := hidden (PH.out.alloc (.cells #[.int .i64 x.w, .int .i64 x.p, .int .i64 x.f, .int .i64 x.t] 64))
          cases t0 with
          | false =>
            have HF : Hid (rulesB G C R = false) := HBadC.out (all_falseA HX.out (by rw [HBB.out]; simp))
            clear HBB
            go_wp2_with (first | (with_reducible refine (k0 _).mono ?_; rintro e w2 ⟨rfl, rfl⟩) | (with_reducible refine (k1 _).mono ?_; rintro e w2 ⟨rfl, rfl⟩) | (with_reducible refine (k2 _).mono ?_; rintro e w2 ⟨rfl, rfl⟩) | (with_reducible refine (k3 _).mono ?_; rintro e w2 ⟨rfl, rfl⟩))
            go_ret
            exact ⟨ret_boolA HF.out.symm, hbN⟩
          | true =>
          cases t1 with
          | false =>
            have HF : Hid (rulesB G C R = false) := HBadC.out (all_falseA HX.out (by rw [HBB.out]; simp))
            clear HBB
            go_wp2_with (first | (with_reducible refine (k0 _).mono ?_; rintro e w2 ⟨rfl, rfl⟩) | (with_reducible refine (k1 _).mono ?_; rintro e w2 ⟨rfl, rfl⟩) | (with_reducible refine (k2 _).mono ?_; rintro e w2 ⟨rfl, rfl⟩) | (with_reducible refine (k3 _).mono ?_; rintro e w2 ⟨rfl, rfl⟩))
            go_ret
            exact ⟨ret_boolA HF.out.symm, hbN⟩
          | true =>
          cases t2 with
          | false =>
            have HF : Hid (rulesB G C R = false) := HBadC.out (all_falseA HX.out (by rw [HBB.out]; simp))
            clear HBB
            go_wp2_with (first | (with_reducible refine (k0 _).mono ?_; rintro e w2 ⟨rfl, rfl⟩) | (with_reducible refine (k1 _).mono ?_; rintro e w2 ⟨rfl, rfl⟩) | (with_reducible refine (k2 _).mono ?_; rintro e w2 ⟨rfl, rfl⟩) | (with_reducible refine (k3 _).mono ?_; rintro e w2 ⟨rfl, rfl⟩))
            go_ret
            exact ⟨ret_boolA HF.out.symm, hbN⟩
          | true =>
          cases t3 with
          | false =>
            have HF : Hid (rulesB G C R = false) := HBadC.out (all_falseA HX.out (by rw [HBB.out]; simp))
            clear HBB
            go_wp2_with (first | (with_reducible refine (k0 _).mono ?_; rintro e w2 ⟨rfl, rfl⟩) | (with_reducible refine (k1 _).mono ?_; rintro e w2 ⟨rfl, rfl⟩) | (with_reducible refine (k2 _).mono ?_; rintro e w2 ⟨rfl, rfl⟩) | (with_reducible refine (k3 _).mono ?_; rintro e w2 ⟨rfl, rfl⟩))
            go_ret
            exact ⟨ret_boolA HF.out.symm, hbN⟩
          | true =>
          by_cases q : x.t < x.f
          · have HF : Hid (rulesB G C R = false) := HBadC.out (all_falseA HX.out (by rw [HBB.out, decide_eq_false (by omega)]; rfl))
            clear HBB
            go_wp2_with (first | (with_reducible refine (k0 _).mono ?_; rintro e w2 ⟨rfl, rfl⟩) | (with_reducible refine (k1 _).mono ?_; rintro e w2 ⟨rfl, rfl⟩) | (with_reducible refine (k2 _).mono ?_; rintro e w2 ⟨rfl, rfl⟩) | (with_reducible refine (k3 _).mono ?_; rintro e w2 ⟨rfl, rfl⟩))
            go_ret
            exact ⟨ret_boolA HF.out.symm, hbN⟩
          have HN : Hid ((C.take (i + 1)).all crB = true) := all_takeA hok.out HX.out (by rw [HBB.out]; rw [decide_eq_true (by omega)]; rfl)
          clear HBB
          go_wp2_with (first | (with_reducible refine (k0 _).mono ?_; rintro e w2 ⟨rfl, rfl⟩) | (with_reducible refine (k1 _).mono ?_; rintro e w2 ⟨rfl, rfl⟩) | (with_reducible refine (k2 _).mono ?_; rintro e w2 ⟨rfl, rfl⟩) | (with_reducible refine (k3 _).mono ?_; rintro e w2 ⟨rfl, rfl⟩))
          go_roundw
          case rel => exact ⟨i + 1, by omega, rfl, hbN, PN, HN⟩
          case measure => simp [intOf]; omega
        · have hlti : ¬ (i : Int) < (C.length : Int) := by omega
          have HAC : Hid (C.all crB = true) := all_endA hok.out hlt
          clear hok hi hlt
          have bS := hb1
          have PS := PH
          go_wp2_with fail
          clear p0 p1 p2 PH hb1 hlti hsz
          go_loopw [6] (fun iv wr => ∃ i : Nat, i ≤ R.length ∧ iv = .int .i64 i ∧ Below w.heap.size w wr ∧ Hid (PB wr w.heap.size #[.slice ag G.length cg, .slice ac C.length cc, .slice ar R.length cr] 40) ∧ Hid ((R.take i).all rfB = true)) (fun iv _ => R.length - (intOf iv).toNat)
          case atStart => exact ⟨0, Nat.zero_le _, rfl, bS, PS, rfl⟩
          case round =>
            clear bS PS
            obtain ⟨i, hi, rfl, hb1, PH, hok⟩ := hrel
            obtain ⟨p0, p1, p2⟩ := PH.out.three
            have hsz := hb1.size
            by_cases hlt : i < R.length
            · have hlti : (i : Int) < (R.length : Int) := by omega
              obtain ⟨x, hx⟩ := some_of R i hlt
              obtain ⟨g, off, rfl, hg, hcs⟩ := (HR.out.below hb1).at hx
              have c0 : wr.cell? ⟨g, off + i * 2, none⟩ = some (.int .i64 x.p) := hcs 0 (by omega)
              have c1 : wr.cell? ⟨g, off + i * 2 + 1, none⟩ = some (.int .i64 x.r) := hcs 1 (by omega)
              have HX := hidden hx
              clear hx hcs
              have k0 := speA_any x.p
              have k1 := stwA_any x.r
              have HBB : Hid (rfB x = (peB x.p && (twB x.r))) := rfl
              generalize peB x.p = t0 at *
              generalize twB x.r = t1 at *
              cases t0 with
              | false =>
                have HF : Hid (rulesB G C R = false) := HBadR.out (all_falseA HX.out (by rw [HBB.out]; simp))
                clear HBB
                go_wp2_with (first | (with_reducible refine (k0 _).mono ?_; rintro e w2 ⟨rfl, rfl⟩) | (with_reducible refine (k1 _).mono ?_; rintro e w2 ⟨rfl, rfl⟩))
                go_ret
                exact ⟨ret_boolA HF.out.symm, hb1⟩
              | true =>
              cases t1 with
              | false =>
                have HF : Hid (rulesB G C R = false) := HBadR.out (all_falseA HX.out (by rw [HBB.out]; simp))
                clear HBB
                go_wp2_with (first | (with_reducible refine (k0 _).mono ?_; rintro e w2 ⟨rfl, rfl⟩) | (with_reducible refine (k1 _).mono ?_; rintro e w2 ⟨rfl, rfl⟩))
                go_ret
                exact ⟨ret_boolA HF.out.symm, hb1⟩
              | true =>
              have HN : Hid ((R.take (i + 1)).all rfB = true) := all_takeA hok.out HX.out (by rw [HBB.out]; rfl)
              clear HBB
              go_wp2_with (first | (with_reducible refine (k0 _).mono ?_; rintro e w2 ⟨rfl, rfl⟩) | (with_reducible refine (k1 _).mono ?_; rintro e w2 ⟨rfl, rfl⟩))
              go_roundw
              case rel => exact ⟨i + 1, by omega, rfl, hb1, PH, HN⟩
              case measure => simp [intOf]; omega
            · have hlti : ¬ (i : Int) < (R.length : Int) := by omega
              have HAR : Hid (R.all rfB = true) := all_endA hok.out hlt
              clear hok hi hlt
              have HF : Hid (rulesB G C R = true) := HGood.out HAG.out HAC.out HAR.out
              go_wp2_with fail
              go_ret
              exact ⟨ret_boolA HF.out.symm, hb1⟩
end Go.Proofs.Ytinnmebpipnccaa
