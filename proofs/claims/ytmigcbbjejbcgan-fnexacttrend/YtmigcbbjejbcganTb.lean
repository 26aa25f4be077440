/-
  Trend, the specification's.
-/
import Derived.Test.YtmigcbbjejbcganTa
import Derived.Test.YtmigcbbjejbcganVf
namespace Go.Proofs.Ytmigcbbjejbcgan
open Go.RowKit Va
set_option linter.unusedVariables false

set_option maxRecDepth 20000 in
set_option maxHeartbeats 4000000 in
theorem strend_any (ao : Option Addr) (n cap : Nat) (l : List Vt) (w : World) (h : Rw 6 csV w (.slice ao n cap) l) (hn : l.length ≤ 1048576) :
    Calls Try.prog 23 #[.slice ao n cap] w fun e w' => e = .returned (.int .i64 (trend l)) ∧ Below w.heap.size w w' := by
  obtain rfl := h.len
  have HH := hidden h
  clear h
  by_cases hbig : (4096 : Int) < (l.length : Int)
  · have hno : Hid (trend l = 0) := by unfold trend; rw [if_pos (by omega)]; rfl
    have hbig2 : ¬ (l.length : Int) ≤ 4096 := by omega
    have h0 : (0 : Int) < (l.length : Int) := by omega
    go_enter Try.func23, Try.ntmps23
    go_wp2_with fail
    refine wp_loop_rounds 1 ?_
    rw [rounds_succ]
    go_wp2_with fail
    go_ret
    exact ⟨ret_int hno.out.symm, Below.refl _ _⟩
  have hsm : (l.length : Int) ≤ 4096 := by omega
  have hbd := hidden (ab_bd)
  go_enter Try.func23, Try.ntmps23
  go_wp2_with fail
  go_loopw [3, 4, 5, 6, 7, 8] (fun av bv iv _ _ _ wr => ∃ i : Nat, i ≤ l.length ∧ iv = .int .i64 i ∧ av = .int .i64 (ab (l.take i)).1 ∧ bv = .int .i64 (ab (l.take i)).2 ∧ Below w.heap.size w wr) (fun _ _ iv _ _ _ _ => l.length - (intOf iv).toNat)
  case atStart => exact ⟨0, Nat.zero_le _, rfl, rfl, rfl, Below.refl _ _⟩
  case round =>
    obtain ⟨i, hi, rfl, rfl, rfl, hb⟩ := hrel
    by_cases hlt : i < l.length
    · have hlti : (i : Int) < (l.length : Int) := by omega
      obtain ⟨x, hx⟩ := some_at l i hlt
      obtain ⟨g, off, rfl, hg, c0, c1, c2, c3, c4, c5⟩ := vit_cells (HH.out.below hb) hx
      have HS := hidden ((congrArg ab (take_snoc hx)).trans (ab_snoc _ _))
      have hP := spts_any x
      have hV := svok_any x
      have HW := hidden (show whole x = (vOk x && decide (pnone x = 0)) from rfl)
      clear hx
      unfold aV at hP hV
      generalize psum x = ps at *
      generalize pnone x = pn at *
      generalize pthree x = p3 at *
      generalize vOk x = vo at *
      generalize whole x = wh at *
      generalize ab (l.take i) = q at *
      rcases vo with _ | _
      · go_wp2_with (first | (go_at_call 53; refine (hP _).mono ?_; rintro e w1 ⟨rfl, hb1⟩; have b1 := onto hb hb1; have d0 := ((bcell hb1).1 g (off + i * 6) hg).trans c0; have d1 := ((bcell hb1).1 g (off + i * 6 + 1) hg).trans c1; have d2 := ((bcell hb1).1 g (off + i * 6 + 2) hg).trans c2; have d3 := ((bcell hb1).1 g (off + i * 6 + 3) hg).trans c3; have d4 := ((bcell hb1).1 g (off + i * 6 + 4) hg).trans c4; have d5 := ((bcell hb1).1 g (off + i * 6 + 5) hg).trans c5) | (go_at_call 54; refine (hV _).mono ?_; rintro e w2 ⟨rfl, hb2⟩; have b2 := onto b1 hb2))
        go_roundw
        case rel => exact ⟨i + 1, by omega, rfl, by rw [HS.out, HW.out]; rfl, by rw [HS.out, HW.out]; rfl, b2⟩
        case measure => simp [intOf]; omega
      · by_cases hz : pn = 0
        · subst hz
          go_wp2_with (first | (go_at_call 53; refine (hP _).mono ?_; rintro e w1 ⟨rfl, hb1⟩; have b1 := onto hb hb1; have d0 := ((bcell hb1).1 g (off + i * 6) hg).trans c0; have d1 := ((bcell hb1).1 g (off + i * 6 + 1) hg).trans c1; have d2 := ((bcell hb1).1 g (off + i * 6 + 2) hg).trans c2; have d3 := ((bcell hb1).1 g (off + i * 6 + 3) hg).trans c3; have d4 := ((bcell hb1).1 g (off + i * 6 + 4) hg).trans c4; have d5 := ((bcell hb1).1 g (off + i * 6 + 5) hg).trans c5) | (go_at_call 54; refine (hV _).mono ?_; rintro e w2 ⟨rfl, hb2⟩; have b2 := onto b1 hb2))
          go_roundw
          case rel => exact ⟨i + 1, by omega, rfl, by rw [HS.out, HW.out]; rfl, by rw [HS.out, HW.out]; rfl, b2⟩
          case measure => simp [intOf]; omega
        · have hz2 : (pn == 0) = false := by simpa using hz
          have HW2 := hidden (HW.out.trans (show (true && decide (pn = 0)) = false by simp [hz]))
          go_wp2_with (first | (go_at_call 53; refine (hP _).mono ?_; rintro e w1 ⟨rfl, hb1⟩; have b1 := onto hb hb1; have d0 := ((bcell hb1).1 g (off + i * 6) hg).trans c0; have d1 := ((bcell hb1).1 g (off + i * 6 + 1) hg).trans c1; have d2 := ((bcell hb1).1 g (off + i * 6 + 2) hg).trans c2; have d3 := ((bcell hb1).1 g (off + i * 6 + 3) hg).trans c3; have d4 := ((bcell hb1).1 g (off + i * 6 + 4) hg).trans c4; have d5 := ((bcell hb1).1 g (off + i * 6 + 5) hg).trans c5) | (go_at_call 54; refine (hV _).mono ?_; rintro e w2 ⟨rfl, hb2⟩; have b2 := onto b1 hb2))
          go_roundw
          case rel => exact ⟨i + 1, by omega, rfl, by rw [HS.out, HW2.out]; rfl, by rw [HS.out, HW2.out]; rfl, b2⟩
          case measure => simp [intOf]; omega
    · have hlti : ¬ (i : Int) < (l.length : Int) := by omega
      have hil : i = l.length := by omega
      subst hil
      have HR : Hid (trend l = if (ab (l.take l.length)).1 < 0 then 0 else (ab (l.take l.length)).2 - (ab (l.take l.length)).1) := by rw [Hid, List.take_length]; unfold trend; rw [if_neg (by omega)]
      have hq := hbd.out (l.take l.length)
      generalize ab (l.take l.length) = q at *
      obtain ⟨q1, q2⟩ := q
      simp only at hq HR ⊢
      obtain ⟨⟨a1, a2⟩, a3, a4⟩ := hq
      by_cases hneg : q1 < 0
      · go_wp2_with fail
        go_ret
        exact ⟨ret_int (by rw [HR.out, if_pos hneg]), hb⟩
      · have hn2 : ¬ q1 < 0 := hneg
        go_wp2_with fail
        go_ret
        exact ⟨ret_int (by rw [HR.out, if_neg (by omega)]), hb⟩
end Go.Proofs.Ytmigcbbjejbcgan
