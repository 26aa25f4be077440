/-
  The program's pumps: limits, rates, states; is a pump right?
-/
import Derived.Test.YtamghmnibfbgaaaBx
namespace Go.Proofs.Ytamghmnibfbgaaa
open Go.RowKit Va Ba
set_option linter.unusedVariables false

/-- The ten cells of a pump's box, and that they may be written. -/
def Ten (W : World) (B : Nat) (p : Pm) : Prop :=
  W.cell? ⟨B, 0, none⟩ = some (.int .i64 p.lim.sl) ∧ W.cell? ⟨B, 1, none⟩ = some (.int .i64 p.lim.sh) ∧ W.cell? ⟨B, 2, none⟩ = some (.int .i64 p.lim.hl) ∧ W.cell? ⟨B, 3, none⟩ = some (.int .i64 p.lim.hh) ∧ W.cell? ⟨B, 4, none⟩ = some (.int .i64 p.rate) ∧ W.cell? ⟨B, 5, none⟩ = some (.int .i64 p.asked) ∧ W.cell? ⟨B, 6, none⟩ = some (.int .i64 p.st) ∧ W.cell? ⟨B, 7, none⟩ = some (.bool p.door) ∧ W.cell? ⟨B, 8, none⟩ = some (.int .i64 p.left) ∧ W.cell? ⟨B, 9, none⟩ = some (.int .i64 p.given)
theorem PB.tens {W : World} {B : Nat} {t : TypeId} {p : Pm} (h : PB W B (cP p) t) : Ten W B p := h.ten
/-- A call that writes nothing old leaves a box. -/
theorem box_call {F : Nat} {args : Array Value} {r : Ending} {wc : World} {B : Nat} {p : Pm} {t : TypeId} (h : ∀ w, Calls Try.prog F args w fun e w' => e = r ∧ Below w.heap.size w w') (hP : PB wc B (cP p) t) :
    ∀ W, Below wc.heap.size wc W → Calls Try.prog F args W fun e W' => e = r ∧ Below wc.heap.size wc W' ∧ Ten W' B p :=
  fun W hW => (h W).mono fun e W' ⟨h1, h2⟩ => ⟨h1, onto hW h2, (hP.below (onto hW h2)).tens⟩

def may (l : Lm) (n : Int) : Bool := decide (0 < n) && rng n l.hl l.hh
def rts (p : Pm) : Bool := (decide (p.asked = 0) || (may p.lim p.asked && !soft p.lim p.asked)) && (decide (p.rate = 0) || may p.lim p.rate)
def stt (p : Pm) : Bool := if p.st = 1 then decide (p.rate = 0) && decide (p.asked = 0) else if p.st = 3 then decide (0 < p.rate) && !p.door else if p.st = 4 then decide (0 < p.rate) else decide (p.st = 2) || decide (p.st = 5)
theorem may_hard {l : Lm} (h : limOk l = true) {n : Int} (hn : n ≠ 0) : may l n = hard l n := by
  have h1 := limOk_iff.1 h
  rw [Bool.eq_iff_iff]
  simp only [may, hard, Bool.and_eq_true, decide_eq_true_eq, rng_iff]
  omega
theorem may_zero (l : Lm) : may l 0 = false := by simp [may]
theorem right_eq (p : Pm) : pmOk p = (limOk p.lim && (rts p && (stt p && (rng p.left 0 100000000 && rng p.given 0 100000000)))) := by
  rw [Bool.eq_iff_iff]
  constructor
  · intro h
    have R := right_iff.1 h
    have hl : limOk p.lim = true := limOk_iff.2 R.lim
    rw [pmOk_parts] at h
    obtain ⟨h1, h2, h3⟩ := h
    simp only [Bool.and_eq_true]
    refine ⟨hl, ?_, ?_, rng_iff.2 R.left, rng_iff.2 R.given⟩
    · simp only [ratesOk, Bool.and_eq_true, Bool.or_eq_true, decide_eq_true_eq, Bool.not_eq_true'] at h2
      simp only [rts, Bool.and_eq_true, Bool.or_eq_true, decide_eq_true_eq, Bool.not_eq_true']
      refine ⟨?_, ?_⟩
      · by_cases z : p.asked = 0
        · exact .inl z
        · rw [may_hard hl z]; exact .inr ⟨(h2.1.resolve_left z).2, (h2.1.resolve_left z).1⟩
      · by_cases z : p.rate = 0
        · exact .inl z
        · rw [may_hard hl z]; exact .inr (h2.2.resolve_left z)
    · have hs := R.st
      unfold stt
      unfold stOk at h3
      split
      · rename_i q; rw [if_pos q] at h3; exact h3
      · rename_i q1; rw [if_neg q1] at h3
        split
        · rename_i q; rw [if_pos q] at h3; exact h3
        · rename_i q2; rw [if_neg q2] at h3
          split
          · rename_i q; rw [if_pos q] at h3; exact h3
          · rename_i q3; simp; omega
  · intro h
    simp only [Bool.and_eq_true] at h
    obtain ⟨hl, h2, h3, h4, h5⟩ := h
    rw [pmOk_parts]
    have hst : 1 ≤ p.st ∧ p.st ≤ 5 := by
      by_cases q1 : p.st = 1
      · omega
      by_cases q2 : p.st = 3
      · omega
      by_cases q3 : p.st = 4
      · omega
      simp [stt, q1, q2, q3] at h3
      omega
    refine ⟨?_, ?_, ?_⟩
    · simp only [base, Bool.and_eq_true]
      exact ⟨hl, rng_iff.2 hst, h4, h5⟩
    · simp only [rts, Bool.and_eq_true, Bool.or_eq_true, decide_eq_true_eq, Bool.not_eq_true'] at h2
      simp only [ratesOk, Bool.and_eq_true, Bool.or_eq_true, decide_eq_true_eq, Bool.not_eq_true']
      refine ⟨?_, ?_⟩
      · by_cases z : p.asked = 0
        · exact .inl z
        · rw [may_hard hl z] at h2; exact .inr ⟨(h2.1.resolve_left z).2, (h2.1.resolve_left z).1⟩
      · by_cases z : p.rate = 0
        · exact .inl z
        · rw [may_hard hl z] at h2; exact .inr (h2.2.resolve_left z)
    · unfold stOk
      unfold stt at h3
      split
      · rename_i q; rw [if_pos q] at h3; exact h3
      · rename_i q1; rw [if_neg q1] at h3
        split
        · rename_i q; rw [if_pos q] at h3; exact h3
        · rename_i q2; rw [if_neg q2] at h3
          split
          · rename_i q; rw [if_pos q] at h3; exact h3
          · rfl

set_option maxHeartbeats 1000000 in
theorem ivol_any (n : Int) (w : World) : Calls Try.prog 47 #[.int .i64 n] w fun e w' => e = .returned (.bool (rng n 0 100000000)) ∧ Below w.heap.size w w' := by
  unfold rng
  go_enter Try.func47, Try.ntmps47
  go_wp2
  all_goals go_ret
  all_goals exact ⟨ret_bool (by first | (simp; done) | (simp; omega) | (simp_all; done) | (simp_all; omega) | (rw [Bool.eq_iff_iff]; simp; omega) | (rw [Bool.eq_iff_iff]; simp_all; omega)), Below.refl _ _⟩

set_option maxHeartbeats 4000000 in
theorem ilim_any (l : Lm) (w : World) : Calls Try.prog 44 #[aL l] w fun e w' => e = .returned (.bool (limOk l)) ∧ Below w.heap.size w w' := by
  obtain ⟨sl, sh, hl, hh⟩ := l
  unfold limOk aL
  dsimp only
  go_enter Try.func44, Try.ntmps44
  go_wp2
  all_goals go_ret
  all_goals exact ⟨ret_bool (by first | (simp; done) | (simp; omega) | (simp_all; done) | (simp_all; omega) | (rw [Bool.eq_iff_iff]; simp; omega) | (rw [Bool.eq_iff_iff]; simp_all; omega)), by repeat (first | exact Below.refl _ _ | assumption | refine st_drew ?_ | refine st_drewN ?_ _ | refine Below.setCell ?_ (by first | omega | (simp; done) | (simp; omega)) _ | refine Below.alloc ?_ (by first | omega | (simp; done) | (simp; omega)) _)⟩

set_option maxHeartbeats 4000000 in
theorem imay_any (l : Lm) (n : Int) (w : World) : Calls Try.prog 61 #[aL l, .int .i64 n] w fun e w' => e = .returned (.bool (may l n)) ∧ Below w.heap.size w w' := by
  obtain ⟨sl, sh, hl, hh⟩ := l
  unfold may rng aL
  dsimp only
  go_enter Try.func61, Try.ntmps61
  go_wp2
  all_goals go_ret
  all_goals exact ⟨ret_bool (by first | (simp; done) | (simp; omega) | (simp_all; done) | (simp_all; omega) | (rw [Bool.eq_iff_iff]; simp; omega) | (rw [Bool.eq_iff_iff]; simp_all; omega)), by repeat (first | exact Below.refl _ _ | assumption | refine st_drew ?_ | refine st_drewN ?_ _ | refine Below.setCell ?_ (by first | omega | (simp; done) | (simp; omega)) _ | refine Below.alloc ?_ (by first | omega | (simp; done) | (simp; omega)) _)⟩

set_option maxHeartbeats 4000000 in
theorem iusual_any (l : Lm) (n : Int) (w : World) : Calls Try.prog 62 #[aL l, .int .i64 n] w fun e w' => e = .returned (.bool (soft l n)) ∧ Below w.heap.size w w' := by
  obtain ⟨sl, sh, hl, hh⟩ := l
  unfold soft rng aL
  dsimp only
  go_enter Try.func62, Try.ntmps62
  go_wp2
  all_goals go_ret
  all_goals exact ⟨ret_bool (by first | (simp; done) | (simp; omega) | (simp_all; done) | (simp_all; omega) | (rw [Bool.eq_iff_iff]; simp; omega) | (rw [Bool.eq_iff_iff]; simp_all; omega)), by repeat (first | exact Below.refl _ _ | assumption | refine st_drew ?_ | refine st_drewN ?_ _ | refine Below.setCell ?_ (by first | omega | (simp; done) | (simp; omega)) _ | refine Below.alloc ?_ (by first | omega | (simp; done) | (simp; omega)) _)⟩

set_option maxRecDepth 20000 in
set_option maxHeartbeats 4000000 in
theorem irates_any (p : Pm) (w : World) : Calls Try.prog 45 #[aPm p] w fun e w' => e = .returned (.bool (rts p)) ∧ Below w.heap.size w w' := by
  have k1 := imay_any p.lim p.asked
  have k2 := iusual_any p.lim p.asked
  have k3 := imay_any p.lim p.rate
  have HV : Hid (rts p = ((decide (p.asked = 0) || (may p.lim p.asked && !soft p.lim p.asked)) && (decide (p.rate = 0) || may p.lim p.rate))) := rfl
  generalize may p.lim p.asked = b1 at *
  generalize soft p.lim p.asked = b2 at *
  generalize may p.lim p.rate = b3 at *
  generalize rts p = R at *
  unfold aPm
  go_enter Try.func45, Try.ntmps45
  go_upto_region 1 with fail
  have hP := PB.new w #[.int .i64 p.lim.sl, .int .i64 p.lim.sh, .int .i64 p.lim.hl, .int .i64 p.lim.hh, .int .i64 p.rate, .int .i64 p.asked, .int .i64 p.st, .bool p.door, .int .i64 p.left, .int .i64 p.given] 61
  have hb0 : Below w.heap.size w (w.alloc (.cells #[.int .i64 p.lim.sl, .int .i64 p.lim.sh, .int .i64 p.lim.hl, .int .i64 p.lim.hh, .int .i64 p.rate, .int .i64 p.asked, .int .i64 p.st, .bool p.door, .int .i64 p.left, .int .i64 p.given] 61)) := (Below.refl _ _).alloc (Nat.le_refl _) _
  generalize w.alloc (.cells #[.int .i64 p.lim.sl, .int .i64 p.lim.sh, .int .i64 p.lim.hl, .int .i64 p.lim.hh, .int .i64 p.rate, .int .i64 p.asked, .int .i64 p.st, .bool p.door, .int .i64 p.left, .int .i64 p.given] 61) = wA at *
  generalize Value.agg #[.int .i64 p.lim.sl, .int .i64 p.lim.sh, .int .i64 p.lim.hl, .int .i64 p.lim.hh, .int .i64 p.rate, .int .i64 p.asked, .int .i64 p.st, .bool p.door, .int .i64 p.left, .int .i64 p.given] = av
  have K1 := box_call k1 hP
  have K2 := box_call k2 hP
  have K3 := box_call k3 hP
  have hr := Below.refl wA.heap.size wA
  have hle := hb0.size
  obtain ⟨c0, c1, c2, c3, c4, c5, c6, c7, c8, c9⟩ := hP.ten
  have HB := hidden hb0
  clear hP hb0 k1 k2 k3
  unfold aL at K1 K2 K3
  unfold Ten at K1 K2 K3
  generalize hBB : w.heap.size = B at *
  go_wp2_with (with_reducible (first | refine (K1 _ (by assumption)).mono ?_ | refine (K2 _ (by assumption)).mono ?_ | refine (K3 _ (by assumption)).mono ?_); rintro e w2 ⟨rfl, hb2, d0, d1, d2, d3, d4, d5, d6, d7, d8, d9⟩)
  all_goals first | go_ret | (trace_state; fail)
  all_goals refine ⟨ret_bool ?_, by first | exact HB.out.trans (Below.mono (by assumption) hle) | (rw [hBB]; exact HB.out.trans (Below.mono (by assumption) hle))⟩
  all_goals (rw [HV.out]; simp_all; done)

set_option maxRecDepth 20000 in
set_option maxHeartbeats 4000000 in
theorem istate_any (p : Pm) (w : World) : Calls Try.prog 46 #[aPm p] w fun e w' => e = .returned (.bool (stt p)) ∧ Below w.heap.size w w' := by
  have HV : Hid (stt p = if p.st = 1 then decide (p.rate = 0) && decide (p.asked = 0) else if p.st = 3 then decide (0 < p.rate) && !p.door else if p.st = 4 then decide (0 < p.rate) else decide (p.st = 2) || decide (p.st = 5)) := rfl
  generalize stt p = R at *
  unfold aPm
  go_enter Try.func46, Try.ntmps46
  go_upto_region 1 with fail
  have hP := PB.new w #[.int .i64 p.lim.sl, .int .i64 p.lim.sh, .int .i64 p.lim.hl, .int .i64 p.lim.hh, .int .i64 p.rate, .int .i64 p.asked, .int .i64 p.st, .bool p.door, .int .i64 p.left, .int .i64 p.given] 61
  have hb0 : Below w.heap.size w (w.alloc (.cells #[.int .i64 p.lim.sl, .int .i64 p.lim.sh, .int .i64 p.lim.hl, .int .i64 p.lim.hh, .int .i64 p.rate, .int .i64 p.asked, .int .i64 p.st, .bool p.door, .int .i64 p.left, .int .i64 p.given] 61)) := (Below.refl _ _).alloc (Nat.le_refl _) _
  generalize w.alloc (.cells #[.int .i64 p.lim.sl, .int .i64 p.lim.sh, .int .i64 p.lim.hl, .int .i64 p.lim.hh, .int .i64 p.rate, .int .i64 p.asked, .int .i64 p.st, .bool p.door, .int .i64 p.left, .int .i64 p.given] 61) = wA at *
  generalize Value.agg #[.int .i64 p.lim.sl, .int .i64 p.lim.sh, .int .i64 p.lim.hl, .int .i64 p.lim.hh, .int .i64 p.rate, .int .i64 p.asked, .int .i64 p.st, .bool p.door, .int .i64 p.left, .int .i64 p.given] = av
  obtain ⟨c0, c1, c2, c3, c4, c5, c6, c7, c8, c9⟩ := hP.ten
  have HB := hidden hb0
  clear hP hb0
  generalize hBB : w.heap.size = B at *
  obtain ⟨⟨sl, sh, hl, hh⟩, ra, ak, st, dr, lf, gv⟩ := p
  dsimp only at *
  go_wp2_with fail
  all_goals go_ret
  all_goals refine ⟨ret_bool ?_, by first | exact HB.out | (rw [hBB]; exact HB.out)⟩
  all_goals (rw [HV.out]; simp_all; try first | rfl | (intro _; omega) | (rw [Bool.eq_iff_iff]; simp; omega))

set_option maxRecDepth 20000 in
set_option maxHeartbeats 4000000 in
theorem iright_any (p : Pm) (w : World) : Calls Try.prog 29 #[aPm p] w fun e w' => e = .returned (.bool (pmOk p)) ∧ Below w.heap.size w w' := by
  have k1 := ilim_any p.lim
  have k2 := irates_any p
  have k3 := istate_any p
  have k4 := ivol_any p.left
  have k5 := ivol_any p.given
  have HV : Hid (pmOk p = (limOk p.lim && (rts p && (stt p && (rng p.left 0 100000000 && rng p.given 0 100000000))))) := right_eq p
  generalize pmOk p = R at *
  generalize limOk p.lim = b1 at *
  generalize rts p = b2 at *
  generalize stt p = b3 at *
  generalize rng p.left 0 100000000 = b4 at *
  generalize rng p.given 0 100000000 = b5 at *
  unfold aPm
  go_enter Try.func29, Try.ntmps29
  go_upto_region 1 with fail
  have hP := PB.new w #[.int .i64 p.lim.sl, .int .i64 p.lim.sh, .int .i64 p.lim.hl, .int .i64 p.lim.hh, .int .i64 p.rate, .int .i64 p.asked, .int .i64 p.st, .bool p.door, .int .i64 p.left, .int .i64 p.given] 61
  have hb0 : Below w.heap.size w (w.alloc (.cells #[.int .i64 p.lim.sl, .int .i64 p.lim.sh, .int .i64 p.lim.hl, .int .i64 p.lim.hh, .int .i64 p.rate, .int .i64 p.asked, .int .i64 p.st, .bool p.door, .int .i64 p.left, .int .i64 p.given] 61)) := (Below.refl _ _).alloc (Nat.le_refl _) _
  generalize w.alloc (.cells #[.int .i64 p.lim.sl, .int .i64 p.lim.sh, .int .i64 p.lim.hl, .int .i64 p.lim.hh, .int .i64 p.rate, .int .i64 p.asked, .int .i64 p.st, .bool p.door, .int .i64 p.left, .int .i64 p.given] 61) = wA at *
  generalize Value.agg #[.int .i64 p.lim.sl, .int .i64 p.lim.sh, .int .i64 p.lim.hl, .int .i64 p.lim.hh, .int .i64 p.rate, .int .i64 p.asked, .int .i64 p.st, .bool p.door, .int .i64 p.left, .int .i64 p.given] = av
  have K1 := box_call k1 hP
  have K2 := box_call k2 hP
  have K3 := box_call k3 hP
  have K4 := box_call k4 hP
  have K5 := box_call k5 hP
  have hr := Below.refl wA.heap.size wA
  have hle := hb0.size
  obtain ⟨c0, c1, c2, c3, c4, c5, c6, c7, c8, c9⟩ := hP.ten
  have HB := hidden hb0
  clear hP hb0 k1 k2 k3 k4 k5
  unfold aL at K1
  unfold aPm at K2 K3
  unfold Ten at K1 K2 K3 K4 K5
  generalize hBB : w.heap.size = B at *
  rcases b1 with _ | _
  · go_wp2_with (with_reducible refine (K1 _ (by assumption)).mono ?_; rintro e w2 ⟨rfl, hb2, d0, d1, d2, d3, d4, d5, d6, d7, d8, d9⟩)
    all_goals go_ret
    all_goals exact ⟨ret_bool (by rw [HV.out]; rfl), by first | exact HB.out.trans (Below.mono (by assumption) hle) | (rw [hBB]; exact HB.out.trans (Below.mono (by assumption) hle))⟩
  rcases b2 with _ | _
  · go_wp2_with (with_reducible (first | refine (K1 _ (by assumption)).mono ?_ | refine (K2 _ (by assumption)).mono ?_); rintro e w2 ⟨rfl, hb2, d0, d1, d2, d3, d4, d5, d6, d7, d8, d9⟩)
    all_goals go_ret
    all_goals exact ⟨ret_bool (by rw [HV.out]; rfl), by first | exact HB.out.trans (Below.mono (by assumption) hle) | (rw [hBB]; exact HB.out.trans (Below.mono (by assumption) hle))⟩
  rcases b3 with _ | _
  · go_wp2_with (with_reducible (first | refine (K1 _ (by assumption)).mono ?_ | refine (K2 _ (by assumption)).mono ?_ | refine (K3 _ (by assumption)).mono ?_); rintro e w2 ⟨rfl, hb2, d0, d1, d2, d3, d4, d5, d6, d7, d8, d9⟩)
    all_goals go_ret
    all_goals exact ⟨ret_bool (by rw [HV.out]; rfl), by first | exact HB.out.trans (Below.mono (by assumption) hle) | (rw [hBB]; exact HB.out.trans (Below.mono (by assumption) hle))⟩
  rcases b4 with _ | _
  · go_wp2_with (with_reducible (first | refine (K1 _ (by assumption)).mono ?_ | refine (K2 _ (by assumption)).mono ?_ | refine (K3 _ (by assumption)).mono ?_ | refine (K4 _ (by assumption)).mono ?_); rintro e w2 ⟨rfl, hb2, d0, d1, d2, d3, d4, d5, d6, d7, d8, d9⟩)
    all_goals go_ret
    all_goals exact ⟨ret_bool (by rw [HV.out]; rfl), by first | exact HB.out.trans (Below.mono (by assumption) hle) | (rw [hBB]; exact HB.out.trans (Below.mono (by assumption) hle))⟩
  go_wp2_with (with_reducible (first | refine (K1 _ (by assumption)).mono ?_ | refine (K2 _ (by assumption)).mono ?_ | refine (K3 _ (by assumption)).mono ?_ | refine (K4 _ (by assumption)).mono ?_ | refine (K5 _ (by assumption)).mono ?_); rintro e w2 ⟨rfl, hb2, d0, d1, d2, d3, d4, d5, d6, d7, d8, d9⟩)
  all_goals go_ret
  all_goals exact ⟨ret_bool (by rw [HV.out]; rfl), by first | exact HB.out.trans (Below.mono (by assumption) hle) | (rw [hBB]; exact HB.out.trans (Below.mono (by assumption) hle))⟩
end Go.Proofs.Ytamghmnibfbgaaa
