/-
  HouseOk, the specification's.
-/
import Derived.Test.YtklgadaefngnnaaHi
import Derived.Deep.RegionWith
namespace Go.Proofs.Ytklgadaefngnnaa
open Go.RowKit Hm
set_option linter.unusedVariables false

/-- A stay that is wrong by itself, or begins too early. -/
def badS (n : Nat) (S : List St) (i : Nat) (x : St) : Bool := !stOk n x || (decide (0 < i) && decide (x.frm < ahead S i))
theorem not_bad {B : List Bd} {S : List St} {i : Nat} {x : St} (hx : S[i]? = some x) (h : badS B.length S i x = true) : ¬ Ok B S := fun q => by
  have h1 := q.2.2.2.1 i x (get_lt hx) hx
  unfold badS at h
  rw [h1.1] at h
  simp only [Bool.not_true, Bool.false_or, Bool.and_eq_true, decide_eq_true_eq] at h
  cases i with
  | zero => omega
  | succ i =>
    obtain ⟨y, hy⟩ := some_at S i (by have := get_lt hx; omega)
    have h2 := h.2
    rw [ahead_succ hy] at h2
    have := h1.2 i y rfl hy
    omega
theorem good_of {B : List Bd} {S : List St} {i : Nat} {x : St} (hx : S[i]? = some x) (h : badS B.length S i x = false) (hs : staysTo B.length S i) : stOk B.length x = true ∧ staysTo B.length S (i + 1) := by
  unfold badS at h
  simp only [Bool.or_eq_false_iff, Bool.not_eq_false', Bool.and_eq_false_iff, decide_eq_false_iff_not] at h
  refine ⟨h.1, staysTo_succ hs hx h.1 fun k y hk hy => ?_⟩
  subst hk
  have h2 := h.2
  rw [ahead_succ hy] at h2
  omega
theorem ownsRow_empty6 (w : World) : (w.alloc (.cells #[] 36)).ownsRow w.heap.size 36 6 (.slice (some ⟨w.heap.size, 0, none⟩) 0 0) 0 [] :=
  ⟨rfl, Or.inr ⟨w.heap.size, 0, #[], rfl, Nat.le_refl _, heap_alloc_new _ _, Nat.le_refl _, Nat.zero_le _, rfl, rfl⟩⟩

set_option maxRecDepth 100000 in
set_option maxHeartbeats 4000000 in
theorem sok_any (ao ao2 : Option Addr) (n cap m cap2 : Nat) (B : List Bd) (S : List St) (w : World) (h : HRw w (.slice ao n cap) (.slice ao2 m cap2) B S) :
    Calls Try.prog 13 #[.agg #[.slice ao n cap, .slice ao2 m cap2]] w fun e w' => e = .returned (.bool (okB B S)) ∧ Below w.heap.size w w' := by
  obtain ⟨hB, hS⟩ := h
  obtain rfl := hB.len
  obtain rfl := hS.len
  have HB := hidden hB
  have HS := hidden hS
  clear hB hS
  by_cases h200 : (200 : Int) < (B.length : Int)
  · have hno : Hid (okB B S = false) := okB_false fun q => by have := q.1; omega
    go_enter Try.func13, Try.ntmps13
    go_wp2_with fail
    go_ret
    exact ⟨by rw [hno.out]; rfl, by repeat (first | exact Below.refl _ _ | assumption | refine st_drew ?_ | refine st_drewN ?_ _ | refine Below.setCell ?_ (by first | omega | (simp; done) | (simp; omega)) _ | refine Below.alloc ?_ (by first | omega | (simp; done) | (simp; omega)) _)⟩
  by_cases h1000 : (1000 : Int) < (S.length : Int)
  · have hno : Hid (okB B S = false) := okB_false fun q => by have := q.2.1; omega
    go_enter Try.func13, Try.ntmps13
    go_wp2_with fail
    go_ret
    exact ⟨by rw [hno.out]; rfl, by repeat (first | exact Below.refl _ _ | assumption | refine st_drew ?_ | refine st_drewN ?_ _ | refine Below.setCell ?_ (by first | omega | (simp; done) | (simp; omega)) _ | refine Below.alloc ?_ (by first | omega | (simp; done) | (simp; omega)) _)⟩
  go_enter Try.func13, Try.ntmps13
  go_wp2_with fail
  go_loopw [3] (fun iv wr => ∃ i : Nat, i ≤ B.length ∧ iv = .int .i64 i ∧ Below w.heap.size w wr ∧ w.heap.size < wr.heap.size ∧ wr.cell? ⟨w.heap.size, 0, none⟩ = some (.slice ao B.length cap) ∧ wr.cell? ⟨w.heap.size, 1, none⟩ = some (.slice ao2 S.length cap2) ∧ Hid (bedsTo B i)) (fun iv _ => B.length - (intOf iv).toNat)
  case atStart => exact ⟨0, Nat.zero_le _, rfl, (Below.refl _ _).alloc (Nat.le_refl _) _, by simp, by simp, by simp, bedsTo_zero _⟩
  case round =>
    obtain ⟨i, hi, rfl, hb, hz, hh0, hh1, hok⟩ := hrel
    by_cases hlt : i < B.length
    · skip
      as_aux_lemma =>
        have hlti : (i : Int) < (B.length : Int) := by omega
        obtain ⟨x, hx⟩ := some_at B i hlt
        obtain ⟨g, off, rfl, hg, c0, c1⟩ := bed_cells (HB.out.below hb) hx
        have HX := hidden hx
        clear hx
        have hR := lin_any x.room 0 999
        have hK := skind_any x.kind
        rw [show (decide (0 ≤ x.room) && decide (x.room ≤ 999)) = rm x.room from rfl] at hR
        cases hr : rm x.room with
        | false =>
          have hno : Hid (okB B S = false) := okB_false (not_bed HX.out (by unfold bedOk; rw [hr]; rfl))
          rw [hr] at hR
          clear hok
          go_wp2_with (go_at_call 41; refine (hR _).mono ?_; rintro e w1 ⟨rfl, rfl⟩)
          go_ret
          exact ⟨by rw [hno.out]; rfl, hb⟩
        | true =>
          rw [hr] at hR
          cases hk : kd x.kind with
          | false =>
            have hno : Hid (okB B S = false) := okB_false (not_bed HX.out (by unfold bedOk; rw [hr, hk]; rfl))
            rw [hk] at hK
            clear hok
            go_wp2_with (first | (go_at_call 41; refine (hR _).mono ?_; rintro e w1 ⟨rfl, rfl⟩) | (go_at_call 42; refine (hK _).mono ?_; rintro e w1 ⟨rfl, rfl⟩))
            go_ret
            exact ⟨by rw [hno.out]; rfl, hb⟩
          | true =>
            rw [hk] at hK
            have hok1 : Hid (bedOk x = true) := by unfold bedOk; rw [Hid, hr, hk]; rfl
            go_wp2_with (first | (go_at_call 41; refine (hR _).mono ?_; rintro e w1 ⟨rfl, rfl⟩) | (go_at_call 42; refine (hK _).mono ?_; rintro e w1 ⟨rfl, rfl⟩))
            go_loopw [4] (fun jv wr2 => ∃ j : Nat, j ≤ i ∧ jv = .int .i64 j ∧ Below w.heap.size w wr2 ∧ w.heap.size < wr2.heap.size ∧ wr2.cell? ⟨w.heap.size, 0, none⟩ = some (.slice (some ⟨g, off, none⟩) B.length cap) ∧ wr2.cell? ⟨w.heap.size, 1, none⟩ = some (.slice ao2 S.length cap2) ∧ Hid (∀ k y, k < j → B[k]? = some y → excl y x = false)) (fun jv _ => i - (intOf jv).toNat)
            case atStart => exact ⟨0, Nat.zero_le _, rfl, hb, hz, hh0, hh1, fun k y hk => absurd hk (Nat.not_lt_zero _)⟩
            case round =>
              clear hb hz hh0 hh1 hg c0 c1 hR hK
              obtain ⟨j, hj, rfl, hb, hz2, hh02, hh12, HE⟩ := hrel
              by_cases hjlt : j < i
              · have hjlti : (j : Int) < (i : Int) := by omega
                have hjl2 : (j : Int) < (B.length : Int) := by omega
                obtain ⟨y, hy⟩ := some_at B j (by omega)
                obtain ⟨g', off', hgo, hg, c0, c1⟩ := bed_cells (HB.out.below hb) HX.out
                obtain ⟨rfl, rfl⟩ : g = g' ∧ off = off' := by simpa using hgo
                obtain ⟨g', off', hgo', -, f0, f1⟩ := bed_cells (HB.out.below hb) hy
                obtain ⟨rfl, rfl⟩ : g = g' ∧ off = off' := by simpa using hgo'
                have HY := hidden hy
                clear hy hgo hgo'
                by_cases q1 : y.room = x.room
                · have e1 : (y.room == x.room) = true := by simpa using q1
                  by_cases q2 : y.kind = 3
                  · have hno : Hid (okB B S = false) := okB_false (not_excl HX.out HY.out hjlt (by unfold excl; simp [q1, q2]))
                    have e2 : (y.kind == 3) = true := by simpa using q2
                    clear q1 q2
                    go_wp2_with fail
                    go_quiet (fail)
                    go_wp2_with fail
                    go_ret
                    exact ⟨by rw [hno.out]; rfl, by repeat (first | exact Below.refl _ _ | assumption | refine st_drew ?_ | refine st_drewN ?_ _ | refine Below.setCell ?_ (by first | omega | (simp; done) | (simp; omega)) _ | refine Below.alloc ?_ (by first | omega | (simp; done) | (simp; omega)) _)⟩
                  · have e2 : (y.kind == 3) = false := by simpa using q2
                    by_cases q3 : x.kind = 3
                    · have hno : Hid (okB B S = false) := okB_false (not_excl HX.out HY.out hjlt (by unfold excl; simp [q1, q3]))
                      have e3 : (x.kind == 3) = true := by simpa using q3
                      clear q1 q2 q3
                      go_wp2_with fail
                      go_quiet (fail)
                      go_wp2_with fail
                      go_ret
                      exact ⟨by rw [hno.out]; rfl, by repeat (first | exact Below.refl _ _ | assumption | refine st_drew ?_ | refine st_drewN ?_ _ | refine Below.setCell ?_ (by first | omega | (simp; done) | (simp; omega)) _ | refine Below.alloc ?_ (by first | omega | (simp; done) | (simp; omega)) _)⟩
                    · have HN : Hid (∀ k z, k < j + 1 → B[k]? = some z → excl z x = false) := fun k z hk hz' => by
                        by_cases e : k = j
                        · subst e; rw [HY.out] at hz'; cases hz'; unfold excl; simp [q2, q3]
                        · exact HE.out k z (by omega) hz'
                      have e3 : (x.kind == 3) = false := by simpa using q3
                      clear q1 q2 q3
                      go_wp2_with fail
                      go_quiet (fail)
                      go_wp2_with fail
                      go_roundw
                      case rel => exact ⟨j + 1, by omega, rfl, by repeat (first | exact Below.refl _ _ | assumption | refine st_drew ?_ | refine st_drewN ?_ _ | refine Below.setCell ?_ (by first | omega | (simp; done) | (simp; omega)) _ | refine Below.alloc ?_ (by first | omega | (simp; done) | (simp; omega)) _), hz2, hh02, hh12, HN⟩
                      case measure => simp [intOf]; omega
                · have HN : Hid (∀ k z, k < j + 1 → B[k]? = some z → excl z x = false) := fun k z hk hz' => by
                    by_cases e : k = j
                    · subst e; rw [HY.out] at hz'; cases hz'; unfold excl; simp [q1]
                    · exact HE.out k z (by omega) hz'
                  have e1 : (y.room == x.room) = false := by simpa using q1
                  clear q1
                  go_wp2_with fail
                  go_quiet (fail)
                  go_wp2_with fail
                  go_roundw
                  case rel => exact ⟨j + 1, by omega, rfl, by repeat (first | exact Below.refl _ _ | assumption | refine st_drew ?_ | refine st_drewN ?_ _ | refine Below.setCell ?_ (by first | omega | (simp; done) | (simp; omega)) _ | refine Below.alloc ?_ (by first | omega | (simp; done) | (simp; omega)) _), hz2, hh02, hh12, HN⟩
                  case measure => simp [intOf]; omega
              · have hjlti : ¬ (j : Int) < (i : Int) := by omega
                have hji : j = i := by omega
                subst hji
                have hok2 : Hid (bedsTo B (j + 1)) := bedsTo_succ hok.out HX.out hok1.out HE.out
                go_wp2_with fail
                go_roundw
                case rel => exact ⟨j + 1, by omega, rfl, hb, hz2, hh02, hh12, hok2⟩
                case measure => simp [intOf]; omega
    · have hlti : ¬ (i : Int) < (B.length : Int) := by omega
      have hil : i = B.length := by omega
      subst hil
      obtain ⟨wA, rfl⟩ : ∃ x, x = wr := ⟨wr, rfl⟩
      have ho1 := ownsRow_empty6 wA
      have hsz := hb.size
      obtain ⟨i0, hi0, hy0, hy1, hy2⟩ := info_parts infoSt
      go_wp2_with fail
      go_loopw [5, 6] (fun tv iv w2 => ∃ (i : Nat) (fl : List St), i ≤ S.length ∧ iv = .int .i64 i ∧ fl.length ≤ i ∧ (∃ ad c0, tv = .slice ad fl.length c0 ∧ w2.ownsRow wA.heap.size 36 6 (.slice ad fl.length c0) fl.length (cellsL 6 csS fl)) ∧ Below wA.heap.size wA w2 ∧ Hid (fl = heres (S.take i)) ∧ Hid (staysTo B.length S i) ∧ Hid (rulesTo B S i)) (fun _ iv _ => S.length - (intOf iv).toNat)
      case atStart => exact ⟨0, [], Nat.zero_le _, rfl, Nat.le_refl _, ⟨_, _, rfl, ho1⟩, (Below.refl _ _).alloc (Nat.le_refl _) _, rfl, staysTo_zero _ _, rulesTo_zero _ _⟩
      case round =>
        clear ho1
        obtain ⟨i, fl, hil, rfl, hfl, ⟨ad, c0, rfl, ho⟩, hb2, HF, HST, HR⟩ := hrel
        have hz2 := hb2.size
        have d0 : wr.cell? ⟨w.heap.size, 0, none⟩ = some (.slice ao B.length cap) := (hb2.cell (p := ⟨w.heap.size, 0, none⟩) hz).trans hh0
        have d1 : wr.cell? ⟨w.heap.size, 1, none⟩ = some (.slice ao2 S.length cap2) := (hb2.cell (p := ⟨w.heap.size, 1, none⟩) hz).trans hh1
        have bw : Below w.heap.size w wr := hb.trans (hb2.mono hsz)
        by_cases hlt : i < S.length
        · have hlti : (i : Int) < (S.length : Int) := by omega
          obtain ⟨x, hx⟩ := some_at S i hlt
          obtain ⟨g, off, rfl, hg, c0', c1, c2, c3, c4, c5⟩ := stay_cells (HS.out.below bw) hx
          have HX := hidden hx
          have HT := hidden (take_snoc hx)
          have s0 : w.heap.size < wr.heap.size := by omega
          go_upto_region 18 with fail
          go_cut [161] (fun v wx => (∃ k, wx = (wr.alloc (.cells #[.int .i64 x.person, .int .i64 x.sex, .int .i64 x.need, .int .i64 x.bed, .int .i64 x.frm, .int .i64 x.til] 36)).drewN k) ∧ v = .bool (badS B.length S i x))
          case first =>
            as_aux_lemma =>
              have k1 := fun W => (sper_any x.person W).mono (R' := fun e w' => e = .returned (.bool _) ∧ w' = W) (fun _ _ hh => ⟨hh.1, hh.2.symm⟩)
              have k2 := fun W => (lin_any x.sex 1 2 W).mono (R' := fun e w' => e = .returned (.bool _) ∧ w' = W) (fun _ _ hh => ⟨hh.1, hh.2.symm⟩)
              have k3 := fun W => (skind_any x.need W).mono (R' := fun e w' => e = .returned (.bool _) ∧ w' = W) (fun _ _ hh => ⟨hh.1, hh.2.symm⟩)
              have k5 := fun W => (stime_any x.frm W).mono (R' := fun e w' => e = .returned (.bool _) ∧ w' = W) (fun _ _ hh => ⟨hh.1, hh.2.symm⟩)
              have k6 := fun W => (stime_any x.til W).mono (R' := fun e w' => e = .returned (.bool _) ∧ w' = W) (fun _ _ hh => ⟨hh.1, hh.2.symm⟩)
              rw [show (decide (1 ≤ x.sex) && decide (x.sex ≤ 2)) = sx x.sex from rfl] at k2
              clear HX HT HF HST HR ho hok
              have hprev : (0 : Int) < (i : Int) → wr.cell? ⟨g, off + ((i : Int) - 1).toNat * 6 + 4, none⟩ = some (.int .i64 (ahead S i)) := fun h0 => by
                obtain ⟨i', rfl⟩ : ∃ i', i = i' + 1 := ⟨i - 1, by omega⟩
                obtain ⟨y, hy⟩ := some_at S i' (by omega)
                obtain ⟨g', off', hgo, -, -, -, -, -, f4, -⟩ := stay_cells (HS.out.below bw) hy
                obtain ⟨rfl, rfl⟩ : g = g' ∧ off = off' := by simpa using hgo
                rw [ahead_succ hy, show (((i' + 1 : Nat) : Int) - 1).toNat = i' by omega]
                exact f4
              have hprev2 : (0 : Int) < (i : Int) → wr.cell? ⟨g, off + (i - 1) * 6 + 4, none⟩ = some (.int .i64 (ahead S i)) := fun h0 => by rw [← hprev h0, show ((i : Int) - 1).toNat = i - 1 by omega]
              have hp1 : (0 : Int) < (i : Int) → (0 : Int) ≤ (i : Int) - 1 := fun h0 => by omega
              have hp2 : (0 : Int) < (i : Int) → (i : Int) - 1 < (S.length : Int) := fun h0 => by omega
              have HBD : Hid (badS B.length S i x = (!(pers x.person && sx x.sex && kd x.need && (decide (0 ≤ x.bed) && decide (x.bed < (B.length : Int))) && tm x.frm && (decide (x.til = -1) || (tm x.til && decide (x.frm ≤ x.til)))) || (decide ((0 : Int) < (i : Int)) && decide (x.frm < ahead S i)))) := by rw [Hid]; unfold badS stOk inB toOk; simp
              generalize pers x.person = t1 at *
              generalize sx x.sex = t2 at *
              generalize kd x.need = t3 at *
              generalize tm x.frm = t5 at *
              generalize tm x.til = t6 at *
              generalize ahead S i = fa at *
              refine wp_region_quiet_lit (by kernel_rfl) (by kernel_rfl) ?_
              repeat (any_goals (first | go_big_quiet_step ((first | (go_at_call 43; exact Calls.quiet_of_same (k1 _)) | (go_at_call 41; exact Calls.quiet_of_same (k2 _)) | (go_at_call 42; exact Calls.quiet_of_same (k3 _)) | (go_at_call 44; first | exact Calls.quiet_of_same (k5 _) | exact Calls.quiet_of_same (k6 _)))) | quiet_step ((first | (go_at_call 43; exact Calls.quiet_of_same (k1 _)) | (go_at_call 41; exact Calls.quiet_of_same (k2 _)) | (go_at_call 42; exact Calls.quiet_of_same (k3 _)) | (go_at_call 44; first | exact Calls.quiet_of_same (k5 _) | exact Calls.quiet_of_same (k6 _)))) | (refine wpQuiet_step (fun K hK => ?_); go_simp; split <;> (refine hK _ ?_; clear hK K))))
              all_goals (refine wpQuiet_nil ?_; intro _ hw'; obtain ⟨nq, hw''⟩ := hw'; subst hw'')
              all_goals go_wp2_with fail
              all_goals (go_meet; case rel => exact ⟨⟨_, rfl⟩, val_bool (by rw [HBD.out]; first | (simp_all; done) | (simp_all; omega) | (simp; omega))⟩)
          case rest =>
            obtain ⟨⟨q0, hwc⟩, rfl⟩ := hcut
            have hbC : Below wr.heap.size wr wc := by rw [hwc]; exact st_drewN ((Below.refl _ _).alloc (Nat.le_refl _) _) _
            have hzC : wr.heap.size < wc.heap.size := by rw [hwc]; show wr.heap.size < (wr.alloc _).heap.size; simp
            have g0 : wc.cell? ⟨wr.heap.size, 0, none⟩ = some (.int .i64 x.person) := by rw [hwc]; show (wr.alloc _).cell? _ = _; simp
            have g1 : wc.cell? ⟨wr.heap.size, 1, none⟩ = some (.int .i64 x.sex) := by rw [hwc]; show (wr.alloc _).cell? _ = _; simp
            have g2' : wc.cell? ⟨wr.heap.size, 2, none⟩ = some (.int .i64 x.need) := by rw [hwc]; show (wr.alloc _).cell? _ = _; simp
            have g3 : wc.cell? ⟨wr.heap.size, 3, none⟩ = some (.int .i64 x.bed) := by rw [hwc]; show (wr.alloc _).cell? _ = _; simp
            have g4 : wc.cell? ⟨wr.heap.size, 4, none⟩ = some (.int .i64 x.frm) := by rw [hwc]; show (wr.alloc _).cell? _ = _; simp
            have g5 : wc.cell? ⟨wr.heap.size, 5, none⟩ = some (.int .i64 x.til) := by rw [hwc]; show (wr.alloc _).cell? _ = _; simp
            have h0C : wc.cell? ⟨w.heap.size, 0, none⟩ = some (.slice ao B.length cap) := (hbC.cell (p := ⟨w.heap.size, 0, none⟩) s0).trans d0
            have h1C : wc.cell? ⟨w.heap.size, 1, none⟩ = some (.slice (some ⟨g, off, none⟩) S.length cap2) := (hbC.cell (p := ⟨w.heap.size, 1, none⟩) s0).trans d1
            have hoC := own_below ho hbC
            have bwC : Below w.heap.size w wc := bw.trans (hbC.mono (by omega))
            have bAC : Below wA.heap.size wA wc := hb2.trans (hbC.mono hb2.size)
            clear hwc c0' c1 c2 c3 c4 c5 ho
            cases hbad : badS B.length S i x with
            | true =>
              have hno : Hid (okB B S = false) := okB_false (not_bad HX.out hbad)
              go_wp2_with fail
              go_ret
              exact ⟨by rw [hno.out]; rfl, by repeat (first | exact Below.refl _ _ | assumption | refine st_drew ?_ | refine st_drewN ?_ _ | refine Below.setCell ?_ (by first | omega | (simp; done) | (simp; omega)) _ | refine Below.alloc ?_ (by first | omega | (simp; done) | (simp; omega)) _)⟩
            | false =>
              obtain ⟨hst, hst2⟩ := good_of HX.out hbad HST.out
              have HST2 := hidden hst2
              clear hbad HST hst2
              by_cases hto : x.til = -1
              · obtain ⟨k, b, hk, hbk⟩ := bed_nat (fit_of hst).1
                obtain ⟨g2, off2, rfl, hg2, e0, e1⟩ := bed_cells (HB.out.below bwC) hbk
                have hklt : (k : Int) < (B.length : Int) := by have := get_lt hbk; omega
                have hD := sdoes_any b.kind x.need
                have HK : Hid (kindAt B x.bed = b.kind) := by rw [Hid, hk]; exact kindAt_nat hbk
                have HRM : Hid (roomAt B x.bed = b.room) := by rw [Hid, hk]; exact roomAt_nat hbk
                have HH : Hid (here x = true) := by unfold here Hid; simpa using hto
                have HKK := hidden hk
                have HTO := hidden hto
                rw [hk] at g3
                rw [hto] at g5
                clear hbk hst
                cases hd : does b.kind x.need with
                | false =>
                  have hno : Hid (okB B S = false) := okB_false (not_does HX.out HH.out (by rw [HK.out]; exact hd))
                  rw [hd] at hD
                  have hQ := fun W => (hD W).mono (R' := fun e w' => e = .returned (.bool false) ∧ w' = W) (fun _ _ hh => ⟨hh.1, hh.2.symm⟩)
                  go_wp2_with fail
                  go_quiet ((go_at_call 45; exact Calls.quiet_of_same (hQ _)))
                  go_wp2_with fail
                  go_ret
                  exact ⟨by rw [hno.out]; rfl, by repeat (first | exact Below.refl _ _ | assumption | refine st_drew ?_ | refine st_drewN ?_ _ | refine Below.setCell ?_ (by first | omega | (simp; done) | (simp; omega)) _ | refine Below.alloc ?_ (by first | omega | (simp; done) | (simp; omega)) _)⟩
                | true =>
                  have HDO : Hid (does (kindAt B x.bed) x.need = true) := by rw [Hid, HK.out]; exact hd
                  rw [hd] at hD
                  have hQ := fun W => (hD W).mono (R' := fun e w' => e = .returned (.bool true) ∧ w' = W) (fun _ _ hh => ⟨hh.1, hh.2.symm⟩)
                  go_wp2_with fail
                  go_quiet ((go_at_call 45; exact Calls.quiet_of_same (hQ _)))
                  go_wp2_with fail
                  have HOC := hidden (fun W (hW : Below wc.heap.size wc W) => (own_of rfl (own_below hoC hW)).row)
                  have HBC := hidden (fun W (hW : Below wc.heap.size wc W) => HB.out.below (bwC.trans (hW.mono bwC.size)))
                  have HFA : Hid (∀ y ∈ fl, fitS B.length y ∧ ∃ k', k' < i ∧ S[k']? = some y ∧ here y = true) := fun y hy => by
                    rw [HF.out] at hy
                    obtain ⟨k', h1, h2, h3⟩ := mem_heres.1 hy
                    exact ⟨fit_of (HST2.out k' y (by omega) h2).1, k', h1, h2, h3⟩
                  obtain ⟨wB, rfl⟩ : ∃ z, z = wr := ⟨_, rfl⟩
                  have hlfl : fl.length ≤ 1000 := by omega
                  go_loopw [8] (fun jv w3 => ∃ j : Nat, j ≤ fl.length ∧ jv = .int .i64 j ∧ Below wc.heap.size wc w3 ∧ Hid ((fl.take j).any (fun y => clash B y x) = false)) (fun jv _ => fl.length - (intOf jv).toNat)
                  case atStart => exact ⟨0, Nat.zero_le _, rfl, st_drewN (Below.refl _ _) _, rfl⟩
                  case round =>
                    obtain ⟨j, hj, rfl, hb3, HE⟩ := hrel
                    have hs3 := hb3.size
                    have bw3 : Below w.heap.size w wr := bwC.trans (hb3.mono bwC.size)
                    have p0 : wr.cell? ⟨wB.heap.size, 0, none⟩ = some (.int .i64 x.person) := (hb3.cell (p := ⟨wB.heap.size, 0, none⟩) hzC).trans g0
                    have p1 : wr.cell? ⟨wB.heap.size, 1, none⟩ = some (.int .i64 x.sex) := (hb3.cell (p := ⟨wB.heap.size, 1, none⟩) hzC).trans g1
                    have p2 : wr.cell? ⟨wB.heap.size, 2, none⟩ = some (.int .i64 x.need) := (hb3.cell (p := ⟨wB.heap.size, 2, none⟩) hzC).trans g2'
                    have p3 : wr.cell? ⟨wB.heap.size, 3, none⟩ = some (.int .i64 k) := (hb3.cell (p := ⟨wB.heap.size, 3, none⟩) hzC).trans g3
                    have p4 : wr.cell? ⟨wB.heap.size, 4, none⟩ = some (.int .i64 x.frm) := (hb3.cell (p := ⟨wB.heap.size, 4, none⟩) hzC).trans g4
                    have p5 : wr.cell? ⟨wB.heap.size, 5, none⟩ = some (.int .i64 (-1)) := (hb3.cell (p := ⟨wB.heap.size, 5, none⟩) hzC).trans g5
                    have p6 : wr.cell? ⟨w.heap.size, 0, none⟩ = some (.slice (some ⟨g2, off2, none⟩) B.length cap) := (hb3.cell (p := ⟨w.heap.size, 0, none⟩) (by show w.heap.size < wc.heap.size; omega)).trans h0C
                    have p8 : wr.cell? ⟨g2, off2 + k * 2, none⟩ = some (.int .i64 b.room) := (hb3.cell (p := ⟨g2, off2 + k * 2, none⟩) hg2).trans e0
                    by_cases hjlt : j < fl.length
                    · have hjlti : (j : Int) < (fl.length : Int) := by omega
                      obtain ⟨y, hy⟩ := some_at fl j hjlt
                      obtain ⟨g3', off3, rfl, hg3, f0, f1, -, f3, -, -⟩ := stay_cells (HOC.out _ hb3) hy
                      obtain ⟨hfy, k', hk1, hk2, hk3⟩ := HFA.out y (List.mem_of_getElem? hy)
                      obtain ⟨ky, by', hky, hby⟩ := bed_nat hfy.1
                      obtain ⟨g', off', hgo, -, m0, -⟩ := bed_cells (HBC.out _ hb3) hby
                      obtain ⟨rfl, rfl⟩ : g2 = g' ∧ off2 = off' := by simpa using hgo
                      have hkylt : (ky : Int) < (B.length : Int) := by have := get_lt hby; omega
                      have HTS := hidden (take_snoc hy)
                      have HQ : Hid (clash B y x = (decide (y.bed = x.bed) || (decide (y.person = x.person) || (decide (by'.room = b.room) && !decide (y.sex = x.sex))))) := by
                        unfold clash; rw [Hid, HRM.out, hky, roomAt_nat hby]
                      have HNO : Hid (clash B y x = true → okB B S = false) := fun hq => okB_false (not_clash HX.out hk2 hk1 HH.out hk3 hq)
                      have HYES : Hid (clash B y x = false → (fl.take (j + 1)).any (fun y => clash B y x) = false) := fun hq => by rw [HTS.out, List.any_append, HE.out]; simp [hq]
                      have HKY : Hid (decide (y.bed = x.bed) = decide ((ky : Int) = (k : Int))) := by rw [Hid, hky, HKK.out]
                      rw [HKY.out] at HQ
                      rw [hky] at f3
                      clear hby hy hgo hfy hk1 hk2 hk3 hky HTS HE HKY
                      by_cases q1 : (ky : Int) = (k : Int)
                      · have hno : Hid (okB B S = false) := HNO.out (by rw [HQ.out, decide_eq_true q1]; rfl)
                        have n1 : ((ky : Int) == (k : Int)) = true := by simpa using q1
                        have n1' : ky = k := by omega
                        subst n1'
                        clear q1 n1
                        go_wp2_with fail
                        go_quiet (fail)
                        go_wp2_with fail
                        go_ret
                        exact ⟨by rw [hno.out]; rfl, by repeat (first | exact Below.refl _ _ | assumption | refine st_drew ?_ | refine st_drewN ?_ _ | refine Below.setCell ?_ (by first | omega | (simp; done) | (simp; omega)) _ | refine Below.alloc ?_ (by first | omega | (simp; done) | (simp; omega)) _)⟩
                      have n1 : ((ky : Int) == (k : Int)) = false := by simpa using q1
                      have n1' : ¬ ky = k := by omega
                      have n1'' : (ky == k) = false := by simpa using n1'
                      by_cases q2 : y.person = x.person
                      · have hno : Hid (okB B S = false) := HNO.out (by rw [HQ.out, decide_eq_true q2]; simp)
                        have n2 : (y.person == x.person) = true := by simpa using q2
                        clear q1 q2
                        go_wp2_with fail
                        go_quiet (fail)
                        go_wp2_with fail
                        go_ret
                        exact ⟨by rw [hno.out]; rfl, by repeat (first | exact Below.refl _ _ | assumption | refine st_drew ?_ | refine st_drewN ?_ _ | refine Below.setCell ?_ (by first | omega | (simp; done) | (simp; omega)) _ | refine Below.alloc ?_ (by first | omega | (simp; done) | (simp; omega)) _)⟩
                      have n2 : (y.person == x.person) = false := by simpa using q2
                      by_cases q3 : by'.room = b.room
                      · have n3 : (by'.room == b.room) = true := by simpa using q3
                        by_cases q4 : y.sex = x.sex
                        · have HN := hidden (HYES.out (by rw [HQ.out, decide_eq_false q1, decide_eq_false q2, decide_eq_true q4]; simp))
                          have n4 : (y.sex == x.sex) = true := by simpa using q4
                          clear q1 q2 q3 q4
                          go_wp2_with fail
                          go_quiet (fail)
                          go_wp2_with fail
                          go_roundw
                          case rel => exact ⟨j + 1, by omega, rfl, st_drewN hb3 _, HN⟩
                          case measure => simp [intOf]; omega
                        · have hno : Hid (okB B S = false) := HNO.out (by rw [HQ.out, decide_eq_true q3, decide_eq_false q4]; simp)
                          have n4 : (y.sex == x.sex) = false := by simpa using q4
                          clear q1 q2 q3 q4
                          go_wp2_with fail
                          go_quiet (fail)
                          go_wp2_with fail
                          go_ret
                          exact ⟨by rw [hno.out]; rfl, by repeat (first | exact Below.refl _ _ | assumption | refine st_drew ?_ | refine st_drewN ?_ _ | refine Below.setCell ?_ (by first | omega | (simp; done) | (simp; omega)) _ | refine Below.alloc ?_ (by first | omega | (simp; done) | (simp; omega)) _)⟩
                      · have HN := hidden (HYES.out (by rw [HQ.out, decide_eq_false q1, decide_eq_false q2, decide_eq_false q3]; simp))
                        have n3 : (by'.room == b.room) = false := by simpa using q3
                        clear q1 q2 q3
                        go_wp2_with fail
                        go_quiet (fail)
                        go_wp2_with fail
                        go_roundw
                        case rel => exact ⟨j + 1, by omega, rfl, st_drewN hb3 _, HN⟩
                        case measure => simp [intOf]; omega
                    · have hjlti : ¬ (j : Int) < (fl.length : Int) := by omega
                      have hjl : j = fl.length := by omega
                      subst hjl
                      have HEA : Hid (fl.any (fun y => clash B y x) = false) := by have := HE.out; rw [List.take_length] at this; exact this
                      have HR2 : Hid (rulesTo B S (i + 1)) := rulesTo_succ HR.out HX.out HDO.out fun k' y h1 h2 h3 => by
                        cases he : clash B y x with
                        | false => rfl
                        | true =>
                          have := HEA.out
                          rw [HF.out, heres_any.2 ⟨k', y, h1, h2, h3, he⟩] at this; cases this
                      have HF2 : Hid (fl ++ [x] = heres (S.take (i + 1))) := by rw [Hid, HT.out, heres_snoc, if_pos HH.out, HF.out]
                      have ho3 := own_below hoC hb3
                      have b3 : Below wA.heap.size wA wr := bAC.trans (hb3.mono bAC.size)
                      have hsA := b3.size
                      clear HR HF HE HEA
                      go_wp2_with (at_builtin; refine wpList_append_own _ rfl (.tmp 230) (.tmp 232) 25 rfl wA.heap.size 36 i0 (.agg #[.int .i64 0, .int .i64 0, .int .i64 0, .int .i64 0, .int .i64 0, .int .i64 0]) 6 48 Try.underlying25 hi0 hy0 hy1 hy2 rfl (by decide) _ fl.length (cellsL 6 csS fl) rfl (ho3.alloc _) ⟨wr.heap.size, 0, none⟩ 1 1 [.int .i64 x.person, .int .i64 x.sex, .int .i64 x.need, .int .i64 k, .int .i64 x.frm, .int .i64 (-1)] rfl rfl (cell_six_new _ _ _ _ _ _ _ _) (six_one _ _ _ _ _ _) (by unfold maxLen; omega) (by omega) (by simp; omega) ?_; intro v4 w4 ho4 hg4 hnn4; obtain ⟨ad4, c4', rfl⟩ := own_slice ho4)
                      have b4 := (b3.alloc hsA _).grown hg4 (by simp; omega) (own_lt ho3)
                      go_roundw
                      case rel => exact ⟨i + 1, fl ++ [x], by omega, rfl, by simp; omega, ⟨ad4, c4', by rw [List.length_append]; rfl, by rw [cells_stay, List.length_append, HKK.out, HTO.out]; exact ho4⟩, b4, HF2, HST2, HR2⟩
                      case measure => simp [intOf]; omega
              · have HF2 : Hid (fl = heres (S.take (i + 1))) := by rw [Hid, HT.out, heres_snoc, if_neg (by unfold here; simpa using hto)]; exact HF.out
                have HR2 : Hid (rulesTo B S (i + 1)) := rulesTo_skip HR.out HX.out (by unfold here; simpa using hto)
                clear HF HR HT
                go_wp2_with fail
                go_roundw
                case rel => exact ⟨i + 1, fl, by omega, rfl, by omega, ⟨_, _, rfl, hoC⟩, bAC, HF2, HST2, HR2⟩
                case measure => simp [intOf]; omega
        · have hlti : ¬ (i : Int) < (S.length : Int) := by omega
          have hil2 : i = S.length := by omega
          subst hil2
          have hyes : Hid (okB B S = true) := okB_true ⟨by omega, by omega, hok.out, HST.out, HR.out⟩
          go_wp2_with fail
          go_ret
          exact ⟨by rw [hyes.out]; rfl, bw⟩

end Go.Proofs.Ytklgadaefngnnaa
