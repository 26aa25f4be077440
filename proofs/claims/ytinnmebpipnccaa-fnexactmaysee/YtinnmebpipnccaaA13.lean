/-
  What may be seen: the program.
-/
import Derived.Test.YtinnmebpipnccaaA9
import Derived.Laws.StructEq
import Derived.Laws.EntriesVeiled
import Derived.BigQuiet
import Derived.BigRegion
import Derived.Deep.QuietTactic
namespace Go.Proofs.Ytinnmebpipnccaa
open Go.RowKit Va Ax
set_option linter.all false

set_option maxRecDepth 20000 in
set_option maxHeartbeats 4000000 in
theorem ilook_any (pw pr pp ps pt : Int) (gl : Bool) (w : World) : Calls Try.prog 58 #[.agg #[.int .i64 pw, .int .i64 pr, .int .i64 pp, .int .i64 ps, .int .i64 pt, .bool gl]] w fun e w' => e = .returned (.bool (lkB ⟨pw, pr, pp, ps, pt, gl⟩)) ∧ Below w.heap.size w w' := by
  have k0 := ipersA_any pw
  have k1 := iroleA_any pr
  have k2 := ipersA_any pp
  have k3 := isortA_any ps
  have k4 := itimeA_any pt
  unfold lkB
  dsimp only
  generalize peB pw = t0 at *
  generalize twB pr = t1 at *
  generalize peB pp = t2 at *
  generalize twB ps = t3 at *
  generalize tiB pt = t4 at *
  rcases t0 with _ | _
  · go_enter Try.func58, Try.ntmps58
    go_wp2_with (with_reducible (first | refine (k0 _).mono ?_ | refine (k1 _).mono ?_ | refine (k2 _).mono ?_ | refine (k3 _).mono ?_ | refine (k4 _).mono ?_); rintro e w1 ⟨rfl, rfl⟩)
    go_ret
    exact ⟨by simp, by repeat (first | exact Below.refl _ _ | assumption | refine st_drew ?_ | refine st_drewN ?_ _ | refine Below.setCell ?_ (by first | omega | (simp; done) | (simp; omega)) _ | refine Below.alloc ?_ (by first | omega | (simp; done) | (simp; omega)) _)⟩
  rcases t1 with _ | _
  · go_enter Try.func58, Try.ntmps58
    go_wp2_with (with_reducible (first | refine (k0 _).mono ?_ | refine (k1 _).mono ?_ | refine (k2 _).mono ?_ | refine (k3 _).mono ?_ | refine (k4 _).mono ?_); rintro e w1 ⟨rfl, rfl⟩)
    go_ret
    exact ⟨by simp, by repeat (first | exact Below.refl _ _ | assumption | refine st_drew ?_ | refine st_drewN ?_ _ | refine Below.setCell ?_ (by first | omega | (simp; done) | (simp; omega)) _ | refine Below.alloc ?_ (by first | omega | (simp; done) | (simp; omega)) _)⟩
  rcases t2 with _ | _
  · go_enter Try.func58, Try.ntmps58
    go_wp2_with (with_reducible (first | refine (k0 _).mono ?_ | refine (k1 _).mono ?_ | refine (k2 _).mono ?_ | refine (k3 _).mono ?_ | refine (k4 _).mono ?_); rintro e w1 ⟨rfl, rfl⟩)
    go_ret
    exact ⟨by simp, by repeat (first | exact Below.refl _ _ | assumption | refine st_drew ?_ | refine st_drewN ?_ _ | refine Below.setCell ?_ (by first | omega | (simp; done) | (simp; omega)) _ | refine Below.alloc ?_ (by first | omega | (simp; done) | (simp; omega)) _)⟩
  rcases t3 with _ | _
  · go_enter Try.func58, Try.ntmps58
    go_wp2_with (with_reducible (first | refine (k0 _).mono ?_ | refine (k1 _).mono ?_ | refine (k2 _).mono ?_ | refine (k3 _).mono ?_ | refine (k4 _).mono ?_); rintro e w1 ⟨rfl, rfl⟩)
    go_ret
    exact ⟨by simp, by repeat (first | exact Below.refl _ _ | assumption | refine st_drew ?_ | refine st_drewN ?_ _ | refine Below.setCell ?_ (by first | omega | (simp; done) | (simp; omega)) _ | refine Below.alloc ?_ (by first | omega | (simp; done) | (simp; omega)) _)⟩
  rcases t4 with _ | _
  · go_enter Try.func58, Try.ntmps58
    go_wp2_with (with_reducible (first | refine (k0 _).mono ?_ | refine (k1 _).mono ?_ | refine (k2 _).mono ?_ | refine (k3 _).mono ?_ | refine (k4 _).mono ?_); rintro e w1 ⟨rfl, rfl⟩)
    go_ret
    exact ⟨by simp, by repeat (first | exact Below.refl _ _ | assumption | refine st_drew ?_ | refine st_drewN ?_ _ | refine Below.setCell ?_ (by first | omega | (simp; done) | (simp; omega)) _ | refine Below.alloc ?_ (by first | omega | (simp; done) | (simp; omega)) _)⟩
  go_enter Try.func58, Try.ntmps58
  go_wp2_with (with_reducible (first | refine (k0 _).mono ?_ | refine (k1 _).mono ?_ | refine (k2 _).mono ?_ | refine (k3 _).mono ?_ | refine (k4 _).mono ?_); rintro e w1 ⟨rfl, rfl⟩)
  go_ret
  exact ⟨rfl, by repeat (first | exact Below.refl _ _ | assumption | refine st_drew ?_ | refine st_drewN ?_ _ | refine Below.setCell ?_ (by first | omega | (simp; done) | (simp; omega)) _ | refine Below.alloc ?_ (by first | omega | (simp; done) | (simp; omega)) _)⟩

set_option maxRecDepth 20000 in
set_option maxHeartbeats 4000000 in
theorem iwithin_any (pw pr pp ps pt : Int) (gl : Bool) (c : Cr) (w : World) : Calls Try.prog 61 #[.agg #[.int .i64 pw, .int .i64 pr, .int .i64 pp, .int .i64 ps, .int .i64 pt, .bool gl], .agg #[.int .i64 c.w, .int .i64 c.p, .int .i64 c.f, .int .i64 c.t]] w fun e w' => e = .returned (.bool (isC ⟨pw, pr, pp, ps, pt, gl⟩ c)) ∧ Below w.heap.size w w' := by
  have HV : Hid (isC ⟨pw, pr, pp, ps, pt, gl⟩ c = (decide (c.w = pw) && (decide (c.p = pp) && (decide (c.f ≤ pt) && decide (pt ≤ c.t))))) := rfl
  by_cases q1 : pw = c.w
  · have g1 : (pw == c.w) = true := by simp [q1]
    have H1 : Hid (c.w = pw) := q1.symm
    clear q1
    by_cases q2 : pp = c.p
    · have g2 : (pp == c.p) = true := by simp [q2]
      have H2 : Hid (c.p = pp) := q2.symm
      clear q2
      by_cases q3 : c.f ≤ pt
      · by_cases q4 : pt ≤ c.t
        · go_enter Try.func61, Try.ntmps61
          go_wp2_with fail
          go_ret
          exact ⟨ret_boolA (by rw [HV.out]; simp [H1.out, H2.out, q3, q4]), by repeat (first | exact Below.refl _ _ | assumption | refine st_drew ?_ | refine st_drewN ?_ _ | refine Below.setCell ?_ (by first | omega | (simp; done) | (simp; omega)) _ | refine Below.alloc ?_ (by first | omega | (simp; done) | (simp; omega)) _)⟩
        · go_enter Try.func61, Try.ntmps61
          go_wp2_with fail
          go_ret
          exact ⟨ret_boolA (by rw [HV.out]; simp [H1.out, H2.out, q3, q4]), by repeat (first | exact Below.refl _ _ | assumption | refine st_drew ?_ | refine st_drewN ?_ _ | refine Below.setCell ?_ (by first | omega | (simp; done) | (simp; omega)) _ | refine Below.alloc ?_ (by first | omega | (simp; done) | (simp; omega)) _)⟩
      · go_enter Try.func61, Try.ntmps61
        go_wp2_with fail
        go_ret
        exact ⟨ret_boolA (by rw [HV.out, decide_eq_false (show ¬ c.f ≤ pt by omega)]; simp), by repeat (first | exact Below.refl _ _ | assumption | refine st_drew ?_ | refine st_drewN ?_ _ | refine Below.setCell ?_ (by first | omega | (simp; done) | (simp; omega)) _ | refine Below.alloc ?_ (by first | omega | (simp; done) | (simp; omega)) _)⟩
    · have g2 : (pp == c.p) = false := by simp [q2]
      have H2 : Hid (¬ c.p = pp) := fun h => q2 h.symm
      clear q2
      go_enter Try.func61, Try.ntmps61
      go_wp2_with fail
      go_ret
      exact ⟨ret_boolA (by rw [HV.out]; simp [H1.out, H2.out]), by repeat (first | exact Below.refl _ _ | assumption | refine st_drew ?_ | refine st_drewN ?_ _ | refine Below.setCell ?_ (by first | omega | (simp; done) | (simp; omega)) _ | refine Below.alloc ?_ (by first | omega | (simp; done) | (simp; omega)) _)⟩
  · have g1 : (pw == c.w) = false := by simp [q1]
    have H1 : Hid (¬ c.w = pw) := fun h => q1 h.symm
    clear q1
    go_enter Try.func61, Try.ntmps61
    go_wp2_with fail
    go_ret
    exact ⟨ret_boolA (by rw [HV.out]; simp [H1.out]), by repeat (first | exact Below.refl _ _ | assumption | refine st_drew ?_ | refine st_drewN ?_ _ | refine Below.setCell ?_ (by first | omega | (simp; done) | (simp; omega)) _ | refine Below.alloc ?_ (by first | omega | (simp; done) | (simp; omega)) _)⟩

theorem dec2A (a b c d : Int) : (decide (a = c) && decide (b = d)) = (c == a && d == b) := by
  have e1 : decide (a = c) = (c == a) := by
    by_cases h : a = c
    · subst h; simp
    · rw [decide_eq_false h]; exact (beq_eq_false_iff_ne.2 (fun q => h q.symm)).symm
  have e2 : decide (b = d) = (d == b) := by
    by_cases h : b = d
    · subst h; simp
    · rw [decide_eq_false h]; exact (beq_eq_false_iff_ne.2 (fun q => h q.symm)).symm
  rw [e1, e2]

theorem eqGrA (a b c d : Int) (w : World) : (Op.equalIn 10000 62 (.agg #[.int .i64 a, .int .i64 b]) (.agg #[.int .i64 c, .int .i64 d])).run Try.prog w = .ok (a == c && b == d) w := by
  have u2 := Try.underlying2
  have hS : Try.prog.underlying 62 = some (.struct (Try.prog.fieldsOf 62)) := by kernel_rfl
  have hp : Try.prog.stoodInHeld 62 = false := by kernel_rfl
  rw [show (10000 : Nat) = 9999 + 1 from rfl, run_equalIn_agg w 9999 62 _ _ hS hp]
  simp only [Program.fieldsOf, Try.underlying62]
  go_simp
  by_cases h1 : a = c <;> by_cases h2 : b = d <;> simp [h1, h2]

set_option maxRecDepth 20000 in
set_option maxHeartbeats 4000000 in
theorem iindexgr_any (ao : Option Addr) (n cap : Nat) (l : List Gr) (y0 y1 : Int) (w : World) (h : VRw 2 cvGr w (.slice ao n cap) l) (hn : l.length ≤ 1048576) :
    Calls Try.prog 67 #[.slice ao n cap, .agg #[.int .i64 y0, .int .i64 y1]] w fun e w' => (∃ r : Int, e = .returned (.int .i64 r) ∧ decide (0 ≤ r) = l.any (fun x => decide (x.r = y0) && decide (x.s = y1))) ∧ Below w.heap.size w w' := by
  obtain rfl := h.len
  have HH := hidden h
  have hgd : Try.prog.eqGuardType Try.prog.depth 62 = false := by kernel_rfl
  have hb0 : Below w.heap.size w (w.alloc (.cells #[.int .i64 y0, .int .i64 y1] 62)) := (Below.refl _ _).alloc (Nat.le_refl _) _
  have P0 := hidden (PB.new w #[.int .i64 y0, .int .i64 y1] 62)
  clear h
  go_enter Try.func67, Try.ntmps67
  go_upto_region 1 with fail
  generalize w.alloc (.cells #[.int .i64 y0, .int .i64 y1] 62) = w1 at *
  go_wp2_with fail
  go_loopw [5, 8] (fun _ iv wr => ∃ i : Nat, i ≤ l.length ∧ iv = .int .i64 i ∧ Below w.heap.size w wr ∧ Hid (PB wr w.heap.size #[.int .i64 y0, .int .i64 y1] 62) ∧ Hid ((l.take i).any (fun x => decide (x.r = y0) && decide (x.s = y1)) = false)) (fun _ iv _ => l.length - (intOf iv).toNat)
  case atStart => exact ⟨0, Nat.zero_le _, rfl, hb0, P0, rfl⟩
  case round =>
    clear P0 hb0
    obtain ⟨i, hi, rfl, hb1, PH, hok⟩ := hrel
    obtain ⟨p0, p1⟩ := PH.out.two
    by_cases hlt : i < l.length
    · have hlti : (i : Int) < (l.length : Int) := by omega
      have hi0 : (0 : Int) ≤ (i : Int) := by omega
      obtain ⟨x, hx⟩ := some_of l i hlt
      obtain ⟨g, off, rfl, hg, hcs⟩ := (HH.out.below hb1).at hx
      have c0 : wr.cell? ⟨g, off + i * 2, none⟩ = some (.int .i64 x.r) := hcs 0 (by omega)
      have c1 : wr.cell? ⟨g, off + i * 2 + 1, none⟩ = some (.int .i64 x.s) := hcs 1 (by omega)
      have HX := hidden hx
      have hE := eqGrA y0 y1 x.r x.s
      clear hx hcs
      generalize hT : (y0 == x.r && y1 == x.s) = t at *
      have HT : Hid ((decide (x.r = y0) && decide (x.s = y1)) = t) := hT ▸ dec2A _ _ _ _
      clear hT
      cases t with
      | true =>
        have HA : Hid (l.any (fun x => decide (x.r = y0) && decide (x.s = y1)) = true) := any_trueA HX.out HT.out
        go_wp2_with fail
        go_quiet (fail)
        go_wp2_with fail
        go_ret
        exact ⟨⟨i, rfl, by rw [HA.out]; simp⟩, by repeat (first | exact Below.refl _ _ | assumption | refine st_drew ?_ | refine st_drewN ?_ _ | refine Below.setCell ?_ (by first | omega | (simp; done) | (simp; omega)) _ | refine Below.alloc ?_ (by first | omega | (simp; done) | (simp; omega)) _)⟩
      | false =>
        have HA : Hid ((l.take (i + 1)).any (fun x => decide (x.r = y0) && decide (x.s = y1)) = false) := any_takeA hok.out HX.out HT.out
        go_wp2_with fail
        go_quiet (fail)
        go_wp2_with fail
        go_roundw
        case rel => exact ⟨i + 1, by omega, rfl, by repeat (first | exact Below.refl _ _ | assumption | refine st_drew ?_ | refine st_drewN ?_ _ | refine Below.setCell ?_ (by first | omega | (simp; done) | (simp; omega)) _ | refine Below.alloc ?_ (by first | omega | (simp; done) | (simp; omega)) _), PH.out.drewN _, HA⟩
        case measure => simp [intOf]; omega
    · have hlti : ¬ (i : Int) < (l.length : Int) := by omega
      have hil : i = l.length := by omega
      subst hil
      go_wp2_with fail
      go_ret
      exact ⟨⟨-1, rfl, by have := hok.out; rw [List.take_length] at this; rw [this]; rfl⟩, hb1⟩

set_option maxRecDepth 20000 in
set_option maxHeartbeats 1000000 in
theorem icontgr_any (ao : Option Addr) (n cap : Nat) (l : List Gr) (y0 y1 : Int) (w : World) (h : VRw 2 cvGr w (.slice ao n cap) l) (hn : l.length ≤ 1048576) :
    Calls Try.prog 59 #[.slice ao n cap, .agg #[.int .i64 y0, .int .i64 y1]] w fun e w' => e = .returned (.bool (l.any (fun x => decide (x.r = y0) && decide (x.s = y1)))) ∧ Below w.heap.size w w' := by
  have hb0 : Below w.heap.size w (w.alloc (.cells #[.int .i64 y0, .int .i64 y1] 62)) := (Below.refl _ _).alloc (Nat.le_refl _) _
  have hcall := iindexgr_any ao n cap l y0 y1 _ (h.below hb0) hn
  clear h
  generalize l.any (fun x => decide (x.r = y0) && decide (x.s = y1)) = t at *
  go_enter Try.func59, Try.ntmps59
  go_wp2_with (go_at_call 67; with_reducible refine hcall.mono ?_; rintro e w2 ⟨⟨r, rfl, hr⟩, hb2⟩; have HR := hidden hr; clear hr)
  go_ret
  exact ⟨ret_boolA HR.out, ontoA hb0 hb2 (by simp)⟩

theorem eqRfA (a b c d : Int) (w : World) : (Op.equalIn 10000 66 (.agg #[.int .i64 a, .int .i64 b]) (.agg #[.int .i64 c, .int .i64 d])).run Try.prog w = .ok (a == c && b == d) w := by
  have u2 := Try.underlying2
  have hS : Try.prog.underlying 66 = some (.struct (Try.prog.fieldsOf 66)) := by kernel_rfl
  have hp : Try.prog.stoodInHeld 66 = false := by kernel_rfl
  rw [show (10000 : Nat) = 9999 + 1 from rfl, run_equalIn_agg w 9999 66 _ _ hS hp]
  simp only [Program.fieldsOf, Try.underlying66]
  go_simp
  by_cases h1 : a = c <;> by_cases h2 : b = d <;> simp [h1, h2]

set_option maxRecDepth 20000 in
set_option maxHeartbeats 4000000 in
theorem iindexrf_any (ao : Option Addr) (n cap : Nat) (l : List Rf) (y0 y1 : Int) (w : World) (h : VRw 2 cvRf w (.slice ao n cap) l) (hn : l.length ≤ 1048576) :
    Calls Try.prog 69 #[.slice ao n cap, .agg #[.int .i64 y0, .int .i64 y1]] w fun e w' => (∃ r : Int, e = .returned (.int .i64 r) ∧ decide (0 ≤ r) = l.any (fun x => decide (x.p = y0) && decide (x.r = y1))) ∧ Below w.heap.size w w' := by
  obtain rfl := h.len
  have HH := hidden h
  have hgd : Try.prog.eqGuardType Try.prog.depth 66 = false := by kernel_rfl
  have hb0 : Below w.heap.size w (w.alloc (.cells #[.int .i64 y0, .int .i64 y1] 66)) := (Below.refl _ _).alloc (Nat.le_refl _) _
  have P0 := hidden (PB.new w #[.int .i64 y0, .int .i64 y1] 66)
  clear h
  go_enter Try.func69, Try.ntmps69
  go_upto_region 1 with fail
  generalize w.alloc (.cells #[.int .i64 y0, .int .i64 y1] 66) = w1 at *
  go_wp2_with fail
  go_loopw [5, 8] (fun _ iv wr => ∃ i : Nat, i ≤ l.length ∧ iv = .int .i64 i ∧ Below w.heap.size w wr ∧ Hid (PB wr w.heap.size #[.int .i64 y0, .int .i64 y1] 66) ∧ Hid ((l.take i).any (fun x => decide (x.p = y0) && decide (x.r = y1)) = false)) (fun _ iv _ => l.length - (intOf iv).toNat)
  case atStart => exact ⟨0, Nat.zero_le _, rfl, hb0, P0, rfl⟩
  case round =>
    clear P0 hb0
    obtain ⟨i, hi, rfl, hb1, PH, hok⟩ := hrel
    obtain ⟨p0, p1⟩ := PH.out.two
    by_cases hlt : i < l.length
    · have hlti : (i : Int) < (l.length : Int) := by omega
      have hi0 : (0 : Int) ≤ (i : Int) := by omega
      obtain ⟨x, hx⟩ := some_of l i hlt
      obtain ⟨g, off, rfl, hg, hcs⟩ := (HH.out.below hb1).at hx
      have c0 : wr.cell? ⟨g, off + i * 2, none⟩ = some (.int .i64 x.p) := hcs 0 (by omega)
      have c1 : wr.cell? ⟨g, off + i * 2 + 1, none⟩ = some (.int .i64 x.r) := hcs 1 (by omega)
      have HX := hidden hx
      have hE := eqRfA y0 y1 x.p x.r
      clear hx hcs
      generalize hT : (y0 == x.p && y1 == x.r) = t at *
      have HT : Hid ((decide (x.p = y0) && decide (x.r = y1)) = t) := hT ▸ dec2A _ _ _ _
      clear hT
      cases t with
      | true =>
        have HA : Hid (l.any (fun x => decide (x.p = y0) && decide (x.r = y1)) = true) := any_trueA HX.out HT.out
        go_wp2_with fail
        go_quiet (fail)
        go_wp2_with fail
        go_ret
        exact ⟨⟨i, rfl, by rw [HA.out]; simp⟩, by repeat (first | exact Below.refl _ _ | assumption | refine st_drew ?_ | refine st_drewN ?_ _ | refine Below.setCell ?_ (by first | omega | (simp; done) | (simp; omega)) _ | refine Below.alloc ?_ (by first | omega | (simp; done) | (simp; omega)) _)⟩
      | false =>
        have HA : Hid ((l.take (i + 1)).any (fun x => decide (x.p = y0) && decide (x.r = y1)) = false) := any_takeA hok.out HX.out HT.out
        go_wp2_with fail
        go_quiet (fail)
        go_wp2_with fail
        go_roundw
        case rel => exact ⟨i + 1, by omega, rfl, by repeat (first | exact Below.refl _ _ | assumption | refine st_drew ?_ | refine st_drewN ?_ _ | refine Below.setCell ?_ (by first | omega | (simp; done) | (simp; omega)) _ | refine Below.alloc ?_ (by first | omega | (simp; done) | (simp; omega)) _), PH.out.drewN _, HA⟩
        case measure => simp [intOf]; omega
    · have hlti : ¬ (i : Int) < (l.length : Int) := by omega
      have hil : i = l.length := by omega
      subst hil
      go_wp2_with fail
      go_ret
      exact ⟨⟨-1, rfl, by have := hok.out; rw [List.take_length] at this; rw [this]; rfl⟩, hb1⟩

set_option maxRecDepth 20000 in
set_option maxHeartbeats 1000000 in
theorem icontrf_any (ao : Option Addr) (n cap : Nat) (l : List Rf) (y0 y1 : Int) (w : World) (h : VRw 2 cvRf w (.slice ao n cap) l) (hn : l.length ≤ 1048576) :
    Calls Try.prog 62 #[.slice ao n cap, .agg #[.int .i64 y0, .int .i64 y1]] w fun e w' => e = .returned (.bool (l.any (fun x => decide (x.p = y0) && decide (x.r = y1)))) ∧ Below w.heap.size w w' := by
  have hb0 : Below w.heap.size w (w.alloc (.cells #[.int .i64 y0, .int .i64 y1] 66)) := (Below.refl _ _).alloc (Nat.le_refl _) _
  have hcall := iindexrf_any ao n cap l y0 y1 _ (h.below hb0) hn
  clear h
  generalize l.any (fun x => decide (x.p = y0) && decide (x.r = y1)) = t at *
  go_enter Try.func62, Try.ntmps62
  go_wp2_with (go_at_call 69; with_reducible refine hcall.mono ?_; rintro e w2 ⟨⟨r, rfl, hr⟩, hb2⟩; have HR := hidden hr; clear hr)
  go_ret
  exact ⟨ret_boolA HR.out, ontoA hb0 hb2 (by simp)⟩

set_option maxRecDepth 20000 in
set_option maxHeartbeats 4000000 in
theorem iindexf_any (ao : Option Addr) (n cap : Nat) (l : List Cr) (pw pr pp ps pt : Int) (gl : Bool) (w : World) (h : VRw 4 cvCr w (.slice ao n cap) l) (hn : l.length ≤ 1048576) :
    Calls Try.prog 68 #[.slice ao n cap, .func (.func 61) #[.agg #[.int .i64 pw, .int .i64 pr, .int .i64 pp, .int .i64 ps, .int .i64 pt, .bool gl]] #[]] w fun e w' => (∃ r : Int, e = .returned (.int .i64 r) ∧ decide (0 ≤ r) = l.any (isC ⟨pw, pr, pp, ps, pt, gl⟩)) ∧ Below w.heap.size w w' := by
  obtain rfl := h.len
  have HH := hidden h
  clear h
  go_enter Try.func68, Try.ntmps68
  go_wp2_with fail
  go_loopw [5, 8] (fun _ iv wr => ∃ i : Nat, i ≤ l.length ∧ iv = .int .i64 i ∧ Below w.heap.size w wr ∧ Hid ((l.take i).any (isC ⟨pw, pr, pp, ps, pt, gl⟩) = false)) (fun _ iv _ => l.length - (intOf iv).toNat)
  case atStart => exact ⟨0, Nat.zero_le _, rfl, Below.refl _ _, rfl⟩
  case round =>
    obtain ⟨i, hi, rfl, hb1, hok⟩ := hrel
    by_cases hlt : i < l.length
    · have hlti : (i : Int) < (l.length : Int) := by omega
      obtain ⟨x, hx⟩ := some_of l i hlt
      obtain ⟨g, off, rfl, hg, hcs⟩ := (HH.out.below hb1).at hx
      have c0 : wr.cell? ⟨g, off + i * 4, none⟩ = some (.int .i64 x.w) := hcs 0 (by omega)
      have c1 : wr.cell? ⟨g, off + i * 4 + 1, none⟩ = some (.int .i64 x.p) := hcs 1 (by omega)
      have c2 : wr.cell? ⟨g, off + i * 4 + 2, none⟩ = some (.int .i64 x.f) := hcs 2 (by omega)
      have c3 : wr.cell? ⟨g, off + i * 4 + 3, none⟩ = some (.int .i64 x.t) := hcs 3 (by omega)
      have HX := hidden hx
      have kc := iwithin_any pw pr pp ps pt gl x
      clear hx hcs
      cases q : isC ⟨pw, pr, pp, ps, pt, gl⟩ x with
      | true =>
        have HA : Hid (l.any (isC ⟨pw, pr, pp, ps, pt, gl⟩) = true) := any_trueA HX.out q
        rw [q] at kc
        clear q
        go_wp2_with (go_at_call 61; with_reducible refine (kc _).mono ?_; rintro e w2 ⟨rfl, hb2⟩)
        go_ret
        exact ⟨⟨i, rfl, by rw [HA.out]; simp⟩, ontoA hb1 hb2 hb1.size⟩
      | false =>
        have HA : Hid ((l.take (i + 1)).any (isC ⟨pw, pr, pp, ps, pt, gl⟩) = false) := any_takeA hok.out HX.out q
        rw [q] at kc
        clear q
        go_wp2_with (go_at_call 61; with_reducible refine (kc _).mono ?_; rintro e w2 ⟨rfl, hb2⟩)
        go_roundw
        case rel => exact ⟨i + 1, by omega, rfl, ontoA hb1 hb2 hb1.size, HA⟩
        case measure => simp [intOf]; omega
    · have hlti : ¬ (i : Int) < (l.length : Int) := by omega
      have hil : i = l.length := by omega
      subst hil
      go_wp2_with fail
      go_ret
      exact ⟨⟨-1, rfl, by have := hok.out; rw [List.take_length] at this; rw [this]; rfl⟩, hb1⟩

set_option maxRecDepth 20000 in
set_option maxHeartbeats 1000000 in
theorem icontf_any (ao : Option Addr) (n cap : Nat) (l : List Cr) (pw pr pp ps pt : Int) (gl : Bool) (w : World) (h : VRw 4 cvCr w (.slice ao n cap) l) (hn : l.length ≤ 1048576) :
    Calls Try.prog 60 #[.slice ao n cap, .func (.func 61) #[.agg #[.int .i64 pw, .int .i64 pr, .int .i64 pp, .int .i64 ps, .int .i64 pt, .bool gl]] #[]] w fun e w' => e = .returned (.bool (l.any (isC ⟨pw, pr, pp, ps, pt, gl⟩))) ∧ Below w.heap.size w w' := by
  have hcall := iindexf_any ao n cap l pw pr pp ps pt gl w h hn
  clear h
  generalize l.any (isC ⟨pw, pr, pp, ps, pt, gl⟩) = t at *
  go_enter Try.func60, Try.ntmps60
  go_wp2_with (go_at_call 68; with_reducible refine hcall.mono ?_; rintro e w2 ⟨⟨r, rfl, hr⟩, hb2⟩; have HR := hidden hr; clear hr)
  go_ret
  exact ⟨ret_boolA HR.out, hb2⟩

set_option maxRecDepth 20000 in
set_option maxHeartbeats 8000000 in
theorem icode_any (ag : Option Addr) (ng cg : Nat) (ac : Option Addr) (nc cc : Nat) (ar : Option Addr) (nr cr : Nat) (G : List Gr) (C : List Cr) (R : List Rf) (pw pr pp ps pt : Int) (gl : Bool) (w : World) (hG : VRw 2 cvGr w (.slice ag ng cg) G) (hC : VRw 4 cvCr w (.slice ac nc cc) C) (hR : VRw 2 cvRf w (.slice ar nr cr) R) (lG : G.length ≤ 1048576) (lC : C.length ≤ 1048576) (lR : R.length ≤ 1048576) :
    Calls Try.prog 48 #[.agg #[.slice ag ng cg, .slice ac nc cc, .slice ar nr cr], .agg #[.int .i64 pw, .int .i64 pr, .int .i64 pp, .int .i64 ps, .int .i64 pt, .bool gl]] w fun e w' => e = .returned (.int .i64 (see G C R ⟨pw, pr, pp, ps, pt, gl⟩)) ∧ Below w.heap.size w w' := by
  obtain rfl := hG.len
  obtain rfl := hC.len
  obtain rfl := hR.len
  have KG := hidden (fun W (hW : Below w.heap.size w W) => icontgr_any ag G.length cg G pr ps W (hG.below hW) lG)
  have KC := hidden (fun W (hW : Below w.heap.size w W) => icontf_any ac C.length cc C pw pr pp ps pt gl W (hC.below hW) lC)
  have KR := hidden (fun W (hW : Below w.heap.size w W) => icontrf_any ar R.length cr R pp pr W (hR.below hW) lR)
  have kL := ilook_any pw pr pp ps pt gl
  have HV : Hid (see G C R ⟨pw, pr, pp, ps, pt, gl⟩ = if lkB ⟨pw, pr, pp, ps, pt, gl⟩ = false then 1 else if G.any (fun x => decide (x.r = pr) && decide (x.s = ps)) = false then 2 else if C.any (isC ⟨pw, pr, pp, ps, pt, gl⟩) = false then 3 else if R.any (fun x => decide (x.p = pp) && decide (x.r = pr)) = true then 4 else 0) := rfl
  generalize lkB ⟨pw, pr, pp, ps, pt, gl⟩ = t1 at *
  generalize G.any (fun x => decide (x.r = pr) && decide (x.s = ps)) = t2 at *
  generalize C.any (isC ⟨pw, pr, pp, ps, pt, gl⟩) = t3 at *
  generalize R.any (fun x => decide (x.p = pp) && decide (x.r = pr)) = t4 at *
  have hb0 : Below w.heap.size w ((w.alloc (.cells #[.slice ag G.length cg, .slice ac C.length cc, .slice ar R.length cr] 40)).alloc (.cells #[.int .i64 pw, .int .i64 pr, .int .i64 pp, .int .i64 ps, .int .i64 pt, .bool gl] 78)) := ((Below.refl _ _).alloc (Nat.le_refl _) _).alloc (by simp) _
  have PR1 := (PB.new w #[.slice ag G.length cg, .slice ac C.length cc, .slice ar R.length cr] 40).alloc (.cells #[.int .i64 pw, .int .i64 pr, .int .i64 pp, .int .i64 ps, .int .i64 pt, .bool gl] 78)
  have PL1 := PB.new (w.alloc (.cells #[.slice ag G.length cg, .slice ac C.length cc, .slice ar R.length cr] 40)) #[.int .i64 pw, .int .i64 pr, .int .i64 pp, .int .i64 ps, .int .i64 pt, .bool gl] 78
  simp only [World.size_alloc] at PL1
  clear hG hC hR
  go_enter Try.func48, Try.ntmps48
  go_upto_region 1 with fail
  generalize (w.alloc (.cells #[.slice ag G.length cg, .slice ac C.length cc, .slice ar R.length cr] 40)).alloc (.cells #[.int .i64 pw, .int .i64 pr, .int .i64 pp, .int .i64 ps, .int .i64 pt, .bool gl] 78) = w1 at *
  obtain ⟨m0, m1, m2, m3, m4, m5⟩ := PL1.six
  cases t1 with
  | false =>
    go_wp2_with (go_at_call 58; with_reducible refine (kL _).mono ?_; rintro e w2 ⟨rfl, hb2⟩; have bA := ontoA hb0 hb2 hb0.size; have PR2 := PR1.below hb2; have PL2 := PL1.below hb2; obtain ⟨p0, p1, p2⟩ := PR2.three; obtain ⟨l0, l1, l2, l3, l4, l5⟩ := PL2.six; clear hb2)
    go_ret
    exact ⟨ret_intA (by rw [HV.out]; rfl), bA⟩
  | true =>
  cases t2 with
  | false =>
    go_wp2_with (first | (go_at_call 58; with_reducible refine (kL _).mono ?_; rintro e w2 ⟨rfl, hb2⟩; have bA := ontoA hb0 hb2 hb0.size; have PR2 := PR1.below hb2; have PL2 := PL1.below hb2; obtain ⟨p0, p1, p2⟩ := PR2.three; obtain ⟨l0, l1, l2, l3, l4, l5⟩ := PL2.six; clear hb2) | (go_at_call 59; with_reducible refine (KG.out _ bA).mono ?_; rintro e w3 ⟨rfl, hb3⟩; have bB := ontoA bA hb3 bA.size; have PR3 := PR2.below hb3; have PL3 := PL2.below hb3; clear p0 p1 p2 l0 l1 l2 l3 l4 l5; obtain ⟨p0, p1, p2⟩ := PR3.three; obtain ⟨l0, l1, l2, l3, l4, l5⟩ := PL3.six; clear hb3))
    go_ret
    exact ⟨ret_intA (by rw [HV.out]; rfl), bB⟩
  | true =>
  cases t3 with
  | false =>
    go_wp2_with (first | (go_at_call 58; with_reducible refine (kL _).mono ?_; rintro e w2 ⟨rfl, hb2⟩; have bA := ontoA hb0 hb2 hb0.size; have PR2 := PR1.below hb2; have PL2 := PL1.below hb2; obtain ⟨p0, p1, p2⟩ := PR2.three; obtain ⟨l0, l1, l2, l3, l4, l5⟩ := PL2.six; clear hb2) | (go_at_call 59; with_reducible refine (KG.out _ bA).mono ?_; rintro e w3 ⟨rfl, hb3⟩; have bB := ontoA bA hb3 bA.size; have PR3 := PR2.below hb3; have PL3 := PL2.below hb3; clear p0 p1 p2 l0 l1 l2 l3 l4 l5; obtain ⟨p0, p1, p2⟩ := PR3.three; obtain ⟨l0, l1, l2, l3, l4, l5⟩ := PL3.six; clear hb3) | (go_at_call 60; with_reducible refine (KC.out _ bB).mono ?_; rintro e w4 ⟨rfl, hb4⟩; have bC := ontoA bB hb4 bB.size; have PR4 := PR3.below hb4; have PL4 := PL3.below hb4; clear p0 p1 p2 l0 l1 l2 l3 l4 l5; obtain ⟨p0, p1, p2⟩ := PR4.three; obtain ⟨l0, l1, l2, l3, l4, l5⟩ := PL4.six; clear hb4))
    go_ret
    exact ⟨ret_intA (by rw [HV.out]; rfl), bC⟩
  | true =>
  cases t4 with
  | false =>
    go_wp2_with (first | (go_at_call 58; with_reducible refine (kL _).mono ?_; rintro e w2 ⟨rfl, hb2⟩; have bA := ontoA hb0 hb2 hb0.size; have PR2 := PR1.below hb2; have PL2 := PL1.below hb2; obtain ⟨p0, p1, p2⟩ := PR2.three; obtain ⟨l0, l1, l2, l3, l4, l5⟩ := PL2.six; clear hb2) | (go_at_call 59; with_reducible refine (KG.out _ bA).mono ?_; rintro e w3 ⟨rfl, hb3⟩; have bB := ontoA bA hb3 bA.size; have PR3 := PR2.below hb3; have PL3 := PL2.below hb3; clear p0 p1 p2 l0 l1 l2 l3 l4 l5; obtain ⟨p0, p1, p2⟩ := PR3.three; obtain ⟨l0, l1, l2, l3, l4, l5⟩ := PL3.six; clear hb3) | (go_at_call 60; with_reducible refine (KC.out _ bB).mono ?_; rintro e w4 ⟨rfl, hb4⟩; have bC := ontoA bB hb4 bB.size; have PR4 := PR3.below hb4; have PL4 := PL3.below hb4; clear p0 p1 p2 l0 l1 l2 l3 l4 l5; obtain ⟨p0, p1, p2⟩ := PR4.three; obtain ⟨l0, l1, l2, l3, l4, l5⟩ := PL4.six; clear hb4) | (go_at_call 62; with_reducible refine (KR.out _ bC).mono ?_; rintro e w5 ⟨rfl, hb5⟩; have bD := ontoA bC hb5 bC.size; clear hb5))
    go_ret
    exact ⟨ret_intA (by rw [HV.out]; rfl), bD⟩
  | true =>
    go_wp2_with (first | (go_at_call 58; with_reducible refine (kL _).mono ?_; rintro e w2 ⟨rfl, hb2⟩; have bA := ontoA hb0 hb2 hb0.size; have PR2 := PR1.below hb2; have PL2 := PL1.below hb2; obtain ⟨p0, p1, p2⟩ := PR2.three; obtain ⟨l0, l1, l2, l3, l4, l5⟩ := PL2.six; clear hb2) | (go_at_call 59; with_reducible refine (KG.out _ bA).mono ?_; rintro e w3 ⟨rfl, hb3⟩; have bB := ontoA bA hb3 bA.size; have PR3 := PR2.below hb3; have PL3 := PL2.below hb3; clear p0 p1 p2 l0 l1 l2 l3 l4 l5; obtain ⟨p0, p1, p2⟩ := PR3.three; obtain ⟨l0, l1, l2, l3, l4, l5⟩ := PL3.six; clear hb3) | (go_at_call 60; with_reducible refine (KC.out _ bB).mono ?_; rintro e w4 ⟨rfl, hb4⟩; have bC := ontoA bB hb4 bB.size; have PR4 := PR3.below hb4; have PL4 := PL3.below hb4; clear p0 p1 p2 l0 l1 l2 l3 l4 l5; obtain ⟨p0, p1, p2⟩ := PR4.three; obtain ⟨l0, l1, l2, l3, l4, l5⟩ := PL4.six; clear hb4) | (go_at_call 62; with_reducible refine (KR.out _ bC).mono ?_; rintro e w5 ⟨rfl, hb5⟩; have bD := ontoA bC hb5 bC.size; clear hb5))
    go_ret
    exact ⟨ret_intA (by rw [HV.out]; rfl), bD⟩

set_option maxRecDepth 20000 in
set_option maxHeartbeats 4000000 in
theorem imay_any (ag : Option Addr) (ng cg : Nat) (ac : Option Addr) (nc cc : Nat) (ar : Option Addr) (nr cr : Nat) (G : List Gr) (C : List Cr) (R : List Rf) (pw pr pp ps pt : Int) (w : World) (hG : VRw 2 cvGr w (.slice ag ng cg) G) (hC : VRw 4 cvCr w (.slice ac nc cc) C) (hR : VRw 2 cvRf w (.slice ar nr cr) R) (lG : G.length ≤ 1048576) (lC : C.length ≤ 1048576) (lR : R.length ≤ 1048576) :
    Calls Try.prog 19 #[.agg #[.slice ag ng cg, .slice ac nc cc, .slice ar nr cr], .int .i64 pw, .int .i64 pr, .int .i64 pp, .int .i64 ps, .int .i64 pt] w fun e w' => e = .returned (.int .i64 (maySee G C R ⟨pw, pr, pp, ps, pt, false⟩)) ∧ Below w.heap.size w w' := by
  obtain rfl := hG.len
  obtain rfl := hC.len
  obtain rfl := hR.len
  have HG := hidden hG
  have HC := hidden hC
  have HR := hidden hR
  have hb0 : Below w.heap.size w (w.alloc (.cells #[.slice ag G.length cg, .slice ac C.length cc, .slice ar R.length cr] 40)) := (Below.refl _ _).alloc (Nat.le_refl _) _
  have P0 := PB.new w #[.slice ag G.length cg, .slice ac C.length cc, .slice ar R.length cr] 40
  clear hG hC hR
  have KR := hidden (fun W (hW : Below w.heap.size w W) => irules_any ag G.length cg ac C.length cc ar R.length cr G C R W (HG.out.below hW) (HC.out.below hW) (HR.out.below hW) lG lC lR)
  have KS := hidden (fun W (hW : Below w.heap.size w W) => icode_any ag G.length cg ac C.length cc ar R.length cr G C R pw pr pp ps pt false W (HG.out.below hW) (HC.out.below hW) (HR.out.below hW) lG lC lR)
  have HV : Hid (maySee G C R ⟨pw, pr, pp, ps, pt, false⟩ = if rulesB G C R = true then see G C R ⟨pw, pr, pp, ps, pt, false⟩ else 1) := rfl
  generalize rulesB G C R = t at *
  generalize see G C R ⟨pw, pr, pp, ps, pt, false⟩ = z at *
  go_enter Try.func19, Try.ntmps19
  go_upto_region 1 with fail
  generalize w.alloc (.cells #[.slice ag G.length cg, .slice ac C.length cc, .slice ar R.length cr] 40) = w1 at *
  obtain ⟨p0, p1, p2⟩ := P0.three
  cases t with
  | false =>
    go_wp2_with (go_at_call 16; with_reducible refine (KR.out _ hb0).mono ?_; rintro e w2 ⟨rfl, hb2⟩; have bA := ontoA hb0 hb2 hb0.size; clear hb2)
    go_ret
    exact ⟨ret_intA (by rw [HV.out]; rfl), bA⟩
  | true =>
    go_wp2_with (first | (go_at_call 16; with_reducible refine (KR.out _ hb0).mono ?_; rintro e w2 ⟨rfl, hb2⟩; have bA := ontoA hb0 hb2 hb0.size; have P1 := P0.below hb2; obtain ⟨r0, r1, r2⟩ := P1.three; clear hb2) | (go_at_call 48; with_reducible refine (KS.out _ bA).mono ?_; rintro e w3 ⟨rfl, hb3⟩; have bB := ontoA bA hb3 bA.size; clear hb3))
    go_ret
    exact ⟨ret_intA (by rw [HV.out]; rfl), bB⟩
end Go.Proofs.Ytinnmebpipnccaa
