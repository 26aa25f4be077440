/-
  What rules are right: the program.
-/
import Derived.Test.YtinnmebpipnccaaA8
import Derived.Test.YtinnmebpipnccaaA2
import Derived.Laws.StructEq
import Derived.BigQuiet
import Derived.BigRegion
import Derived.Deep.QuietTactic
import Derived.Deep.RegionHeld3
namespace Go.Proofs.Ytinnmebpipnccaa
open Go.RowKit Va Ax
set_option linter.all false

set_option maxHeartbeats 400000 in
theorem iroleA_any (x : Int) (w : World) : Calls Try.prog 64 #[.int .i64 x] w fun e w' => e = .returned (.bool (twB x)) ∧ w = w' := by
  unfold twB rng
  go_enter Try.func64, Try.ntmps64
  go_wp2
  all_goals (go_ret; exact ⟨ret_boolA (by first | (simp; done) | (simp; omega) | (simp_all; done) | (simp_all; omega) | (rw [Bool.eq_iff_iff]; simp; omega) | (rw [Bool.eq_iff_iff]; simp_all; omega)), rfl⟩)

set_option maxHeartbeats 400000 in
theorem isortA_any (x : Int) (w : World) : Calls Try.prog 65 #[.int .i64 x] w fun e w' => e = .returned (.bool (twB x)) ∧ w = w' := by
  unfold twB rng
  go_enter Try.func65, Try.ntmps65
  go_wp2
  all_goals (go_ret; exact ⟨ret_boolA (by first | (simp; done) | (simp; omega) | (simp_all; done) | (simp_all; omega) | (rw [Bool.eq_iff_iff]; simp; omega) | (rw [Bool.eq_iff_iff]; simp_all; omega)), rfl⟩)

set_option maxHeartbeats 400000 in
theorem ipersA_any (x : Int) (w : World) : Calls Try.prog 63 #[.int .i64 x] w fun e w' => e = .returned (.bool (peB x)) ∧ w = w' := by
  unfold peB rng
  go_enter Try.func63, Try.ntmps63
  go_wp2
  all_goals (go_ret; exact ⟨ret_boolA (by first | (simp; done) | (simp; omega) | (simp_all; done) | (simp_all; omega) | (rw [Bool.eq_iff_iff]; simp; omega) | (rw [Bool.eq_iff_iff]; simp_all; omega)), rfl⟩)

set_option maxHeartbeats 400000 in
theorem itimeA_any (x : Int) (w : World) : Calls Try.prog 66 #[.int .i64 x] w fun e w' => e = .returned (.bool (tiB x)) ∧ w = w' := by
  unfold tiB rng
  go_enter Try.func66, Try.ntmps66
  go_wp2
  all_goals (go_ret; exact ⟨ret_boolA (by first | (simp; done) | (simp; omega) | (simp_all; done) | (simp_all; omega) | (rw [Bool.eq_iff_iff]; simp; omega) | (rw [Bool.eq_iff_iff]; simp_all; omega)), rfl⟩)

set_option maxRecDepth 20000 in
set_option maxHeartbeats 4000000 in
theorem igr_any (x : Gr) (w : World) : Calls Try.prog 85 #[.agg #[.int .i64 x.r, .int .i64 x.s]] w fun e w' => e = .returned (.bool (grB x)) ∧ Below w.heap.size w w' := by
  have k0 := iroleA_any x.r
  have k1 := isortA_any x.s
  unfold grB
  generalize twB x.r = t0 at *
  generalize twB x.s = t1 at *
  rcases t0 with _ | _
  · go_enter Try.func85, Try.ntmps85
    go_wp2_with (with_reducible (first | refine (k0 _).mono ?_ | refine (k1 _).mono ?_); rintro e w1 ⟨rfl, rfl⟩)
    go_ret
    exact ⟨by simp, by repeat (first | exact Below.refl _ _ | assumption | refine st_drew ?_ | refine st_drewN ?_ _ | refine Below.setCell ?_ (by first | omega | (simp; done) | (simp; omega)) _ | refine Below.alloc ?_ (by first | omega | (simp; done) | (simp; omega)) _)⟩
  rcases t1 with _ | _
  · go_enter Try.func85, Try.ntmps85
    go_wp2_with (with_reducible (first | refine (k0 _).mono ?_ | refine (k1 _).mono ?_); rintro e w1 ⟨rfl, rfl⟩)
    go_ret
    exact ⟨by simp, by repeat (first | exact Below.refl _ _ | assumption | refine st_drew ?_ | refine st_drewN ?_ _ | refine Below.setCell ?_ (by first | omega | (simp; done) | (simp; omega)) _ | refine Below.alloc ?_ (by first | omega | (simp; done) | (simp; omega)) _)⟩
  go_enter Try.func85, Try.ntmps85
  go_wp2_with (with_reducible (first | refine (k0 _).mono ?_ | refine (k1 _).mono ?_); rintro e w1 ⟨rfl, rfl⟩)
  go_ret
  exact ⟨rfl, by repeat (first | exact Below.refl _ _ | assumption | refine st_drew ?_ | refine st_drewN ?_ _ | refine Below.setCell ?_ (by first | omega | (simp; done) | (simp; omega)) _ | refine Below.alloc ?_ (by first | omega | (simp; done) | (simp; omega)) _)⟩

theorem m_gr (r0 s0 : Int) (w : World) : (method 217 62 (.agg #[.int .i64 r0, .int .i64 s0]) "loop.example/g00060/impl.isRight").run Try.prog w = .ok (85, .agg #[.int .i64 r0, .int .i64 s0]) w := by kernel_rfl

set_option maxRecDepth 20000 in
set_option maxHeartbeats 4000000 in
theorem iallgr_any (ao : Option Addr) (n cap : Nat) (l : List Gr) (w : World) (h : VRw 2 cvGr w (.slice ao n cap) l) (hn : l.length ≤ 1048576) :
    Calls Try.prog 41 #[.slice ao n cap] w fun e w' => e = .returned (.bool (decide (l.length ≤ 200) && l.all grB)) ∧ Below w.heap.size w w' := by
  obtain rfl := h.len
  have HH := hidden h
  clear h
  by_cases hb : (200 : Int) < (l.length : Int)
  · have HV : Hid ((decide (l.length ≤ 200) && l.all grB) = false) := by
      rw [Hid, decide_eq_false (by omega)]
      rfl
    go_enter Try.func41, Try.ntmps41
    go_wp2_with fail
    go_ret
    exact ⟨ret_boolA HV.out.symm, Below.refl _ _⟩
  have HLn : Hid (∀ t, l.all grB = t → (decide (l.length ≤ 200) && l.all grB) = t) := fun t ht => by
    rw [decide_eq_true (show l.length ≤ 200 by omega), ht]
    simp
  go_enter Try.func41, Try.ntmps41
  go_wp2_with fail
  go_loopw [4, 10] (fun _ iv wr => ∃ i : Nat, i ≤ l.length ∧ iv = .int .i64 i ∧ Below w.heap.size w wr ∧ Hid ((l.take i).all grB = true)) (fun _ iv _ => l.length - (intOf iv).toNat)
  case atStart => exact ⟨0, Nat.zero_le _, rfl, Below.refl _ _, rfl⟩
  case round =>
    obtain ⟨i, hi, rfl, hb1, hok⟩ := hrel
    by_cases hlt : i < l.length
    · have hlti : (i : Int) < (l.length : Int) := by omega
      obtain ⟨x, hx⟩ := some_of l i hlt
      obtain ⟨g, off, rfl, hg, hcs⟩ := (HH.out.below hb1).at hx
      have c0 : wr.cell? ⟨g, off + i * 2, none⟩ = some (.int .i64 x.r) := hcs 0 (by omega)
      have c1 : wr.cell? ⟨g, off + i * 2 + 1, none⟩ = some (.int .i64 x.s) := hcs 1 (by omega)
      have HX := hidden hx
      have hsz := hb1.size
      have kc := igr_any x
      have hm := m_gr x.r x.s
      clear hx hcs
      cases q : grB x with
      | true =>
        have HN : Hid ((l.take (i + 1)).all grB = true) := all_takeA hok.out HX.out q
        rw [q] at kc
        clear q
        go_wp2_with (go_at_call 85; with_reducible refine (kc _).mono ?_; rintro e w2 ⟨rfl, hb2⟩)
        go_roundw
        case rel => exact ⟨i + 1, by omega, rfl, (hb1.alloc hsz _).trans (hb2.mono (by simp; omega)), HN⟩
        case measure => simp [intOf]; omega
      | false =>
        have HF : Hid ((decide (l.length ≤ 200) && l.all grB) = false) := HLn.out _ (all_falseA HX.out q)
        rw [q] at kc
        clear q
        go_wp2_with (go_at_call 85; with_reducible refine (kc _).mono ?_; rintro e w2 ⟨rfl, hb2⟩)
        go_ret
        exact ⟨ret_boolA HF.out.symm, (hb1.alloc hsz _).trans (hb2.mono (by simp; omega))⟩
    · have hlti : ¬ (i : Int) < (l.length : Int) := by omega
      have HF : Hid ((decide (l.length ≤ 200) && l.all grB) = true) := HLn.out _ (all_endA hok.out hlt)
      go_wp2_with fail
      go_ret
      exact ⟨ret_boolA HF.out.symm, hb1⟩

set_option maxRecDepth 20000 in
set_option maxHeartbeats 4000000 in
theorem icr_any (x : Cr) (w : World) : Calls Try.prog 86 #[.agg #[.int .i64 x.w, .int .i64 x.p, .int .i64 x.f, .int .i64 x.t]] w fun e w' => e = .returned (.bool (crB x)) ∧ Below w.heap.size w w' := by
  have k0 := ipersA_any x.w
  have k1 := ipersA_any x.p
  have k2 := itimeA_any x.f
  have k3 := itimeA_any x.t
  unfold crB
  generalize peB x.w = t0 at *
  generalize peB x.p = t1 at *
  generalize tiB x.f = t2 at *
  generalize tiB x.t = t3 at *
  rcases t0 with _ | _
  · go_enter Try.func86, Try.ntmps86
    go_wp2_with (with_reducible (first | refine (k0 _).mono ?_ | refine (k1 _).mono ?_ | refine (k2 _).mono ?_ | refine (k3 _).mono ?_); rintro e w1 ⟨rfl, rfl⟩)
    go_ret
    exact ⟨by simp, by repeat (first | exact Below.refl _ _ | assumption | refine st_drew ?_ | refine st_drewN ?_ _ | refine Below.setCell ?_ (by first | omega | (simp; done) | (simp; omega)) _ | refine Below.alloc ?_ (by first | omega | (simp; done) | (simp; omega)) _)⟩
  rcases t1 with _ | _
  · go_enter Try.func86, Try.ntmps86
    go_wp2_with (with_reducible (first | refine (k0 _).mono ?_ | refine (k1 _).mono ?_ | refine (k2 _).mono ?_ | refine (k3 _).mono ?_); rintro e w1 ⟨rfl, rfl⟩)
    go_ret
    exact ⟨by simp, by repeat (first | exact Below.refl _ _ | assumption | refine st_drew ?_ | refine st_drewN ?_ _ | refine Below.setCell ?_ (by first | omega | (simp; done) | (simp; omega)) _ | refine Below.alloc ?_ (by first | omega | (simp; done) | (simp; omega)) _)⟩
  rcases t2 with _ | _
  · go_enter Try.func86, Try.ntmps86
    go_wp2_with (with_reducible (first | refine (k0 _).mono ?_ | refine (k1 _).mono ?_ | refine (k2 _).mono ?_ | refine (k3 _).mono ?_); rintro e w1 ⟨rfl, rfl⟩)
    go_ret
    exact ⟨by simp, by repeat (first | exact Below.refl _ _ | assumption | refine st_drew ?_ | refine st_drewN ?_ _ | refine Below.setCell ?_ (by first | omega | (simp; done) | (simp; omega)) _ | refine Below.alloc ?_ (by first | omega | (simp; done) | (simp; omega)) _)⟩
  rcases t3 with _ | _
  · go_enter Try.func86, Try.ntmps86
    go_wp2_with (with_reducible (first | refine (k0 _).mono ?_ | refine (k1 _).mono ?_ | refine (k2 _).mono ?_ | refine (k3 _).mono ?_); rintro e w1 ⟨rfl, rfl⟩)
    go_ret
    exact ⟨by simp, by repeat (first | exact Below.refl _ _ | assumption | refine st_drew ?_ | refine st_drewN ?_ _ | refine Below.setCell ?_ (by first | omega | (simp; done) | (simp; omega)) _ | refine Below.alloc ?_ (by first | omega | (simp; done) | (simp; omega)) _)⟩
  by_cases q : x.f ≤ x.t
  · go_enter Try.func86, Try.ntmps86
    go_wp2_with (with_reducible (first | refine (k0 _).mono ?_ | refine (k1 _).mono ?_ | refine (k2 _).mono ?_ | refine (k3 _).mono ?_); rintro e w1 ⟨rfl, rfl⟩)
    go_ret
    exact ⟨ret_boolA (by simp [q]), by repeat (first | exact Below.refl _ _ | assumption | refine st_drew ?_ | refine st_drewN ?_ _ | refine Below.setCell ?_ (by first | omega | (simp; done) | (simp; omega)) _ | refine Below.alloc ?_ (by first | omega | (simp; done) | (simp; omega)) _)⟩
  go_enter Try.func86, Try.ntmps86
  go_wp2_with (with_reducible (first | refine (k0 _).mono ?_ | refine (k1 _).mono ?_ | refine (k2 _).mono ?_ | refine (k3 _).mono ?_); rintro e w1 ⟨rfl, rfl⟩)
  go_ret
  exact ⟨ret_boolA (by simp [q]), by repeat (first | exact Below.refl _ _ | assumption | refine st_drew ?_ | refine st_drewN ?_ _ | refine Below.setCell ?_ (by first | omega | (simp; done) | (simp; omega)) _ | refine Below.alloc ?_ (by first | omega | (simp; done) | (simp; omega)) _)⟩

theorem m_cr (w0 p0 f0 t0 : Int) (w : World) : (method 217 64 (.agg #[.int .i64 w0, .int .i64 p0, .int .i64 f0, .int .i64 t0]) "loop.example/g00060/impl.isRight").run Try.prog w = .ok (86, .agg #[.int .i64 w0, .int .i64 p0, .int .i64 f0, .int .i64 t0]) w := by kernel_rfl

set_option maxRecDepth 20000 in
set_option maxHeartbeats 4000000 in
theorem iallcr_any (ao : Option Addr) (n cap : Nat) (l : List Cr) (w : World) (h : VRw 4 cvCr w (.slice ao n cap) l) (hn : l.length ≤ 1048576) :
    Calls Try.prog 42 #[.slice ao n cap] w fun e w' => e = .returned (.bool (decide (l.length ≤ 200) && l.all crB)) ∧ Below w.heap.size w w' := by
  obtain rfl := h.len
  have HH := hidden h
  clear h
  by_cases hb : (200 : Int) < (l.length : Int)
  · have HV : Hid ((decide (l.length ≤ 200) && l.all crB) = false) := by
      rw [Hid, decide_eq_false (by omega)]
      rfl
    go_enter Try.func42, Try.ntmps42
    go_wp2_with fail
    go_ret
    exact ⟨ret_boolA HV.out.symm, Below.refl _ _⟩
  have HLn : Hid (∀ t, l.all crB = t → (decide (l.length ≤ 200) && l.all crB) = t) := fun t ht => by
    rw [decide_eq_true (show l.length ≤ 200 by omega), ht]
    simp
  go_enter Try.func42, Try.ntmps42
  go_wp2_with fail
  go_loopw [4, 10] (fun _ iv wr => ∃ i : Nat, i ≤ l.length ∧ iv = .int .i64 i ∧ Below w.heap.size w wr ∧ Hid ((l.take i).all crB = true)) (fun _ iv _ => l.length - (intOf iv).toNat)
  case atStart => exact ⟨0, Nat.zero_le _, rfl, Below.refl _ _, rfl⟩
  case round =>
    obtain ⟨i, hi, rfl, hb1, hok⟩ := hrel
    by_cases hlt : i < l.length
    · have hlti : (i : Int) < (l.length : Int) := by omega
      obtain ⟨x, hx⟩ := some_of l i hlt
      obtain ⟨g, off, rfl, hg, hcs⟩ := (HH.out.below hb1).at hx
      have c0 : wr.cell? ⟨g, off + i * 4, none⟩ = some (.int .i64 x.w) := hcs 0 (by omega)
      have c1 : wr.cell? ⟨g, off + i * 4 + 1, none⟩ = some (.int .i64 x.p) := hcs 1 (by omega)
      have c2 : wr.cell? ⟨g, off + i * 4 + 2, none⟩ = some (.int .i64 x.f) := hcs 2 (by omega)
      have c3 : wr.cell? ⟨g, off + i * 4 + 3, none⟩ = some (.int .i64 x.t) := hcs 3 (by omega)
      have HX := hidden hx
      have hsz := hb1.size
      have kc := icr_any x
      have hm := m_cr x.w x.p x.f x.t
      clear hx hcs
      cases q : crB x with
      | true =>
        have HN : Hid ((l.take (i + 1)).all crB = true) := all_takeA hok.out HX.out q
        rw [q] at kc
        clear q
        go_wp2_with (go_at_call 86; with_reducible refine (kc _).mono ?_; rintro e w2 ⟨rfl, hb2⟩)
        go_roundw
        case rel => exact ⟨i + 1, by omega, rfl, (hb1.alloc hsz _).trans (hb2.mono (by simp; omega)), HN⟩
        case measure => simp [intOf]; omega
      | false =>
        have HF : Hid ((decide (l.length ≤ 200) && l.all crB) = false) := HLn.out _ (all_falseA HX.out q)
        rw [q] at kc
        clear q
        go_wp2_with (go_at_call 86; with_reducible refine (kc _).mono ?_; rintro e w2 ⟨rfl, hb2⟩)
        go_ret
        exact ⟨ret_boolA HF.out.symm, (hb1.alloc hsz _).trans (hb2.mono (by simp; omega))⟩
    · have hlti : ¬ (i : Int) < (l.length : Int) := by omega
      have HF : Hid ((decide (l.length ≤ 200) && l.all crB) = true) := HLn.out _ (all_endA hok.out hlt)
      go_wp2_with fail
      go_ret
      exact ⟨ret_boolA HF.out.symm, hb1⟩

set_option maxRecDepth 20000 in
set_option maxHeartbeats 4000000 in
theorem irf_any (x : Rf) (w : World) : Calls Try.prog 87 #[.agg #[.int .i64 x.p, .int .i64 x.r]] w fun e w' => e = .returned (.bool (rfB x)) ∧ Below w.heap.size w w' := by
  have k0 := ipersA_any x.p
  have k1 := iroleA_any x.r
  unfold rfB
  generalize peB x.p = t0 at *
  generalize twB x.r = t1 at *
  rcases t0 with _ | _
  · go_enter Try.func87, Try.ntmps87
    go_wp2_with (with_reducible (first | refine (k0 _).mono ?_ | refine (k1 _).mono ?_); rintro e w1 ⟨rfl, rfl⟩)
    go_ret
    exact ⟨by simp, by repeat (first | exact Below.refl _ _ | assumption | refine st_drew ?_ | refine st_drewN ?_ _ | refine Below.setCell ?_ (by first | omega | (simp; done) | (simp; omega)) _ | refine Below.alloc ?_ (by first | omega | (simp; done) | (simp; omega)) _)⟩
  rcases t1 with _ | _
  · go_enter Try.func87, Try.ntmps87
    go_wp2_with (with_reducible (first | refine (k0 _).mono ?_ | refine (k1 _).mono ?_); rintro e w1 ⟨rfl, rfl⟩)
    go_ret
    exact ⟨by simp, by repeat (first | exact Below.refl _ _ | assumption | refine st_drew ?_ | refine st_drewN ?_ _ | refine Below.setCell ?_ (by first | omega | (simp; done) | (simp; omega)) _ | refine Below.alloc ?_ (by first | omega | (simp; done) | (simp; omega)) _)⟩
  go_enter Try.func87, Try.ntmps87
  go_wp2_with (with_reducible (first | refine (k0 _).mono ?_ | refine (k1 _).mono ?_); rintro e w1 ⟨rfl, rfl⟩)
  go_ret
  exact ⟨rfl, by repeat (first | exact Below.refl _ _ | assumption | refine st_drew ?_ | refine st_drewN ?_ _ | refine Below.setCell ?_ (by first | omega | (simp; done) | (simp; omega)) _ | refine Below.alloc ?_ (by first | omega | (simp; done) | (simp; omega)) _)⟩

theorem m_rf (p0 r0 : Int) (w : World) : (method 217 66 (.agg #[.int .i64 p0, .int .i64 r0]) "loop.example/g00060/impl.isRight").run Try.prog w = .ok (87, .agg #[.int .i64 p0, .int .i64 r0]) w := by kernel_rfl

set_option maxRecDepth 20000 in
set_option maxHeartbeats 4000000 in
theorem iallrf_any (ao : Option Addr) (n cap : Nat) (l : List Rf) (w : World) (h : VRw 2 cvRf w (.slice ao n cap) l) (hn : l.length ≤ 1048576) :
    Calls Try.prog 43 #[.slice ao n cap] w fun e w' => e = .returned (.bool (decide (l.length ≤ 200) && l.all rfB)) ∧ Below w.heap.size w w' := by
  obtain rfl := h.len
  have HH := hidden h
  clear h
  by_cases hb : (200 : Int) < (l.length : Int)
  · have HV : Hid ((decide (l.length ≤ 200) && l.all rfB) = false) := by
      rw [Hid, decide_eq_false (by omega)]
      rfl
    go_enter Try.func43, Try.ntmps43
    go_wp2_with fail
    go_ret
    exact ⟨ret_boolA HV.out.symm, Below.refl _ _⟩
  have HLn : Hid (∀ t, l.all rfB = t → (decide (l.length ≤ 200) && l.all rfB) = t) := fun t ht => by
    rw [decide_eq_true (show l.length ≤ 200 by omega), ht]
    simp
  go_enter Try.func43, Try.ntmps43
  go_wp2_with fail
  go_loopw [4, 10] (fun _ iv wr => ∃ i : Nat, i ≤ l.length ∧ iv = .int .i64 i ∧ Below w.heap.size w wr ∧ Hid ((l.take i).all rfB = true)) (fun _ iv _ => l.length - (intOf iv).toNat)
  case atStart => exact ⟨0, Nat.zero_le _, rfl, Below.refl _ _, rfl⟩
  case round =>
    obtain ⟨i, hi, rfl, hb1, hok⟩ := hrel
    by_cases hlt : i < l.length
    · have hlti : (i : Int) < (l.length : Int) := by omega
      obtain ⟨x, hx⟩ := some_of l i hlt
      obtain ⟨g, off, rfl, hg, hcs⟩ := (HH.out.below hb1).at hx
      have c0 : wr.cell? ⟨g, off + i * 2, none⟩ = some (.int .i64 x.p) := hcs 0 (by omega)
      have c1 : wr.cell? ⟨g, off + i * 2 + 1, none⟩ = some (.int .i64 x.r) := hcs 1 (by omega)
      have HX := hidden hx
      have hsz := hb1.size
      have kc := irf_any x
      have hm := m_rf x.p x.r
      clear hx hcs
      cases q : rfB x with
      | true =>
        have HN : Hid ((l.take (i + 1)).all rfB = true) := all_takeA hok.out HX.out q
        rw [q] at kc
        clear q
        go_wp2_with (go_at_call 87; with_reducible refine (kc _).mono ?_; rintro e w2 ⟨rfl, hb2⟩)
        go_roundw
        case rel => exact ⟨i + 1, by omega, rfl, (hb1.alloc hsz _).trans (hb2.mono (by simp; omega)), HN⟩
        case measure => simp [intOf]; omega
      | false =>
        have HF : Hid ((decide (l.length ≤ 200) && l.all rfB) = false) := HLn.out _ (all_falseA HX.out q)
        rw [q] at kc
        clear q
        go_wp2_with (go_at_call 87; with_reducible refine (kc _).mono ?_; rintro e w2 ⟨rfl, hb2⟩)
        go_ret
        exact ⟨ret_boolA HF.out.symm, (hb1.alloc hsz _).trans (hb2.mono (by simp; omega))⟩
    · have hlti : ¬ (i : Int) < (l.length : Int) := by omega
      have HF : Hid ((decide (l.length ≤ 200) && l.all rfB) = true) := HLn.out _ (all_endA hok.out hlt)
      go_wp2_with fail
      go_ret
      exact ⟨ret_boolA HF.out.symm, hb1⟩

set_option maxRecDepth 20000 in
set_option maxHeartbeats 4000000 in
theorem irules_any (ag : Option Addr) (ng cg : Nat) (ac : Option Addr) (nc cc : Nat) (ar : Option Addr) (nr cr : Nat) (G : List Gr) (C : List Cr) (R : List Rf) (w : World) (hG : VRw 2 cvGr w (.slice ag ng cg) G) (hC : VRw 4 cvCr w (.slice ac nc cc) C) (hR : VRw 2 cvRf w (.slice ar nr cr) R) (lG : G.length ≤ 1048576) (lC : C.length ≤ 1048576) (lR : R.length ≤ 1048576) :
    Calls Try.prog 16 #[.agg #[.slice ag ng cg, .slice ac nc cc, .slice ar nr cr]] w fun e w' => e = .returned (.bool (rulesB G C R)) ∧ Below w.heap.size w w' := by
  obtain rfl := hG.len
  obtain rfl := hC.len
  obtain rfl := hR.len
  have KG := hidden (fun W (hW : Below w.heap.size w W) => iallgr_any ag G.length cg G W (hG.below hW) lG)
  have KC := hidden (fun W (hW : Below w.heap.size w W) => iallcr_any ac C.length cc C W (hC.below hW) lC)
  have KR := hidden (fun W (hW : Below w.heap.size w W) => iallrf_any ar R.length cr R W (hR.below hW) lR)
  have HV : Hid (rulesB G C R = ((decide (G.length ≤ 200) && G.all grB) && ((decide (C.length ≤ 200) && C.all crB) && (decide (R.length ≤ 200) && R.all rfB)))) := rfl
  generalize (decide (G.length ≤ 200) && G.all grB) = t1 at *
  generalize (decide (C.length ≤ 200) && C.all crB) = t2 at *
  generalize (decide (R.length ≤ 200) && R.all rfB) = t3 at *
  have hb0 : Below w.heap.size w (w.alloc (.cells #[.slice ag G.length cg, .slice ac C.length cc, .slice ar R.length cr] 40)) := (Below.refl _ _).alloc (Nat.le_refl _) _
  have P0 := PB.new w #[.slice ag G.length cg, .slice ac C.length cc, .slice ar R.length cr] 40
  clear hG hC hR
  go_enter Try.func16, Try.ntmps16
  go_upto_region 1 with fail
  generalize w.alloc (.cells #[.slice ag G.length cg, .slice ac C.length cc, .slice ar R.length cr] 40) = w1 at *
  have hb0s := hb0.size
  obtain ⟨p0, p1, p2⟩ := P0.three
  cases t1 with
  | false =>
    go_wp2_with (go_at_call 41; with_reducible refine (KG.out _ hb0).mono ?_; rintro e w2 ⟨rfl, hb2⟩)
    go_ret
    exact ⟨ret_boolA (by rw [HV.out]; rfl), ontoA hb0 hb2 hb0s⟩
  | true =>
  cases t2 with
  | false =>
    go_wp2_with (first | (go_at_call 41; with_reducible refine (KG.out _ hb0).mono ?_; rintro e w2 ⟨rfl, hb2⟩; have bA := ontoA hb0 hb2 hb0s; have P1 := P0.below hb2; obtain ⟨r0, r1, r2⟩ := P1.three; clear hb2) | (go_at_call 42; with_reducible refine (KC.out _ bA).mono ?_; rintro e w3 ⟨rfl, hb3⟩; have bB := ontoA bA hb3 bA.size))
    go_ret
    exact ⟨ret_boolA (by rw [HV.out]; rfl), bB⟩
  | true =>
    go_wp2_with (first | (go_at_call 41; with_reducible refine (KG.out _ hb0).mono ?_; rintro e w2 ⟨rfl, hb2⟩; have bA := ontoA hb0 hb2 hb0s; have P1 := P0.below hb2; obtain ⟨r0, r1, r2⟩ := P1.three; clear hb2) | (go_at_call 42; with_reducible refine (KC.out _ bA).mono ?_; rintro e w3 ⟨rfl, hb3⟩; have bB := ontoA bA hb3 bA.size; have P2 := P1.below hb3; obtain ⟨s0, s1, s2⟩ := P2.three; clear hb3) | (go_at_call 43; with_reducible refine (KR.out _ bB).mono ?_; rintro e w4 ⟨rfl, hb4⟩; have bC := ontoA bB hb4 bB.size))
    go_ret
    exact ⟨ret_boolA (by rw [HV.out]; rfl), bC⟩
end Go.Proofs.Ytinnmebpipnccaa
