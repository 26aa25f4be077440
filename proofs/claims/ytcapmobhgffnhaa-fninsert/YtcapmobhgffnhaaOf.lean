/-
  Whether a list is right, as the specification says; why two operations clash.
-/
import Derived.Test.YtcapmobhgffnhaaOe
namespace Go.Proofs.Ytcapmobhgffnhaa
open Go.RowKit Va Oa
set_option linter.unusedVariables false

set_option maxRecDepth 20000 in
set_option maxHeartbeats 2000000 in
theorem sops_any (ao : Option Addr) (n cap : Nat) (l : List Opn) (w : World) (h : ORw w (.slice ao n cap) l) (hn : l.length ≤ 1048576) (ht : ∀ x ∈ l, x.team.length ≤ 1048576) :
    Calls Try.prog 38 #[.slice ao n cap] w fun e w' => e = .returned (.bool (osB l)) ∧ Below w.heap.size w w' := by
  obtain rfl := h.len
  have HH := hidden h
  have HT := hidden ht
  clear h ht
  by_cases hl : (200 : Int) < (l.length : Int)
  · have hno : Hid (osB l = false) := osB_false fun q => by have := q.1; omega
    go_enter Try.func38, Try.ntmps38
    go_wp2_with fail
    go_ret
    exact ⟨by rw [hno.out]; rfl, Below.refl _ _⟩
  have hlen : l.length ≤ 200 := by omega
  go_enter Try.func38, Try.ntmps38
  go_wp2_with fail
  go_loopw [3] (fun iv wr => ∃ i : Nat, i ≤ l.length ∧ iv = .int .i64 i ∧ Below w.heap.size w wr ∧ Hid (oTo l i)) (fun iv _ => l.length - (intOf iv).toNat)
  case atStart => exact ⟨0, Nat.zero_le _, rfl, Below.refl _ _, oTo_zero _⟩
  case round =>
    obtain ⟨i, hi, rfl, hb, hok⟩ := hrel
    have hsz := hb.size
    by_cases hlt : i < l.length
    · have hlti : (i : Int) < (l.length : Int) := by omega
      obtain ⟨x, hx⟩ := some_of l i hlt
      obtain ⟨g, off, ta, tc, rfl, hg, hrow, c0, c1, c2, c3⟩ := (HH.out.below hb).at hx
      have HX := hidden hx
      have hK := fun W (hW : IRw W (.slice ta x.team.length tc) x.team) => sright_any x ta x.team.length tc W hW (HT.out x (List.mem_of_getElem? hx))
      have HR := hidden (fun W (hW : Below wr.heap.size wr W) => hrow.below hW)
      unfold aO at hK
      clear hx hrow
      cases hk : opB x with
      | false =>
        have hno : Hid (osB l = false) := osB_false (o_not HX.out hk)
        rw [hk] at hK
        clear hok hk
        go_wp2_with (go_at_call 44; refine (hK _ (HR.out _ (by repeat (first | exact Below.refl _ _ | assumption | refine st_drew ?_ | refine st_drewN ?_ _ | refine Below.setCell ?_ (by first | omega | (simp; done) | (simp; omega)) _ | refine Below.alloc ?_ (by first | omega | (simp; done) | (simp; omega)) _)))).mono ?_; rintro e w1 ⟨rfl, hb1⟩; have bA := onto (show Below w.heap.size w _ from by repeat (first | exact Below.refl _ _ | assumption | refine st_drew ?_ | refine st_drewN ?_ _ | refine Below.setCell ?_ (by first | omega | (simp; done) | (simp; omega)) _ | refine Below.alloc ?_ (by first | omega | (simp; done) | (simp; omega)) _)) hb1)
        go_ret
        exact ⟨by rw [hno.out]; rfl, by repeat (first | exact Below.refl _ _ | assumption | refine st_drew ?_ | refine st_drewN ?_ _ | refine Below.setCell ?_ (by first | omega | (simp; done) | (simp; omega)) _ | refine Below.alloc ?_ (by first | omega | (simp; done) | (simp; omega)) _)⟩
      | true =>
        have hok2 : Hid (oTo l (i + 1)) := oTo_succ hok.out HX.out hk
        rw [hk] at hK
        clear hok hk
        go_wp2_with (go_at_call 44; refine (hK _ (HR.out _ (by repeat (first | exact Below.refl _ _ | assumption | refine st_drew ?_ | refine st_drewN ?_ _ | refine Below.setCell ?_ (by first | omega | (simp; done) | (simp; omega)) _ | refine Below.alloc ?_ (by first | omega | (simp; done) | (simp; omega)) _)))).mono ?_; rintro e w1 ⟨rfl, hb1⟩; have bA := onto (show Below w.heap.size w _ from by repeat (first | exact Below.refl _ _ | assumption | refine st_drew ?_ | refine st_drewN ?_ _ | refine Below.setCell ?_ (by first | omega | (simp; done) | (simp; omega)) _ | refine Below.alloc ?_ (by first | omega | (simp; done) | (simp; omega)) _)) hb1)
        go_roundw
        case rel => exact ⟨i + 1, by omega, rfl, by repeat (first | exact Below.refl _ _ | assumption | refine st_drew ?_ | refine st_drewN ?_ _ | refine Below.setCell ?_ (by first | omega | (simp; done) | (simp; omega)) _ | refine Below.alloc ?_ (by first | omega | (simp; done) | (simp; omega)) _), hok2⟩
        case measure => simp [intOf]; omega
    · have hlti : ¬ (i : Int) < (l.length : Int) := by omega
      have hil : i = l.length := by omega
      subst hil
      have hyes : Hid (osB l = true) := osB_true ⟨hlen, hok.out⟩
      go_wp2_with fail
      go_ret
      exact ⟨by rw [hyes.out]; rfl, hb⟩

/-- Times that may be reckoned with. -/
def Tms (x : Opn) : Prop := (-100000000 ≤ x.fr ∧ x.fr ≤ 100000000) ∧ (-100000000 ≤ x.to ∧ x.to ≤ 100000000)
theorem tms_of {o : Opn} (h : opB o = true) : Tms o := by
  obtain ⟨-, h1, h2, -, -⟩ := of_opB h
  exact ⟨by omega, by omega⟩
def nearB (x y : Opn) (r : Int) : Bool := decide (x.fr < y.to + r) && decide (y.fr < x.to + r)

set_option maxRecDepth 20000 in
set_option maxHeartbeats 1000000 in
theorem near_any (x y : Opn) (t1 t2 : Value) (r : Int) (w : World) (hx : Tms x) (hy : Tms y) (hr : 0 ≤ r ∧ r ≤ 1440) :
    Calls Try.prog 64 #[aO x t1, aO y t2, .int .i64 r] w fun e w' => e = .returned (.bool (nearB x y r)) ∧ Below w.heap.size w w' := by
  obtain ⟨⟨a1, a2⟩, a3, a4⟩ := hx
  obtain ⟨⟨b1, b2⟩, b3, b4⟩ := hy
  obtain ⟨r1, r2⟩ := hr
  have hN : Hid (nearB x y r = (decide (x.fr - y.to < r) && decide (y.fr - x.to < r))) := by
    rw [Hid, nearB]
    congr 1
    · rw [decide_eq_decide]; omega
    · rw [decide_eq_decide]; omega
  unfold aO
  by_cases q1 : x.fr - y.to < r
  · go_enter Try.func64, Try.ntmps64
    go_wp2
    go_ret
    exact ⟨by rw [hN.out]; exact ret_bool (by first | (simp; done) | (simp; omega) | (simp_all; done) | (simp_all; omega) | (rw [Bool.eq_iff_iff]; simp; omega) | (rw [Bool.eq_iff_iff]; simp_all; omega)), by repeat (first | exact Below.refl _ _ | assumption | refine st_drew ?_ | refine st_drewN ?_ _ | refine Below.setCell ?_ (by first | omega | (simp; done) | (simp; omega)) _ | refine Below.alloc ?_ (by first | omega | (simp; done) | (simp; omega)) _)⟩
  · go_enter Try.func64, Try.ntmps64
    go_wp2
    go_ret
    exact ⟨by rw [hN.out]; exact ret_bool (by first | (simp; done) | (simp; omega) | (simp_all; done) | (simp_all; omega) | (rw [Bool.eq_iff_iff]; simp; omega) | (rw [Bool.eq_iff_iff]; simp_all; omega)), by repeat (first | exact Below.refl _ _ | assumption | refine st_drew ?_ | refine st_drewN ?_ _ | refine Below.setCell ?_ (by first | omega | (simp; done) | (simp; omega)) _ | refine Below.alloc ?_ (by first | omega | (simp; done) | (simp; omega)) _)⟩

/-- Why, by the program's order of asking. -/
theorem why_near (x y : Opn) (r : Int) : why x y r = if decide (x.room = y.room) && nearB x y 0 then 1 else if nearB x y r && shr x.team y.team then 2 else 0 := by
  have e1 : (decide (x.room = y.room) && nearB x y 0) = decide (x.room = y.room ∧ x.fr < y.to ∧ y.fr < x.to) := by
    rw [Bool.eq_iff_iff]; simp [nearB]
  have e2 : (nearB x y r && shr x.team y.team) = decide (shr x.team y.team = true ∧ x.fr < y.to + r ∧ y.fr < x.to + r) := by
    rw [Bool.eq_iff_iff]; simp only [nearB, Bool.and_eq_true, decide_eq_true_eq]
    exact ⟨fun ⟨a, b⟩ => ⟨b, a⟩, fun ⟨a, b⟩ => ⟨b, a⟩⟩
  rw [e1, e2]
  simp only [decide_eq_true_eq]
  rfl

theorem two_box {w w1 : World} {a0 a1 a2 a3 b0 b1 b2 b3 : Value} {t s : TypeId} (hb : Below ((w.alloc (.cells #[a0, a1, a2, a3] t)).alloc (.cells #[b0, b1, b2, b3] s)).heap.size ((w.alloc (.cells #[a0, a1, a2, a3] t)).alloc (.cells #[b0, b1, b2, b3] s)) w1) :
    w1.cell? ⟨w.heap.size, 0, none⟩ = some a0 ∧ w1.cell? ⟨w.heap.size, 1, none⟩ = some a1 ∧ w1.cell? ⟨w.heap.size, 2, none⟩ = some a2 ∧ w1.cell? ⟨w.heap.size, 3, none⟩ = some a3 ∧
    w1.cell? ⟨w.heap.size + 1, 0, none⟩ = some b0 ∧ w1.cell? ⟨w.heap.size + 1, 1, none⟩ = some b1 ∧ w1.cell? ⟨w.heap.size + 1, 2, none⟩ = some b2 ∧ w1.cell? ⟨w.heap.size + 1, 3, none⟩ = some b3 ∧ w.heap.size + 2 ≤ w1.heap.size :=
  ⟨((bcell hb).1 _ _ (by simp; omega)).trans (by simp), ((bcell hb).1 _ _ (by simp; omega)).trans (by simp), ((bcell hb).1 _ _ (by simp; omega)).trans (by simp), ((bcell hb).1 _ _ (by simp; omega)).trans (by simp),
    ((bcell hb).1 _ _ (by simp)).trans (by simp), ((bcell hb).1 _ _ (by simp)).trans (by simp), ((bcell hb).1 _ _ (by simp)).trans (by simp), ((bcell hb).1 _ _ (by simp)).trans (by simp), by have := hb.size; simp at this; omega⟩

set_option maxRecDepth 20000 in
set_option maxHeartbeats 2000000 in
theorem iwhy_any (x y : Opn) (a1 : Option Addr) (n1 c1 : Nat) (a2 : Option Addr) (n2 c2 : Nat) (r : Int) (w : World) (hx : Tms x) (hy : Tms y) (hr : 0 ≤ r ∧ r ≤ 1440)
    (h1 : IRw w (.slice a1 n1 c1) x.team) (h2 : IRw w (.slice a2 n2 c2) y.team) (l1 : x.team.length ≤ 1048576) (l2 : y.team.length ≤ 1048576) :
    Calls Try.prog 37 #[aO x (.slice a1 n1 c1), aO y (.slice a2 n2 c2), .int .i64 r] w fun e w' => e = .returned (.int .i64 (why x y r)) ∧ Below w.heap.size w w' := by
  have k0 := fun W => near_any x y (.slice a1 n1 c1) (.slice a2 n2 c2) 0 W hx hy (by omega)
  have k1 := fun W => near_any x y (.slice a1 n1 c1) (.slice a2 n2 c2) r W hx hy hr
  have k2 := fun g c W (hW : IRw W (.slice a1 n1 c1) x.team) (hW2 : IRw W (.slice a2 n2 c2) y.team) (hc : W.cell? ⟨g, 0, none⟩ = some (.slice a2 n2 c2)) => sbia_any a1 n1 c1 x.team g c a2 n2 c2 y.team W hW l1 hW2 l2 hc
  have HA := hidden (fun W (hW : Below w.heap.size w W) => h1.below hW)
  have HB := hidden (fun W (hW : Below w.heap.size w W) => h2.below hW)
  have HW := hidden (why_near x y r)
  clear h1 h2 hx hy
  unfold aO at *
  generalize nearB x y 0 = b0 at *
  generalize nearB x y r = b1 at *
  generalize shr x.team y.team = b2 at *
  obtain ⟨ra, fa, ea, ma⟩ := x
  obtain ⟨rb, fb, eb, mb⟩ := y
  dsimp only at *
  by_cases hrm : ra = rb
  · subst hrm
    cases b0 with
    | true =>
        go_enter Try.func37, Try.ntmps37
        go_wp2_with (go_at_call 64; with_reducible (refine (k0 _).mono ?_); rintro e w1 ⟨rfl, hb1⟩; obtain ⟨d0, d1, d2, d3, e0, e1, e2, e3, hz1⟩ := two_box hb1; have bA := onto (show Below w.heap.size w _ from by repeat (first | exact Below.refl _ _ | assumption | refine st_drew ?_ | refine st_drewN ?_ _ | refine Below.setCell ?_ (by first | omega | (simp; done) | (simp; omega)) _ | refine Below.alloc ?_ (by first | omega | (simp; done) | (simp; omega)) _)) hb1; clear hb1)
        go_ret
        exact ⟨by rw [HW.out]; simp, by repeat (first | exact Below.refl _ _ | assumption | refine st_drew ?_ | refine st_drewN ?_ _ | refine Below.setCell ?_ (by first | omega | (simp; done) | (simp; omega)) _ | refine Below.alloc ?_ (by first | omega | (simp; done) | (simp; omega)) _)⟩
    | false =>
      cases b1 with
      | false =>
        go_enter Try.func37, Try.ntmps37
        go_wp2_with (first | (go_at_call 64; with_reducible (refine (k0 _).mono ?_); rintro e w1 ⟨rfl, hb1⟩; obtain ⟨d0, d1, d2, d3, e0, e1, e2, e3, hz1⟩ := two_box hb1; have bA := onto (show Below w.heap.size w _ from by repeat (first | exact Below.refl _ _ | assumption | refine st_drew ?_ | refine st_drewN ?_ _ | refine Below.setCell ?_ (by first | omega | (simp; done) | (simp; omega)) _ | refine Below.alloc ?_ (by first | omega | (simp; done) | (simp; omega)) _)) hb1; clear hb1) | (go_at_call 64; with_reducible (refine (k1 _).mono ?_); rintro e w2 ⟨rfl, hb2⟩; have f3 := (hb2.cell (p := ⟨w.heap.size, 3, none⟩) (by show w.heap.size < _; omega)).trans d3; have g3 := (hb2.cell (p := ⟨w.heap.size + 1, 3, none⟩) (by show w.heap.size + 1 < _; omega)).trans e3; have bB := onto bA hb2; have hz2 := bB.size; clear hb2 bA))
        go_ret
        exact ⟨by rw [HW.out]; simp, by repeat (first | exact Below.refl _ _ | assumption | refine st_drew ?_ | refine st_drewN ?_ _ | refine Below.setCell ?_ (by first | omega | (simp; done) | (simp; omega)) _ | refine Below.alloc ?_ (by first | omega | (simp; done) | (simp; omega)) _)⟩
      | true =>
        cases b2
        all_goals
          go_enter Try.func37, Try.ntmps37
          go_wp2_with (first | (go_at_call 64; with_reducible (refine (k0 _).mono ?_); rintro e w1 ⟨rfl, hb1⟩; obtain ⟨d0, d1, d2, d3, e0, e1, e2, e3, hz1⟩ := two_box hb1; have bA := onto (show Below w.heap.size w _ from by repeat (first | exact Below.refl _ _ | assumption | refine st_drew ?_ | refine st_drewN ?_ _ | refine Below.setCell ?_ (by first | omega | (simp; done) | (simp; omega)) _ | refine Below.alloc ?_ (by first | omega | (simp; done) | (simp; omega)) _)) hb1; clear hb1) | (go_at_call 64; with_reducible (refine (k1 _).mono ?_); rintro e w2 ⟨rfl, hb2⟩; have f3 := (hb2.cell (p := ⟨w.heap.size, 3, none⟩) (by show w.heap.size < _; omega)).trans d3; have g3 := (hb2.cell (p := ⟨w.heap.size + 1, 3, none⟩) (by show w.heap.size + 1 < _; omega)).trans e3; have bB := onto bA hb2; have hz2 := bB.size; clear hb2 bA) | (go_at_call 65; refine (k2 _ _ _ (HA.out _ (by repeat (first | exact Below.refl _ _ | assumption | refine st_drew ?_ | refine st_drewN ?_ _ | refine Below.setCell ?_ (by first | omega | (simp; done) | (simp; omega)) _ | refine Below.alloc ?_ (by first | omega | (simp; done) | (simp; omega)) _))) (HB.out _ (by repeat (first | exact Below.refl _ _ | assumption | refine st_drew ?_ | refine st_drewN ?_ _ | refine Below.setCell ?_ (by first | omega | (simp; done) | (simp; omega)) _ | refine Below.alloc ?_ (by first | omega | (simp; done) | (simp; omega)) _))) (by simp)).mono ?_; rintro e w3 ⟨rfl, rfl⟩))
          go_ret
          exact ⟨by rw [HW.out]; simp, by repeat (first | exact Below.refl _ _ | assumption | refine st_drew ?_ | refine st_drewN ?_ _ | refine Below.setCell ?_ (by first | omega | (simp; done) | (simp; omega)) _ | refine Below.alloc ?_ (by first | omega | (simp; done) | (simp; omega)) _)⟩
  · have hrq : (ra == rb) = false := by simpa using hrm
    have HM := hidden hrm
    clear hrm
    cases b1 with
    | false =>
        go_enter Try.func37, Try.ntmps37
        go_wp2_with (first | (go_at_call 64; with_reducible (refine (k1 _).mono ?_); rintro e w1 ⟨rfl, hb1⟩; obtain ⟨d0, d1, d2, d3, e0, e1, e2, e3, hz1⟩ := two_box hb1; have bB := onto (show Below w.heap.size w _ from by repeat (first | exact Below.refl _ _ | assumption | refine st_drew ?_ | refine st_drewN ?_ _ | refine Below.setCell ?_ (by first | omega | (simp; done) | (simp; omega)) _ | refine Below.alloc ?_ (by first | omega | (simp; done) | (simp; omega)) _)) hb1; have hz2 := bB.size; clear hb1))
        go_ret
        exact ⟨by rw [HW.out]; simp [HM.out], by repeat (first | exact Below.refl _ _ | assumption | refine st_drew ?_ | refine st_drewN ?_ _ | refine Below.setCell ?_ (by first | omega | (simp; done) | (simp; omega)) _ | refine Below.alloc ?_ (by first | omega | (simp; done) | (simp; omega)) _)⟩
    | true =>
      cases b2
      all_goals
        go_enter Try.func37, Try.ntmps37
        go_wp2_with (first | (go_at_call 64; with_reducible (refine (k1 _).mono ?_); rintro e w1 ⟨rfl, hb1⟩; obtain ⟨d0, d1, d2, d3, e0, e1, e2, e3, hz1⟩ := two_box hb1; have bB := onto (show Below w.heap.size w _ from by repeat (first | exact Below.refl _ _ | assumption | refine st_drew ?_ | refine st_drewN ?_ _ | refine Below.setCell ?_ (by first | omega | (simp; done) | (simp; omega)) _ | refine Below.alloc ?_ (by first | omega | (simp; done) | (simp; omega)) _)) hb1; have hz2 := bB.size; clear hb1) | (go_at_call 65; refine (k2 _ _ _ (HA.out _ (by repeat (first | exact Below.refl _ _ | assumption | refine st_drew ?_ | refine st_drewN ?_ _ | refine Below.setCell ?_ (by first | omega | (simp; done) | (simp; omega)) _ | refine Below.alloc ?_ (by first | omega | (simp; done) | (simp; omega)) _))) (HB.out _ (by repeat (first | exact Below.refl _ _ | assumption | refine st_drew ?_ | refine st_drewN ?_ _ | refine Below.setCell ?_ (by first | omega | (simp; done) | (simp; omega)) _ | refine Below.alloc ?_ (by first | omega | (simp; done) | (simp; omega)) _))) (by simp)).mono ?_; rintro e w3 ⟨rfl, rfl⟩))
        go_ret
        exact ⟨by rw [HW.out]; simp [HM.out], by repeat (first | exact Below.refl _ _ | assumption | refine st_drew ?_ | refine st_drewN ?_ _ | refine Below.setCell ?_ (by first | omega | (simp; done) | (simp; omega)) _ | refine Below.alloc ?_ (by first | omega | (simp; done) | (simp; omega)) _)⟩

set_option maxRecDepth 20000 in
set_option maxHeartbeats 2000000 in
theorem sshr_any (x y : Opn) (a1 : Option Addr) (n1 c1 : Nat) (a2 : Option Addr) (n2 c2 : Nat) (w : World)
    (h1 : IRw w (.slice a1 n1 c1) x.team) (h2 : IRw w (.slice a2 n2 c2) y.team) (l1 : x.team.length ≤ 1048576) (l2 : y.team.length ≤ 1048576) :
    Calls Try.prog 66 #[aO x (.slice a1 n1 c1), aO y (.slice a2 n2 c2)] w fun e w' => e = .returned (.bool (shr x.team y.team)) ∧ Below w.heap.size w w' := by
  obtain rfl := h1.len
  have HH := hidden h1
  have HB := hidden (fun W (hW : Below w.heap.size w W) => h2.below hW)
  have hcall := fun z W hW => shas_any a2 n2 c2 y.team z W hW l2
  clear h1 h2
  unfold aO
  go_enter Try.func66, Try.ntmps66
  go_wp2_with fail
  go_loopw [5] (fun iv wr => ∃ i : Nat, i ≤ x.team.length ∧ iv = .int .i64 i ∧ Below w.heap.size w wr ∧ w.heap.size + 2 ≤ wr.heap.size ∧ wr.cell? ⟨w.heap.size, 3, none⟩ = some (.slice a1 x.team.length c1) ∧ wr.cell? ⟨w.heap.size + 1, 3, none⟩ = some (.slice a2 n2 c2) ∧ Hid (shr (x.team.take i) y.team = false)) (fun iv _ => x.team.length - (intOf iv).toNat)
  case atStart => exact ⟨0, Nat.zero_le _, rfl, by repeat (first | exact Below.refl _ _ | assumption | refine st_drew ?_ | refine st_drewN ?_ _ | refine Below.setCell ?_ (by first | omega | (simp; done) | (simp; omega)) _ | refine Below.alloc ?_ (by first | omega | (simp; done) | (simp; omega)) _), by simp, by simp, by simp, rfl⟩
  case round =>
    obtain ⟨i, hi, rfl, hb, hws, c3, c4, hok⟩ := hrel
    have hsz := hb.size
    by_cases hlt : i < x.team.length
    · have hlti : (i : Int) < (x.team.length : Int) := by omega
      obtain ⟨z, hz⟩ := some_of x.team i hlt
      obtain ⟨g, off, rfl, hg, hc⟩ := (HH.out.below hb).at hz
      have c0 := hc i z hz
      have HX := hidden hz
      have hK := hcall z
      clear hz hc hcall
      have HR := hidden (fun n => HB.out (wr.drewN n) (st_drewN hb n))
      cases hq : has y.team z with
      | true =>
        rw [hq] at hK
        have HY : Hid (shr x.team y.team = true) := shr_true HX.out hq
        clear hok hq
        go_wp2_with fail
        go_quiet ((go_at_call 79; exact Calls.quiet_of_same (hK _ (HR.out _))))
        go_wp2_with fail
        go_ret
        exact ⟨by rw [HY.out]; rfl, by repeat (first | exact Below.refl _ _ | assumption | refine st_drew ?_ | refine st_drewN ?_ _ | refine Below.setCell ?_ (by first | omega | (simp; done) | (simp; omega)) _ | refine Below.alloc ?_ (by first | omega | (simp; done) | (simp; omega)) _)⟩
      | false =>
        rw [hq] at hK
        have HN : Hid (shr (x.team.take (i + 1)) y.team = false) := shr_take hok.out HX.out hq
        clear hok hq
        go_wp2_with fail
        go_quiet ((go_at_call 79; exact Calls.quiet_of_same (hK _ (HR.out _))))
        go_wp2_with fail
        go_roundw
        case rel => exact ⟨i + 1, by omega, rfl, by repeat (first | exact Below.refl _ _ | assumption | refine st_drew ?_ | refine st_drewN ?_ _ | refine Below.setCell ?_ (by first | omega | (simp; done) | (simp; omega)) _ | refine Below.alloc ?_ (by first | omega | (simp; done) | (simp; omega)) _), by simpa using hws, by simpa using c3, by simpa using c4, HN⟩
        case measure => simp [intOf]; omega
    · have hlti : ¬ (i : Int) < (x.team.length : Int) := by omega
      have hil : i = x.team.length := by omega
      have HN := hidden (show shr x.team y.team = false by have := hok.out; rwa [hil, List.take_length] at this)
      go_wp2_with fail
      go_ret
      exact ⟨by rw [HN.out]; rfl, by repeat (first | exact Below.refl _ _ | assumption | refine st_drew ?_ | refine st_drewN ?_ _ | refine Below.setCell ?_ (by first | omega | (simp; done) | (simp; omega)) _ | refine Below.alloc ?_ (by first | omega | (simp; done) | (simp; omega)) _)⟩

set_option maxRecDepth 20000 in
set_option maxHeartbeats 2000000 in
theorem swhy_any (x y : Opn) (a1 : Option Addr) (n1 c1 : Nat) (a2 : Option Addr) (n2 c2 : Nat) (r : Int) (w : World) (hx : Tms x) (hy : Tms y) (hr : 0 ≤ r ∧ r ≤ 1440)
    (h1 : IRw w (.slice a1 n1 c1) x.team) (h2 : IRw w (.slice a2 n2 c2) y.team) (l1 : x.team.length ≤ 1048576) (l2 : y.team.length ≤ 1048576) :
    Calls Try.prog 40 #[aO x (.slice a1 n1 c1), aO y (.slice a2 n2 c2), .int .i64 r] w fun e w' => e = .returned (.int .i64 (why x y r)) ∧ Below w.heap.size w w' := by
  obtain ⟨⟨x1, x2⟩, x3, x4⟩ := hx
  obtain ⟨⟨y1, y2⟩, y3, y4⟩ := hy
  obtain ⟨r1, r2⟩ := hr
  have k2 := fun W (hW : IRw W (.slice a1 n1 c1) x.team) (hW2 : IRw W (.slice a2 n2 c2) y.team) => sshr_any x y a1 n1 c1 a2 n2 c2 W hW hW2 l1 l2
  have HA := hidden (fun W (hW : Below w.heap.size w W) => h1.below hW)
  have HB := hidden (fun W (hW : Below w.heap.size w W) => h2.below hW)
  have HW : Hid (why x y r = if x.room = y.room ∧ x.fr < y.to ∧ y.fr < x.to then 1 else if shr x.team y.team = true ∧ x.fr < y.to + r ∧ y.fr < x.to + r then 2 else 0) := rfl
  clear h1 h2
  unfold aO at *
  generalize shr x.team y.team = b2 at *
  obtain ⟨ra, fa, ea, ma⟩ := x
  obtain ⟨rb, fb, eb, mb⟩ := y
  dsimp only at *
  by_cases q0 : ra = rb ∧ fa < eb ∧ fb < ea
  · obtain ⟨rfl, q1, q2⟩ := q0
    go_enter Try.func40, Try.ntmps40
    go_wp2_with fail
    go_ret
    exact ⟨by rw [HW.out]; simp [q1, q2], by repeat (first | exact Below.refl _ _ | assumption | refine st_drew ?_ | refine st_drewN ?_ _ | refine Below.setCell ?_ (by first | omega | (simp; done) | (simp; omega)) _ | refine Below.alloc ?_ (by first | omega | (simp; done) | (simp; omega)) _)⟩
  have HZ : Hid (why ⟨ra, fa, ea, ma⟩ ⟨rb, fb, eb, mb⟩ r = if b2 = true ∧ fa < eb + r ∧ fb < ea + r then 2 else 0) := by rw [Hid, HW.out, if_neg q0]
  have hcase : ra ≠ rb ∨ (ra = rb ∧ ¬ fa < eb) ∨ (ra = rb ∧ fa < eb ∧ ¬ fb < ea) := by
    by_cases z1 : ra = rb
    · by_cases z2 : fa < eb
      · exact Or.inr (Or.inr ⟨z1, z2, fun z3 => q0 ⟨z1, z2, z3⟩⟩)
      · exact Or.inr (Or.inl ⟨z1, z2⟩)
    · exact Or.inl z1
  clear q0 HW
  rcases hcase with z | ⟨rfl, z⟩ | ⟨rfl, z, z'⟩
  · have hrq : (ra == rb) = false := by simpa using z
    clear z
    cases b2 with
    | false =>
      have HV : Hid (why ⟨ra, fa, ea, ma⟩ ⟨rb, fb, eb, mb⟩ r = 0) := by rw [Hid, HZ.out, if_neg (fun h => by cases h.1)]
      go_enter Try.func40, Try.ntmps40
      go_wp2_with (go_at_call 66; refine (k2 _ (HA.out _ (by repeat (first | exact Below.refl _ _ | assumption | refine st_drew ?_ | refine st_drewN ?_ _ | refine Below.setCell ?_ (by first | omega | (simp; done) | (simp; omega)) _ | refine Below.alloc ?_ (by first | omega | (simp; done) | (simp; omega)) _))) (HB.out _ (by repeat (first | exact Below.refl _ _ | assumption | refine st_drew ?_ | refine st_drewN ?_ _ | refine Below.setCell ?_ (by first | omega | (simp; done) | (simp; omega)) _ | refine Below.alloc ?_ (by first | omega | (simp; done) | (simp; omega)) _)))).mono ?_; rintro e w1 ⟨rfl, hb1⟩; obtain ⟨d0, d1, d2, d3, e0, e1, e2, e3, hz1⟩ := two_box hb1; have bB := onto (show Below w.heap.size w _ from by repeat (first | exact Below.refl _ _ | assumption | refine st_drew ?_ | refine st_drewN ?_ _ | refine Below.setCell ?_ (by first | omega | (simp; done) | (simp; omega)) _ | refine Below.alloc ?_ (by first | omega | (simp; done) | (simp; omega)) _)) hb1; clear hb1)
      go_ret
      exact ⟨by rw [HV.out]; rfl, by repeat (first | exact Below.refl _ _ | assumption | refine st_drew ?_ | refine st_drewN ?_ _ | refine Below.setCell ?_ (by first | omega | (simp; done) | (simp; omega)) _ | refine Below.alloc ?_ (by first | omega | (simp; done) | (simp; omega)) _)⟩
    | true =>
      by_cases p1 : fa < eb + r
      · by_cases p2 : fb < ea + r
        ·
          have HV : Hid (why ⟨ra, fa, ea, ma⟩ ⟨rb, fb, eb, mb⟩ r = 2) := by rw [Hid, HZ.out, if_pos ⟨rfl, p1, p2⟩]
          go_enter Try.func40, Try.ntmps40
          go_wp2_with (go_at_call 66; refine (k2 _ (HA.out _ (by repeat (first | exact Below.refl _ _ | assumption | refine st_drew ?_ | refine st_drewN ?_ _ | refine Below.setCell ?_ (by first | omega | (simp; done) | (simp; omega)) _ | refine Below.alloc ?_ (by first | omega | (simp; done) | (simp; omega)) _))) (HB.out _ (by repeat (first | exact Below.refl _ _ | assumption | refine st_drew ?_ | refine st_drewN ?_ _ | refine Below.setCell ?_ (by first | omega | (simp; done) | (simp; omega)) _ | refine Below.alloc ?_ (by first | omega | (simp; done) | (simp; omega)) _)))).mono ?_; rintro e w1 ⟨rfl, hb1⟩; obtain ⟨d0, d1, d2, d3, e0, e1, e2, e3, hz1⟩ := two_box hb1; have bB := onto (show Below w.heap.size w _ from by repeat (first | exact Below.refl _ _ | assumption | refine st_drew ?_ | refine st_drewN ?_ _ | refine Below.setCell ?_ (by first | omega | (simp; done) | (simp; omega)) _ | refine Below.alloc ?_ (by first | omega | (simp; done) | (simp; omega)) _)) hb1; clear hb1)
          go_ret
          exact ⟨by rw [HV.out]; rfl, by repeat (first | exact Below.refl _ _ | assumption | refine st_drew ?_ | refine st_drewN ?_ _ | refine Below.setCell ?_ (by first | omega | (simp; done) | (simp; omega)) _ | refine Below.alloc ?_ (by first | omega | (simp; done) | (simp; omega)) _)⟩
        ·
          have HV : Hid (why ⟨ra, fa, ea, ma⟩ ⟨rb, fb, eb, mb⟩ r = 0) := by rw [Hid, HZ.out, if_neg (fun h => p2 h.2.2)]
          go_enter Try.func40, Try.ntmps40
          go_wp2_with (go_at_call 66; refine (k2 _ (HA.out _ (by repeat (first | exact Below.refl _ _ | assumption | refine st_drew ?_ | refine st_drewN ?_ _ | refine Below.setCell ?_ (by first | omega | (simp; done) | (simp; omega)) _ | refine Below.alloc ?_ (by first | omega | (simp; done) | (simp; omega)) _))) (HB.out _ (by repeat (first | exact Below.refl _ _ | assumption | refine st_drew ?_ | refine st_drewN ?_ _ | refine Below.setCell ?_ (by first | omega | (simp; done) | (simp; omega)) _ | refine Below.alloc ?_ (by first | omega | (simp; done) | (simp; omega)) _)))).mono ?_; rintro e w1 ⟨rfl, hb1⟩; obtain ⟨d0, d1, d2, d3, e0, e1, e2, e3, hz1⟩ := two_box hb1; have bB := onto (show Below w.heap.size w _ from by repeat (first | exact Below.refl _ _ | assumption | refine st_drew ?_ | refine st_drewN ?_ _ | refine Below.setCell ?_ (by first | omega | (simp; done) | (simp; omega)) _ | refine Below.alloc ?_ (by first | omega | (simp; done) | (simp; omega)) _)) hb1; clear hb1)
          go_ret
          exact ⟨by rw [HV.out]; rfl, by repeat (first | exact Below.refl _ _ | assumption | refine st_drew ?_ | refine st_drewN ?_ _ | refine Below.setCell ?_ (by first | omega | (simp; done) | (simp; omega)) _ | refine Below.alloc ?_ (by first | omega | (simp; done) | (simp; omega)) _)⟩
      ·
        have HV : Hid (why ⟨ra, fa, ea, ma⟩ ⟨rb, fb, eb, mb⟩ r = 0) := by rw [Hid, HZ.out, if_neg (fun h => p1 h.2.1)]
        go_enter Try.func40, Try.ntmps40
        go_wp2_with (go_at_call 66; refine (k2 _ (HA.out _ (by repeat (first | exact Below.refl _ _ | assumption | refine st_drew ?_ | refine st_drewN ?_ _ | refine Below.setCell ?_ (by first | omega | (simp; done) | (simp; omega)) _ | refine Below.alloc ?_ (by first | omega | (simp; done) | (simp; omega)) _))) (HB.out _ (by repeat (first | exact Below.refl _ _ | assumption | refine st_drew ?_ | refine st_drewN ?_ _ | refine Below.setCell ?_ (by first | omega | (simp; done) | (simp; omega)) _ | refine Below.alloc ?_ (by first | omega | (simp; done) | (simp; omega)) _)))).mono ?_; rintro e w1 ⟨rfl, hb1⟩; obtain ⟨d0, d1, d2, d3, e0, e1, e2, e3, hz1⟩ := two_box hb1; have bB := onto (show Below w.heap.size w _ from by repeat (first | exact Below.refl _ _ | assumption | refine st_drew ?_ | refine st_drewN ?_ _ | refine Below.setCell ?_ (by first | omega | (simp; done) | (simp; omega)) _ | refine Below.alloc ?_ (by first | omega | (simp; done) | (simp; omega)) _)) hb1; clear hb1)
        go_ret
        exact ⟨by rw [HV.out]; rfl, by repeat (first | exact Below.refl _ _ | assumption | refine st_drew ?_ | refine st_drewN ?_ _ | refine Below.setCell ?_ (by first | omega | (simp; done) | (simp; omega)) _ | refine Below.alloc ?_ (by first | omega | (simp; done) | (simp; omega)) _)⟩
  ·
    cases b2 with
    | false =>
      have HV : Hid (why ⟨ra, fa, ea, ma⟩ ⟨ra, fb, eb, mb⟩ r = 0) := by rw [Hid, HZ.out, if_neg (fun h => by cases h.1)]
      go_enter Try.func40, Try.ntmps40
      go_wp2_with (go_at_call 66; refine (k2 _ (HA.out _ (by repeat (first | exact Below.refl _ _ | assumption | refine st_drew ?_ | refine st_drewN ?_ _ | refine Below.setCell ?_ (by first | omega | (simp; done) | (simp; omega)) _ | refine Below.alloc ?_ (by first | omega | (simp; done) | (simp; omega)) _))) (HB.out _ (by repeat (first | exact Below.refl _ _ | assumption | refine st_drew ?_ | refine st_drewN ?_ _ | refine Below.setCell ?_ (by first | omega | (simp; done) | (simp; omega)) _ | refine Below.alloc ?_ (by first | omega | (simp; done) | (simp; omega)) _)))).mono ?_; rintro e w1 ⟨rfl, hb1⟩; obtain ⟨d0, d1, d2, d3, e0, e1, e2, e3, hz1⟩ := two_box hb1; have bB := onto (show Below w.heap.size w _ from by repeat (first | exact Below.refl _ _ | assumption | refine st_drew ?_ | refine st_drewN ?_ _ | refine Below.setCell ?_ (by first | omega | (simp; done) | (simp; omega)) _ | refine Below.alloc ?_ (by first | omega | (simp; done) | (simp; omega)) _)) hb1; clear hb1)
      go_ret
      exact ⟨by rw [HV.out]; rfl, by repeat (first | exact Below.refl _ _ | assumption | refine st_drew ?_ | refine st_drewN ?_ _ | refine Below.setCell ?_ (by first | omega | (simp; done) | (simp; omega)) _ | refine Below.alloc ?_ (by first | omega | (simp; done) | (simp; omega)) _)⟩
    | true =>
      by_cases p1 : fa < eb + r
      · by_cases p2 : fb < ea + r
        ·
          have HV : Hid (why ⟨ra, fa, ea, ma⟩ ⟨ra, fb, eb, mb⟩ r = 2) := by rw [Hid, HZ.out, if_pos ⟨rfl, p1, p2⟩]
          go_enter Try.func40, Try.ntmps40
          go_wp2_with (go_at_call 66; refine (k2 _ (HA.out _ (by repeat (first | exact Below.refl _ _ | assumption | refine st_drew ?_ | refine st_drewN ?_ _ | refine Below.setCell ?_ (by first | omega | (simp; done) | (simp; omega)) _ | refine Below.alloc ?_ (by first | omega | (simp; done) | (simp; omega)) _))) (HB.out _ (by repeat (first | exact Below.refl _ _ | assumption | refine st_drew ?_ | refine st_drewN ?_ _ | refine Below.setCell ?_ (by first | omega | (simp; done) | (simp; omega)) _ | refine Below.alloc ?_ (by first | omega | (simp; done) | (simp; omega)) _)))).mono ?_; rintro e w1 ⟨rfl, hb1⟩; obtain ⟨d0, d1, d2, d3, e0, e1, e2, e3, hz1⟩ := two_box hb1; have bB := onto (show Below w.heap.size w _ from by repeat (first | exact Below.refl _ _ | assumption | refine st_drew ?_ | refine st_drewN ?_ _ | refine Below.setCell ?_ (by first | omega | (simp; done) | (simp; omega)) _ | refine Below.alloc ?_ (by first | omega | (simp; done) | (simp; omega)) _)) hb1; clear hb1)
          go_ret
          exact ⟨by rw [HV.out]; rfl, by repeat (first | exact Below.refl _ _ | assumption | refine st_drew ?_ | refine st_drewN ?_ _ | refine Below.setCell ?_ (by first | omega | (simp; done) | (simp; omega)) _ | refine Below.alloc ?_ (by first | omega | (simp; done) | (simp; omega)) _)⟩
        ·
          have HV : Hid (why ⟨ra, fa, ea, ma⟩ ⟨ra, fb, eb, mb⟩ r = 0) := by rw [Hid, HZ.out, if_neg (fun h => p2 h.2.2)]
          go_enter Try.func40, Try.ntmps40
          go_wp2_with (go_at_call 66; refine (k2 _ (HA.out _ (by repeat (first | exact Below.refl _ _ | assumption | refine st_drew ?_ | refine st_drewN ?_ _ | refine Below.setCell ?_ (by first | omega | (simp; done) | (simp; omega)) _ | refine Below.alloc ?_ (by first | omega | (simp; done) | (simp; omega)) _))) (HB.out _ (by repeat (first | exact Below.refl _ _ | assumption | refine st_drew ?_ | refine st_drewN ?_ _ | refine Below.setCell ?_ (by first | omega | (simp; done) | (simp; omega)) _ | refine Below.alloc ?_ (by first | omega | (simp; done) | (simp; omega)) _)))).mono ?_; rintro e w1 ⟨rfl, hb1⟩; obtain ⟨d0, d1, d2, d3, e0, e1, e2, e3, hz1⟩ := two_box hb1; have bB := onto (show Below w.heap.size w _ from by repeat (first | exact Below.refl _ _ | assumption | refine st_drew ?_ | refine st_drewN ?_ _ | refine Below.setCell ?_ (by first | omega | (simp; done) | (simp; omega)) _ | refine Below.alloc ?_ (by first | omega | (simp; done) | (simp; omega)) _)) hb1; clear hb1)
          go_ret
          exact ⟨by rw [HV.out]; rfl, by repeat (first | exact Below.refl _ _ | assumption | refine st_drew ?_ | refine st_drewN ?_ _ | refine Below.setCell ?_ (by first | omega | (simp; done) | (simp; omega)) _ | refine Below.alloc ?_ (by first | omega | (simp; done) | (simp; omega)) _)⟩
      ·
        have HV : Hid (why ⟨ra, fa, ea, ma⟩ ⟨ra, fb, eb, mb⟩ r = 0) := by rw [Hid, HZ.out, if_neg (fun h => p1 h.2.1)]
        go_enter Try.func40, Try.ntmps40
        go_wp2_with (go_at_call 66; refine (k2 _ (HA.out _ (by repeat (first | exact Below.refl _ _ | assumption | refine st_drew ?_ | refine st_drewN ?_ _ | refine Below.setCell ?_ (by first | omega | (simp; done) | (simp; omega)) _ | refine Below.alloc ?_ (by first | omega | (simp; done) | (simp; omega)) _))) (HB.out _ (by repeat (first | exact Below.refl _ _ | assumption | refine st_drew ?_ | refine st_drewN ?_ _ | refine Below.setCell ?_ (by first | omega | (simp; done) | (simp; omega)) _ | refine Below.alloc ?_ (by first | omega | (simp; done) | (simp; omega)) _)))).mono ?_; rintro e w1 ⟨rfl, hb1⟩; obtain ⟨d0, d1, d2, d3, e0, e1, e2, e3, hz1⟩ := two_box hb1; have bB := onto (show Below w.heap.size w _ from by repeat (first | exact Below.refl _ _ | assumption | refine st_drew ?_ | refine st_drewN ?_ _ | refine Below.setCell ?_ (by first | omega | (simp; done) | (simp; omega)) _ | refine Below.alloc ?_ (by first | omega | (simp; done) | (simp; omega)) _)) hb1; clear hb1)
        go_ret
        exact ⟨by rw [HV.out]; rfl, by repeat (first | exact Below.refl _ _ | assumption | refine st_drew ?_ | refine st_drewN ?_ _ | refine Below.setCell ?_ (by first | omega | (simp; done) | (simp; omega)) _ | refine Below.alloc ?_ (by first | omega | (simp; done) | (simp; omega)) _)⟩
  ·
    cases b2 with
    | false =>
      have HV : Hid (why ⟨ra, fa, ea, ma⟩ ⟨ra, fb, eb, mb⟩ r = 0) := by rw [Hid, HZ.out, if_neg (fun h => by cases h.1)]
      go_enter Try.func40, Try.ntmps40
      go_wp2_with (go_at_call 66; refine (k2 _ (HA.out _ (by repeat (first | exact Below.refl _ _ | assumption | refine st_drew ?_ | refine st_drewN ?_ _ | refine Below.setCell ?_ (by first | omega | (simp; done) | (simp; omega)) _ | refine Below.alloc ?_ (by first | omega | (simp; done) | (simp; omega)) _))) (HB.out _ (by repeat (first | exact Below.refl _ _ | assumption | refine st_drew ?_ | refine st_drewN ?_ _ | refine Below.setCell ?_ (by first | omega | (simp; done) | (simp; omega)) _ | refine Below.alloc ?_ (by first | omega | (simp; done) | (simp; omega)) _)))).mono ?_; rintro e w1 ⟨rfl, hb1⟩; obtain ⟨d0, d1, d2, d3, e0, e1, e2, e3, hz1⟩ := two_box hb1; have bB := onto (show Below w.heap.size w _ from by repeat (first | exact Below.refl _ _ | assumption | refine st_drew ?_ | refine st_drewN ?_ _ | refine Below.setCell ?_ (by first | omega | (simp; done) | (simp; omega)) _ | refine Below.alloc ?_ (by first | omega | (simp; done) | (simp; omega)) _)) hb1; clear hb1)
      go_ret
      exact ⟨by rw [HV.out]; rfl, by repeat (first | exact Below.refl _ _ | assumption | refine st_drew ?_ | refine st_drewN ?_ _ | refine Below.setCell ?_ (by first | omega | (simp; done) | (simp; omega)) _ | refine Below.alloc ?_ (by first | omega | (simp; done) | (simp; omega)) _)⟩
    | true =>
      by_cases p1 : fa < eb + r
      · by_cases p2 : fb < ea + r
        ·
          have HV : Hid (why ⟨ra, fa, ea, ma⟩ ⟨ra, fb, eb, mb⟩ r = 2) := by rw [Hid, HZ.out, if_pos ⟨rfl, p1, p2⟩]
          go_enter Try.func40, Try.ntmps40
          go_wp2_with (go_at_call 66; refine (k2 _ (HA.out _ (by repeat (first | exact Below.refl _ _ | assumption | refine st_drew ?_ | refine st_drewN ?_ _ | refine Below.setCell ?_ (by first | omega | (simp; done) | (simp; omega)) _ | refine Below.alloc ?_ (by first | omega | (simp; done) | (simp; omega)) _))) (HB.out _ (by repeat (first | exact Below.refl _ _ | assumption | refine st_drew ?_ | refine st_drewN ?_ _ | refine Below.setCell ?_ (by first | omega | (simp; done) | (simp; omega)) _ | refine Below.alloc ?_ (by first | omega | (simp; done) | (simp; omega)) _)))).mono ?_; rintro e w1 ⟨rfl, hb1⟩; obtain ⟨d0, d1, d2, d3, e0, e1, e2, e3, hz1⟩ := two_box hb1; have bB := onto (show Below w.heap.size w _ from by repeat (first | exact Below.refl _ _ | assumption | refine st_drew ?_ | refine st_drewN ?_ _ | refine Below.setCell ?_ (by first | omega | (simp; done) | (simp; omega)) _ | refine Below.alloc ?_ (by first | omega | (simp; done) | (simp; omega)) _)) hb1; clear hb1)
          go_ret
          exact ⟨by rw [HV.out]; rfl, by repeat (first | exact Below.refl _ _ | assumption | refine st_drew ?_ | refine st_drewN ?_ _ | refine Below.setCell ?_ (by first | omega | (simp; done) | (simp; omega)) _ | refine Below.alloc ?_ (by first | omega | (simp; done) | (simp; omega)) _)⟩
        ·
          have HV : Hid (why ⟨ra, fa, ea, ma⟩ ⟨ra, fb, eb, mb⟩ r = 0) := by rw [Hid, HZ.out, if_neg (fun h => p2 h.2.2)]
          go_enter Try.func40, Try.ntmps40
          go_wp2_with (go_at_call 66; refine (k2 _ (HA.out _ (by repeat (first | exact Below.refl _ _ | assumption | refine st_drew ?_ | refine st_drewN ?_ _ | refine Below.setCell ?_ (by first | omega | (simp; done) | (simp; omega)) _ | refine Below.alloc ?_ (by first | omega | (simp; done) | (simp; omega)) _))) (HB.out _ (by repeat (first | exact Below.refl _ _ | assumption | refine st_drew ?_ | refine st_drewN ?_ _ | refine Below.setCell ?_ (by first | omega | (simp; done) | (simp; omega)) _ | refine Below.alloc ?_ (by first | omega | (simp; done) | (simp; omega)) _)))).mono ?_; rintro e w1 ⟨rfl, hb1⟩; obtain ⟨d0, d1, d2, d3, e0, e1, e2, e3, hz1⟩ := two_box hb1; have bB := onto (show Below w.heap.size w _ from by repeat (first | exact Below.refl _ _ | assumption | refine st_drew ?_ | refine st_drewN ?_ _ | refine Below.setCell ?_ (by first | omega | (simp; done) | (simp; omega)) _ | refine Below.alloc ?_ (by first | omega | (simp; done) | (simp; omega)) _)) hb1; clear hb1)
          go_ret
          exact ⟨by rw [HV.out]; rfl, by repeat (first | exact Below.refl _ _ | assumption | refine st_drew ?_ | refine st_drewN ?_ _ | refine Below.setCell ?_ (by first | omega | (simp; done) | (simp; omega)) _ | refine Below.alloc ?_ (by first | omega | (simp; done) | (simp; omega)) _)⟩
      ·
        exact absurd z (by omega)
end Go.Proofs.Ytcapmobhgffnhaa
