/-
  The earliest time among operations that may be wrong ones: it comes to an end, with a time within its bounds.
-/
import Derived.Test.YtcapmobhgffnhaaOh
namespace Go.Proofs.Ytcapmobhgffnhaa
open Go.RowKit Va Oa
set_option linter.unusedVariables false

set_option maxRecDepth 20000 in
set_option maxHeartbeats 2000000 in
theorem swhyW_any (x y : Opn) (a1 : Option Addr) (n1 c1 : Nat) (a2 : Option Addr) (n2 c2 : Nat) (r : Int) (w : World) (hx : Tms x) (hy : Tms y) (hr : 0 ≤ r ∧ r ≤ 100000)
    (h1 : IRw w (.slice a1 n1 c1) x.team) (h2 : IRw w (.slice a2 n2 c2) y.team) (l1 : x.team.length ≤ 1048576) (l2 : y.team.length ≤ 1048576) :
    Calls Try.prog 40 #[aO x (.slice a1 n1 c1), aO y (.slice a2 n2 c2), .int .i64 r] w fun e w' => e = .returned (.int .i64 (why x y r)) ∧ Below w.heap.size w w' := by
  obtain ⟨⟨x1, x2⟩, x3, x4⟩ := hx
  obtain ⟨⟨y1, y2⟩, y3, y4⟩ := hy
  obtain ⟨r1, r2⟩ := hr
  have k2 := fun W (hW : IRw W (.slice a1 n1 c1) x.team) (hW2 : IRw W (.slice a2 n2 c2) y.team) => sshr_any x y a1 n1 c1 a2 n2 c2 W hW hW2 l1 l2
  have HA := hidden (fun W (hW : Below w.heap.size w W) => h1.below hW)
  have HB := hidden (fun W (hW : Below w.heap.size w W) => h2.below hW)
  have HW : Hid (why x y r = if x.room = y.room ∧ x.fr < y.to ∧ y.fr < x.to then 1 else if shr x.team y.team = true ∧ x.fr < y.to + r ∧ y.fr < x.to + r then 2 else 0) := rfl
  clear h1 h2
  unfold aO at *
  generalize shr x.team y.team = b2 at *
  obtain ⟨ra, fa, ea, ma⟩ := x
  obtain ⟨rb, fb, eb, mb⟩ := y
  dsimp only at *
  by_cases q0 : ra = rb ∧ fa < eb ∧ fb < ea
  · obtain ⟨rfl, q1, q2⟩ := q0
    go_enter Try.func40, Try.ntmps40
    go_wp2_with fail
    go_ret
    exact ⟨by rw [HW.out]; simp [q1, q2], by repeat (first | exact Below.refl _ _ | assumption | refine st_drew ?_ | refine st_drewN ?_ _ | refine Below.setCell ?_ (by first | omega | (simp; done) | (simp; omega)) _ | refine Below.alloc ?_ (by first | omega | (simp; done) | (simp; omega)) _)⟩
  have HZ : Hid (why ⟨ra, fa, ea, ma⟩ ⟨rb, fb, eb, mb⟩ r = if b2 = true ∧ fa < eb + r ∧ fb < ea + r then 2 else 0) := by rw [Hid, HW.out, if_neg q0]
  have hcase : ra ≠ rb ∨ (ra = rb ∧ ¬ fa < eb) ∨ (ra = rb ∧ fa < eb ∧ ¬ fb < ea) := by
    by_cases z1 : ra = rb
    · by_cases z2 : fa < eb
      · exact Or.inr (Or.inr ⟨z1, z2, fun z3 => q0 ⟨z1, z2, z3⟩⟩)
      · exact Or.inr (Or.inl ⟨z1, z2⟩)
    · exact Or.inl z1
  clear q0 HW
  rcases hcase with z | ⟨rfl, z⟩ | ⟨rfl, z, z'⟩
  · have hrq : (ra == rb) = false := by simpa using z
    clear z
    cases b2 with
    | false =>
      have HV : Hid (why ⟨ra, fa, ea, ma⟩ ⟨rb, fb, eb, mb⟩ r = 0) := by rw [Hid, HZ.out, if_neg (fun h => by cases h.1)]
      go_enter Try.func40, Try.ntmps40
      go_wp2_with (go_at_call 66; refine (k2 _ (HA.out _ (by repeat (first | exact Below.refl _ _ | assumption | refine st_drew ?_ | refine st_drewN ?_ _ | refine Below.setCell ?_ (by first | omega | (simp; done) | (simp; omega)) _ | refine Below.alloc ?_ (by first | omega | (simp; done) | (simp; omega)) _))) (HB.out _ (by repeat (first | exact Below.refl _ _ | assumption | refine st_drew ?_ | refine st_drewN ?_ _ | refine Below.setCell ?_ (by first | omega | (simp; done) | (simp; omega)) _ | refine Below.alloc ?_ (by first | omega | (simp; done) | (simp; omega)) _)))).mono ?_; rintro e w1 ⟨rfl, hb1⟩; obtain ⟨d0, d1, d2, d3, e0, e1, e2, e3, hz1⟩ := two_box hb1; have bB := onto (show Below w.heap.size w _ from by repeat (first | exact Below.refl _ _ | assumption | refine st_drew ?_ | refine st_drewN ?_ _ | refine Below.setCell ?_ (by first | omega | (simp; done) | (simp; omega)) _ | refine Below.alloc ?_ (by first | omega | (simp; done) | (simp; omega)) _)) hb1; clear hb1)
      go_ret
      exact ⟨by rw [HV.out]; rfl, by repeat (first | exact Below.refl _ _ | assumption | refine st_drew ?_ | refine st_drewN ?_ _ | refine Below.setCell ?_ (by first | omega | (simp; done) | (simp; omega)) _ | refine Below.alloc ?_ (by first | omega | (simp; done) | (simp; omega)) _)⟩
    | true =>
      by_cases p1 : fa < eb + r
      · by_cases p2 : fb < ea + r
        ·
          have HV : Hid (why ⟨ra, fa, ea, ma⟩ ⟨rb, fb, eb, mb⟩ r = 2) := by rw [Hid, HZ.out, if_pos ⟨rfl, p1, p2⟩]
          go_enter Try.func40, Try.ntmps40
          go_wp2_with (go_at_call 66; refine (k2 _ (HA.out _ (by repeat (first | exact Below.refl _ _ | assumption | refine st_drew ?_ | refine st_drewN ?_ _ | refine Below.setCell ?_ (by first | omega | (simp; done) | (simp; omega)) _ | refine Below.alloc ?_ (by first | omega | (simp; done) | (simp; omega)) _))) (HB.out _ (by repeat (first | exact Below.refl _ _ | assumption | refine st_drew ?_ | refine st_drewN ?_ _ | refine Below.setCell ?_ (by first | omega | (simp; done) | (simp; omega)) _ | refine Below.alloc ?_ (by first | omega | (simp; done) | (simp; omega)) _)))).mono ?_; rintro e w1 ⟨rfl, hb1⟩; obtain ⟨d0, d1, d2, d3, e0, e1, e2, e3, hz1⟩ := two_box hb1; have bB := onto (show Below w.heap.size w _ from by repeat (first | exact Below.refl _ _ | assumption | refine st_drew ?_ | refine st_drewN ?_ _ | refine Below.setCell ?_ (by first | omega | (simp; done) | (simp; omega)) _ | refine Below.alloc ?_ (by first | omega | (simp; done) | (simp; omega)) _)) hb1; clear hb1)
          go_ret
          exact ⟨by rw [HV.out]; rfl, by repeat (first | exact Below.refl _ _ | assumption | refine st_drew ?_ | refine st_drewN ?_ _ | refine Below.setCell ?_ (by first | omega | (simp; done) | (simp; omega)) _ | refine Below.alloc ?_ (by first | omega | (simp; done) | (simp; omega)) _)⟩
        ·
          have HV : Hid (why ⟨ra, fa, ea, ma⟩ ⟨rb, fb, eb, mb⟩ r = 0) := by rw [Hid, HZ.out, if_neg (fun h => p2 h.2.2)]
          go_enter Try.func40, Try.ntmps40
          go_wp2_with (go_at_call 66; refine (k2 _ (HA.out _ (by repeat (first | exact Below.refl _ _ | assumption | refine st_drew ?_ | refine st_drewN ?_ _ | refine Below.setCell ?_ (by first | omega | (simp; done) | (simp; omega)) _ | refine Below.alloc ?_ (by first | omega | (simp; done) | (simp; omega)) _))) (HB.out _ (by repeat (first | exact Below.refl _ _ | assumption | refine st_drew ?_ | refine st_drewN ?_ _ | refine Below.setCell ?_ (by first | omega | (simp; done) | (simp; omega)) _ | refine Below.alloc ?_ (by first | omega | (simp; done) | (simp; omega)) _)))).mono ?_; rintro e w1 ⟨rfl, hb1⟩; obtain ⟨d0, d1, d2, d3, e0, e1, e2, e3, hz1⟩ := two_box hb1; have bB := onto (show Below w.heap.size w _ from by repeat (first | exact Below.refl _ _ | assumption | refine st_drew ?_ | refine st_drewN ?_ _ | refine Below.setCell ?_ (by first | omega | (simp; done) | (simp; omega)) _ | refine Below.alloc ?_ (by first | omega | (simp; done) | (simp; omega)) _)) hb1; clear hb1)
          go_ret
          exact ⟨by rw [HV.out]; rfl, by repeat (first | exact Below.refl _ _ | assumption | refine st_drew ?_ | refine st_drewN ?_ _ | refine Below.setCell ?_ (by first | omega | (simp; done) | (simp; omega)) _ | refine Below.alloc ?_ (by first | omega | (simp; done) | (simp; omega)) _)⟩
      ·
        have HV : Hid (why ⟨ra, fa, ea, ma⟩ ⟨rb, fb, eb, mb⟩ r = 0) := by rw [Hid, HZ.out, if_neg (fun h => p1 h.2.1)]
        go_enter Try.func40, Try.ntmps40
        go_wp2_with (go_at_call 66; refine (k2 _ (HA.out _ (by repeat (first | exact Below.refl _ _ | assumption | refine st_drew ?_ | refine st_drewN ?_ _ | refine Below.setCell ?_ (by first | omega | (simp; done) | (simp; omega)) _ | refine Below.alloc ?_ (by first | omega | (simp; done) | (simp; omega)) _))) (HB.out _ (by repeat (first | exact Below.refl _ _ | assumption | refine st_drew ?_ | refine st_drewN ?_ _ | refine Below.setCell ?_ (by first | omega | (simp; done) | (simp; omega)) _ | refine Below.alloc ?_ (by first | omega | (simp; done) | (simp; omega)) _)))).mono ?_; rintro e w1 ⟨rfl, hb1⟩; obtain ⟨d0, d1, d2, d3, e0, e1, e2, e3, hz1⟩ := two_box hb1; have bB := onto (show Below w.heap.size w _ from by repeat (first | exact Below.refl _ _ | assumption | refine st_drew ?_ | refine st_drewN ?_ _ | refine Below.setCell ?_ (by first | omega | (simp; done) | (simp; omega)) _ | refine Below.alloc ?_ (by first | omega | (simp; done) | (simp; omega)) _)) hb1; clear hb1)
        go_ret
        exact ⟨by rw [HV.out]; rfl, by repeat (first | exact Below.refl _ _ | assumption | refine st_drew ?_ | refine st_drewN ?_ _ | refine Below.setCell ?_ (by first | omega | (simp; done) | (simp; omega)) _ | refine Below.alloc ?_ (by first | omega | (simp; done) | (simp; omega)) _)⟩
  ·
    cases b2 with
    | false =>
      have HV : Hid (why ⟨ra, fa, ea, ma⟩ ⟨ra, fb, eb, mb⟩ r = 0) := by rw [Hid, HZ.out, if_neg (fun h => by cases h.1)]
      go_enter Try.func40, Try.ntmps40
      go_wp2_with (go_at_call 66; refine (k2 _ (HA.out _ (by repeat (first | exact Below.refl _ _ | assumption | refine st_drew ?_ | refine st_drewN ?_ _ | refine Below.setCell ?_ (by first | omega | (simp; done) | (simp; omega)) _ | refine Below.alloc ?_ (by first | omega | (simp; done) | (simp; omega)) _))) (HB.out _ (by repeat (first | exact Below.refl _ _ | assumption | refine st_drew ?_ | refine st_drewN ?_ _ | refine Below.setCell ?_ (by first | omega | (simp; done) | (simp; omega)) _ | refine Below.alloc ?_ (by first | omega | (simp; done) | (simp; omega)) _)))).mono ?_; rintro e w1 ⟨rfl, hb1⟩; obtain ⟨d0, d1, d2, d3, e0, e1, e2, e3, hz1⟩ := two_box hb1; have bB := onto (show Below w.heap.size w _ from by repeat (first | exact Below.refl _ _ | assumption | refine st_drew ?_ | refine st_drewN ?_ _ | refine Below.setCell ?_ (by first | omega | (simp; done) | (simp; omega)) _ | refine Below.alloc ?_ (by first | omega | (simp; done) | (simp; omega)) _)) hb1; clear hb1)
      go_ret
      exact ⟨by rw [HV.out]; rfl, by repeat (first | exact Below.refl _ _ | assumption | refine st_drew ?_ | refine st_drewN ?_ _ | refine Below.setCell ?_ (by first | omega | (simp; done) | (simp; omega)) _ | refine Below.alloc ?_ (by first | omega | (simp; done) | (simp; omega)) _)⟩
    | true =>
      by_cases p1 : fa < eb + r
      · by_cases p2 : fb < ea + r
        ·
          have HV : Hid (why ⟨ra, fa, ea, ma⟩ ⟨ra, fb, eb, mb⟩ r = 2) := by rw [Hid, HZ.out, if_pos ⟨rfl, p1, p2⟩]
          go_enter Try.func40, Try.ntmps40
          go_wp2_with (go_at_call 66; refine (k2 _ (HA.out _ (by repeat (first | exact Below.refl _ _ | assumption | refine st_drew ?_ | refine st_drewN ?_ _ | refine Below.setCell ?_ (by first | omega | (simp; done) | (simp; omega)) _ | refine Below.alloc ?_ (by first | omega | (simp; done) | (simp; omega)) _))) (HB.out _ (by repeat (first | exact Below.refl _ _ | assumption | refine st_drew ?_ | refine st_drewN ?_ _ | refine Below.setCell ?_ (by first | omega | (simp; done) | (simp; omega)) _ | refine Below.alloc ?_ (by first | omega | (simp; done) | (simp; omega)) _)))).mono ?_; rintro e w1 ⟨rfl, hb1⟩; obtain ⟨d0, d1, d2, d3, e0, e1, e2, e3, hz1⟩ := two_box hb1; have bB := onto (show Below w.heap.size w _ from by repeat (first | exact Below.refl _ _ | assumption | refine st_drew ?_ | refine st_drewN ?_ _ | refine Below.setCell ?_ (by first | omega | (simp; done) | (simp; omega)) _ | refine Below.alloc ?_ (by first | omega | (simp; done) | (simp; omega)) _)) hb1; clear hb1)
          go_ret
          exact ⟨by rw [HV.out]; rfl, by repeat (first | exact Below.refl _ _ | assumption | refine st_drew ?_ | refine st_drewN ?_ _ | refine Below.setCell ?_ (by first | omega | (simp; done) | (simp; omega)) _ | refine Below.alloc ?_ (by first | omega | (simp; done) | (simp; omega)) _)⟩
        ·
          have HV : Hid (why ⟨ra, fa, ea, ma⟩ ⟨ra, fb, eb, mb⟩ r = 0) := by rw [Hid, HZ.out, if_neg (fun h => p2 h.2.2)]
          go_enter Try.func40, Try.ntmps40
          go_wp2_with (go_at_call 66; refine (k2 _ (HA.out _ (by repeat (first | exact Below.refl _ _ | assumption | refine st_drew ?_ | refine st_drewN ?_ _ | refine Below.setCell ?_ (by first | omega | (simp; done) | (simp; omega)) _ | refine Below.alloc ?_ (by first | omega | (simp; done) | (simp; omega)) _))) (HB.out _ (by repeat (first | exact Below.refl _ _ | assumption | refine st_drew ?_ | refine st_drewN ?_ _ | refine Below.setCell ?_ (by first | omega | (simp; done) | (simp; omega)) _ | refine Below.alloc ?_ (by first | omega | (simp; done) | (simp; omega)) _)))).mono ?_; rintro e w1 ⟨rfl, hb1⟩; obtain ⟨d0, d1, d2, d3, e0, e1, e2, e3, hz1⟩ := two_box hb1; have bB := onto (show Below w.heap.size w _ from by repeat (first | exact Below.refl _ _ | assumption | refine st_drew ?_ | refine st_drewN ?_ _ | refine Below.setCell ?_ (by first | omega | (simp; done) | (simp; omega)) _ | refine Below.alloc ?_ (by first | omega | (simp; done) | (simp; omega)) _)) hb1; clear hb1)
          go_ret
          exact ⟨by rw [HV.out]; rfl, by repeat (first | exact Below.refl _ _ | assumption | refine st_drew ?_ | refine st_drewN ?_ _ | refine Below.setCell ?_ (by first | omega | (simp; done) | (simp; omega)) _ | refine Below.alloc ?_ (by first | omega | (simp; done) | (simp; omega)) _)⟩
      ·
        have HV : Hid (why ⟨ra, fa, ea, ma⟩ ⟨ra, fb, eb, mb⟩ r = 0) := by rw [Hid, HZ.out, if_neg (fun h => p1 h.2.1)]
        go_enter Try.func40, Try.ntmps40
        go_wp2_with (go_at_call 66; refine (k2 _ (HA.out _ (by repeat (first | exact Below.refl _ _ | assumption | refine st_drew ?_ | refine st_drewN ?_ _ | refine Below.setCell ?_ (by first | omega | (simp; done) | (simp; omega)) _ | refine Below.alloc ?_ (by first | omega | (simp; done) | (simp; omega)) _))) (HB.out _ (by repeat (first | exact Below.refl _ _ | assumption | refine st_drew ?_ | refine st_drewN ?_ _ | refine Below.setCell ?_ (by first | omega | (simp; done) | (simp; omega)) _ | refine Below.alloc ?_ (by first | omega | (simp; done) | (simp; omega)) _)))).mono ?_; rintro e w1 ⟨rfl, hb1⟩; obtain ⟨d0, d1, d2, d3, e0, e1, e2, e3, hz1⟩ := two_box hb1; have bB := onto (show Below w.heap.size w _ from by repeat (first | exact Below.refl _ _ | assumption | refine st_drew ?_ | refine st_drewN ?_ _ | refine Below.setCell ?_ (by first | omega | (simp; done) | (simp; omega)) _ | refine Below.alloc ?_ (by first | omega | (simp; done) | (simp; omega)) _)) hb1; clear hb1)
        go_ret
        exact ⟨by rw [HV.out]; rfl, by repeat (first | exact Below.refl _ _ | assumption | refine st_drew ?_ | refine st_drewN ?_ _ | refine Below.setCell ?_ (by first | omega | (simp; done) | (simp; omega)) _ | refine Below.alloc ?_ (by first | omega | (simp; done) | (simp; omega)) _)⟩
  ·
    cases b2 with
    | false =>
      have HV : Hid (why ⟨ra, fa, ea, ma⟩ ⟨ra, fb, eb, mb⟩ r = 0) := by rw [Hid, HZ.out, if_neg (fun h => by cases h.1)]
      go_enter Try.func40, Try.ntmps40
      go_wp2_with (go_at_call 66; refine (k2 _ (HA.out _ (by repeat (first | exact Below.refl _ _ | assumption | refine st_drew ?_ | refine st_drewN ?_ _ | refine Below.setCell ?_ (by first | omega | (simp; done) | (simp; omega)) _ | refine Below.alloc ?_ (by first | omega | (simp; done) | (simp; omega)) _))) (HB.out _ (by repeat (first | exact Below.refl _ _ | assumption | refine st_drew ?_ | refine st_drewN ?_ _ | refine Below.setCell ?_ (by first | omega | (simp; done) | (simp; omega)) _ | refine Below.alloc ?_ (by first | omega | (simp; done) | (simp; omega)) _)))).mono ?_; rintro e w1 ⟨rfl, hb1⟩; obtain ⟨d0, d1, d2, d3, e0, e1, e2, e3, hz1⟩ := two_box hb1; have bB := onto (show Below w.heap.size w _ from by repeat (first | exact Below.refl _ _ | assumption | refine st_drew ?_ | refine st_drewN ?_ _ | refine Below.setCell ?_ (by first | omega | (simp; done) | (simp; omega)) _ | refine Below.alloc ?_ (by first | omega | (simp; done) | (simp; omega)) _)) hb1; clear hb1)
      go_ret
      exact ⟨by rw [HV.out]; rfl, by repeat (first | exact Below.refl _ _ | assumption | refine st_drew ?_ | refine st_drewN ?_ _ | refine Below.setCell ?_ (by first | omega | (simp; done) | (simp; omega)) _ | refine Below.alloc ?_ (by first | omega | (simp; done) | (simp; omega)) _)⟩
    | true =>
      by_cases p1 : fa < eb + r
      · by_cases p2 : fb < ea + r
        ·
          have HV : Hid (why ⟨ra, fa, ea, ma⟩ ⟨ra, fb, eb, mb⟩ r = 2) := by rw [Hid, HZ.out, if_pos ⟨rfl, p1, p2⟩]
          go_enter Try.func40, Try.ntmps40
          go_wp2_with (go_at_call 66; refine (k2 _ (HA.out _ (by repeat (first | exact Below.refl _ _ | assumption | refine st_drew ?_ | refine st_drewN ?_ _ | refine Below.setCell ?_ (by first | omega | (simp; done) | (simp; omega)) _ | refine Below.alloc ?_ (by first | omega | (simp; done) | (simp; omega)) _))) (HB.out _ (by repeat (first | exact Below.refl _ _ | assumption | refine st_drew ?_ | refine st_drewN ?_ _ | refine Below.setCell ?_ (by first | omega | (simp; done) | (simp; omega)) _ | refine Below.alloc ?_ (by first | omega | (simp; done) | (simp; omega)) _)))).mono ?_; rintro e w1 ⟨rfl, hb1⟩; obtain ⟨d0, d1, d2, d3, e0, e1, e2, e3, hz1⟩ := two_box hb1; have bB := onto (show Below w.heap.size w _ from by repeat (first | exact Below.refl _ _ | assumption | refine st_drew ?_ | refine st_drewN ?_ _ | refine Below.setCell ?_ (by first | omega | (simp; done) | (simp; omega)) _ | refine Below.alloc ?_ (by first | omega | (simp; done) | (simp; omega)) _)) hb1; clear hb1)
          go_ret
          exact ⟨by rw [HV.out]; rfl, by repeat (first | exact Below.refl _ _ | assumption | refine st_drew ?_ | refine st_drewN ?_ _ | refine Below.setCell ?_ (by first | omega | (simp; done) | (simp; omega)) _ | refine Below.alloc ?_ (by first | omega | (simp; done) | (simp; omega)) _)⟩
        ·
          have HV : Hid (why ⟨ra, fa, ea, ma⟩ ⟨ra, fb, eb, mb⟩ r = 0) := by rw [Hid, HZ.out, if_neg (fun h => p2 h.2.2)]
          go_enter Try.func40, Try.ntmps40
          go_wp2_with (go_at_call 66; refine (k2 _ (HA.out _ (by repeat (first | exact Below.refl _ _ | assumption | refine st_drew ?_ | refine st_drewN ?_ _ | refine Below.setCell ?_ (by first | omega | (simp; done) | (simp; omega)) _ | refine Below.alloc ?_ (by first | omega | (simp; done) | (simp; omega)) _))) (HB.out _ (by repeat (first | exact Below.refl _ _ | assumption | refine st_drew ?_ | refine st_drewN ?_ _ | refine Below.setCell ?_ (by first | omega | (simp; done) | (simp; omega)) _ | refine Below.alloc ?_ (by first | omega | (simp; done) | (simp; omega)) _)))).mono ?_; rintro e w1 ⟨rfl, hb1⟩; obtain ⟨d0, d1, d2, d3, e0, e1, e2, e3, hz1⟩ := two_box hb1; have bB := onto (show Below w.heap.size w _ from by repeat (first | exact Below.refl _ _ | assumption | refine st_drew ?_ | refine st_drewN ?_ _ | refine Below.setCell ?_ (by first | omega | (simp; done) | (simp; omega)) _ | refine Below.alloc ?_ (by first | omega | (simp; done) | (simp; omega)) _)) hb1; clear hb1)
          go_ret
          exact ⟨by rw [HV.out]; rfl, by repeat (first | exact Below.refl _ _ | assumption | refine st_drew ?_ | refine st_drewN ?_ _ | refine Below.setCell ?_ (by first | omega | (simp; done) | (simp; omega)) _ | refine Below.alloc ?_ (by first | omega | (simp; done) | (simp; omega)) _)⟩
      ·
        exact absurd z (by omega)

set_option maxRecDepth 20000 in
set_option maxHeartbeats 2000000 in
theorem sfitsW_any (x : Opn) (ta : Option Addr) (tn tc : Nat) (ao : Option Addr) (n cap : Nat) (l : List Opn) (r : Int) (w : World) (h : ORw w (.slice ao n cap) l) (hn : l.length ≤ 1048576)
    (hR : IRw w (.slice ta tn tc) x.team) (hx : Tms x) (hxt : x.team.length ≤ 1048576) (hl : ∀ y ∈ l, Tms y ∧ y.team.length ≤ 1048576) (hr : 0 ≤ r ∧ r ≤ 100000) :
    Calls Try.prog 72 #[.slice ao n cap, aO x (.slice ta tn tc), .int .i64 r] w fun e w' => e = .returned (.bool (fitB l x r)) ∧ Below w.heap.size w w' := by
  obtain rfl := h.len
  have HH := hidden h
  have HT := hidden hR
  have HL := hidden hl
  have HX := hidden hx
  clear h hR hl hx
  unfold aO
  go_enter Try.func72, Try.ntmps72
  go_wp2_with fail
  go_loopw [7] (fun iv wr => ∃ i : Nat, i ≤ l.length ∧ iv = .int .i64 i ∧ OBox wr w.heap.size x (.slice ta tn tc) ∧ Below w.heap.size w wr ∧ w.heap.size < wr.heap.size ∧ Hid (freeTo l x r i)) (fun iv _ => l.length - (intOf iv).toNat)
  case atStart => exact ⟨0, Nat.zero_le _, rfl, ⟨by simp, by simp, by simp, by simp, fun j => by simp⟩, by repeat (first | exact Below.refl _ _ | assumption | refine st_drew ?_ | refine st_drewN ?_ _ | refine Below.setCell ?_ (by first | omega | (simp; done) | (simp; omega)) _ | refine Below.alloc ?_ (by first | omega | (simp; done) | (simp; omega)) _), by simp, fun j y hj => absurd hj (by omega)⟩
  case round =>
    obtain ⟨i, hi, rfl, hO, hbx, hzx, hno⟩ := hrel
    have hsz := hbx.size
    by_cases hlt : i < l.length
    · have hlti : (i : Int) < (l.length : Int) := by omega
      obtain ⟨y, hy⟩ := some_of l i hlt
      obtain ⟨g, off, tb, td, rfl, hgl, hrow, c0, c1, c2, c3⟩ := (HH.out.below hbx).at hy
      have hyo := HL.out y (List.mem_of_getElem? hy)
      have hK := fun W hW1 hW2 => swhyW_any y x tb y.team.length td ta tn tc r W hyo.1 HX.out hr hW1 hW2 hyo.2 hxt
      have HR1 := hidden (fun W (hW : Below wr.heap.size wr W) => hrow.below hW)
      have HR2 := hidden (fun W (hW : Below w.heap.size w W) => HT.out.below hW)
      have HO := hidden hO
      obtain ⟨b0, b1, b2, b3, bf⟩ := hO
      unfold aO at hK
      have HY := hidden hy
      clear hy hrow
      by_cases q : why y x r = 0
      · have hno2 : Hid (freeTo l x r (i + 1)) := fun j z hj hz => by
          rcases Nat.lt_succ_iff_lt_or_eq.1 hj with k | rfl
          · exact hno.out j z k hz
          · have := HY.out; rw [this] at hz; cases hz; exact q
        rw [q] at hK
        clear hno q
        go_wp2_with fail
        first | go_region_with (go_at_call 40; refine (hK _ (HR1.out _ (by repeat (first | exact Below.refl _ _ | assumption | refine st_drew ?_ | refine st_drewN ?_ _ | refine Below.setCell ?_ (by first | omega | (simp; done) | (simp; omega)) _ | refine Below.alloc ?_ (by first | omega | (simp; done) | (simp; omega)) _))) (HR2.out _ (by repeat (first | exact Below.refl _ _ | assumption | refine st_drew ?_ | refine st_drewN ?_ _ | refine Below.setCell ?_ (by first | omega | (simp; done) | (simp; omega)) _ | refine Below.alloc ?_ (by first | omega | (simp; done) | (simp; omega)) _)))).mono ?_; rintro e w1 ⟨rfl, hb1⟩; have bA := onto (show Below w.heap.size w _ from by repeat (first | exact Below.refl _ _ | assumption | refine st_drew ?_ | refine st_drewN ?_ _ | refine Below.setCell ?_ (by first | omega | (simp; done) | (simp; omega)) _ | refine Below.alloc ?_ (by first | omega | (simp; done) | (simp; omega)) _)) hb1; have bD := onto (show Below wr.heap.size wr _ from by repeat (first | exact Below.refl _ _ | assumption | refine st_drew ?_ | refine st_drewN ?_ _ | refine Below.setCell ?_ (by first | omega | (simp; done) | (simp; omega)) _ | refine Below.alloc ?_ (by first | omega | (simp; done) | (simp; omega)) _)) hb1; clear hb1) | fail
        all_goals go_wp2_with fail
        all_goals go_roundw
        all_goals first
          | exact ⟨i + 1, by omega, rfl, HO.out.below (by repeat (first | exact Below.refl _ _ | assumption | refine st_drew ?_ | refine st_drewN ?_ _ | refine Below.setCell ?_ (by first | omega | (simp; done) | (simp; omega)) _ | refine Below.alloc ?_ (by first | omega | (simp; done) | (simp; omega)) _)) hzx, by repeat (first | exact Below.refl _ _ | assumption | refine st_drew ?_ | refine st_drewN ?_ _ | refine Below.setCell ?_ (by first | omega | (simp; done) | (simp; omega)) _ | refine Below.alloc ?_ (by first | omega | (simp; done) | (simp; omega)) _), by have := bD.size; (try simp only [World.size_alloc]); omega, hno2⟩
          | (simp [intOf]; omega)
      · have hF : Hid (fitB l x r = false) := fitB_false fun z => q (z i y hlt HY.out)
        have hpos : 0 < why y x r := by have := why_bd y x r; omega
        generalize why y x r = wy at *
        clear hno q
        go_wp2_with fail
        first | go_region_with (go_at_call 40; refine (hK _ (HR1.out _ (by repeat (first | exact Below.refl _ _ | assumption | refine st_drew ?_ | refine st_drewN ?_ _ | refine Below.setCell ?_ (by first | omega | (simp; done) | (simp; omega)) _ | refine Below.alloc ?_ (by first | omega | (simp; done) | (simp; omega)) _))) (HR2.out _ (by repeat (first | exact Below.refl _ _ | assumption | refine st_drew ?_ | refine st_drewN ?_ _ | refine Below.setCell ?_ (by first | omega | (simp; done) | (simp; omega)) _ | refine Below.alloc ?_ (by first | omega | (simp; done) | (simp; omega)) _)))).mono ?_; rintro e w1 ⟨rfl, hb1⟩; have bA := onto (show Below w.heap.size w _ from by repeat (first | exact Below.refl _ _ | assumption | refine st_drew ?_ | refine st_drewN ?_ _ | refine Below.setCell ?_ (by first | omega | (simp; done) | (simp; omega)) _ | refine Below.alloc ?_ (by first | omega | (simp; done) | (simp; omega)) _)) hb1; clear hb1) | fail
        all_goals go_wp2_with fail
        all_goals go_ret
        all_goals exact ⟨by rw [hF.out]; rfl, by repeat (first | exact Below.refl _ _ | assumption | refine st_drew ?_ | refine st_drewN ?_ _ | refine Below.setCell ?_ (by first | omega | (simp; done) | (simp; omega)) _ | refine Below.alloc ?_ (by first | omega | (simp; done) | (simp; omega)) _)⟩
    · have hlti : ¬ (i : Int) < (l.length : Int) := by omega
      have hil : i = l.length := by omega
      subst hil
      have hyes : Hid (fitB l x r = true) := fitB_true hno.out
      go_wp2_with fail
      go_ret
      exact ⟨by rw [hyes.out]; rfl, hbx⟩

set_option maxRecDepth 20000 in
set_option maxHeartbeats 8000000 in
theorem searlW_any (x : Opn) (ta : Option Addr) (tn tc : Nat) (ao : Option Addr) (n cap : Nat) (l : List Opn) (r : Int) (w : World) (h : ORw w (.slice ao n cap) l) (hn : l.length ≤ 1048576)
    (hR : IRw w (.slice ta tn tc) x.team) (hx : opB x = true) (hl : ∀ y ∈ l, Tms y ∧ y.team.length ≤ 1048576) (hr : 0 ≤ r ∧ r ≤ 100000) :
    Calls Try.prog 45 #[.slice ao n cap, aO x (.slice ta tn tc), .int .i64 r] w fun e w' => ∃ t : Int, e = .returned (.int .i64 t) ∧ (t = -1 ∨ (x.fr ≤ t ∧ t + (x.to - x.fr) ≤ 10000000)) ∧ Below w.heap.size w w' := by
  obtain rfl := h.len
  have HH := hidden h
  have HT := hidden hR
  have HL := hidden hl
  have HX := hidden hx
  clear h hR hl hx
  obtain ⟨hx1, hx2, hx3, hx4, hx5⟩ := of_opB HX.out
  have hx6 : x.team.length ≤ 1048576 := by have := hx5.2.1; omega
  unfold aO
  go_enter Try.func45, Try.ntmps45
  go_wp2_with fail
  go_loopw [7, 9] (fun bv iv wr => ∃ (m : Nat) (b : Int), iv = .int .i64 ((m : Int) - 1) ∧ bv = .int .i64 b ∧ m ≤ l.length + 1 ∧ Hid (b = -1 ∨ (x.fr ≤ b ∧ b + (x.to - x.fr) ≤ 10000000)) ∧ OBox wr w.heap.size x (.slice ta tn tc) ∧ Below w.heap.size w wr ∧ w.heap.size < wr.heap.size) (fun _ iv _ => ((l.length : Int) - intOf iv).toNat)
  case atStart => exact ⟨0, -1, rfl, rfl, by omega, Or.inl rfl, ⟨by simp, by simp, by simp, by simp, fun j => by simp⟩, by repeat (first | exact Below.refl _ _ | assumption | refine st_drew ?_ | refine st_drewN ?_ _ | refine Below.setCell ?_ (by first | omega | (simp; done) | (simp; omega)) _ | refine Below.alloc ?_ (by first | omega | (simp; done) | (simp; omega)) _), by simp⟩
  case round =>
    obtain ⟨m, b, rfl, rfl, hm, hB, hO, hb, hz⟩ := hrel
    have hsz := hb.size
    by_cases hml : m = l.length + 1
    · have hend : ¬ (m : Int) - 1 < (l.length : Int) := by omega
      obtain ⟨b0, b1, b2, b3, bf⟩ := hO
      clear hml
      go_wp2_with fail
      go_ret
      exact ⟨b, rfl, hB.out, hb⟩
    have hlt : (m : Int) - 1 < (l.length : Int) := by omega
    rcases Nat.eq_zero_or_pos m with hm0 | hm0
    · subst hm0
      have e0 : (((0 : Nat) : Int) - 1) = -1 := by omega
      rw [e0]
      have hlt1 : (-1 : Int) < (l.length : Int) := by omega
      go_wp2_with fail
      go_loopw [7, 10, 11] (fun bv kv _ wx => ∃ b : Int, bv = .int .i64 b ∧ Hid (b = -1 ∨ (x.fr ≤ b ∧ b + (x.to - x.fr) ≤ 10000000)) ∧ OBox wx w.heap.size x (.slice ta tn tc) ∧ Below w.heap.size w wx ∧ w.heap.size < wx.heap.size ∧ Hid (kv = .int .i64 0 ∨ kv = .int .i64 1 ∨ kv = .int .i64 2)) (fun _ kv _ _ => 2 - (intOf kv).toNat)
      case atStart => exact ⟨b, rfl, hB, hO, hb, hz, Or.inl rfl⟩
      case round =>
        clear hO hb hz hB hsz
        obtain ⟨b, rfl, hB, hO, hb, hz, hk⟩ := hrel
        have hbb : -1 ≤ b ∧ b ≤ 10000000 := by have := hB.out; omega
        have hsz := hb.size
        have HO := hidden hO
        obtain ⟨b0, b1, b2, b3, bf⟩ := hO
        rcases hk.out with rfl | rfl | rfl
        · clear hk
          have hcb : -100000000 ≤ x.fr ∧ x.fr ≤ 100100000 := by omega
          by_cases sb : 0 ≤ b ∧ b ≤ x.fr
          · obtain ⟨sb1, sb2⟩ := sb
            go_wp2_with fail
            go_roundw
            case rel => exact ⟨b, rfl, hB, HO.out, hb, hz, Or.inr (Or.inl rfl)⟩
            case measure => simp [intOf]
          have h10 : ¬ 10000000 < x.to := by omega
          have h11 : ¬ 10000000 < x.fr + (x.to - x.fr) := by omega
          have hK := fun W hW1 hW2 => sfitsW_any (mv x (x.fr)) ta tn tc ao l.length cap l r W hW1 hn hW2 (tms_mv HX.out (by omega) (by omega)) hx6 HL.out hr
          have HRo := hidden (fun W (hW : Below w.heap.size w W) => HH.out.below hW)
          have HRt := hidden (fun W (hW : Below w.heap.size w W) => HT.out.below hW)
          have HN : Hid (x.fr = -1 ∨ (x.fr ≤ x.fr ∧ x.fr + (x.to - x.fr) ≤ 10000000)) := Or.inr ⟨by omega, by omega⟩
          unfold aO at hK
          generalize fitB l (mv x (x.fr)) r = fb at *
          simp only [mv] at hK
          cases fb with
          | false =>
            by_cases sb1 : 0 ≤ b
            · have sb2 : ¬ b ≤ x.fr := fun z => sb ⟨sb1, z⟩
              go_wp2_with (go_at_call 72; with_reducible refine (hK _ (HRo.out _ (by repeat (first | exact Below.refl _ _ | assumption | refine st_drew ?_ | refine st_drewN ?_ _ | refine Below.setCell ?_ (by first | omega | (simp; done) | (simp; omega)) _ | refine Below.alloc ?_ (by first | omega | (simp; done) | (simp; omega)) _))) (HRt.out _ (by repeat (first | exact Below.refl _ _ | assumption | refine st_drew ?_ | refine st_drewN ?_ _ | refine Below.setCell ?_ (by first | omega | (simp; done) | (simp; omega)) _ | refine Below.alloc ?_ (by first | omega | (simp; done) | (simp; omega)) _)))).mono ?_; rintro e w1 ⟨rfl, hq1⟩)
              go_roundw
              case rel => exact ⟨b, rfl, hB, HO.out.below hq1 hz, onto hb hq1, Nat.lt_of_lt_of_le hz hq1.size, Or.inr (Or.inl rfl)⟩
              case measure => simp [intOf]
            · go_wp2_with (go_at_call 72; with_reducible refine (hK _ (HRo.out _ (by repeat (first | exact Below.refl _ _ | assumption | refine st_drew ?_ | refine st_drewN ?_ _ | refine Below.setCell ?_ (by first | omega | (simp; done) | (simp; omega)) _ | refine Below.alloc ?_ (by first | omega | (simp; done) | (simp; omega)) _))) (HRt.out _ (by repeat (first | exact Below.refl _ _ | assumption | refine st_drew ?_ | refine st_drewN ?_ _ | refine Below.setCell ?_ (by first | omega | (simp; done) | (simp; omega)) _ | refine Below.alloc ?_ (by first | omega | (simp; done) | (simp; omega)) _)))).mono ?_; rintro e w1 ⟨rfl, hq1⟩)
              go_roundw
              case rel => exact ⟨b, rfl, hB, HO.out.below hq1 hz, onto hb hq1, Nat.lt_of_lt_of_le hz hq1.size, Or.inr (Or.inl rfl)⟩
              case measure => simp [intOf]
          | true =>
            by_cases sb1 : 0 ≤ b
            · have sb2 : ¬ b ≤ x.fr := fun z => sb ⟨sb1, z⟩
              go_wp2_with (go_at_call 72; with_reducible refine (hK _ (HRo.out _ (by repeat (first | exact Below.refl _ _ | assumption | refine st_drew ?_ | refine st_drewN ?_ _ | refine Below.setCell ?_ (by first | omega | (simp; done) | (simp; omega)) _ | refine Below.alloc ?_ (by first | omega | (simp; done) | (simp; omega)) _))) (HRt.out _ (by repeat (first | exact Below.refl _ _ | assumption | refine st_drew ?_ | refine st_drewN ?_ _ | refine Below.setCell ?_ (by first | omega | (simp; done) | (simp; omega)) _ | refine Below.alloc ?_ (by first | omega | (simp; done) | (simp; omega)) _)))).mono ?_; rintro e w1 ⟨rfl, hq1⟩)
              go_roundw
              case rel => exact ⟨x.fr, rfl, HN, HO.out.below hq1 hz, onto hb hq1, Nat.lt_of_lt_of_le hz hq1.size, Or.inr (Or.inl rfl)⟩
              case measure => simp [intOf]
            · go_wp2_with (go_at_call 72; with_reducible refine (hK _ (HRo.out _ (by repeat (first | exact Below.refl _ _ | assumption | refine st_drew ?_ | refine st_drewN ?_ _ | refine Below.setCell ?_ (by first | omega | (simp; done) | (simp; omega)) _ | refine Below.alloc ?_ (by first | omega | (simp; done) | (simp; omega)) _))) (HRt.out _ (by repeat (first | exact Below.refl _ _ | assumption | refine st_drew ?_ | refine st_drewN ?_ _ | refine Below.setCell ?_ (by first | omega | (simp; done) | (simp; omega)) _ | refine Below.alloc ?_ (by first | omega | (simp; done) | (simp; omega)) _)))).mono ?_; rintro e w1 ⟨rfl, hq1⟩)
              go_roundw
              case rel => exact ⟨x.fr, rfl, HN, HO.out.below hq1 hz, onto hb hq1, Nat.lt_of_lt_of_le hz hq1.size, Or.inr (Or.inl rfl)⟩
              case measure => simp [intOf]
        · clear hk
          have hcb : -100000000 ≤ x.fr ∧ x.fr ≤ 100100000 := by omega
          by_cases sb : 0 ≤ b ∧ b ≤ x.fr
          · obtain ⟨sb1, sb2⟩ := sb
            go_wp2_with fail
            go_roundw
            case rel => exact ⟨b, rfl, hB, HO.out, hb, hz, Or.inr (Or.inr rfl)⟩
            case measure => simp [intOf]
          have h10 : ¬ 10000000 < x.to := by omega
          have h11 : ¬ 10000000 < x.fr + (x.to - x.fr) := by omega
          have hK := fun W hW1 hW2 => sfitsW_any (mv x (x.fr)) ta tn tc ao l.length cap l r W hW1 hn hW2 (tms_mv HX.out (by omega) (by omega)) hx6 HL.out hr
          have HRo := hidden (fun W (hW : Below w.heap.size w W) => HH.out.below hW)
          have HRt := hidden (fun W (hW : Below w.heap.size w W) => HT.out.below hW)
          have HN : Hid (x.fr = -1 ∨ (x.fr ≤ x.fr ∧ x.fr + (x.to - x.fr) ≤ 10000000)) := Or.inr ⟨by omega, by omega⟩
          unfold aO at hK
          generalize fitB l (mv x (x.fr)) r = fb at *
          simp only [mv] at hK
          cases fb with
          | false =>
            by_cases sb1 : 0 ≤ b
            · have sb2 : ¬ b ≤ x.fr := fun z => sb ⟨sb1, z⟩
              go_wp2_with (go_at_call 72; with_reducible refine (hK _ (HRo.out _ (by repeat (first | exact Below.refl _ _ | assumption | refine st_drew ?_ | refine st_drewN ?_ _ | refine Below.setCell ?_ (by first | omega | (simp; done) | (simp; omega)) _ | refine Below.alloc ?_ (by first | omega | (simp; done) | (simp; omega)) _))) (HRt.out _ (by repeat (first | exact Below.refl _ _ | assumption | refine st_drew ?_ | refine st_drewN ?_ _ | refine Below.setCell ?_ (by first | omega | (simp; done) | (simp; omega)) _ | refine Below.alloc ?_ (by first | omega | (simp; done) | (simp; omega)) _)))).mono ?_; rintro e w1 ⟨rfl, hq1⟩)
              go_roundw
              case rel => exact ⟨b, rfl, hB, HO.out.below hq1 hz, onto hb hq1, Nat.lt_of_lt_of_le hz hq1.size, Or.inr (Or.inr rfl)⟩
              case measure => simp [intOf]
            · go_wp2_with (go_at_call 72; with_reducible refine (hK _ (HRo.out _ (by repeat (first | exact Below.refl _ _ | assumption | refine st_drew ?_ | refine st_drewN ?_ _ | refine Below.setCell ?_ (by first | omega | (simp; done) | (simp; omega)) _ | refine Below.alloc ?_ (by first | omega | (simp; done) | (simp; omega)) _))) (HRt.out _ (by repeat (first | exact Below.refl _ _ | assumption | refine st_drew ?_ | refine st_drewN ?_ _ | refine Below.setCell ?_ (by first | omega | (simp; done) | (simp; omega)) _ | refine Below.alloc ?_ (by first | omega | (simp; done) | (simp; omega)) _)))).mono ?_; rintro e w1 ⟨rfl, hq1⟩)
              go_roundw
              case rel => exact ⟨b, rfl, hB, HO.out.below hq1 hz, onto hb hq1, Nat.lt_of_lt_of_le hz hq1.size, Or.inr (Or.inr rfl)⟩
              case measure => simp [intOf]
          | true =>
            by_cases sb1 : 0 ≤ b
            · have sb2 : ¬ b ≤ x.fr := fun z => sb ⟨sb1, z⟩
              go_wp2_with (go_at_call 72; with_reducible refine (hK _ (HRo.out _ (by repeat (first | exact Below.refl _ _ | assumption | refine st_drew ?_ | refine st_drewN ?_ _ | refine Below.setCell ?_ (by first | omega | (simp; done) | (simp; omega)) _ | refine Below.alloc ?_ (by first | omega | (simp; done) | (simp; omega)) _))) (HRt.out _ (by repeat (first | exact Below.refl _ _ | assumption | refine st_drew ?_ | refine st_drewN ?_ _ | refine Below.setCell ?_ (by first | omega | (simp; done) | (simp; omega)) _ | refine Below.alloc ?_ (by first | omega | (simp; done) | (simp; omega)) _)))).mono ?_; rintro e w1 ⟨rfl, hq1⟩)
              go_roundw
              case rel => exact ⟨x.fr, rfl, HN, HO.out.below hq1 hz, onto hb hq1, Nat.lt_of_lt_of_le hz hq1.size, Or.inr (Or.inr rfl)⟩
              case measure => simp [intOf]
            · go_wp2_with (go_at_call 72; with_reducible refine (hK _ (HRo.out _ (by repeat (first | exact Below.refl _ _ | assumption | refine st_drew ?_ | refine st_drewN ?_ _ | refine Below.setCell ?_ (by first | omega | (simp; done) | (simp; omega)) _ | refine Below.alloc ?_ (by first | omega | (simp; done) | (simp; omega)) _))) (HRt.out _ (by repeat (first | exact Below.refl _ _ | assumption | refine st_drew ?_ | refine st_drewN ?_ _ | refine Below.setCell ?_ (by first | omega | (simp; done) | (simp; omega)) _ | refine Below.alloc ?_ (by first | omega | (simp; done) | (simp; omega)) _)))).mono ?_; rintro e w1 ⟨rfl, hq1⟩)
              go_roundw
              case rel => exact ⟨x.fr, rfl, HN, HO.out.below hq1 hz, onto hb hq1, Nat.lt_of_lt_of_le hz hq1.size, Or.inr (Or.inr rfl)⟩
              case measure => simp [intOf]
        · clear hk
          go_wp2_with fail
          go_roundw
          case rel => exact ⟨0 + 1, b, by first | rfl | (congr 1; omega), rfl, by omega, hB, HO.out, hb, hz⟩
          case measure => first | (simp [intOf]; done) | (simp [intOf]; omega)
    · obtain ⟨j, rfl⟩ : ∃ j, m = j + 1 := ⟨m - 1, by omega⟩
      have e0 : (((j + 1 : Nat) : Int) - 1) = (j : Int) := by omega
      rw [e0] at *
      obtain ⟨y, hy⟩ := some_of l j (by omega)
      have HY := hidden hy
      obtain ⟨⟨⟨hy1, hy2⟩, hy3, hy4⟩, -⟩ := HL.out y (List.mem_of_getElem? hy)
      have hjn : ¬ (j : Int) < 0 := by omega
      clear hy
      go_wp2_with fail
      go_loopw [7, 10, 11] (fun bv kv _ wx => ∃ b : Int, bv = .int .i64 b ∧ Hid (b = -1 ∨ (x.fr ≤ b ∧ b + (x.to - x.fr) ≤ 10000000)) ∧ OBox wx w.heap.size x (.slice ta tn tc) ∧ Below w.heap.size w wx ∧ w.heap.size < wx.heap.size ∧ Hid (kv = .int .i64 0 ∨ kv = .int .i64 1 ∨ kv = .int .i64 2)) (fun _ kv _ _ => 2 - (intOf kv).toNat)
      case atStart => exact ⟨b, rfl, hB, hO, hb, hz, Or.inl rfl⟩
      case round =>
        clear hO hb hz hB hsz
        obtain ⟨b, rfl, hB, hO, hb, hz, hk⟩ := hrel
        have hbb : -1 ≤ b ∧ b ≤ 10000000 := by have := hB.out; omega
        have hsz := hb.size
        have HO := hidden hO
        obtain ⟨b0, b1, b2, b3, bf⟩ := hO
        obtain ⟨g, off, tb, td, rfl, hgl, hrow, c0, c1, c2, c3⟩ := (HH.out.below hb).at HY.out
        rcases hk.out with rfl | rfl | rfl
        · clear hk
          have hcb : -100000000 ≤ y.to ∧ y.to ≤ 100100000 := by omega
          by_cases s1 : y.to < x.fr
          ·
            go_wp2_with fail
            go_roundw
            case rel => exact ⟨b, rfl, hB, HO.out, hb, hz, Or.inr (Or.inl rfl)⟩
            case measure => simp [intOf]
          by_cases sb : 0 ≤ b ∧ b ≤ y.to
          · obtain ⟨sb1, sb2⟩ := sb
            go_wp2_with fail
            go_roundw
            case rel => exact ⟨b, rfl, hB, HO.out, hb, hz, Or.inr (Or.inl rfl)⟩
            case measure => simp [intOf]
          by_cases s3 : 10000000 < y.to + (x.to - x.fr)
          · by_cases sb1 : 0 ≤ b
            · have sb2 : ¬ b ≤ y.to := fun z => sb ⟨sb1, z⟩
              go_wp2_with fail
              go_roundw
              case rel => exact ⟨b, rfl, hB, HO.out, hb, hz, Or.inr (Or.inl rfl)⟩
              case measure => simp [intOf]
            ·
              go_wp2_with fail
              go_roundw
              case rel => exact ⟨b, rfl, hB, HO.out, hb, hz, Or.inr (Or.inl rfl)⟩
              case measure => simp [intOf]
          have hK := fun W hW1 hW2 => sfitsW_any (mv x (y.to)) ta tn tc (some ⟨g, off, none⟩) l.length cap l r W hW1 hn hW2 (tms_mv HX.out (by omega) (by omega)) hx6 HL.out hr
          have HRo := hidden (fun W (hW : Below w.heap.size w W) => HH.out.below hW)
          have HRt := hidden (fun W (hW : Below w.heap.size w W) => HT.out.below hW)
          have HN : Hid (y.to = -1 ∨ (x.fr ≤ y.to ∧ y.to + (x.to - x.fr) ≤ 10000000)) := Or.inr ⟨by omega, by omega⟩
          unfold aO at hK
          generalize fitB l (mv x (y.to)) r = fb at *
          simp only [mv] at hK
          cases fb with
          | false =>
            by_cases sb1 : 0 ≤ b
            · have sb2 : ¬ b ≤ y.to := fun z => sb ⟨sb1, z⟩
              go_wp2_with (go_at_call 72; with_reducible refine (hK _ (HRo.out _ (by repeat (first | exact Below.refl _ _ | assumption | refine st_drew ?_ | refine st_drewN ?_ _ | refine Below.setCell ?_ (by first | omega | (simp; done) | (simp; omega)) _ | refine Below.alloc ?_ (by first | omega | (simp; done) | (simp; omega)) _))) (HRt.out _ (by repeat (first | exact Below.refl _ _ | assumption | refine st_drew ?_ | refine st_drewN ?_ _ | refine Below.setCell ?_ (by first | omega | (simp; done) | (simp; omega)) _ | refine Below.alloc ?_ (by first | omega | (simp; done) | (simp; omega)) _)))).mono ?_; rintro e w1 ⟨rfl, hq1⟩)
              go_roundw
              case rel => exact ⟨b, rfl, hB, HO.out.below hq1 hz, onto hb hq1, Nat.lt_of_lt_of_le hz hq1.size, Or.inr (Or.inl rfl)⟩
              case measure => simp [intOf]
            · go_wp2_with (go_at_call 72; with_reducible refine (hK _ (HRo.out _ (by repeat (first | exact Below.refl _ _ | assumption | refine st_drew ?_ | refine st_drewN ?_ _ | refine Below.setCell ?_ (by first | omega | (simp; done) | (simp; omega)) _ | refine Below.alloc ?_ (by first | omega | (simp; done) | (simp; omega)) _))) (HRt.out _ (by repeat (first | exact Below.refl _ _ | assumption | refine st_drew ?_ | refine st_drewN ?_ _ | refine Below.setCell ?_ (by first | omega | (simp; done) | (simp; omega)) _ | refine Below.alloc ?_ (by first | omega | (simp; done) | (simp; omega)) _)))).mono ?_; rintro e w1 ⟨rfl, hq1⟩)
              go_roundw
              case rel => exact ⟨b, rfl, hB, HO.out.below hq1 hz, onto hb hq1, Nat.lt_of_lt_of_le hz hq1.size, Or.inr (Or.inl rfl)⟩
              case measure => simp [intOf]
          | true =>
            by_cases sb1 : 0 ≤ b
            · have sb2 : ¬ b ≤ y.to := fun z => sb ⟨sb1, z⟩
              go_wp2_with (go_at_call 72; with_reducible refine (hK _ (HRo.out _ (by repeat (first | exact Below.refl _ _ | assumption | refine st_drew ?_ | refine st_drewN ?_ _ | refine Below.setCell ?_ (by first | omega | (simp; done) | (simp; omega)) _ | refine Below.alloc ?_ (by first | omega | (simp; done) | (simp; omega)) _))) (HRt.out _ (by repeat (first | exact Below.refl _ _ | assumption | refine st_drew ?_ | refine st_drewN ?_ _ | refine Below.setCell ?_ (by first | omega | (simp; done) | (simp; omega)) _ | refine Below.alloc ?_ (by first | omega | (simp; done) | (simp; omega)) _)))).mono ?_; rintro e w1 ⟨rfl, hq1⟩)
              go_roundw
              case rel => exact ⟨y.to, rfl, HN, HO.out.below hq1 hz, onto hb hq1, Nat.lt_of_lt_of_le hz hq1.size, Or.inr (Or.inl rfl)⟩
              case measure => simp [intOf]
            · go_wp2_with (go_at_call 72; with_reducible refine (hK _ (HRo.out _ (by repeat (first | exact Below.refl _ _ | assumption | refine st_drew ?_ | refine st_drewN ?_ _ | refine Below.setCell ?_ (by first | omega | (simp; done) | (simp; omega)) _ | refine Below.alloc ?_ (by first | omega | (simp; done) | (simp; omega)) _))) (HRt.out _ (by repeat (first | exact Below.refl _ _ | assumption | refine st_drew ?_ | refine st_drewN ?_ _ | refine Below.setCell ?_ (by first | omega | (simp; done) | (simp; omega)) _ | refine Below.alloc ?_ (by first | omega | (simp; done) | (simp; omega)) _)))).mono ?_; rintro e w1 ⟨rfl, hq1⟩)
              go_roundw
              case rel => exact ⟨y.to, rfl, HN, HO.out.below hq1 hz, onto hb hq1, Nat.lt_of_lt_of_le hz hq1.size, Or.inr (Or.inl rfl)⟩
              case measure => simp [intOf]
        · clear hk
          have hcb : -100000000 ≤ y.to + r ∧ y.to + r ≤ 100100000 := by omega
          by_cases s1 : y.to + r < x.fr
          ·
            go_wp2_with fail
            go_roundw
            case rel => exact ⟨b, rfl, hB, HO.out, hb, hz, Or.inr (Or.inr rfl)⟩
            case measure => simp [intOf]
          by_cases sb : 0 ≤ b ∧ b ≤ y.to + r
          · obtain ⟨sb1, sb2⟩ := sb
            go_wp2_with fail
            go_roundw
            case rel => exact ⟨b, rfl, hB, HO.out, hb, hz, Or.inr (Or.inr rfl)⟩
            case measure => simp [intOf]
          by_cases s3 : 10000000 < y.to + r + (x.to - x.fr)
          · by_cases sb1 : 0 ≤ b
            · have sb2 : ¬ b ≤ y.to + r := fun z => sb ⟨sb1, z⟩
              go_wp2_with fail
              go_roundw
              case rel => exact ⟨b, rfl, hB, HO.out, hb, hz, Or.inr (Or.inr rfl)⟩
              case measure => simp [intOf]
            ·
              go_wp2_with fail
              go_roundw
              case rel => exact ⟨b, rfl, hB, HO.out, hb, hz, Or.inr (Or.inr rfl)⟩
              case measure => simp [intOf]
          have hK := fun W hW1 hW2 => sfitsW_any (mv x (y.to + r)) ta tn tc (some ⟨g, off, none⟩) l.length cap l r W hW1 hn hW2 (tms_mv HX.out (by omega) (by omega)) hx6 HL.out hr
          have HRo := hidden (fun W (hW : Below w.heap.size w W) => HH.out.below hW)
          have HRt := hidden (fun W (hW : Below w.heap.size w W) => HT.out.below hW)
          have HN : Hid (y.to + r = -1 ∨ (x.fr ≤ y.to + r ∧ y.to + r + (x.to - x.fr) ≤ 10000000)) := Or.inr ⟨by omega, by omega⟩
          unfold aO at hK
          generalize fitB l (mv x (y.to + r)) r = fb at *
          simp only [mv] at hK
          cases fb with
          | false =>
            by_cases sb1 : 0 ≤ b
            · have sb2 : ¬ b ≤ y.to + r := fun z => sb ⟨sb1, z⟩
              go_wp2_with (go_at_call 72; with_reducible refine (hK _ (HRo.out _ (by repeat (first | exact Below.refl _ _ | assumption | refine st_drew ?_ | refine st_drewN ?_ _ | refine Below.setCell ?_ (by first | omega | (simp; done) | (simp; omega)) _ | refine Below.alloc ?_ (by first | omega | (simp; done) | (simp; omega)) _))) (HRt.out _ (by repeat (first | exact Below.refl _ _ | assumption | refine st_drew ?_ | refine st_drewN ?_ _ | refine Below.setCell ?_ (by first | omega | (simp; done) | (simp; omega)) _ | refine Below.alloc ?_ (by first | omega | (simp; done) | (simp; omega)) _)))).mono ?_; rintro e w1 ⟨rfl, hq1⟩)
              go_roundw
              case rel => exact ⟨b, rfl, hB, HO.out.below hq1 hz, onto hb hq1, Nat.lt_of_lt_of_le hz hq1.size, Or.inr (Or.inr rfl)⟩
              case measure => simp [intOf]
            · go_wp2_with (go_at_call 72; with_reducible refine (hK _ (HRo.out _ (by repeat (first | exact Below.refl _ _ | assumption | refine st_drew ?_ | refine st_drewN ?_ _ | refine Below.setCell ?_ (by first | omega | (simp; done) | (simp; omega)) _ | refine Below.alloc ?_ (by first | omega | (simp; done) | (simp; omega)) _))) (HRt.out _ (by repeat (first | exact Below.refl _ _ | assumption | refine st_drew ?_ | refine st_drewN ?_ _ | refine Below.setCell ?_ (by first | omega | (simp; done) | (simp; omega)) _ | refine Below.alloc ?_ (by first | omega | (simp; done) | (simp; omega)) _)))).mono ?_; rintro e w1 ⟨rfl, hq1⟩)
              go_roundw
              case rel => exact ⟨b, rfl, hB, HO.out.below hq1 hz, onto hb hq1, Nat.lt_of_lt_of_le hz hq1.size, Or.inr (Or.inr rfl)⟩
              case measure => simp [intOf]
          | true =>
            by_cases sb1 : 0 ≤ b
            · have sb2 : ¬ b ≤ y.to + r := fun z => sb ⟨sb1, z⟩
              go_wp2_with (go_at_call 72; with_reducible refine (hK _ (HRo.out _ (by repeat (first | exact Below.refl _ _ | assumption | refine st_drew ?_ | refine st_drewN ?_ _ | refine Below.setCell ?_ (by first | omega | (simp; done) | (simp; omega)) _ | refine Below.alloc ?_ (by first | omega | (simp; done) | (simp; omega)) _))) (HRt.out _ (by repeat (first | exact Below.refl _ _ | assumption | refine st_drew ?_ | refine st_drewN ?_ _ | refine Below.setCell ?_ (by first | omega | (simp; done) | (simp; omega)) _ | refine Below.alloc ?_ (by first | omega | (simp; done) | (simp; omega)) _)))).mono ?_; rintro e w1 ⟨rfl, hq1⟩)
              go_roundw
              case rel => exact ⟨y.to + r, rfl, HN, HO.out.below hq1 hz, onto hb hq1, Nat.lt_of_lt_of_le hz hq1.size, Or.inr (Or.inr rfl)⟩
              case measure => simp [intOf]
            · go_wp2_with (go_at_call 72; with_reducible refine (hK _ (HRo.out _ (by repeat (first | exact Below.refl _ _ | assumption | refine st_drew ?_ | refine st_drewN ?_ _ | refine Below.setCell ?_ (by first | omega | (simp; done) | (simp; omega)) _ | refine Below.alloc ?_ (by first | omega | (simp; done) | (simp; omega)) _))) (HRt.out _ (by repeat (first | exact Below.refl _ _ | assumption | refine st_drew ?_ | refine st_drewN ?_ _ | refine Below.setCell ?_ (by first | omega | (simp; done) | (simp; omega)) _ | refine Below.alloc ?_ (by first | omega | (simp; done) | (simp; omega)) _)))).mono ?_; rintro e w1 ⟨rfl, hq1⟩)
              go_roundw
              case rel => exact ⟨y.to + r, rfl, HN, HO.out.below hq1 hz, onto hb hq1, Nat.lt_of_lt_of_le hz hq1.size, Or.inr (Or.inr rfl)⟩
              case measure => simp [intOf]
        · clear hk
          go_wp2_with fail
          go_roundw
          case rel => exact ⟨(j + 1) + 1, b, by first | rfl | (congr 1; omega), rfl, by omega, hB, HO.out, hb, hz⟩
          case measure => first | (simp [intOf]; done) | (simp [intOf]; omega)
end Go.Proofs.Ytcapmobhgffnhaa
