/-
  Right drugs: the program and the specification.
-/
import Derived.Test.YtcnhogghfedcdaaVb
import Derived.Test.YtcnhogghfedcdaaGc
import Derived.Test.YtcnhogghfedcdaaGp
import Derived.Deep.RegionWith
import Derived.BigQuiet
import Derived.Deep.QuietTactic
namespace Go.Proofs.Ytcnhogghfedcdaa
open Go.RowKit Va Ga
set_option linter.unusedVariables false

theorem ret_boolG {a b : Bool} (h : a = b) : Ending.returned (.bool a) = .returned (.bool b) := by rw [h]

set_option maxHeartbeats 400000 in
theorem iclass_any (x : Int) (w : World) : Calls Try.prog 60 #[.int .i64 x] w fun e w' => e = .returned (.bool (rng x 0 63)) ∧ w' = w := by
  unfold rng
  go_enter Try.func60, Try.ntmps60
  go_wp2
  all_goals (go_ret; exact ⟨ret_boolG (by first | (simp; done) | (simp; omega) | (simp_all; done) | (simp_all; omega) | (rw [Bool.eq_iff_iff]; simp; omega) | (rw [Bool.eq_iff_iff]; simp_all; omega)), rfl⟩)

set_option maxHeartbeats 400000 in
theorem idrug_any (x : Int) (w : World) : Calls Try.prog 54 #[.int .i64 x] w fun e w' => e = .returned (.bool (rng x 1 1000)) ∧ w' = w := by
  unfold rng
  go_enter Try.func54, Try.ntmps54
  go_wp2
  all_goals (go_ret; exact ⟨ret_boolG (by first | (simp; done) | (simp; omega) | (simp_all; done) | (simp_all; omega) | (rw [Bool.eq_iff_iff]; simp; omega) | (rw [Bool.eq_iff_iff]; simp_all; omega)), rfl⟩)

set_option maxHeartbeats 400000 in
theorem imic_any (x : Int) (w : World) : Calls Try.prog 53 #[.int .i64 x] w fun e w' => e = .returned (.bool (rng x 1 1000000000)) ∧ w' = w := by
  unfold rng
  go_enter Try.func53, Try.ntmps53
  go_wp2
  all_goals (go_ret; exact ⟨ret_boolG (by first | (simp; done) | (simp; omega) | (simp_all; done) | (simp_all; omega) | (rw [Bool.eq_iff_iff]; simp; omega) | (rw [Bool.eq_iff_iff]; simp_all; omega)), rfl⟩)

set_option maxHeartbeats 400000 in
theorem iperc_any (x : Int) (w : World) : Calls Try.prog 33 #[.int .i64 x] w fun e w' => e = .returned (.bool (rng x 0 100)) ∧ w' = w := by
  unfold rng
  go_enter Try.func33, Try.ntmps33
  go_wp2
  all_goals (go_ret; exact ⟨ret_boolG (by first | (simp; done) | (simp; omega) | (simp_all; done) | (simp_all; omega) | (rw [Bool.eq_iff_iff]; simp; omega) | (rw [Bool.eq_iff_iff]; simp_all; omega)), rfl⟩)

set_option maxRecDepth 20000 in
set_option maxHeartbeats 4000000 in
theorem iclasses_any (ao : Option Addr) (n cap : Nat) (l : List Int) (w : World) (h : IRw w (.slice ao n cap) l) (hn : l.length ≤ 1048576) :
    Calls Try.prog 55 #[.slice ao n cap] w fun e w' => e = .returned (.bool (decide (l.length ≤ 10) && clsB l)) ∧ w' = w := by
  obtain rfl := h.len
  have HH := hidden h
  clear h
  by_cases h8 : (10 : Int) < (l.length : Int)
  · have hno : Hid (decide (l.length ≤ 10) = false) := by rw [Hid]; simp; omega
    go_enter Try.func55, Try.ntmps55
    go_wp2_with fail
    go_ret
    exact ⟨by rw [hno.out]; rfl, rfl⟩
  have hyes0 : Hid (decide (l.length ≤ 10) = true) := by rw [Hid]; simp; omega
  go_enter Try.func55, Try.ntmps55
  go_wp2_with fail
  go_loopw [3, 4, 10] (fun _ _ iv wr => ∃ i : Nat, i ≤ l.length ∧ iv = .int .i64 i ∧ wr = w ∧ Hid (cTo l i)) (fun _ _ iv _ => l.length - (intOf iv).toNat)
  case atStart => exact ⟨0, Nat.zero_le _, rfl, rfl, cTo_zero _⟩
  case round =>
    obtain ⟨i, hi, rfl, rfl, hok⟩ := hrel
    by_cases hlt : i < l.length
    · have hlti : (i : Int) < (l.length : Int) := by omega
      obtain ⟨x, hx⟩ := some_of l i hlt
      obtain ⟨g, off, rfl, hg, hc⟩ := HH.out.at hx
      have c0 := hc i x hx
      have HX := hidden hx
      have hK := iclass_any x
      cases hp : rng x 0 63 with
      | false =>
        rw [hp] at hK
        have hno : Hid (clsB l = false) := c_not hx hp
        clear hx hc hok hp
        go_wp2_with (go_at_call 60; refine (hK _).mono ?_; rintro e w1 ⟨rfl, rfl⟩)
        go_ret
        exact ⟨by rw [hno.out]; simp, rfl⟩
      | true =>
        rw [hp] at hK
        by_cases h0 : (0 : Int) < (i : Int)
        · obtain ⟨y, hy⟩ := some_of l (i - 1) (by omega)
          have c1 := hc (i - 1) y hy
          have i1 : ((i : Int) - 1).toNat = i - 1 := by omega
          have i2 : (0 : Int) ≤ (i : Int) - 1 := by omega
          have i3 : (i : Int) - 1 < (l.length : Int) := by omega
          by_cases hxy : x ≤ y
          · have hno : Hid (clsB l = false) := c_not2 hx (by omega) hy hxy
            clear hx hc hok hp hy
            go_wp2_with (go_at_call 60; refine (hK _).mono ?_; rintro e w1 ⟨rfl, rfl⟩)
            go_ret
            exact ⟨by rw [hno.out]; simp, rfl⟩
          · have hok2 : Hid (cTo l (i + 1)) := cTo_succ hok.out hx hp (fun z _ hz => by rw [hy] at hz; cases hz; omega)
            clear hx hc hok hp hy
            go_wp2_with (go_at_call 60; refine (hK _).mono ?_; rintro e w1 ⟨rfl, rfl⟩)
            go_roundw
            case rel => exact ⟨i + 1, by omega, rfl, by simp, hok2⟩
            case measure => simp [intOf]; omega
        · have hok2 : Hid (cTo l (i + 1)) := cTo_succ hok.out hx hp (fun z hz _ => by omega)
          clear hx hc hok hp
          go_wp2_with (go_at_call 60; refine (hK _).mono ?_; rintro e w1 ⟨rfl, rfl⟩)
          go_roundw
          case rel => exact ⟨i + 1, by omega, rfl, by simp, hok2⟩
          case measure => simp [intOf]; omega
    · have hlti : ¬ (i : Int) < (l.length : Int) := by omega
      have hil : i = l.length := by omega
      subst hil
      have hyes : Hid (clsB l = true) := cls_true hok.out
      go_wp2_with fail
      go_ret
      exact ⟨by rw [hyes.out, hyes0.out]; rfl, rfl⟩

set_option maxRecDepth 20000 in
set_option maxHeartbeats 4000000 in
theorem idrugok_any (x : Dg) (ta : Option Addr) (n tc : Nat) (w : World) (h : IRw w (.slice ta n tc) x.cls) (hn : x.cls.length ≤ 1048576) :
    Calls Try.prog 27 #[aD x (.slice ta n tc)] w fun e w' => e = .returned (.bool (drugB x)) ∧ Below w.heap.size w w' := by
  have k1 := imic_any x.pk
  have k2 := imic_any x.most
  have k3 := imic_any x.day
  have k4 := idrug_any x.id
  have k5 := iperc_any x.kid
  have k6 := fun W hW => iclasses_any ta n tc x.cls W hW hn
  have HH := hidden (fun W (hW : Below w.heap.size w W) => h.below hW)
  clear h
  have HE : Hid (drugB x = (rng x.pk 1 1000000000 && (rng x.most 1 1000000000 && (rng x.day 1 1000000000 && (rng x.id 1 1000 && ((decide (x.cls.length ≤ 10) && clsB x.cls) && rng x.kid 0 100)))))) := by
    rw [Hid, drugB, headB, numB, numB, numB]
    generalize rng x.pk 1 1000000000 = t1
    generalize rng x.most 1 1000000000 = t2
    generalize rng x.day 1 1000000000 = t3
    generalize rng x.id 1 1000 = t4
    generalize rng x.kid 0 100 = t5
    generalize decide (x.cls.length ≤ 10) = t6
    generalize clsB x.cls = t7
    revert t1 t2 t3 t4 t5 t6 t7
    decide
  rw [HE.out]
  clear HE
  unfold aD
  generalize rng x.pk 1 1000000000 = t1 at *
  generalize rng x.most 1 1000000000 = t2 at *
  generalize rng x.day 1 1000000000 = t3 at *
  generalize rng x.id 1 1000 = t4 at *
  generalize rng x.kid 0 100 = t5 at *
  generalize (decide (x.cls.length ≤ 10) && clsB x.cls) = t6 at *
  rcases t4 with _ | _
  · go_enter Try.func27, Try.ntmps27
    go_wp2_with (with_reducible (first | refine (k1 _).mono ?_ | refine (k2 _).mono ?_ | refine (k3 _).mono ?_ | refine (k4 _).mono ?_ | refine (k5 _).mono ?_ | refine (k6 _ (HH.out _ (by repeat (first | exact Below.refl _ _ | assumption | refine st_drew ?_ | refine st_drewN ?_ _ | refine Below.setCell ?_ (by first | omega | (simp; done) | (simp; omega)) _ | refine Below.alloc ?_ (by first | omega | (simp; done) | (simp; omega)) _)))).mono ?_); rintro e w1 ⟨rfl, rfl⟩)
    all_goals go_ret
    all_goals exact ⟨by simp, by repeat (first | exact Below.refl _ _ | assumption | refine st_drew ?_ | refine st_drewN ?_ _ | refine Below.setCell ?_ (by first | omega | (simp; done) | (simp; omega)) _ | refine Below.alloc ?_ (by first | omega | (simp; done) | (simp; omega)) _)⟩
  rcases t6 with _ | _
  · go_enter Try.func27, Try.ntmps27
    go_wp2_with (with_reducible (first | refine (k1 _).mono ?_ | refine (k2 _).mono ?_ | refine (k3 _).mono ?_ | refine (k4 _).mono ?_ | refine (k5 _).mono ?_ | refine (k6 _ (HH.out _ (by repeat (first | exact Below.refl _ _ | assumption | refine st_drew ?_ | refine st_drewN ?_ _ | refine Below.setCell ?_ (by first | omega | (simp; done) | (simp; omega)) _ | refine Below.alloc ?_ (by first | omega | (simp; done) | (simp; omega)) _)))).mono ?_); rintro e w1 ⟨rfl, rfl⟩)
    all_goals go_ret
    all_goals exact ⟨by simp, by repeat (first | exact Below.refl _ _ | assumption | refine st_drew ?_ | refine st_drewN ?_ _ | refine Below.setCell ?_ (by first | omega | (simp; done) | (simp; omega)) _ | refine Below.alloc ?_ (by first | omega | (simp; done) | (simp; omega)) _)⟩
  rcases t1 with _ | _
  · go_enter Try.func27, Try.ntmps27
    go_wp2_with (with_reducible (first | refine (k1 _).mono ?_ | refine (k2 _).mono ?_ | refine (k3 _).mono ?_ | refine (k4 _).mono ?_ | refine (k5 _).mono ?_ | refine (k6 _ (HH.out _ (by repeat (first | exact Below.refl _ _ | assumption | refine st_drew ?_ | refine st_drewN ?_ _ | refine Below.setCell ?_ (by first | omega | (simp; done) | (simp; omega)) _ | refine Below.alloc ?_ (by first | omega | (simp; done) | (simp; omega)) _)))).mono ?_); rintro e w1 ⟨rfl, rfl⟩)
    all_goals go_ret
    all_goals exact ⟨by simp, by repeat (first | exact Below.refl _ _ | assumption | refine st_drew ?_ | refine st_drewN ?_ _ | refine Below.setCell ?_ (by first | omega | (simp; done) | (simp; omega)) _ | refine Below.alloc ?_ (by first | omega | (simp; done) | (simp; omega)) _)⟩
  rcases t2 with _ | _
  · go_enter Try.func27, Try.ntmps27
    go_wp2_with (with_reducible (first | refine (k1 _).mono ?_ | refine (k2 _).mono ?_ | refine (k3 _).mono ?_ | refine (k4 _).mono ?_ | refine (k5 _).mono ?_ | refine (k6 _ (HH.out _ (by repeat (first | exact Below.refl _ _ | assumption | refine st_drew ?_ | refine st_drewN ?_ _ | refine Below.setCell ?_ (by first | omega | (simp; done) | (simp; omega)) _ | refine Below.alloc ?_ (by first | omega | (simp; done) | (simp; omega)) _)))).mono ?_); rintro e w1 ⟨rfl, rfl⟩)
    all_goals go_ret
    all_goals exact ⟨by simp, by repeat (first | exact Below.refl _ _ | assumption | refine st_drew ?_ | refine st_drewN ?_ _ | refine Below.setCell ?_ (by first | omega | (simp; done) | (simp; omega)) _ | refine Below.alloc ?_ (by first | omega | (simp; done) | (simp; omega)) _)⟩
  rcases t3 with _ | _
  · go_enter Try.func27, Try.ntmps27
    go_wp2_with (with_reducible (first | refine (k1 _).mono ?_ | refine (k2 _).mono ?_ | refine (k3 _).mono ?_ | refine (k4 _).mono ?_ | refine (k5 _).mono ?_ | refine (k6 _ (HH.out _ (by repeat (first | exact Below.refl _ _ | assumption | refine st_drew ?_ | refine st_drewN ?_ _ | refine Below.setCell ?_ (by first | omega | (simp; done) | (simp; omega)) _ | refine Below.alloc ?_ (by first | omega | (simp; done) | (simp; omega)) _)))).mono ?_); rintro e w1 ⟨rfl, rfl⟩)
    all_goals go_ret
    all_goals exact ⟨by simp, by repeat (first | exact Below.refl _ _ | assumption | refine st_drew ?_ | refine st_drewN ?_ _ | refine Below.setCell ?_ (by first | omega | (simp; done) | (simp; omega)) _ | refine Below.alloc ?_ (by first | omega | (simp; done) | (simp; omega)) _)⟩
  rcases t5 with _ | _
  · go_enter Try.func27, Try.ntmps27
    go_wp2_with (with_reducible (first | refine (k1 _).mono ?_ | refine (k2 _).mono ?_ | refine (k3 _).mono ?_ | refine (k4 _).mono ?_ | refine (k5 _).mono ?_ | refine (k6 _ (HH.out _ (by repeat (first | exact Below.refl _ _ | assumption | refine st_drew ?_ | refine st_drewN ?_ _ | refine Below.setCell ?_ (by first | omega | (simp; done) | (simp; omega)) _ | refine Below.alloc ?_ (by first | omega | (simp; done) | (simp; omega)) _)))).mono ?_); rintro e w1 ⟨rfl, rfl⟩)
    all_goals go_ret
    all_goals exact ⟨by simp, by repeat (first | exact Below.refl _ _ | assumption | refine st_drew ?_ | refine st_drewN ?_ _ | refine Below.setCell ?_ (by first | omega | (simp; done) | (simp; omega)) _ | refine Below.alloc ?_ (by first | omega | (simp; done) | (simp; omega)) _)⟩
  go_enter Try.func27, Try.ntmps27
  go_wp2_with (with_reducible (first | refine (k1 _).mono ?_ | refine (k2 _).mono ?_ | refine (k3 _).mono ?_ | refine (k4 _).mono ?_ | refine (k5 _).mono ?_ | refine (k6 _ (HH.out _ (by repeat (first | exact Below.refl _ _ | assumption | refine st_drew ?_ | refine st_drewN ?_ _ | refine Below.setCell ?_ (by first | omega | (simp; done) | (simp; omega)) _ | refine Below.alloc ?_ (by first | omega | (simp; done) | (simp; omega)) _)))).mono ?_); rintro e w1 ⟨rfl, rfl⟩)
  go_ret
  exact ⟨rfl, by repeat (first | exact Below.refl _ _ | assumption | refine st_drew ?_ | refine st_drewN ?_ _ | refine Below.setCell ?_ (by first | omega | (simp; done) | (simp; omega)) _ | refine Below.alloc ?_ (by first | omega | (simp; done) | (simp; omega)) _)⟩

end Go.Proofs.Ytcnhogghfedcdaa
