/-
  Merged: M12.
-/
import Derived.Test.YtgcpiinmcbdkmaaMw5
namespace Go.Proofs.Ytgcpiinmcbdkmaa
open Go.RowKit Va Ms
set_option linter.all false
set_option maxRecDepth 20000 in
set_option maxHeartbeats 4000000 in
theorem sname_any (s : ByteArray) (hs : s.size ≤ 1048576) (w : World) : Calls Try.prog 67 #[.string s] w fun e w' => e = .returned (.bool (nameB s)) ∧ w = w' := by
  by_cases hz : ¬ s.size = 3
  · have HV : Hid (nameB s = false) := by unfold nameB; rw [decide_eq_false hz]; rfl
    have hzi : ((s.size : Int) != 3) = true := by simp; omega
    rw [HV.out]
    go_enter Try.func67, Try.ntmps67
    go_wp2_with fail
    go_ret
    exact ⟨rfl, rfl⟩
  have hz := Decidable.not_not.1 hz
  have HV : Hid (nameB s = (grB (nb s 0) && (gdB (nb s 1) && gdB (nb s 2)))) := by unfold nameB; rw [decide_eq_true hz]; rfl
  rw [HV.out]
  clear HV
  have hzi : (s.size : Int) = 3 := by omega
  have x0 := idx_at s 0 0 rfl (by omega)
  have x1 := idx_at s 1 1 rfl (by omega)
  have x2 := idx_at s 2 2 rfl (by omega)
  unfold gdB
  have k0 := sgreat_any (nb s 0)
  have k1 := sgreat_any (nb s 1)
  have k2 := sgreat_any (nb s 2)
  generalize nb s 0 = b0 at *
  generalize nb s 1 = b1 at *
  generalize nb s 2 = b2 at *
  generalize grB b0 = t0 at *
  generalize grB b1 = t1 at *
  generalize grB b2 = t2 at *
  rcases t0 with _ | _
  · go_enter Try.func67, Try.ntmps67
    go_wp2_with (go_at_call 105; (with_reducible refine (k0 _).mono ?_); rintro e w1 ⟨rfl, rfl⟩)
    go_ret
    exact ⟨by simp, rfl⟩
  go_enter Try.func67, Try.ntmps67
  go_wp2_with (go_at_call 105; (with_reducible refine (k0 _).mono ?_); rintro e w1 ⟨rfl, rfl⟩)
  go_loopw [3] (fun iv wr => wr = w ∧ (iv = .int .i64 1 ∨ (iv = .int .i64 2 ∧ (t1 || dgB b1) = true) ∨ (iv = .int .i64 3 ∧ (t1 || dgB b1) = true ∧ (t2 || dgB b2) = true))) (fun iv _ => 3 - (intOf iv).toNat)
  case atStart => exact ⟨rfl, Or.inl rfl⟩
  case round =>
    obtain ⟨rfl, hr⟩ := hrel
    rcases hr with rfl | ⟨rfl, h1⟩ | ⟨rfl, h1, h2⟩
    · rcases t1 with _ | _
      · by_cases l1 : b1 < 48
        · have l1i : ((b1 : Int) < 48) := by omega
          have hd : dgB b1 = false := by unfold dgB; rw [decide_eq_false (by omega)]; rfl
          clear l1
          go_wp2_with (go_at_call 105; (with_reducible refine (k1 _).mono ?_); rintro e w1 ⟨rfl, rfl⟩)
          go_ret
          exact ⟨by rw [hd]; simp, rfl⟩
        · have l1i : ¬ ((b1 : Int) < 48) := by omega
          by_cases l2 : 57 < b1
          · have l2i : ((57 : Int) < (b1 : Int)) := by omega
            have hd : dgB b1 = false := by unfold dgB; rw [decide_eq_false (show ¬ b1 ≤ 57 by omega), Bool.and_false]
            clear l1 l2
            go_wp2_with (go_at_call 105; (with_reducible refine (k1 _).mono ?_); rintro e w1 ⟨rfl, rfl⟩)
            go_ret
            exact ⟨by rw [hd]; simp, rfl⟩
          · have l2i : ¬ ((57 : Int) < (b1 : Int)) := by omega
            have HD : Hid (dgB b1 = true) := by unfold Hid dgB; rw [decide_eq_true (show 48 ≤ b1 by omega), decide_eq_true (show b1 ≤ 57 by omega)]; rfl
            clear l1 l2
            go_wp2_with (go_at_call 105; (with_reducible refine (k1 _).mono ?_); rintro e w1 ⟨rfl, rfl⟩)
            go_roundw
            case rel => first | exact ⟨rfl, Or.inr (Or.inl (⟨rfl, by rw [HD.out]; rfl⟩))⟩ | exact ⟨trivial, Or.inr (Or.inl (⟨rfl, by rw [HD.out]; rfl⟩))⟩ | (simp; done) | (simp [HD.out]; done) | (simp_all; done)
            case measure => simp [intOf]
      · go_wp2_with (go_at_call 105; (with_reducible refine (k1 _).mono ?_); rintro e w1 ⟨rfl, rfl⟩)
        go_roundw
        case rel => first | exact ⟨rfl, Or.inr (Or.inl (⟨rfl, by simp⟩))⟩ | exact ⟨trivial, Or.inr (Or.inl (⟨rfl, by simp⟩))⟩ | (simp; done) | (simp [HD.out]; done) | (simp_all; done)
        case measure => simp [intOf]
    · rcases t2 with _ | _
      · by_cases l1 : b2 < 48
        · have l1i : ((b2 : Int) < 48) := by omega
          have hd : dgB b2 = false := by unfold dgB; rw [decide_eq_false (by omega)]; rfl
          clear l1
          go_wp2_with (go_at_call 105; (with_reducible refine (k2 _).mono ?_); rintro e w1 ⟨rfl, rfl⟩)
          go_ret
          exact ⟨by rw [hd]; simp, rfl⟩
        · have l1i : ¬ ((b2 : Int) < 48) := by omega
          by_cases l2 : 57 < b2
          · have l2i : ((57 : Int) < (b2 : Int)) := by omega
            have hd : dgB b2 = false := by unfold dgB; rw [decide_eq_false (show ¬ b2 ≤ 57 by omega), Bool.and_false]
            clear l1 l2
            go_wp2_with (go_at_call 105; (with_reducible refine (k2 _).mono ?_); rintro e w1 ⟨rfl, rfl⟩)
            go_ret
            exact ⟨by rw [hd]; simp, rfl⟩
          · have l2i : ¬ ((57 : Int) < (b2 : Int)) := by omega
            have HD : Hid (dgB b2 = true) := by unfold Hid dgB; rw [decide_eq_true (show 48 ≤ b2 by omega), decide_eq_true (show b2 ≤ 57 by omega)]; rfl
            clear l1 l2
            go_wp2_with (go_at_call 105; (with_reducible refine (k2 _).mono ?_); rintro e w1 ⟨rfl, rfl⟩)
            go_roundw
            case rel => first | exact ⟨rfl, Or.inr (Or.inr (⟨rfl, h1, by rw [HD.out]; rfl⟩))⟩ | exact ⟨trivial, Or.inr (Or.inr (⟨rfl, h1, by rw [HD.out]; rfl⟩))⟩ | (simp; done) | (simp [HD.out]; done) | (simp_all; done)
            case measure => simp [intOf]
      · go_wp2_with (go_at_call 105; (with_reducible refine (k2 _).mono ?_); rintro e w1 ⟨rfl, rfl⟩)
        go_roundw
        case rel => first | exact ⟨rfl, Or.inr (Or.inr (⟨rfl, h1, by simp⟩))⟩ | exact ⟨trivial, Or.inr (Or.inr (⟨rfl, h1, by simp⟩))⟩ | (simp; done) | (simp [HD.out]; done) | (simp_all; done)
        case measure => simp [intOf]
    · go_wp2_with fail
      go_ret
      exact ⟨by first | (simp_all; done) | (rw [h1, h2]; rfl), rfl⟩
set_option maxRecDepth 20000 in
set_option maxHeartbeats 4000000 in
theorem iname_any (s : ByteArray) (hs : s.size ≤ 1048576) (w : World) : Calls Try.prog 159 #[.string s] w fun e w' => e = .returned (.bool (nameB s)) ∧ w = w' := by
  by_cases hz : ¬ s.size = 3
  · have HV : Hid (nameB s = false) := by unfold nameB; rw [decide_eq_false hz]; rfl
    have hzi : ((s.size : Int) != 3) = true := by simp; omega
    rw [HV.out]
    go_enter Try.func159, Try.ntmps159
    go_wp2_with fail
    go_ret
    exact ⟨rfl, rfl⟩
  have hz := Decidable.not_not.1 hz
  have HV : Hid (nameB s = (grB (nb s 0) && (gdB (nb s 1) && gdB (nb s 2)))) := by unfold nameB; rw [decide_eq_true hz]; rfl
  rw [HV.out]
  clear HV
  have hzi : (s.size : Int) = 3 := by omega
  have x0 := idx_at s 0 0 rfl (by omega)
  have x1 := idx_at s 1 1 rfl (by omega)
  have x2 := idx_at s 2 2 rfl (by omega)
  unfold gdB
  have k0 := igreat_any (nb s 0)
  have k1 := igreat_any (nb s 1)
  have k2 := igreat_any (nb s 2)
  have d0 := idigit_any (nb s 0)
  have d1 := idigit_any (nb s 1)
  have d2 := idigit_any (nb s 2)
  generalize nb s 0 = b0 at *
  generalize nb s 1 = b1 at *
  generalize nb s 2 = b2 at *
  generalize grB b0 = t0 at *
  generalize grB b1 = t1 at *
  generalize grB b2 = t2 at *
  generalize dgB b0 = q0 at *
  generalize dgB b1 = q1 at *
  generalize dgB b2 = q2 at *
  rcases t0 with _ | _
  · go_enter Try.func159, Try.ntmps159
    go_wp2_with (go_at_call 172; (with_reducible refine (k0 _).mono ?_); rintro e w1 ⟨rfl, rfl⟩)
    go_ret
    exact ⟨by simp, rfl⟩
  go_enter Try.func159, Try.ntmps159
  go_wp2_with (go_at_call 172; (with_reducible refine (k0 _).mono ?_); rintro e w1 ⟨rfl, rfl⟩)
  go_loopw [3, 15] (fun _ iv wr => wr = w ∧ (iv = .int .i64 0 ∨ iv = .int .i64 1 ∨ (iv = .int .i64 2 ∧ (t1 || q1) = true) ∨ (iv = .int .i64 3 ∧ (t1 || q1) = true ∧ (t2 || q2) = true))) (fun _ iv _ => 3 - (intOf iv).toNat)
  case atStart => exact ⟨rfl, Or.inl rfl⟩
  case round =>
    obtain ⟨rfl, hr⟩ := hrel
    rcases hr with rfl | rfl | ⟨rfl, h1⟩ | ⟨rfl, h1, h2⟩
    · go_wp2_with (go_at_call 172; (with_reducible refine (k0 _).mono ?_); rintro e w1 ⟨rfl, rfl⟩)
      go_roundw
      case rel => first | exact ⟨rfl, Or.inr (Or.inl rfl)⟩ | exact ⟨trivial, Or.inr (Or.inl rfl)⟩ | (simp; done) | (simp [HD.out]; done) | (simp_all; done)
      case measure => simp [intOf]
    · rcases t1 with _ | _
      · rcases q1 with _ | _
        · go_wp2_with (first | (go_at_call 172; (with_reducible refine (k1 _).mono ?_); rintro e w1 ⟨rfl, rfl⟩) | (go_at_call 173; (with_reducible refine (d1 _).mono ?_); rintro e w1 ⟨rfl, rfl⟩))
          go_ret
          exact ⟨by simp, rfl⟩
        · go_wp2_with (first | (go_at_call 172; (with_reducible refine (k1 _).mono ?_); rintro e w1 ⟨rfl, rfl⟩) | (go_at_call 173; (with_reducible refine (d1 _).mono ?_); rintro e w1 ⟨rfl, rfl⟩))
          go_roundw
          case rel => first | exact ⟨rfl, Or.inr (Or.inr (Or.inl (⟨rfl, rfl⟩)))⟩ | exact ⟨trivial, Or.inr (Or.inr (Or.inl (⟨rfl, rfl⟩)))⟩ | (simp; done) | (simp [HD.out]; done) | (simp_all; done)
          case measure => simp [intOf]
      · go_wp2_with (go_at_call 172; (with_reducible refine (k1 _).mono ?_); rintro e w1 ⟨rfl, rfl⟩)
        go_roundw
        case rel => first | exact ⟨rfl, Or.inr (Or.inr (Or.inl (⟨rfl, by simp⟩)))⟩ | exact ⟨trivial, Or.inr (Or.inr (Or.inl (⟨rfl, by simp⟩)))⟩ | (simp; done) | (simp [HD.out]; done) | (simp_all; done)
        case measure => simp [intOf]
    · rcases t2 with _ | _
      · rcases q2 with _ | _
        · go_wp2_with (first | (go_at_call 172; (with_reducible refine (k2 _).mono ?_); rintro e w1 ⟨rfl, rfl⟩) | (go_at_call 173; (with_reducible refine (d2 _).mono ?_); rintro e w1 ⟨rfl, rfl⟩))
          go_ret
          exact ⟨by simp, rfl⟩
        · go_wp2_with (first | (go_at_call 172; (with_reducible refine (k2 _).mono ?_); rintro e w1 ⟨rfl, rfl⟩) | (go_at_call 173; (with_reducible refine (d2 _).mono ?_); rintro e w1 ⟨rfl, rfl⟩))
          go_roundw
          case rel => first | exact ⟨rfl, Or.inr (Or.inr (Or.inr (⟨rfl, h1, rfl⟩)))⟩ | exact ⟨trivial, Or.inr (Or.inr (Or.inr (⟨rfl, h1, rfl⟩)))⟩ | (simp; done) | (simp [HD.out]; done) | (simp_all; done)
          case measure => simp [intOf]
      · go_wp2_with (go_at_call 172; (with_reducible refine (k2 _).mono ?_); rintro e w1 ⟨rfl, rfl⟩)
        go_roundw
        case rel => first | exact ⟨rfl, Or.inr (Or.inr (Or.inr (⟨rfl, h1, by simp⟩)))⟩ | exact ⟨trivial, Or.inr (Or.inr (Or.inr (⟨rfl, h1, by simp⟩)))⟩ | (simp; done) | (simp [HD.out]; done) | (simp_all; done)
        case measure => simp [intOf]
    · go_wp2_with fail
      go_ret
      exact ⟨by first | (simp_all; done) | (rw [h1, h2]; rfl), rfl⟩
end Go.Proofs.Ytgcpiinmcbdkmaa
