/-
  MeanOf, of the specification: by worth.
-/
import Derived.Test.YtiopmlepdjiapaaFloQ
import Derived.Test.YtiopmlepdjiapaaMeanP
namespace Go.Proofs.Ytiopmlepdjiapaa
open Go.RowKit Fl

set_option maxHeartbeats 400000 in
theorem zero_any (w : World) : Calls Try.prog 38 #[] w fun e w' => e = .returned (.float .f64 0) ∧ w' = w := by
  go_enter Try.func38, Try.ntmps38
  go_wp2
  go_ret
  exact ⟨rfl, rfl⟩

set_option maxHeartbeats 4000000 in
theorem smean_any (v : Value) (n : Nat) (xs : List Nat) (w : World) (ha : Row w v n (xs.map fl)) (hn : n ≤ 1048576) :
    Calls Try.prog 16 #[v] w fun e w' => ∃ y m, e = .returned (.float .f64 y) ∧ cls y = meanW xs ∧ w' = w.drewN m := by
  obtain ⟨hl, ao, cap, rfl, hrow⟩ := ha
  simp only [List.length_map] at hl
  have hadd := run_fadd
  have hquo := run_fquo
  go_enter Try.func16, Try.ntmps16
  go_wp2_with (go_at_call 38; refine (zero_any _).mono ?_; rintro e w' ⟨rfl, hw'⟩; have hw2 := hw'.symm; clear hw'; subst hw2)
  go_loopw [4, 5, 6] (fun c t i wr => ∃ k a s : Nat, k ≤ n ∧ c = .float .f64 a ∧ t = .float .f64 s ∧ i = .int .i64 k ∧ Hid (cls a = cntW (meas (xs.take k)).length ∧ cls s = sumW (meas (xs.take k)) ∧ ∃ m, wr = w.drewN m)) (fun _ _ i _ => n - (intOf i).toNat)
  case atStart => exact ⟨0, 0, 0, Nat.zero_le _, rfl, rfl, rfl, by rw [cls_low low_zero]; exact ⟨rfl, rfl, 0, rfl⟩⟩
  case round =>
    obtain ⟨k, a, s, hk, rfl, rfl, rfl, H⟩ := hrel
    obtain ⟨m, hm⟩ := H.out.2.2
    have HM : Hid (wr = w.drewN m) := hm
    clear hm
    by_cases hlt : k < n
    · rcases hrow with rfl | ⟨b, off, rfl, hbw, hcell⟩
      · omega
      obtain ⟨x, hx⟩ : ∃ x, xs[k]? = some x := ⟨_, List.getElem?_eq_getElem (by omega)⟩
      have d1 : wr.cell? ⟨b, off + k, none⟩ = some (.float .f64 x) := by
        rw [HM.out]; refine Eq.trans ?_ ((hcell k hlt).trans (by rw [List.getElem?_map, hx]; rfl)); simp
      have T : Hid (xs.take (k + 1) = xs.take k ++ [x]) := take_snoc _ _ _ hx
      have hlt1 : (k : Int) < (n : Int) := by omega
      have hge1 : (0 : Int) ≤ (k : Int) := by omega
      clear hcell hx
      cases hN : isN x
      · have o1 : FloatKind.f64.format.order x x = some .eq := ord_self hN
        have HN : Hid (isN x = false) := hN
        clear hN
        go_wp2_with fail
        go_quiet (fail)
        go_wp2
        go_roundw
        case rel =>
          refine ⟨k + 1, _, _, by omega, rfl, rfl, by go_num, ?_, ?_, ?_⟩
          · rw [T.out, meas_snoc, if_neg (by rw [HN.out]; decide), List.length_append, cls_fRes, H.out.1]
            show fop .add _ (cls one) = _
            rw [cls_low low_one]; rfl
          · rw [T.out, meas_snoc, if_neg (by rw [HN.out]; decide), cls_fRes, H.out.2.1, cls_low HN.out, sumW_snoc]
          · exact ⟨_, by rw [HM.out, World.drewN_drewN]⟩
        case measure => simp [intOf]; omega
      · have o1 : FloatKind.f64.format.order x x = none := ord_nan (Or.inl hN)
        have HN : Hid (isN x = true) := hN
        clear hN
        go_wp2_with fail
        go_quiet (fail)
        go_wp2
        go_roundw
        case rel =>
          refine ⟨k + 1, _, _, by omega, rfl, rfl, by go_num, ?_, ?_, ?_⟩
          · rw [T.out, meas_snoc, if_pos HN.out]; exact H.out.1
          · rw [T.out, meas_snoc, if_pos HN.out]; exact H.out.2.1
          · exact ⟨_, by rw [HM.out, World.drewN_drewN]⟩
        case measure => simp [intOf]; omega
    · have hkn : k = n := by omega
      subst hkn
      have T : xs.take k = xs := List.take_of_length_le (by omega)
      rw [T] at H
      have hle := meas_le xs
      have hnan : ∀ wx : World, cls (fRes .quo 0 0 wx) = none := fun wx => by rw [cls_fRes, cls_low low_zero]; exact quo_zero
      by_cases hbig : 4096 < k
      · have HW : Hid (meanW xs = none) := by unfold Hid meanW; rw [if_pos (by omega)]
        have hbi : (4096 : Int) < (k : Int) := by omega
        by_cases hz : FloatKind.f64.format.order a 0 = some .eq
        · have hzb : (FloatKind.f64.format.order a 0 == some .eq) = true := by simpa using hz
          clear hz
          go_wp2
          go_ret
          exact ⟨_, _, rfl, by rw [HW.out]; exact hnan _, by rw [HM.out, World.drewN_drewN]⟩
        · have hzb : (FloatKind.f64.format.order a 0 == some .eq) = false := by simpa using hz
          clear hz
          go_wp2
          go_ret
          exact ⟨_, _, rfl, by rw [HW.out]; exact hnan _, by rw [HM.out, World.drewN_drewN]⟩
      · have hbi : ¬ (4096 : Int) < (k : Int) := by omega
        have hc := H.out.1
        rw [cnt_is _ (by omega)] at hc
        obtain ⟨ha, _⟩ := cls_of_some hc
        clear hc
        by_cases h0 : (meas xs).length = 0
        · have HW : Hid (meanW xs = none) := by unfold Hid meanW; rw [if_neg (by omega), if_pos h0]
          have ha0 : a = 0 := by rw [ha, h0]; rfl
          have hzb : (FloatKind.f64.format.order a 0 == some .eq) = true := by rw [ha0, ord_zero]; rfl
          clear ha ha0
          go_wp2
          go_ret
          exact ⟨_, rfl, by rw [HW.out]; exact hnan _, _, by rw [HM.out, World.drewN_drewN]⟩
        · have HW : Hid (meanW xs = fop .quo (sumW (meas xs)) (cls a)) := by
            unfold Hid meanW; rw [if_neg (by omega), if_neg h0, H.out.1, cnt_is _ (by omega)]
          have hzb : (FloatKind.f64.format.order a 0 == some .eq) = false := by rw [ha]; exact cnt_pos _ (by omega) (by omega)
          clear ha
          go_wp2
          go_ret
          exact ⟨_, rfl, by rw [HW.out, cls_fRes, H.out.2.1], _, by rw [HM.out, World.drewN_drewN]⟩
end Go.Proofs.Ytiopmlepdjiapaa
