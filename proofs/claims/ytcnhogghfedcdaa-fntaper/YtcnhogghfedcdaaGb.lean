/-
  A taper: what the specification answers.
-/
import Derived.Test.YtcnhogghfedcdaaGw
import Derived.Test.YtcnhogghfedcdaaGa
namespace Go.Proofs.Ytcnhogghfedcdaa
open Go.RowKit Va Ga Go.Maps
set_option linter.unusedVariables false

set_option maxRecDepth 20000 in
set_option maxHeartbeats 4000000 in
theorem staper_any (f l s : Int) (w : World) :
    Calls Try.prog 23 #[.int .i64 f, .int .i64 l, .int .i64 s] w fun e w' => ∃ v, e = .returned v ∧ w'.ownsRow w.heap.size 2 1 v (taper f l s).length ((taper f l s).map fun z => Value.int .i64 z) ∧ Below w.heap.size w w' := by
  have h1 := lin_any l 1 1000000000
  have h2 := lin_any f l 1000000000
  have h3 := lin_any s 2 100
  have k1 : Hid (rng l 1 1000000000 = true → 1 ≤ l ∧ l ≤ 1000000000) := rng_iff.1
  have k2 : Hid (rng f l 1000000000 = true → l ≤ f ∧ f ≤ 1000000000) := rng_iff.1
  have k3 : Hid (rng s 2 100 = true → 2 ≤ s ∧ s ≤ 100) := rng_iff.1
  have HV : Hid (taper f l s = if (rng l 1 1000000000 && (rng f l 1000000000 && rng s 2 100)) = true then tapTo f l s s.toNat else []) := rfl
  obtain ⟨i0, hi0, hv0, hv1, hv2⟩ := info_partsW infoW64
  generalize rng l 1 1000000000 = b1 at *
  generalize rng f l 1000000000 = b2 at *
  generalize rng s 2 100 = b3 at *
  generalize taper f l s = R at *
  have hO := ownW_new w 2 1
  have hb0 : Below w.heap.size w (w.alloc (.cells #[] 2)) := (Below.refl _ _).alloc (Nat.le_refl _) _
  by_cases hb : (b1 && (b2 && b3)) = true
  · simp only [Bool.and_eq_true] at hb
    obtain ⟨rfl, rfl, rfl⟩ := hb
    have HR : Hid (R = tapTo f l s s.toNat) := HV.out
    obtain ⟨l0, l1⟩ := k1.out rfl
    obtain ⟨f0, f1⟩ := k2.out rfl
    obtain ⟨s0, s1⟩ := k3.out rfl
    clear HV k1 k2 k3
    obtain ⟨n, rfl⟩ := Int.eq_ofNat_of_zero_le (show 0 ≤ s by omega)
    have hn : (n : Int).toNat = n := rfl
    have HO := hidden hO
    have HB := hidden hb0
    clear hO hb0
    go_enter Try.func23, Try.ntmps23
    go_wp2_with (with_reducible (first | refine (h1 _).mono ?_ | refine (h2 _).mono ?_ | refine (h3 _).mono ?_); rintro e w1 ⟨rfl, rfl⟩)
    go_loopw [7, 8] (fun sv iv wr => ∃ i : Nat, i ≤ n ∧ iv = .int .i64 i ∧ (∃ ad c, sv = .slice ad i c ∧ wr.ownsRow w.heap.size 2 1 (.slice ad i c) i ((tapTo f l (n : Int) i).map fun z => Value.int .i64 z)) ∧ Below w.heap.size w wr) (fun _ iv _ => n - (intOf iv).toNat)
    case atStart => exact ⟨0, Nat.zero_le _, rfl, ⟨_, _, rfl, HO.out⟩, HB.out⟩
    case round =>
      clear HO HB
      obtain ⟨i, hi, rfl, ⟨ad, c, rfl, ho⟩, hb⟩ := hrel
      have hsz := hb.size
      by_cases hlt : i < n
      · have hlti : (i : Int) < (n : Int) := by omega
        have hm0 : 0 ≤ (f - l) * (i : Int) := Int.mul_nonneg (by omega) (by omega)
        have hm1 : (f - l) * (i : Int) ≤ 1000000000 * 100 := Int.mul_le_mul (by omega) (by omega) (by omega) (by omega)
        have hq0 : 0 ≤ ((f - l) * (i : Int)).tdiv ((n : Int) - 1) := Int.tdiv_nonneg hm0 (by omega)
        have hq1 : ((f - l) * (i : Int)).tdiv ((n : Int) - 1) ≤ (f - l) * (i : Int) := Int.tdiv_le_self _ hm0
        have hz : ¬ ((n : Int) - 1 = 0) := by omega
        have HO := hidden ho
        have HT : Hid (tapTo f l (n : Int) (i + 1) = tapTo f l (n : Int) i ++ [f - ((f - l) * (i : Int)).tdiv ((n : Int) - 1)]) := rfl
        clear ho
        go_wp2_with (at_builtin; refine wpList_append_own _ rfl (.tmp 30) (.tmp 41) 24 rfl w.heap.size 2 i0 (.int .i64 0) 1 8 Try.underlying24 hi0 hv0 hv1 hv2 rfl (by decide) _ i ((tapTo f l (n : Int) i).map fun z => Value.int .i64 z) rfl (HO.out.alloc _) ⟨wr.heap.size, 0, none⟩ 1 1 [.int .i64 (f - ((f - l) * (i : Int)).tdiv ((n : Int) - 1))] rfl rfl (cell_oneW _ _ _) (by simp [Value.oneCell']) (by unfold maxLen; omega) (by omega) (by simp; omega) ?_; intro v5 w5 ho5 hg5 hn5; obtain ⟨ad5, c5, rfl⟩ := ownW_slice ho5)
        have b5 := (hb.alloc hsz (.cells #[.int .i64 (f - ((f - l) * (i : Int)).tdiv ((n : Int) - 1))] 2)).grown hg5 (by simp; omega) (fun k hk => (ownW_lt HO.out k hk).1)
        go_roundw
        case rel => exact ⟨i + 1, by omega, rfl, ⟨_, _, rfl, by rw [HT.out, List.map_append]; exact ho5⟩, b5⟩
        case measure => simp [intOf]; omega
      · have hlti : ¬ (i : Int) < (n : Int) := by omega
        obtain rfl : i = n := by omega
        have HO := hidden ho
        clear ho
        go_wp2_with fail
        go_ret
        rw [HR.out, tapTo_len]
        exact ⟨_, rfl, HO.out, hb⟩
  · have HR : Hid (R = []) := by rw [Hid, HV.out, if_neg hb]
    have HO := hidden hO
    have HB := hidden hb0
    clear hO hb0 HV k1 k2 k3
    rcases b1 with _ | _
    · go_enter Try.func23, Try.ntmps23
      go_wp2_with (with_reducible refine (h1 _).mono ?_; rintro e w1 ⟨rfl, rfl⟩)
      go_ret
      rw [HR.out]
      exact ⟨_, rfl, HO.out, HB.out⟩
    rcases b2 with _ | _
    · go_enter Try.func23, Try.ntmps23
      go_wp2_with (with_reducible (first | refine (h1 _).mono ?_ | refine (h2 _).mono ?_); rintro e w1 ⟨rfl, rfl⟩)
      go_ret
      rw [HR.out]
      exact ⟨_, rfl, HO.out, HB.out⟩
    rcases b3 with _ | _
    · go_enter Try.func23, Try.ntmps23
      go_wp2_with (with_reducible (first | refine (h1 _).mono ?_ | refine (h2 _).mono ?_ | refine (h3 _).mono ?_); rintro e w1 ⟨rfl, rfl⟩)
      go_ret
      rw [HR.out]
      exact ⟨_, rfl, HO.out, HB.out⟩
    · exact absurd rfl hb
end Go.Proofs.Ytcnhogghfedcdaa
