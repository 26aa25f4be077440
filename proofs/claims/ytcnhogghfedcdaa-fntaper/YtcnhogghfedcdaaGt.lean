/-
  A taper: what the program answers.
-/
import Derived.Test.YtcnhogghfedcdaaGw
import Derived.Test.YtcnhogghfedcdaaGa
namespace Go.Proofs.Ytcnhogghfedcdaa
open Go.RowKit Va Ga Go.Maps
set_option linter.unusedVariables false

set_option maxRecDepth 20000 in
set_option maxHeartbeats 4000000 in
theorem itaper_any (f l s : Int) (w : World) :
    Calls Try.prog 22 #[.int .i64 f, .int .i64 l, .int .i64 s] w fun e w' => ∃ v, e = .returned v ∧ w'.ownsRow w.heap.size 2 1 v (taper f l s).length ((taper f l s).map fun z => Value.int .i64 z) ∧ Below w.heap.size w w' := by
  obtain ⟨i0, hi0, hv0, hv1, hv2⟩ := info_partsW infoW64
  have hO := ownW_new w 2 1
  have hb0 : Below w.heap.size w (w.alloc (.cells #[] 2)) := (Below.refl _ _).alloc (Nat.le_refl _) _
  have HV : Hid (tapB f l s = true ↔ (1 ≤ l ∧ l ≤ 1000000000) ∧ (l ≤ f ∧ f ≤ 1000000000) ∧ (2 ≤ s ∧ s ≤ 100)) := by rw [Hid]; simp only [tapB, Bool.and_eq_true, rng_iff]
  have HN : Hid (¬ tapB f l s = true → taper f l s = []) := fun h => if_neg h
  have HY : Hid (tapB f l s = true → taper f l s = tapTo f l s s.toNat) := fun h => if_pos h
  have HO := hidden hO
  have HB := hidden hb0
  clear hO hb0
  generalize taper f l s = R at *
  by_cases n1 : l < 1
  · have HR : Hid (R = []) := HN.out (fun h => by have := HV.out.1 h; omega)
    clear HN HY HV
    go_enter Try.func22, Try.ntmps22
    go_wp2_with fail
    go_ret
    rw [HR.out]
    exact ⟨_, rfl, HO.out, HB.out⟩
  by_cases n2 : f < l
  · have HR : Hid (R = []) := HN.out (fun h => by have := HV.out.1 h; omega)
    clear HN HY HV
    go_enter Try.func22, Try.ntmps22
    go_wp2_with fail
    go_ret
    rw [HR.out]
    exact ⟨_, rfl, HO.out, HB.out⟩
  by_cases n3 : 1000000000 < f
  · have HR : Hid (R = []) := HN.out (fun h => by have := HV.out.1 h; omega)
    clear HN HY HV
    go_enter Try.func22, Try.ntmps22
    go_wp2_with fail
    go_ret
    rw [HR.out]
    exact ⟨_, rfl, HO.out, HB.out⟩
  by_cases n4 : s < 2
  · have HR : Hid (R = []) := HN.out (fun h => by have := HV.out.1 h; omega)
    clear HN HY HV
    go_enter Try.func22, Try.ntmps22
    go_wp2_with fail
    go_ret
    rw [HR.out]
    exact ⟨_, rfl, HO.out, HB.out⟩
  by_cases n5 : 100 < s
  · have HR : Hid (R = []) := HN.out (fun h => by have := HV.out.1 h; omega)
    clear HN HY HV
    go_enter Try.func22, Try.ntmps22
    go_wp2_with fail
    go_ret
    rw [HR.out]
    exact ⟨_, rfl, HO.out, HB.out⟩
  have HR : Hid (R = tapTo f l s s.toNat) := HY.out (HV.out.2 (by omega))
  clear HN HY HV
  obtain ⟨n, rfl⟩ := Int.eq_ofNat_of_zero_le (show 0 ≤ s by omega)
  have hn : (n : Int).toNat = n := rfl
  go_enter Try.func22, Try.ntmps22
  go_wp2_with fail
  go_loopw [7, 8, 31] (fun sv _ iv wr => ∃ i : Nat, i ≤ n ∧ iv = .int .i64 i ∧ (∃ ad c, sv = .slice ad i c ∧ wr.ownsRow w.heap.size 2 1 (.slice ad i c) i ((tapTo f l (n : Int) i).map fun z => Value.int .i64 z)) ∧ Below w.heap.size w wr) (fun _ _ iv _ => n - (intOf iv).toNat)
  case atStart => exact ⟨0, Nat.zero_le _, rfl, ⟨_, _, rfl, HO.out⟩, HB.out⟩
  case round =>
    clear HO HB
    obtain ⟨i, hi, rfl, ⟨ad, c, rfl, ho⟩, hb⟩ := hrel
    have hsz := hb.size
    by_cases hlt : i < n
    · have hlti : (i : Int) < (n : Int) := by omega
      have hm0 : 0 ≤ (f - l) * (i : Int) := Int.mul_nonneg (by omega) (by omega)
      have hm1 : (f - l) * (i : Int) ≤ 1000000000 * 100 := Int.mul_le_mul (by omega) (by omega) (by omega) (by omega)
      have hq0 : 0 ≤ ((f - l) * (i : Int)).tdiv ((n : Int) - 1) := Int.tdiv_nonneg hm0 (by omega)
      have hq1 : ((f - l) * (i : Int)).tdiv ((n : Int) - 1) ≤ (f - l) * (i : Int) := Int.tdiv_le_self _ hm0
      have hz : ¬ ((n : Int) - 1 = 0) := by omega
      have HO := hidden ho
      have HT : Hid (tapTo f l (n : Int) (i + 1) = tapTo f l (n : Int) i ++ [f - ((f - l) * (i : Int)).tdiv ((n : Int) - 1)]) := rfl
      clear ho
      go_wp2_with (at_builtin; refine wpList_append_own _ rfl (.tmp 34) (.tmp 45) 24 rfl w.heap.size 2 i0 (.int .i64 0) 1 8 Try.underlying24 hi0 hv0 hv1 hv2 rfl (by decide) _ i ((tapTo f l (n : Int) i).map fun z => Value.int .i64 z) rfl (HO.out.alloc _) ⟨wr.heap.size, 0, none⟩ 1 1 [.int .i64 (f - ((f - l) * (i : Int)).tdiv ((n : Int) - 1))] rfl rfl (cell_oneW _ _ _) (by simp [Value.oneCell']) (by unfold maxLen; omega) (by omega) (by simp; omega) ?_; intro v5 w5 ho5 hg5 hn5; obtain ⟨ad5, c5, rfl⟩ := ownW_slice ho5)
      have b5 := (hb.alloc hsz (.cells #[.int .i64 (f - ((f - l) * (i : Int)).tdiv ((n : Int) - 1))] 2)).grown hg5 (by simp; omega) (fun k hk => (ownW_lt HO.out k hk).1)
      go_roundw
      case rel => exact ⟨i + 1, by omega, rfl, ⟨_, _, rfl, by rw [HT.out, List.map_append]; exact ho5⟩, b5⟩
      case measure => simp [intOf]; omega
    · have hlti : ¬ (i : Int) < (n : Int) := by omega
      obtain rfl : i = n := by omega
      have HO := hidden ho
      clear ho
      go_wp2_with fail
      go_ret
      rw [HR.out, tapTo_len]
      exact ⟨_, rfl, HO.out, hb⟩
end Go.Proofs.Ytcnhogghfedcdaa
