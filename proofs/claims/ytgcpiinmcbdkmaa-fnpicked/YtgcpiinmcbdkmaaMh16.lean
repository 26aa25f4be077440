/-
  Merged: Pk7 RoS.
-/
import Derived.Test.YtgcpiinmcbdkmaaMh15
import Derived.Shelf.SortM.Plain
import Derived.Test.YtgcpiinmcbdkmaaProg
namespace Go.Proofs.Ytgcpiinmcbdkmaa
open Go.RowKit Va Bl Pq
set_option linter.all false
set_option maxRecDepth 20000 in
set_option maxHeartbeats 8000000 in
theorem uchoose_any (nd : Nd) (sv : Value) (D : UE → Prop) (G c m a b : Nat) (d : List UE) (w : World) (h : SU c w G d) (hm : d.length = m) (hmm : m ≤ 100000) (hF : Fine (ltU nd) D d) (hK : LessU nd sv D) (hab : a + 12 < b) (hb : b ≤ m) :
    Calls Try.prog 124 #[.slice (some ⟨G, 0, none⟩) m c, .int .i64 a, .int .i64 b, (.func (.func 47) #[.agg #[.int .i64 nd.p, .int .i64 nd.g, sv]] #[])] w fun e w' => ∃ (x : Nat) (hint : Int), e = .returned (.tuple #[.int .i64 x, .int .i64 hint]) ∧ (a ≤ x ∧ x < b) ∧ SU c w' G d ∧ Below w.heap.size w w' := by
  obtain ⟨l, hl⟩ : ∃ l, b - a = l := ⟨_, rfl⟩
  have hwl : IntKind.i64.wrap ((b : Int) - (a : Int)) = (l : Int) := by rw [IntKind.wrap_i64]; omega
  obtain ⟨q, hq⟩ : ∃ q, l / 4 = q := ⟨_, rfl⟩
  have hq1 : (l : Int).tdiv 4 = (q : Int) := by rw [Int.tdiv_eq_ediv_of_nonneg (by omega)]; omega
  have hq2 : (l : Int) / 4 = (q : Int) := by omega
  have hq3 : 4 * q ≤ l ∧ l < 4 * q + 4 := by omega
  have hw0 : IntKind.i64.wrap (q : Int) = (q : Int) := by rw [IntKind.wrap_i64]; omega
  have hlm : l ≤ 100000 := by omega
  obtain ⟨i1, hi1⟩ : ∃ i, a + q = i := ⟨_, rfl⟩
  obtain ⟨i2, hi2⟩ : ∃ i, a + q * 2 = i := ⟨_, rfl⟩
  obtain ⟨i3, hi3⟩ : ∃ i, a + q * 3 = i := ⟨_, rfl⟩
  have hv1 : IntKind.i64.wrap ((a : Int) + (q : Int)) = (i1 : Int) := by rw [IntKind.wrap_i64]; omega
  have hv2 : IntKind.i64.wrap ((a : Int) + (q : Int) * 2) = (i2 : Int) := by rw [IntKind.wrap_i64]; omega
  have hv3 : IntKind.i64.wrap ((a : Int) + (q : Int) * 3) = (i3 : Int) := by rw [IntKind.wrap_i64]; omega
  have h8 : (8 : Int) ≤ (l : Int) := by omega
  have HL : Hid (b - a = l ∧ a + q = i1 ∧ a + q * 2 = i2 ∧ a + q * 3 = i3) := ⟨hl, hi1, hi2, hi3⟩
  have ib : (1 ≤ i1 ∧ i1 + 1 < b) ∧ (1 ≤ i2 ∧ i2 + 1 < b) ∧ (1 ≤ i3 ∧ i3 + 1 < b) ∧ a + 1 ≤ i1 ∧ a + 1 ≤ i2 ∧ a + 1 ≤ i3 := by omega
  clear hq hl hi1 hi2 hi3
  have hG0 := h.lt
  have HA := hidden (fun (i : Nat) (s K : Int) (W : World) (h' : SU c W G d) (hi : 1 ≤ i) (hi2 : i + 1 < m) (hT : w.heap.size < W.heap.size) (z0 : W.cell? ⟨w.heap.size, 0, none⟩ = some (.int .i64 s)) (z1 : W.frozen? ⟨w.heap.size, 0, none⟩ = false) (z2 : 0 ≤ s) (z3 : s ≤ K) (z4 : K ≤ 900) => umedadj_any nd sv D G c m i w.heap.size s K d W h' hm hmm hF hK hi hi2 hT (by omega) z0 z1 z2 z3 z4)
  have HMd := hidden (fun (i j k : Nat) (s K : Int) (W : World) (h' : SU c W G d) (hi : i < m) (hj : j < m) (hk : k < m) (hT : w.heap.size < W.heap.size) (z0 : W.cell? ⟨w.heap.size, 0, none⟩ = some (.int .i64 s)) (z1 : W.frozen? ⟨w.heap.size, 0, none⟩ = false) (z2 : 0 ≤ s) (z3 : s ≤ K) (z4 : K ≤ 900) => umedian_any nd sv D G c m i j k w.heap.size s K d W h' hm hmm hF hK hi hj hk hT (by omega) z0 z1 z2 z3 z4)
  have HP := PB.new w #[.int .i64 0] 3
  have t0 : (w.alloc (.cells #[.int .i64 0] 3)).cell? ⟨w.heap.size, 0, none⟩ = some (.int .i64 0) := HP.cell 0
  have t1 := HP.frozen 0
  have hT := HP.lt
  have hal : Below w.heap.size w (w.alloc (.cells #[.int .i64 0] 3)) := (Below.refl _ _).alloc (Nat.le_refl _) _
  have HS0 := hidden (h.below hal)
  have HK0 : Hid (Keep w.heap.size w (w.alloc (.cells #[.int .i64 0] 3))) := (Keep.refl _ _).alloc _
  clear h hF hK HP hal hm
  by_cases h50 : 50 ≤ l
  · have h50i : (50 : Int) ≤ (l : Int) := by omega
    have k1 := HA.out i1 0 0 _ HS0.out ib.1.1 (by omega) hT t0 t1 (by omega) (by omega) (by omega)
    go_enter Try.func124, Try.ntmps124
    go_wp2_with fail
    with_reducible refine k1.mono ?_
    rintro e w1 ⟨x1, rfl, ⟨xa1, xb1⟩, hs1, s1, a1, b1, c1, d1, hk1⟩
    have hT1 := Nat.lt_of_lt_of_le hT hk1.size
    have k2 := HA.out i2 s1 3 _ hs1 ib.2.1.1 (by omega) hT1 a1 b1 c1 (by omega) (by omega)
    have HK1 := hidden (HK0.out.trans hk1)
    clear k1 hs1 a1 b1 hk1 HK0 HS0 t0 t1
    go_wp2_with fail
    with_reducible refine k2.mono ?_
    rintro e w2 ⟨x2, rfl, ⟨xa2, xb2⟩, hs2, s2, a2, b2, c2, d2, hk2⟩
    have hT2 := Nat.lt_of_lt_of_le hT1 hk2.size
    have k3 := HA.out i3 s2 6 _ hs2 ib.2.2.1.1 (by omega) hT2 a2 b2 c2 (by omega) (by omega)
    have HK2 := hidden (HK1.out.trans hk2)
    clear k2 hs2 a2 b2 hk2 HK1
    go_wp2_with fail
    with_reducible refine k3.mono ?_
    rintro e w3 ⟨x3, rfl, ⟨xa3, xb3⟩, hs3, s3, a3, b3, c3, d3, hk3⟩
    have hT3 := Nat.lt_of_lt_of_le hT2 hk3.size
    have k4 := HMd.out x1 x2 x3 s3 9 _ hs3 (by omega) (by omega) (by omega) hT3 a3 b3 c3 (by omega) (by omega)
    have HK3 := hidden (HK2.out.trans hk3)
    clear k3 hs3 a3 b3 hk3 HK2
    go_wp2_with fail
    with_reducible refine k4.mono ?_
    rintro e w4 ⟨x4, rfl, hx4, hs4, s4, a4, b4, c4, d4, hk4⟩
    have HX : Hid (a ≤ x4 ∧ x4 < b) := by show _ ∧ _; omega
    have HB : Hid (Below w.heap.size w w4) := (HK3.out.trans hk4).below (Nat.le_refl _) (Nat.le_refl _)
    have HS4 := hidden hs4
    clear k4 hs4 hk4 HK3 hx4 HA HMd
    by_cases e0 : s4 = 0
    · subst e0
      go_wp2_with fail
      go_ret2
      exact ⟨x4, 1, rfl, HX.out, HS4.out, HB.out⟩
    · have e0b : (s4 == 0) = false := by rw [beq_eq_false_iff_ne]; exact e0
      by_cases e1 : s4 = 12
      · subst e1
        go_wp2_with fail
        go_ret2
        exact ⟨x4, 2, rfl, HX.out, HS4.out, HB.out⟩
      · have e1b : (s4 == 12) = false := by rw [beq_eq_false_iff_ne]; exact e1
        go_wp2_with fail
        go_ret2
        exact ⟨x4, 0, rfl, HX.out, HS4.out, HB.out⟩
  · have h50i : ¬ (50 : Int) ≤ (l : Int) := by omega
    have k4 := HMd.out i1 i2 i3 0 0 _ HS0.out (by omega) (by omega) (by omega) hT t0 t1 (by omega) (by omega) (by omega)
    go_enter Try.func124, Try.ntmps124
    go_wp2_with fail
    with_reducible refine k4.mono ?_
    rintro e w4 ⟨x4, rfl, hx4, hs4, s4, a4, b4, c4, d4, hk4⟩
    have HX : Hid (a ≤ x4 ∧ x4 < b) := by show _ ∧ _; omega
    have HB : Hid (Below w.heap.size w w4) := (HK0.out.trans hk4).below (Nat.le_refl _) (Nat.le_refl _)
    have HS4 := hidden hs4
    clear k4 hs4 hk4 HK0 hx4 HA HMd t0 t1 HS0
    by_cases e0 : s4 = 0
    · subst e0
      go_wp2_with fail
      go_ret2
      exact ⟨x4, 1, rfl, HX.out, HS4.out, HB.out⟩
    · have e0b : (s4 == 0) = false := by rw [beq_eq_false_iff_ne]; exact e0
      by_cases e1 : s4 = 12
      · subst e1
        go_wp2_with fail
        go_ret2
        exact ⟨x4, 2, rfl, HX.out, HS4.out, HB.out⟩
      · have e1b : (s4 == 12) = false := by rw [beq_eq_false_iff_ne]; exact e1
        go_wp2_with fail
        go_ret2
        exact ⟨x4, 0, rfl, HX.out, HS4.out, HB.out⟩
end Go.Proofs.Ytgcpiinmcbdkmaa

namespace Go.Proofs
open Go.Shelf
def Try.srtL_ren : Go.Shelf.Ren := ⟨fun | 5 => 103 | 8 => 86 | 7 => 135 | 19 => 129 | 20 => 130 | 10 => 150 | 11 => 151 | 12 => 152 | 13 => 153 | 14 => 154 | 15 => 155 | 16 => 156 | 17 => 157 | 18 => 158 | 30 => 169 | 31 => 145 | 32 => 146 | 33 => 170 | 34 => 171 | 35 => 132 | 40 => 177 | n => n, fun | 23 => 25 | 25 => 2 | 3 => 3 | 32 => 127 | 22 => 25 | 0 => 0 | 44 => 166 | 46 => 168 | 4 => 4 | 36 => 159 | 35 => 158 | 41 => 163 | 5 => 5 | 9 => 9 | 53 => 186 | 57 => 190 | 63 => 206 | 64 => 207 | n => n, fun | n => n⟩
theorem Try.srtL : Go.Proofs.SlLaysM.n5 Try.prog Try.srtL_ren := {
  mixed := by kernel_rfl
  f5 := ⟨Try.f103.name, by decide, Try.func103.trans (congrArg some (by kernel_rfl))⟩
  f7 := ⟨Try.f135.name, by decide, Try.func135.trans (congrArg some (by kernel_rfl))⟩
  f8 := Try.func86.trans (congrArg some (by kernel_rfl))
  f10 := ⟨Try.f150.name, by decide, Try.func150.trans (congrArg some (by kernel_rfl))⟩
  f11 := ⟨Try.f151.name, by decide, Try.func151.trans (congrArg some (by kernel_rfl))⟩
  f12 := ⟨Try.f152.name, by decide, Try.func152.trans (congrArg some (by kernel_rfl))⟩
  f13 := ⟨Try.f153.name, by decide, Try.func153.trans (congrArg some (by kernel_rfl))⟩
  f14 := ⟨Try.f154.name, by decide, Try.func154.trans (congrArg some (by kernel_rfl))⟩
  f15 := ⟨Try.f155.name, by decide, Try.func155.trans (congrArg some (by kernel_rfl))⟩
  f16 := ⟨Try.f156.name, by decide, Try.func156.trans (congrArg some (by kernel_rfl))⟩
  f17 := ⟨Try.f157.name, by decide, Try.func157.trans (congrArg some (by kernel_rfl))⟩
  f18 := ⟨Try.f158.name, by decide, Try.func158.trans (congrArg some (by kernel_rfl))⟩
  f19 := Try.func129.trans (congrArg some (by kernel_rfl))
  f20 := Try.func130.trans (congrArg some (by kernel_rfl))
  f30 := ⟨Try.f169.name, by decide, Try.func169.trans (congrArg some (by kernel_rfl))⟩
  f31 := Try.func145.trans (congrArg some (by kernel_rfl))
  f32 := Try.func146.trans (congrArg some (by kernel_rfl))
  f33 := ⟨Try.f170.name, by decide, Try.func170.trans (congrArg some (by kernel_rfl))⟩
  f34 := ⟨Try.f171.name, by decide, Try.func171.trans (congrArg some (by kernel_rfl))⟩
  f35 := ⟨Try.f132.name, by decide, Try.func132.trans (congrArg some (by kernel_rfl))⟩
  f40 := ⟨Try.f177.name, by decide, Try.func177.trans (congrArg some (by kernel_rfl))⟩
  t0 := Try.underlying0
  a0 := Try.isAgg0
  z0 := Try.sizeOf0
  v0 := Try.zeroValue0
  t3 := Try.underlying3
  a3 := Try.isAgg3
  z3 := Try.sizeOf3
  v3 := Try.zeroValue3
  t4 := Try.underlying4
  a4 := Try.isAgg4
  z4 := Try.sizeOf4
  v4 := Try.zeroValue4
  t5 := Try.underlying5
  a5 := Try.isAgg5
  z5 := Try.sizeOf5
  v5 := Try.zeroValue5
  t9 := Try.underlying9
  a9 := Try.isAgg9
  z9 := Try.sizeOf9
  v9 := Try.zeroValue9
  t22 := Try.underlying25
  a22 := Try.isAgg25
  z22 := Try.sizeOf25
  v22 := Try.zeroValue25
  t23 := Try.underlying25
  a23 := Try.isAgg25
  z23 := Try.sizeOf25
  v23 := Try.zeroValue25
  t25 := Try.underlying2
  a25 := Try.isAgg2
  z25 := Try.sizeOf2
  v25 := Try.zeroValue2
  t32 := Try.underlying127
  a32 := Try.isAgg127
  z32 := Try.sizeOf127
  v32 := Try.zeroValue127
  t35 := Try.underlying158
  a35 := Try.isAgg158
  z35 := Try.sizeOf158
  v35 := Try.zeroValue158
  t36 := Try.underlying159
  a36 := Try.isAgg159
  z36 := Try.sizeOf159
  v36 := Try.zeroValue159
  t41 := Try.underlying163
  a41 := Try.isAgg163
  z41 := Try.sizeOf163
  v41 := Try.zeroValue163
  t44 := Try.underlying166
  a44 := Try.isAgg166
  z44 := Try.sizeOf166
  v44 := Try.zeroValue166
  t46 := Try.underlying168
  a46 := Try.isAgg168
  z46 := Try.sizeOf168
  v46 := Try.zeroValue168
  t53 := Try.underlying186
  a53 := Try.isAgg186
  z53 := Try.sizeOf186
  v53 := Try.zeroValue186
  t57 := Try.underlying190
  a57 := Try.isAgg190
  z57 := Try.sizeOf190
  v57 := Try.zeroValue190
  t63 := Try.underlying206
  a63 := Try.isAgg206
  z63 := Try.sizeOf206
  v63 := Try.zeroValue206
  t64 := Try.underlying207
  a64 := Try.isAgg207
  z64 := Try.sizeOf207
  v64 := Try.zeroValue207 }
end Go.Proofs
