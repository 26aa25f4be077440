/-
  The arm of a number, as the specification says.
-/
import Derived.Test.YtoehnlbkgpjhmaaTr9a
namespace Go.Proofs.Ytoehnlbkgpjhmaa
open Go.RowKit Go.WideShapes Va Lb Tr Go.Maps
set_option linter.all false

set_option maxRecDepth 20000 in
set_option maxHeartbeats 8000000 in
theorem salloc_any (x : Tl) (ta : Option Addr) (tn tc : Nat) (i : Int) (w : World) (h : VRw 1 cvI w (.slice ta tn tc) x.coins) (hn : x.coins.length ≤ 1048576) :
    Calls Try.prog 12 #[aT x (.slice ta tn tc), .int .i64 i] w fun e w' => e = .returned (.int .i64 (allocation x i)) ∧ Below w.heap.size w w' := by
  obtain rfl := h.len
  have HTO := hidden (fun W hW => strial_any x ta x.coins.length tc W hW hn)
  have k1 := lin_any i 0 999
  have HV : Hid (allocation x i = if trialB x = true ∧ 0 ≤ i ∧ i ≤ 999 then alloc x i.toNat else -1) := rfl
  have HP := hidden (PB.new w #[.int .i64 x.arms, .int .i64 x.block, .slice ta x.coins.length tc, .int .i64 x.told] 26)
  have hb0 : Below w.heap.size w (w.alloc (.cells #[.int .i64 x.arms, .int .i64 x.block, .slice ta x.coins.length tc, .int .i64 x.told] 26)) := (Below.refl _ _).alloc (Nat.le_refl _) _
  have HH := hidden h
  clear h
  generalize allocation x i = A at *
  unfold aT at *
  go_enter Try.func12, Try.ntmps12
  go_upto_region 1 with fail
  generalize w.alloc (.cells #[.int .i64 x.arms, .int .i64 x.block, .slice ta x.coins.length tc, .int .i64 x.told] 26) = wA at *
  have hK := HTO.out wA (HH.out.below hb0)
  obtain ⟨c0, c1, c2, c3⟩ := HP.out.four
  by_cases q1 : trialB x = true
  case neg =>
    have hR : Hid (A = -1) := by rw [Hid, HV.out, if_neg (fun hh => q1 hh.1)]
    have q2 : trialB x = false := by simpa using q1
    rw [q2] at hK
    clear HV q1 q2 HTO
    go_wp2_with (with_reducible (first | refine hK.mono ?_; rintro e w1 ⟨rfl, hb1⟩))
    all_goals go_ret
    all_goals exact ⟨ret_intT hR.out.symm, onto hb0 hb1⟩
  rw [q1] at hK
  by_cases q2 : 0 ≤ i ∧ i ≤ 999
  case neg =>
    have hR : Hid (A = -1) := by rw [Hid, HV.out, if_neg (fun hh => q2 hh.2)]
    rw [show rng i 0 999 = false from by cases hc : rng i 0 999 with | false => rfl | true => exact absurd (rng_iff.1 hc) q2] at k1
    clear HV q1 q2 HTO
    go_wp2_with (first | (with_reducible refine hK.mono ?_; rintro e w1 ⟨rfl, hb1⟩) | (with_reducible refine (k1 _).mono ?_; rintro e w2 ⟨rfl, rfl⟩))
    all_goals go_ret
    all_goals exact ⟨ret_intT hR.out.symm, onto hb0 hb1⟩
  rw [rng_iff.2 q2] at k1
  obtain ⟨n, rfl⟩ := Int.eq_ofNat_of_zero_le q2.1
  have hn9 : n ≤ 999 := by omega
  have hR : Hid (A = alloc x n) := by rw [Hid, HV.out, if_pos ⟨q1, q2⟩]; rfl
  have HG := hidden (alloc_get q1 n)
  have HSB := hidden (fun W hW => sblock_any x ta x.coins.length tc (n / x.b) W hW q1 (Nat.le_trans (Nat.div_le_self _ _) (by omega)))
  unfold aT at HSB
  have hbp := b_pos q1
  have hxb : x.block = (x.b : Int) := by have := trialB_iff.1 q1; unfold Tl.b; omega
  have HXB := hidden hxb
  clear hxb
  clear HV q1 q2 HTO
  go_upto_region 3 with (first | (with_reducible refine hK.mono ?_; rintro e w1 ⟨rfl, hb1⟩) | (with_reducible refine (k1 _).mono ?_; rintro e w2 ⟨rfl, rfl⟩))
  clear c0 c1 c2 c3 hK k1
  have HB1 := hidden (onto hb0 hb1)
  obtain ⟨c0, c1, c2, c3⟩ := (HP.out.below hb1).four
  have HSB1 := hidden (fun W (hW : Below w1.heap.size w1 W) => HSB.out W (HH.out.below (HB1.out.trans (hW.mono HB1.out.size))))
  have hdv : (n : Int) / x.block = ((n / x.b : Nat) : Int) := by rw [HXB.out]; exact (Int.natCast_ediv _ _).symm
  have hdt : (n : Int).tdiv x.block = ((n / x.b : Nat) : Int) := by rw [HXB.out]; rfl
  have hmd : (n : Int) % x.block = ((n % x.b : Nat) : Int) := by rw [HXB.out]; exact (Int.natCast_emod _ _).symm
  have hmt : (n : Int).tmod x.block = ((n % x.b : Nat) : Int) := by rw [HXB.out]; rfl
  have hz0 : ¬ x.block = 0 := by have := HXB.out; omega
  have hz1 : (x.block == 0) = false := by rw [beq_eq_false_iff_ne]; exact hz0
  have hlt : ((n % x.b : Nat) : Int) < (x.b : Int) := by have := Nat.mod_lt n hbp; omega
  have hltN : n % x.b < x.b := Nat.mod_lt n hbp
  have hd9 : n / x.b ≤ 999 := Nat.le_trans (Nat.div_le_self _ _) (by omega)
  have HBl := (HP.out.below hb1).lt
  have hbk : 1 ≤ x.block := by have := HXB.out; omega
  have HPW := hidden (fun W (hW : Below w1.heap.size w1 W) => (HP.out.below (hb1.trans (hW.mono hb1.size))).four)
  have hm1 : ¬ x.block = -1 := by have := HXB.out; omega
  clear HSB HH HXB hb1 HP hbp hb0
  generalize n / x.b = d at *
  generalize n % x.b = m at *
  have HB1x := hidden (fun W (hW : Below w1.heap.size w1 W) => HB1.out.trans (hW.mono HB1.out.size))
  refine regAl3 (n := n) (d := d) (m := m) (nb := x.b) (L := blk x d) (A := alloc x n) rfl rfl rfl HBl c0 c1 c2 c3 hz0 hbk hdt hdv hmt hmd hd9 hltN HG.out HSB1.out ?_
  intro b' w3 hf hb3 hv
  rw [layAl3 hf, hv]
  clear hv hf
  generalize Rg.out (Rg.opsOf Try.f12 3) b' 0 = y0
  generalize Rg.out (Rg.opsOf Try.f12 3) b' 1 = y1
  generalize Rg.out (Rg.opsOf Try.f12 3) b' 2 = y2
  generalize Rg.out (Rg.opsOf Try.f12 3) b' 3 = y3
  generalize Rg.out (Rg.opsOf Try.f12 3) b' 4 = y4
  generalize Rg.out (Rg.opsOf Try.f12 3) b' 5 = y5
  generalize Rg.out (Rg.opsOf Try.f12 3) b' 6 = y6
  generalize Rg.out (Rg.opsOf Try.f12 3) b' 7 = y7
  generalize Rg.out (Rg.opsOf Try.f12 3) b' 8 = y8
  generalize Rg.out (Rg.opsOf Try.f12 3) b' 9 = y9
  generalize Rg.out (Rg.opsOf Try.f12 3) b' 10 = y10
  generalize Rg.out (Rg.opsOf Try.f12 3) b' 11 = y11
  go_frame
  go_wp2_with fail
  go_ret
  exact ⟨ret_intT hR.out.symm, HB1x.out _ hb3⟩
end Go.Proofs.Ytoehnlbkgpjhmaa
