/-
  The arm of a number, as the program says.
-/
import Derived.Test.YtoehnlbkgpjhmaaTr13a
namespace Go.Proofs.Ytoehnlbkgpjhmaa
open Go.RowKit Go.WideShapes Va Lb Tr Go.Maps
set_option linter.all false

set_option maxRecDepth 20000 in
set_option maxHeartbeats 8000000 in
theorem ialloc_any (x : Tl) (ta : Option Addr) (tn tc : Nat) (i : Int) (w : World) (h : VRw 1 cvI w (.slice ta tn tc) x.coins) (hn : x.coins.length ≤ 1048576) :
    Calls Try.prog 11 #[aT x (.slice ta tn tc), .int .i64 i] w fun e w' => e = .returned (.int .i64 (allocation x i)) ∧ Below w.heap.size w w' := by
  obtain rfl := h.len
  have HTO := hidden (fun W hW => itrial_any x ta x.coins.length tc W hW hn)
  have HV : Hid (allocation x i = if trialB x = true ∧ 0 ≤ i ∧ i ≤ 999 then alloc x i.toNat else -1) := rfl
  have HP := hidden (PB.new w #[.int .i64 x.arms, .int .i64 x.block, .slice ta x.coins.length tc, .int .i64 x.told] 26)
  have hb0 : Below w.heap.size w (w.alloc (.cells #[.int .i64 x.arms, .int .i64 x.block, .slice ta x.coins.length tc, .int .i64 x.told] 26)) := (Below.refl _ _).alloc (Nat.le_refl _) _
  have HH := hidden h
  clear h
  generalize allocation x i = A at *
  unfold aT at *
  go_enter Try.func11, Try.ntmps11
  go_upto_region 1 with fail
  generalize w.alloc (.cells #[.int .i64 x.arms, .int .i64 x.block, .slice ta x.coins.length tc, .int .i64 x.told] 26) = wA at *
  have hK := HTO.out wA (HH.out.below hb0)
  obtain ⟨c0, c1, c2, c3⟩ := HP.out.four
  by_cases q1 : trialB x = true
  case neg =>
    have hR : Hid (A = -1) := by rw [Hid, HV.out, if_neg (fun hh => q1 hh.1)]
    have q2 : trialB x = false := by simpa using q1
    rw [q2] at hK
    clear HV q1 q2 HTO
    go_wp2_with (with_reducible refine hK.mono ?_; rintro e w1 ⟨rfl, hb1⟩)
    all_goals go_ret
    all_goals exact ⟨ret_intT hR.out.symm, onto hb0 hb1⟩
  rw [q1] at hK
  by_cases q2 : i < 0
  · have hR : Hid (A = -1) := by rw [Hid, HV.out, if_neg (fun hh => by omega)]
    clear HV q1 HTO
    go_wp2_with (with_reducible refine hK.mono ?_; rintro e w1 ⟨rfl, hb1⟩)
    all_goals go_ret
    all_goals exact ⟨ret_intT hR.out.symm, onto hb0 hb1⟩
  by_cases q3 : 1000 ≤ i
  · have hR : Hid (A = -1) := by rw [Hid, HV.out, if_neg (fun hh => by omega)]
    clear HV q1 HTO
    go_wp2_with (with_reducible refine hK.mono ?_; rintro e w1 ⟨rfl, hb1⟩)
    all_goals go_ret
    all_goals exact ⟨ret_intT hR.out.symm, onto hb0 hb1⟩
  obtain ⟨n, rfl⟩ := Int.eq_ofNat_of_zero_le (show 0 ≤ i by omega)
  have hn9 : n ≤ 999 := by omega
  have hR : Hid (A = alloc x n) := by rw [Hid, HV.out, if_pos ⟨q1, by omega, by omega⟩]; rfl
  have HG := hidden (alloc_get q1 n)
  have hbp := b_pos q1
  have hxb : x.block = (x.b : Int) := by have := trialB_iff.1 q1; unfold Tl.b; omega
  have HQ1 := hidden q1
  have HXB := hidden hxb
  clear HV q1 HTO hxb
  go_upto_region 3 with (with_reducible refine hK.mono ?_; rintro e w1 ⟨rfl, hb1⟩)
  clear c0 c1 c2 c3 hK
  have HB1 := hidden (onto hb0 hb1)
  obtain ⟨c0, c1, c2, c3⟩ := (HP.out.below hb1).four
  have hdv : (n : Int) / x.block = ((n / x.b : Nat) : Int) := by rw [HXB.out]; exact (Int.natCast_ediv _ _).symm
  have hdt : (n : Int).tdiv x.block = ((n / x.b : Nat) : Int) := by rw [HXB.out]; rfl
  have hmd : (n : Int) % x.block = ((n % x.b : Nat) : Int) := by rw [HXB.out]; exact (Int.natCast_emod _ _).symm
  have hmt : (n : Int).tmod x.block = ((n % x.b : Nat) : Int) := by rw [HXB.out]; rfl
  have hz0 : ¬ x.block = 0 := by have := HXB.out; omega
  have hbk : 1 ≤ x.block := by have := HXB.out; omega
  have hltN : n % x.b < x.b := Nat.mod_lt n hbp
  have hd9 : n / x.b ≤ 999 := Nat.le_trans (Nat.div_le_self _ _) (by omega)
  have HBl := (HP.out.below hb1).lt
  have HPB := hidden (HP.out.below hb1)
  clear HXB hb1 HP hbp
  generalize n / x.b = d at *
  generalize n % x.b = m at *
  refine regIa3 (x := x) (n := n) (d := d) (base := w1.heap.size) rfl rfl rfl HBl c0 c1 c2 c3 hz0 hbk hdt hdv hd9 (Nat.le_refl _) ?_
  rintro b' w3 hf hb3 ⟨Bo, Bt, Bb, Br, hv, hos⟩
  rw [layIa3 hf, hv]
  clear hv hf
  generalize Rg.out (Rg.opsOf Try.f11 3) b' 0 = y0
  generalize Rg.out (Rg.opsOf Try.f11 3) b' 1 = y1
  generalize Rg.out (Rg.opsOf Try.f11 3) b' 2 = y2
  generalize Rg.out (Rg.opsOf Try.f11 3) b' 3 = y3
  generalize Rg.out (Rg.opsOf Try.f11 3) b' 4 = y4
  generalize Rg.out (Rg.opsOf Try.f11 3) b' 5 = y5
  go_frame
  have HB3 := hidden hb3
  obtain ⟨c0', c1', c2', c3'⟩ := (HPB.out.below hb3).four
  have HOS := hidden hos
  clear hos hb3 c0 c1 c2 c3
  go_upto_region 4 with fail
  have HC : ∀ W, Below w3.heap.size w3 W → Calls Try.prog 64 #[.pointer (some ⟨Bo, 0, none⟩), .pointer (some ⟨Bt, 0, none⟩), .pointer (some ⟨Bb, 0, none⟩), .pointer (some ⟨Br, 0, none⟩)] W fun e w' => ∃ G, e = .returned (.slice (some ⟨G, 0, none⟩) x.b x.b) ∧ IR w' G (blk x d) ∧ Below w1.heap.size W w' := by
    intro W hW
    have hsz3 := HB3.out.size
    refine (otell_any x ta tc d w1.heap.size Bo Bt Bb Br W (Nat.le_trans hsz3 hW.size) (fun W2 hW2 => HH.out.below (HB1.out.trans (((HB3.out.trans (hW.mono hsz3)).trans hW2).mono HB1.out.size))) HQ1.out (by omega) (HOS.out.below hW)).mono ?_
    rintro e w' ⟨G, -, rfl, hir, -, hb⟩
    exact ⟨G, rfl, hir, hb⟩
  refine regIa4 (x := x) (n := n) (m := m) (nb := x.b) (base := w1.heap.size) (A := alloc x n) (L := blk x d) rfl rfl rfl rfl HBl c0' c1' c2' c3' hz0 hbk hmt hmd hltN HG.out HC ?_
  intro b'' w4 hf hb4 hv
  rw [layIa4 hf, hv]
  clear hv hf
  generalize Rg.out (Rg.opsOf Try.f11 4) b'' 0 = z0
  generalize Rg.out (Rg.opsOf Try.f11 4) b'' 1 = z1
  generalize Rg.out (Rg.opsOf Try.f11 4) b'' 2 = z2
  generalize Rg.out (Rg.opsOf Try.f11 4) b'' 3 = z3
  generalize Rg.out (Rg.opsOf Try.f11 4) b'' 4 = z4
  generalize Rg.out (Rg.opsOf Try.f11 4) b'' 5 = z5
  generalize Rg.out (Rg.opsOf Try.f11 4) b'' 6 = z6
  generalize Rg.out (Rg.opsOf Try.f11 4) b'' 7 = z7
  go_frame
  go_wp2_with fail
  go_ret
  exact ⟨ret_intT hR.out.symm, HB1.out.trans ((HB3.out.trans hb4).mono HB1.out.size)⟩
end Go.Proofs.Ytoehnlbkgpjhmaa
