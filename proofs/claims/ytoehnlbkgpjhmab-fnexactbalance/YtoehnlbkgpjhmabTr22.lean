/-
  How many are in each arm, as the specification counts.
-/
import Derived.Test.YtoehnlbkgpjhmabTr21
import Derived.Test.YtoehnlbkgpjhmabTr9
namespace Go.Proofs.Ytoehnlbkgpjhmab
open Go.RowKit Go.WideShapes Va Lb Tr Go.Maps
set_option linter.all false

set_option maxRecDepth 20000 in
set_option maxHeartbeats 8000000 in
theorem sbalance_any (x : Tl) (ta : Option Addr) (tn tc : Nat) (w : World) (h : VRw 1 cvI w (.slice ta tn tc) x.coins) (hn : x.coins.length ≤ 1048576) :
    Calls Try.prog 17 #[aT x (.slice ta tn tc)] w fun e w' => ∃ v, e = .returned v ∧ VOwn 1 cvI w' w.heap.size v (balance x) ∧ Below w.heap.size w w' := by
  obtain rfl := h.len
  have HTO := hidden (fun W hW => strial_any x ta x.coins.length tc W hW hn)
  have HP := hidden (PB.new w #[.int .i64 x.arms, .int .i64 x.block, .slice ta x.coins.length tc, .int .i64 x.told] 27)
  have hb0 : Below w.heap.size w (w.alloc (.cells #[.int .i64 x.arms, .int .i64 x.block, .slice ta x.coins.length tc, .int .i64 x.told] 27)) := (Below.refl _ _).alloc (Nat.le_refl _) _
  have hsA : w.heap.size < (w.alloc (.cells #[.int .i64 x.arms, .int .i64 x.block, .slice ta x.coins.length tc, .int .i64 x.told] 27)).heap.size := by simp
  have HH := hidden h
  clear h
  have HV : Hid (balance x = if trialB x = true then bal x x.told.toNat else []) := rfl
  generalize balance x = R at *
  unfold aT at *
  obtain ⟨i0, hi0, hv0, hv1, hv2⟩ := info_partsW infoW64
  go_enter Try.func17, Try.ntmps17
  go_upto_region 1 with fail
  generalize w.alloc (.cells #[.int .i64 x.arms, .int .i64 x.block, .slice ta x.coins.length tc, .int .i64 x.told] 27) = wA at *
  have hK := HTO.out wA (HH.out.below hb0)
  obtain ⟨c0, c1, c2, c3⟩ := HP.out.four
  by_cases q1 : trialB x = true
  case neg =>
    have hR : Hid (R = []) := by rw [Hid, HV.out, if_neg q1]
    have q2 : trialB x = false := by simpa using q1
    rw [q2] at hK
    clear q1 q2 HTO
    go_wp2_with (with_reducible refine hK.mono ?_; rintro e w1 ⟨rfl, hb1⟩; have HB1 := hidden (onto hb0 hb1); clear hb1)
    go_ret
    rw [hR.out]
    exact ⟨_, rfl, VOwn.nil _ _ _ _, HB1.out.alloc HB1.out.size _⟩
  rw [q1] at hK
  have hR : Hid (R = bal x x.told.toNat) := by rw [Hid, HV.out, if_pos q1]
  obtain ⟨⟨a1, a2⟩, ⟨b1, b2⟩, -, -, ⟨t1, t2⟩, -⟩ := trialB_iff.1 q1
  have HXA : Hid (x.arms = (x.a : Int)) := by rw [Hid]; unfold Tl.a; omega
  have HXB : Hid (x.block = (x.b : Int)) := by rw [Hid]; unfold Tl.b; omega
  obtain ⟨T, hT⟩ := Int.eq_ofNat_of_zero_le t1
  have HXT := hidden hT
  have HQ1 := hidden q1
  have HSB := hidden (fun d hd W hW => sblock_any x ta x.coins.length tc d W hW q1 hd)
  unfold aT at HSB
  have ha5 : x.a ≤ 5 := by have := HXA.out; omega
  have hb20 : x.b ≤ 20 := by have := HXB.out; omega
  have hbp := b_pos q1
  clear q1 HTO hT
  go_upto_region 3 with (with_reducible refine hK.mono ?_; rintro e w1 ⟨rfl, hb1⟩)
  clear c0 c1 c2 c3 hK
  have HB1 := hidden (onto hb0 hb1)
  have HP1 := hidden (HP.out.below hb1)
  have hs1 : w.heap.size < w1.heap.size := Nat.lt_of_lt_of_le hsA hb1.size
  clear HP hb1
  obtain ⟨c0, c1, c2, c3⟩ := HP1.out.four
  go_wp2_with (refine wpList_make_full _ rfl (.tmp 11) (.tmp 11) 22 rfl w1.heap.size 2 i0 (.int .i64 0) 1 Try.underlying22 hi0 hv0 hv1 .i64 .i64 _ _ x.a rfl rfl HXA.out HXA.out (by rw [hv2]; omega) (by unfold maxLen; omega) (Nat.le_refl _) ?_; intro w2 ho2 hg2; have hbm : Below w1.heap.size w1 w2 := (Below.refl _ w1).grown hg2 (Nat.le_refl _) (by simp); have hzz : w1.heap.size < w2.heap.size := (by obtain ⟨_, ⟨h3, _⟩ | ⟨g, cap, cur, h3, _, h5, _⟩⟩ := ho2; (cases h3); (simp at h3; rw [h3.1]; exact (Array.getElem?_eq_some_iff.1 h5).1)); rw [made_intsT] at ho2; have hown := vownI (L := List.replicate x.a (0 : Int)) (by simpa using ho2); clear ho2 hg2 c0 c1 c2 c3; obtain ⟨c0, c1, c2, c3⟩ := (HP1.out.below hbm).four)
  obtain ⟨-, -, G0, hG0, -, hir0⟩ := IR.of_own hown (by simp; have := HXA.out; omega)
  obtain rfl : G0 = w1.heap.size := by simpa using hG0.symm
  clear hG0 hown
  rw [← bal_zero] at hir0
  have HM2 := hidden hbm
  have HI0 := hidden hir0
  clear hbm hir0
  have hba : Below w1.heap.size w1 (w2.alloc (.cells #[] 2)) := HM2.out.alloc HM2.out.size _
  have HIA := hidden (HI0.out.below (w' := w2.alloc (.cells #[] 2)) ((Below.refl _ _).alloc (Nat.le_refl _) _))
  go_loopw [4, 5] (fun bv iv wr => ∃ n : Nat, iv = .int .i64 n ∧ n ≤ T ∧ IR wr w1.heap.size (bal x n) ∧ (n % x.b ≠ 0 → ∃ G c, bv = .slice (some ⟨G, 0, none⟩) x.b c ∧ w1.heap.size < G ∧ IR wr G (blk x (n / x.b))) ∧ Below w1.heap.size w1 wr ∧ w1.heap.size < wr.heap.size) (fun _ iv _ => T - (intOf iv).toNat)
  case atStart => exact ⟨0, rfl, by omega, HIA.out, fun hh => absurd (Nat.zero_mod _) hh, hba, by simp; omega⟩
  case round =>
    clear c0 c1 c2 c3 HI0 HM2 hzz hba HIA
    obtain ⟨n, rfl, hnT, hir, hbl, hb, hlt1⟩ := hrel
    have HBLK := hidden hbl
    clear hbl
    have HPr := hidden (HP1.out.below hb)
    obtain ⟨c0, c1, c2, c3⟩ := HPr.out.four
    by_cases hlt : n < T
    · have hlti : (n : Int) < x.told := by have := HXT.out; omega
      have hn1000 : n ≤ 1000 := by have := HXT.out; omega
      have hdv : (n : Int) / x.block = ((n / x.b : Nat) : Int) := by rw [HXB.out]; exact (Int.natCast_ediv _ _).symm
      have hdt : (n : Int).tdiv x.block = ((n / x.b : Nat) : Int) := by rw [HXB.out]; rfl
      have hmd : (n : Int) % x.block = ((n % x.b : Nat) : Int) := by rw [HXB.out]; exact (Int.natCast_emod _ _).symm
      have hmt : (n : Int).tmod x.block = ((n % x.b : Nat) : Int) := by rw [HXB.out]; rfl
      have hz0 : ¬ x.block = 0 := by omega
      have hq9 : n / x.b ≤ 1000 := Nat.le_trans (Nat.div_le_self _ _) hn1000
      have hmb : n % x.b < x.b := Nat.mod_lt n hbp
      have hal := alloc_get HQ1.out n
      have har := alloc_rng HQ1.out n
      obtain ⟨a, haa⟩ := Int.eq_ofNat_of_zero_le har.1
      have hax : a < x.a := by have := HXA.out; omega
      have hcc := bal_get (x := x) (n := n) hax
      have HBS := hidden (bal_succ x n haa hax hcc)
      have hcr := bal_rng hcc
      generalize ((((List.range n).countP fun i => decide (alloc x i = (a : Int)) : Nat)) : Int) = c at *
      rw [haa] at hal
      obtain ⟨hcr0, hcr1⟩ := hcr
      have hc2000 : c ≤ 2000 := by omega
      have HAL := hidden hal
      have HCC := hidden hcc
      have HMOD : Hid ((n + 1) % x.b ≠ 0 → (n + 1) / x.b = n / x.b) := fun hh => by
        rw [Nat.succ_div, if_neg (fun hd => hh (Nat.mod_eq_zero_of_dvd hd)), Nat.add_zero]
      clear hal hcc haa har
      have HIR := hidden hir
      have HB := hidden hb
      have HBl := HPr.out.lt
      clear hir hb
      have hsz := HB.out.size
      go_upto_if 24 with fail
      generalize hBq : ((n : Int) % (x.b : Int) == 0) = bq
      go_cut [4] from 14 to 50 (fun bv wc => ∃ G c, bv = .slice (some ⟨G, 0, none⟩) x.b c ∧ w1.heap.size < G ∧ IR wc G (blk x (n / x.b)) ∧ Below wr.heap.size wr wc)
      case first =>
        cases bq with
        | true =>
          have hz : n % x.b = 0 := by have : ((n % x.b : Nat) : Int) = 0 := (by rw [Int.natCast_emod]; simpa using hBq); omega
          clear hBq
          have HSW := hidden (fun W (hW : Below wr.heap.size wr W) => HSB.out (n / x.b) hq9 W (HH.out.below (HB1.out.trans ((HB.out.trans (hW.mono hsz)).mono HB1.out.size))))
          clear hz
          go_upto_region 9 with fail
          refine regSb9 (n := n) (d := n / x.b) (nb := x.b) (base := wr.heap.size) (L := blk x (n / x.b)) rfl rfl rfl HBl c0 c1 c2 c3 hz0 b1 hdt hdv hq9 (Nat.le_refl _) HSW.out ?_
          rintro b' w3 hf hb3 ⟨G, c4, hv, hcc4, hG, hirG⟩
          rw [laySb9 hf, hv]
          clear hv hf
          generalize Rg.out (Rg.opsOf Try.f17 9) b' 0 = y0
          generalize Rg.out (Rg.opsOf Try.f17 9) b' 1 = y1
          generalize Rg.out (Rg.opsOf Try.f17 9) b' 2 = y2
          generalize Rg.out (Rg.opsOf Try.f17 9) b' 3 = y3
          generalize Rg.out (Rg.opsOf Try.f17 9) b' 4 = y4
          generalize Rg.out (Rg.opsOf Try.f17 9) b' 5 = y5
          go_frame
          have HIG := hidden hirG
          have HB3 := hidden hb3
          clear hirG hb3
          first | go_meet | (go_wp2_with fail; go_meet)
          case rel => exact ⟨G, c4, rfl, by omega, HIG.out, HB3.out⟩
        | false =>
          have hz : n % x.b ≠ 0 := by intro hh; have : ((n % x.b : Nat) : Int) = 0 := (by omega); rw [Int.natCast_emod] at this; simp [this] at hBq
          clear hBq
          obtain ⟨G, c4, rfl, hG, hirG⟩ := HBLK.out hz
          have HIG := hidden hirG
          clear hirG hz
          go_wp2_with fail
          go_meet
          case rel => exact ⟨G, c4, rfl, hG, HIG.out, Below.refl _ _⟩
      case rest =>
        obtain ⟨G, c4, rfl, hG, hirG, hbc⟩ := hcut
        have hircnt := HIR.out.below hbc
        obtain ⟨z0, z1⟩ := hircnt.2 _ _ HCC.out
        obtain ⟨y0, -⟩ := hirG.2 _ _ HAL.out
        have x1 := ((HPr.out.below hbc).four).2.1
        have HBl2 := (HPr.out.below hbc).lt
        have hGl := hirG.1
        have hCl := hircnt.1
        have HIC := hidden hircnt
        have HIG := hidden hirG
        have HBC := hidden hbc
        clear hircnt hirG hbc c0 c1 c2 c3 hdv hdt
        go_upto_region 10 with fail
        refine regSb10 (n := n) (m := n % x.b) (ai := a) (bk := x.block) (c := c) rfl rfl rfl rfl rfl HBl2 x1 hGl hCl y0 z0 z1 hz0 b1 hmt hmd hmb hax hcr0 hc2000 ?_
        rintro b' w9 hf ⟨w8, hb8, rfl⟩
        rw [laySb10 hf]
        clear hf
        generalize Rg.out (Rg.opsOf Try.f17 10) b' 0 = yy0
        generalize Rg.out (Rg.opsOf Try.f17 10) b' 1 = yy1
        generalize Rg.out (Rg.opsOf Try.f17 10) b' 2 = yy2
        generalize Rg.out (Rg.opsOf Try.f17 10) b' 3 = yy3
        generalize Rg.out (Rg.opsOf Try.f17 10) b' 4 = yy4
        generalize Rg.out (Rg.opsOf Try.f17 10) b' 5 = yy5
        generalize Rg.out (Rg.opsOf Try.f17 10) b' 6 = yy6
        generalize Rg.out (Rg.opsOf Try.f17 10) b' 7 = yy7
        generalize Rg.out (Rg.opsOf Try.f17 10) b' 8 = yy8
        generalize Rg.out (Rg.opsOf Try.f17 10) b' 9 = yy9
        generalize Rg.out (Rg.opsOf Try.f17 10) b' 10 = yy10
        generalize Rg.out (Rg.opsOf Try.f17 10) b' 11 = yy11
        generalize Rg.out (Rg.opsOf Try.f17 10) b' 12 = yy12
        generalize Rg.out (Rg.opsOf Try.f17 10) b' 13 = yy13
        generalize Rg.out (Rg.opsOf Try.f17 10) b' 14 = yy14
        generalize Rg.out (Rg.opsOf Try.f17 10) b' 15 = yy15
        generalize Rg.out (Rg.opsOf Try.f17 10) b' 16 = yy16
        generalize Rg.out (Rg.opsOf Try.f17 10) b' 17 = yy17
        generalize Rg.out (Rg.opsOf Try.f17 10) b' 18 = yy18
        generalize Rg.out (Rg.opsOf Try.f17 10) b' 19 = yy19
        generalize Rg.out (Rg.opsOf Try.f17 10) b' 20 = yy20
        go_frame
        have HB8 := hidden hb8
        clear hb8 z0 z1 y0 x1 hmt hmd
        go_wp2_with fail
        go_roundw
        case rel =>
          refine ⟨n + 1, rfl, by omega, ?_, fun hh => ⟨G, c4, rfl, hG, ?_⟩, ((HB.out.trans (HBC.out.mono hsz)).trans (HB8.out.mono (Nat.le_trans hsz HBC.out.size))).setCell (p := ⟨w1.heap.size, a, none⟩) (Nat.le_refl _) _, ?_⟩
          · rw [HBS.out]; exact (HIC.out.below HB8.out).set a (c + 1)
          · rw [HMOD.out hh]; exact (HIG.out.below HB8.out).far (by omega) a _
          · have := HB8.out.size; have := HBC.out.size; simp only [World.setCell, Array.size_modify]; omega
        case measure => simp [intOf]; omega
    · have hlti : ¬ (n : Int) < x.told := by have := HXT.out; omega
      have HIR := hidden hir
      have HBB := hidden (HB1.out.trans (hb.mono HB1.out.size))
      have hTT : Hid (R = bal x n) := by rw [Hid, hR.out, HXT.out]; congr 1; show T = n; omega
      clear hir hb
      go_wp2_with fail
      go_ret
      rw [hTT.out]
      have hl := bal_len x n
      exact ⟨_, rfl, by have h0 := HIR.out.own (base := w.heap.size) (by omega) x.a (by omega); rw [hl] at h0; exact h0, HBB.out⟩
end Go.Proofs.Ytoehnlbkgpjhmab
