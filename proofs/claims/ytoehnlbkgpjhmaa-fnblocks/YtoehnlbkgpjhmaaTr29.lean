/-
  Each whole block has each arm as often: the walk of the law.
-/
import Derived.Test.YtoehnlbkgpjhmaaTr28
namespace Go.Proofs.Ytoehnlbkgpjhmaa
open Go.RowKit Go.WideShapes Va Lb Tr Go.Maps
set_option linter.all false

set_option maxRecDepth 20000 in
set_option maxHeartbeats 8000000 in
theorem fblk_walk (ao : Option Addr) (cap : Nat) (bs : List Int) (w : World) (hb : Bytes w w.heap.size ao bs) :
    Calls Try.prog 3 #[.slice ao bs.length cap] w fun e w' => e = .returned (.bool true) ∧ Below w.heap.size w w' := by
  have kb := big_any ao cap bs.length w
  by_cases hbig : (4096 : Int) < (bs.length : Int)
  · rw [decide_eq_true hbig] at kb
    clear hb
    go_enter Try.func3, Try.ntmps3
    go_wp2_with fail
    refine kb.mono ?_
    rintro e w1 ⟨rfl, hw1⟩
    subst hw1
    go_wp2_with fail
    go_ret
    exact ⟨rfl, Below.refl _ _⟩
  rw [decide_eq_false hbig] at kb
  have hl : bs.length ≤ 4096 := by omega
  have HD := hidden (dalloc_any ao cap bs w hb (by omega))
  have HBY := hidden hb
  obtain ⟨i0, hi0, hv0, hv1, hv2⟩ := info_partsW infoW64
  clear hb hbig
  go_enter Try.func3, Try.ntmps3
  go_wp2_with fail
  refine kb.mono ?_
  rintro e w1 ⟨rfl, hw1⟩
  subst hw1
  clear kb
  go_wp2_with fail
  refine HD.out.mono ?_
  rintro e wD ⟨x, ad, c, at0, rfl, hx20, hrow, hbD⟩
  unfold aT
  have P0 := hidden (PB.new wD #[.int .i64 x.arms, .int .i64 x.block, .slice ad x.coins.length c, .int .i64 x.told] 26)
  have bx : Below wD.heap.size wD (wD.alloc (.cells #[.int .i64 x.arms, .int .i64 x.block, .slice ad x.coins.length c, .int .i64 x.told] 26)) := (Below.refl _ _).alloc (Nat.le_refl _) _
  have HR := hidden (hrow.below bx)
  have HB := hidden (hbD.trans (bx.mono hbD.size))
  have zB : w1.heap.size ≤ wD.heap.size := hbD.size
  clear hrow hbD bx HD
  go_upto_region 4 with fail
  generalize wD.alloc (.cells #[.int .i64 x.arms, .int .i64 x.block, .slice ad x.coins.length c, .int .i64 x.told] 26) = wX at *
  generalize hBX : wD.heap.size = BX at *
  clear hBX
  have hnc : x.coins.length ≤ 1048576 := by omega
  have HIA := hidden (fun i W hW => ialloc_any x ad x.coins.length c i W hW hnc)
  have HSA := hidden (fun i W hW => salloc_any x ad x.coins.length c i W hW hnc)
  have HTO := hidden (fun W hW => strial_any x ad x.coins.length c W hW hnc)
  unfold aT at HIA HSA HTO
  obtain ⟨c0, c1, c2, c3⟩ := P0.out.four
  have hBl := P0.out.lt
  go_wp2_with fail
  refine (HIA.out at0 _ HR.out).mono ?_
  rintro e w2 ⟨rfl, hb2⟩
  have K := hidden hb2
  clear c0 c1 c2 c3 hb2
  obtain ⟨c0, c1, c2, c3⟩ := (P0.out.below K.out).four
  go_wp2_with fail
  refine (HSA.out at0 _ (HR.out.below K.out)).mono ?_
  rintro e w3 ⟨rfl, hb3⟩
  have K' := hidden (K.out.trans (hb3.mono K.out.size))
  clear c0 c1 c2 c3 hb3 K
  have K := K'
  clear K'
  generalize allocation x at0 = A0 at *
  obtain ⟨c0, c1, c2, c3⟩ := (P0.out.below K.out).four
  go_wp2_with fail
  refine (HTO.out _ (HR.out.below K.out)).mono ?_
  rintro e w4 ⟨rfl, hb4⟩
  have K' := hidden (K.out.trans (hb4.mono K.out.size))
  clear c0 c1 c2 c3 hb4 K
  have K := K'
  clear K' HSA HTO
  by_cases q1 : trialB x = true
  case neg =>
    have q2 : trialB x = false := by simpa using q1
    rw [q2]
    clear q1 q2
    go_wp2_with fail
    go_ret
    exact ⟨rfl, HB.out.trans (K.out.mono HB.out.size)⟩
  rw [q1]
  have HQ1 := hidden q1
  obtain ⟨⟨a1, a2⟩, ⟨b1, b2⟩, -, -, -, -⟩ := trialB_iff.1 q1
  have HXA : Hid (x.arms = (x.a : Int)) := by rw [Hid]; unfold Tl.a; omega
  have HXB : Hid (x.block = (x.b : Int)) := by rw [Hid]; unfold Tl.b; omega
  have ha5 : x.a ≤ 5 := by have := HXA.out; omega
  have ha2 : 2 ≤ x.a := by have := HXA.out; omega
  have hb20 : x.b ≤ 20 := by have := HXB.out; omega
  have hbp := b_pos q1
  clear q1
  go_wp2_with fail
  refine (pick_any ao cap bs 40 _ (bytes_up HBY.out (HB.out.trans (K.out.mono HB.out.size))) (by omega) (by omega) (by omega)).mono ?_
  rintro e w5 ⟨⟨b, rfl, hb40⟩, hw5⟩
  subst hw5
  clear HBY
  have HL := hidden (blk_len HQ1.out b)
  have HAL := hidden (fun p (hp : p < x.b) => alloc_in HQ1.out (b := b) hp)
  have HAR := hidden (fun p => alloc_rng HQ1.out p)
  have HCT := hidden (fun a (ha : a < x.a) => blk_count HQ1.out b ha)
  have hmul : (b : Int) * x.block = ((b * x.b : Nat) : Int) := by rw [HXB.out]; simp
  have hbn : b * x.b ≤ 780 := Nat.le_trans (Nat.mul_le_mul (show b ≤ 39 by omega) hb20) (by omega)
  have HAO : Hid (∀ p, p < x.b → allocation x ((b * x.b + p : Nat) : Int) = alloc x (b * x.b + p)) := fun p hp => by
    unfold allocation
    rw [if_pos ⟨HQ1.out, by omega, by omega⟩]
    rfl
  generalize b * x.b = bn at *
  obtain ⟨c0, c1, c2, c3⟩ := (P0.out.below K.out).four
  have hsz := K.out.size
  go_wp2_with (refine wpList_make_full _ rfl (.tmp 32) (.tmp 32) 24 rfl w5.heap.size 2 i0 (.int .i64 0) 1 Try.underlying24 hi0 hv0 hv1 .i64 .i64 _ _ x.a rfl rfl HXA.out HXA.out (by rw [hv2]; omega) (by unfold maxLen; omega) (Nat.le_refl _) ?_; intro w6 ho6 hg6; have hbm : Below w5.heap.size w5 w6 := (Below.refl _ w5).grown hg6 (Nat.le_refl _) (by simp); rw [made_intsT] at ho6; have hown := vownI (L := List.replicate x.a (0 : Int)) (by simpa using ho6); clear ho6 hg6 c0 c1 c2 c3; obtain ⟨c0, c1, c2, c3⟩ := ((P0.out.below K.out).below hbm).four)
  obtain ⟨-, -, G0, hG0, -, hir0⟩ := IR.of_own hown (by simp; omega)
  obtain rfl : G0 = w5.heap.size := by simpa using hG0.symm
  clear hG0 hown
  rw [← cnt_zero x.a (blk x b)] at hir0
  have HI0 := hidden hir0
  have K6 := hidden hbm
  have hP5 := hidden (P0.out.below K.out)
  have hR5 := hidden (HR.out.below K.out)
  have HB5 := hidden (HB.out.trans (K.out.mono HB.out.size))
  have hBX5 : BX < w5.heap.size := hP5.out.lt
  clear hbm hir0 P0 HR K HB
  go_loopw [8, 9] (fun iv av wr => ∃ i : Nat, iv = .int .i64 i ∧ i ≤ x.b ∧ IR wr w5.heap.size (cnt x.a (blk x b) i) ∧ Below w5.heap.size w5 wr) (fun iv _ _ => x.b - (intOf iv).toNat)
  case atStart => exact ⟨0, rfl, by omega, HI0.out, K6.out⟩
  case round =>
    clear c0 c1 c2 c3 HI0 K6
    obtain ⟨i, rfl, hix, hir, hbb⟩ := hrel
    obtain ⟨c0, c1, c2, c3⟩ := (hP5.out.below hbb).four
    have hszr := hbb.size
    by_cases hlt : i < x.b
    · have hlti : (i : Int) < x.block := by have := HXB.out; omega
      have hal := HAL.out i hlt
      have har := HAR.out (bn + i)
      obtain ⟨a, haa⟩ := Int.eq_ofNat_of_zero_le har.1
      have hax : a < x.a := by have := HXA.out; omega
      have hK := hidden (HIA.out ((bn + i : Nat) : Int) wr (hR5.out.below hbb))
      rw [HAO.out i hlt, haa] at hK
      rw [haa] at hal
      have hcc := cnt_get (A := x.a) (L := blk x b) (i := i) hax
      have HBS := hidden (cnt_succ hal hax hcc)
      have hcr := cnt_rng hcc
      generalize ((((blk x b).take i).count (a : Int) : Nat) : Int) = cc at *
      have hadd : (bn : Int) + (i : Int) = ((bn + i : Nat) : Int) := by omega
      have g1 : ¬ (a : Int) < 0 := by omega
      have g2 : ¬ x.arms ≤ (a : Int) := by have := HXA.out; omega
      have g3 : (a : Int) < (x.a : Int) := by omega
      obtain ⟨hcr0, hcr1⟩ := hcr
      have HIR := hidden hir
      have HBR := hidden hbb
      have hbni : bn + i ≤ 800 := by omega
      clear hir hbb haa har hal
      generalize hq : bn + i = m at *
      clear hq
      go_wp2_with fail
      refine hK.out.mono ?_
      rintro e w7 ⟨rfl, hb7⟩
      have HIR7 := hidden (HIR.out.below hb7)
      have HBR7 := hidden (HBR.out.trans (hb7.mono hszr))
      clear c0 c1 c2 c3 hb7 HIR HBR hK
      obtain ⟨c0, c1, c2, c3⟩ := (hP5.out.below HBR7.out).four
      obtain ⟨e0, f0⟩ := HIR7.out.2 _ _ hcc
      go_wp2_with fail
      go_roundw
      case rel =>
        refine ⟨i + 1, rfl, by omega, ?_, HBR7.out.setCell (p := ⟨w5.heap.size, a, none⟩) (Nat.le_refl _) _⟩
        rw [HBS.out]
        exact HIR7.out.set a (cc + 1)
      case measure => simp [intOf]; omega
    · have hlti : ¬ (i : Int) < x.block := by have := HXB.out; omega
      obtain rfl : i = x.b := by omega
      have HIR := hidden hir
      have HBR := hidden hbb
      have HEND : Hid (∀ a (ha : a < x.a), (cnt x.a (blk x b) x.b)[a]? = some ((x.b / x.a : Nat) : Int)) := fun a ha => by
        rw [cnt_get ha, List.take_of_length_le (by rw [HL.out]; exact Nat.le_refl _), HCT.out a ha]
      clear hir hbb HIA HAL HAR HAO
      go_wp2_with fail
      go_loopw [10] (fun iv wt => ∃ a : Nat, iv = .int .i64 a ∧ a ≤ x.a ∧ Below wr.heap.size wr wt) (fun iv _ => x.a - (intOf iv).toNat)
      case atStart => exact ⟨0, rfl, by omega, Below.refl _ _⟩
      case round =>
        clear c0 c1 c2 c3
        obtain ⟨a, rfl, hax, hbt⟩ := hrel
        have HB7 := hidden (HBR.out.trans (hbt.mono hszr))
        obtain ⟨c0, c1, c2, c3⟩ := (hP5.out.below HB7.out).four
        by_cases hlt2 : a < x.a
        · have hlti2 : (a : Int) < x.arms := by have := HXA.out; omega
          obtain ⟨e0, -⟩ := (HIR.out.below hbt).2 _ _ (HEND.out a hlt2)
          have hdv : x.block / x.arms = ((x.b / x.a : Nat) : Int) := by rw [HXB.out, HXA.out]; exact (Int.natCast_ediv _ _).symm
          have hdt : x.block.tdiv x.arms = ((x.b / x.a : Nat) : Int) := by rw [HXB.out, HXA.out]; rfl
          have hz0 : ¬ x.arms = 0 := by omega
          have hz1 : (x.arms == 0) = false := by rw [beq_eq_false_iff_ne]; exact hz0
          have hz2 : ¬ x.arms = -1 := by omega
          have g3 : (a : Int) < (x.a : Int) := by omega
          have hq20 : x.b / x.a ≤ 20 := Nat.le_trans (Nat.div_le_self _ _) hb20
          have HBT := hidden hbt
          clear hbt
          generalize x.b / x.a = qq at *
          have hw9 : IntKind.i64.wrap (qq : Int) = (qq : Int) := by rw [IntKind.wrap_i64]; omega
          go_wp2_with fail
          go_quiet (fail)
          go_wp2_with fail
          go_roundw
          case rel => exact ⟨a + 1, rfl, by omega, st_drewN HBT.out _⟩
          case measure => simp [intOf]; omega
        · have hlti2 : ¬ (a : Int) < x.arms := by have := HXA.out; omega
          have HBF := hidden (HB5.out.trans (HB7.out.mono HB5.out.size))
          clear hbt
          go_wp2_with fail
          go_ret
          exact ⟨rfl, HBF.out⟩
end Go.Proofs.Ytoehnlbkgpjhmaa
