/-
  Who comes next gets what the allocation says, and the balance counts all: the walk of the law.
-/
import Derived.Test.YtoehnlbkgpjhmaaTr30
import Derived.Test.YtoehnlbkgpjhmaaTr24
namespace Go.Proofs.Ytoehnlbkgpjhmaa
open Go.RowKit Go.WideShapes Va Lb Tr Go.Maps
set_option linter.all false

theorem sum_takeT {l : List Int} {i : Nat} {x : Int} (h : l[i]? = some x) : (l.take (i + 1)).sum = (l.take i).sum + x := by
  rw [List.take_add_one, h, List.sum_append]
  simp
theorem sum_rngT {x : Tl} {n : Nat} : ∀ i, i ≤ x.a → 0 ≤ ((bal x n).take i).sum ∧ ((bal x n).take i).sum ≤ i * n
  | 0, _ => by simp
  | i + 1, hi => by
    have hg := bal_get (x := x) (n := n) (a := i) (by omega)
    have hr := bal_rng hg
    have ih := sum_rngT (x := x) (n := n) i (by omega)
    rw [sum_takeT hg]
    have : ((i + 1 : Nat) : Int) * (n : Int) = (i : Int) * (n : Int) + (n : Int) := by rw [Int.natCast_add, Int.add_mul]; simp
    omega
theorem balance_yes {x : Tl} (h : trialB x = true) : balance x = bal x x.told.toNat := by unfold balance; rw [if_pos h]

set_option maxRecDepth 20000 in
set_option maxHeartbeats 16000000 in
theorem fenr_walk (ao : Option Addr) (cap : Nat) (bs : List Int) (w : World) (hb : Bytes w w.heap.size ao bs) :
    Calls Try.prog 4 #[.slice ao bs.length cap] w fun e w' => e = .returned (.bool true) ∧ Below w.heap.size w w' := by
  have kb := big_any ao cap bs.length w
  by_cases hbig : (4096 : Int) < (bs.length : Int)
  · rw [decide_eq_true hbig] at kb
    clear hb
    go_enter Try.func4, Try.ntmps4
    go_wp2_with fail
    refine kb.mono ?_
    rintro e w1 ⟨rfl, hw1⟩
    subst hw1
    go_wp2_with fail
    go_ret
    exact ⟨rfl, Below.refl _ _⟩
  rw [decide_eq_false hbig] at kb
  have hl : bs.length ≤ 4096 := by omega
  have HD := hidden (denrol_any ao cap bs w hb (by omega))
  clear hb hbig
  go_enter Try.func4, Try.ntmps4
  go_wp2_with fail
  refine kb.mono ?_
  rintro e w1 ⟨rfl, hw1⟩
  subst hw1
  clear kb
  go_wp2_with fail
  refine HD.out.mono ?_
  rintro e wD ⟨x, ad, c, rfl, hx20, hrow, hbD⟩
  unfold aT
  have P0 := hidden (PB.new wD #[.int .i64 x.arms, .int .i64 x.block, .slice ad x.coins.length c, .int .i64 x.told] 26)
  have bx : Below wD.heap.size wD (wD.alloc (.cells #[.int .i64 x.arms, .int .i64 x.block, .slice ad x.coins.length c, .int .i64 x.told] 26)) := (Below.refl _ _).alloc (Nat.le_refl _) _
  have HR := hidden (hrow.below bx)
  have HB := hidden (hbD.trans (bx.mono hbD.size))
  clear hrow hbD bx HD
  go_upto_region 4 with fail
  generalize wD.alloc (.cells #[.int .i64 x.arms, .int .i64 x.block, .slice ad x.coins.length c, .int .i64 x.told] 26) = wX at *
  generalize hBX : wD.heap.size = BX at *
  clear hBX
  have hnc : x.coins.length ≤ 1048576 := by omega
  have HIE := hidden (fun W hW => ienrol_any x ad x.coins.length c W hW hnc)
  have HSE := hidden (fun W hW => senrol_any x ad x.coins.length c W hW hnc)
  unfold aT at HIE HSE
  have hyl : (enr x).1.coins.length ≤ 1048576 := by
    unfold enr
    split
    · exact hnc
    · simp
  obtain ⟨c0, c1, c2, c3⟩ := P0.out.four
  generalize hE1 : (enr x).1 = y at *
  generalize hE2 : (enr x).2 = A at *
  go_wp2_with fail
  refine (HIE.out _ HR.out).mono ?_
  rintro e w2 ⟨a2, k2, rfl, ho2, hb2⟩
  have bu : Below w2.heap.size w2 (w2.alloc (.cells #[.int .i64 y.arms, .int .i64 y.block, .slice a2 y.coins.length k2, .int .i64 y.told] 26)) := (Below.refl _ _).alloc (Nat.le_refl _) _
  have PU := hidden (PB.new w2 #[.int .i64 y.arms, .int .i64 y.block, .slice a2 y.coins.length k2, .int .i64 y.told] 26)
  have HU := hidden (ho2.row.below bu)
  have K := hidden (hb2.trans (bu.mono hb2.size))
  clear c0 c1 c2 c3 hb2 bu ho2
  go_upto_region 5 with fail
  generalize w2.alloc (.cells #[.int .i64 y.arms, .int .i64 y.block, .slice a2 y.coins.length k2, .int .i64 y.told] 26) = wU at *
  generalize w2.heap.size = BU at *
  obtain ⟨c0, c1, c2, c3⟩ := (P0.out.below K.out).four
  go_wp2_with fail
  refine (HSE.out _ (HR.out.below K.out)).mono ?_
  rintro e w3 ⟨a3, k3, rfl, ho3, hb3⟩
  have bv : Below w3.heap.size w3 (w3.alloc (.cells #[.int .i64 y.arms, .int .i64 y.block, .slice a3 y.coins.length k3, .int .i64 y.told] 26)) := (Below.refl _ _).alloc (Nat.le_refl _) _
  have KU := hidden (hb3.trans (bv.mono hb3.size))
  clear c0 c1 c2 c3 hb3 bv ho3 HSE HIE
  go_upto_region 6 with fail
  generalize w3.alloc (.cells #[.int .i64 y.arms, .int .i64 y.block, .slice a3 y.coins.length k3, .int .i64 y.told] 26) = wV at *
  have KV := hidden (K.out.trans (KU.out.mono K.out.size))
  have PV := hidden (PU.out.below KU.out)
  have HV := hidden (HU.out.below KU.out)
  clear K PU HU KU
  by_cases q : trialB x = true ∧ x.told ≤ 999
  case neg =>
    obtain ⟨e1, -⟩ := enr_no q
    have hy : y = ⟨0, 0, [], 0⟩ := by rw [← hE1, e1]
    have hA : A = -1 := by rw [← hE2, e1]
    clear q e1 hE1 hE2
    subst hy hA
    obtain ⟨d0, d1, d2, d3⟩ := PV.out.four
    have HF := hidden (HB.out.trans (KV.out.mono HB.out.size))
    go_wp2_with fail
    go_ret
    exact ⟨rfl, HF.out⟩
  obtain ⟨e1, e2, e3⟩ := enr_yes q.1 q.2
  have hy : y = x.next := by rw [← hE1, e1]
  have hA : A = alloc x x.told.toNat := by rw [← hE2, e1]
  obtain ⟨⟨q1, q2⟩, -, -, -, ⟨q5, q6⟩, -⟩ := trialB_iff.1 q.1
  obtain ⟨Td, hTd⟩ := Int.eq_ofNat_of_zero_le q5
  have hTT : x.told.toNat = Td := by rw [hTd]; rfl
  have har := alloc_rng q.1 Td
  obtain ⟨a, haa⟩ := Int.eq_ofNat_of_zero_le har.1
  rw [hTT] at hA e2
  rw [haa] at hA e2
  have HAL := hidden (fun W hW => ialloc_any x ad x.coins.length c x.told W hW hnc)
  rw [e2] at HAL
  have HIB := hidden (fun W hW => ibalance_any x ad x.coins.length c W hW hnc)
  have HIU := hidden (fun W hW => ibalance_any y a2 y.coins.length k2 W hW hyl)
  have eb1 : balance x = bal x Td := by rw [balance_yes q.1, hTT]
  have eb2 : balance y = bal x (Td + 1) := by rw [hy, balance_yes (next_ok q.1 q.2), next_bal]; congr 1; show (x.told + 1).toNat = Td + 1; omega
  rw [eb1] at HIB
  rw [eb2] at HIU
  unfold aT at HAL HIB HIU
  have hax : a < x.a := by unfold Tl.a; omega
  have ha5 : x.a ≤ 5 := by unfold Tl.a; omega
  have HXA : Hid (x.arms = (x.a : Int)) := by rw [Hid]; unfold Tl.a; omega
  have hcc := bal_get (x := x) (n := Td) hax
  have HBS := hidden (bal_succ x Td haa hax hcc)
  have hcr := bal_rng hcc
  have hT9 : Td ≤ 999 := by have := q.2; omega
  have HSUM := hidden (bal_sum q.1 (Td + 1))
  have hyt : y.told = x.told + 1 := by rw [hy]; rfl
  have hyc : y.coins = x.coins := by rw [hy]; rfl
  have hya : y.arms = x.arms := by rw [hy]; rfl
  generalize ((((List.range Td).countP fun i => decide (alloc x i = (a : Int)) : Nat)) : Int) = cc at *
  obtain ⟨hcr0, hcr1⟩ := hcr
  have HYT := hidden hyt
  have HYC := hidden hyc
  have HTD := hidden hTd
  have HLA := hidden (bal_len x Td)
  have HLB := hidden (bal_len x (Td + 1))
  have HSR := hidden (fun i hi => sum_rngT (x := x) (n := Td + 1) i hi)
  clear e1 e2 e3 hE1 hE2 hy hTT har haa q eb1 eb2 hyt hyc hya hTd
  subst hA
  have hAn : ¬ (a : Int) < 0 := by omega
  obtain ⟨c0, c1, c2, c3⟩ := (P0.out.below KV.out).four
  go_wp2_with fail
  refine (HIB.out _ (HR.out.below KV.out)).mono ?_
  rintro e w4 ⟨v4, rfl, ho4, hb4⟩
  obtain ⟨a4, k4, rfl⟩ := ho4.row.form
  rw [HLA.out]
  have V4 := hidden ho4.row
  have K4 := hidden hb4
  clear c0 c1 c2 c3 hb4 ho4
  obtain ⟨d0, d1, d2, d3⟩ := (PV.out.below K4.out).four
  go_wp2_with fail
  refine (HIU.out _ (HV.out.below K4.out)).mono ?_
  rintro e w5 ⟨v5, rfl, ho5, hb5⟩
  obtain ⟨a5, k5, rfl⟩ := ho5.row.form
  rw [HLB.out]
  have V5 := hidden ho5.row
  have V45 := hidden (V4.out.below hb5)
  have K5 := hidden (K4.out.trans (hb5.mono K4.out.size))
  clear d0 d1 d2 d3 hb5 ho5 V4 K4
  obtain ⟨c0, c1, c2, c3⟩ := (P0.out.below (KV.out.trans (K5.out.mono KV.out.size))).four
  obtain ⟨d0, d1, d2, d3⟩ := (PV.out.below K5.out).four
  have h1 : ((x.a : Int) != x.arms) = false := by rw [HXA.out]; simp
  have h1' : (x.a : Int) = x.arms := HXA.out.symm
  have HH1 := hidden h1'
  clear h1'
  have h2 : (y.told != x.told + 1) = false := by rw [HYT.out]; simp
  have ht0 : 0 ≤ x.told := by have := HTD.out; omega
  have ht1 : x.told ≤ 999 := by have := HTD.out; omega
  have RU := hidden (HV.out.below K5.out)
  rw [HYC.out] at RU d2
  go_wp2_with fail
  refine (sameT_any _ _ _ _ _ _ x.coins _ RU.out (HR.out.below (KV.out.trans (K5.out.mono KV.out.size))) hnc).mono ?_
  rintro e w6 ⟨rfl, hb6⟩
  have K6 := hidden (K5.out.trans (hb6.mono K5.out.size))
  have V6 := hidden (V5.out.below hb6)
  have V46 := hidden (V45.out.below hb6)
  clear c0 c1 c2 c3 d0 d1 d2 d3 hb6 RU V5 V45 K5 h1 h2
  obtain ⟨c0, c1, c2, c3⟩ := (P0.out.below (KV.out.trans (K6.out.mono KV.out.size))).four
  go_wp2_with fail
  refine (HAL.out _ (HR.out.below (KV.out.trans (K6.out.mono KV.out.size)))).mono ?_
  rintro e w7 ⟨rfl, hb7⟩
  have K7 := hidden (K6.out.trans (hb7.mono K6.out.size))
  have V7 := hidden (V6.out.below hb7)
  have V47 := hidden (V46.out.below hb7)
  clear c0 c1 c2 c3 hb7 V6 V46 K6 HAL HIB HIU
  have PU7 := hidden (PV.out.below K7.out)
  have HB7 := hidden (HB.out.trans ((KV.out.trans (K7.out.mono KV.out.size)).mono HB.out.size))
  clear P0 PV HR HV KV K7 HB
  go_wp2_with fail
  go_loopw [10, 11] (fun sv iv wr => ∃ i : Nat, iv = .int .i64 i ∧ i ≤ x.a ∧ sv = .int .i64 ((bal x (Td + 1)).take i).sum ∧ Below w7.heap.size w7 wr) (fun _ iv _ => x.a - (intOf iv).toNat)
  case atStart => exact ⟨0, rfl, by omega, rfl, Below.refl _ _⟩
  case round =>
    obtain ⟨i, rfl, hix, rfl, hbb⟩ := hrel
    have hsr := HSR.out i hix
    have hszr := hbb.size
    by_cases hlt : i < x.a
    · have hlti : (i : Int) < (x.a : Int) := by omega
      have hai := bal_get (x := x) (n := Td) hlt
      have hbi := bal_get (x := x) (n := Td + 1) hlt
      have HST := hidden (sum_takeT hbi)
      have hbr := bal_rng hbi
      have HEQ : Hid (i ≠ a → ((((List.range (Td + 1)).countP fun j => decide (alloc x j = (i : Int)) : Nat)) : Int) = ((((List.range Td).countP fun j => decide (alloc x j = (i : Int)) : Nat)) : Int)) := fun hne => by
        have e := hbi
        rw [HBS.out, List.getElem?_set_ne (fun q => hne q.symm), hai] at e
        exact (Option.some.inj e).symm
      generalize ((((List.range (Td + 1)).countP fun j => decide (alloc x j = (i : Int)) : Nat)) : Int) = bi at *
      generalize ((((List.range Td).countP fun j => decide (alloc x j = (i : Int)) : Nat)) : Int) = ai at *
      obtain ⟨gb, ob, rfl, hgb, y0⟩ := vint_cell (V7.out.below hbb) hbi
      obtain ⟨ga, oa, rfl, hga, z0⟩ := vint_cell (V47.out.below hbb) hai
      generalize hsm : ((bal x (Td + 1)).take i).sum = sm at *
      have hs1 : sm ≤ 6000 := by
        have h6 : (i : Int) * ((Td + 1 : Nat) : Int) ≤ 5 * 1000 := Int.mul_le_mul (by omega) (by omega) (by omega) (by omega)
        omega
      obtain ⟨hs0, -⟩ := hsr
      obtain ⟨hb0, hb1⟩ := hbr
      have HBR := hidden hbb
      have HST2 : Hid (((bal x (Td + 1)).take (i + 1)).sum = sm + bi) := by rw [Hid, HST.out]
      clear hbb hai hbi HST hsm
      go_upto_region 19 with fail
      refine regFe19 (n := x.a) (i := i) (ar := a) (bi := bi) (ai := ai) rfl rfl rfl rfl rfl hga hgb hlt y0 z0 ?_
      intro b' w8 hf hb8 hv
      rw [layFe19 hf, hv]
      clear hv hf y0 z0
      generalize Rg.out (Rg.opsOf Try.f4 19) b' 0 = yy0
      generalize Rg.out (Rg.opsOf Try.f4 19) b' 1 = yy1
      generalize Rg.out (Rg.opsOf Try.f4 19) b' 2 = yy2
      generalize Rg.out (Rg.opsOf Try.f4 19) b' 3 = yy3
      generalize Rg.out (Rg.opsOf Try.f4 19) b' 4 = yy4
      generalize Rg.out (Rg.opsOf Try.f4 19) b' 5 = yy5
      generalize Rg.out (Rg.opsOf Try.f4 19) b' 6 = yy6
      generalize Rg.out (Rg.opsOf Try.f4 19) b' 7 = yy7
      generalize Rg.out (Rg.opsOf Try.f4 19) b' 8 = yy8
      generalize Rg.out (Rg.opsOf Try.f4 19) b' 9 = yy9
      generalize Rg.out (Rg.opsOf Try.f4 19) b' 10 = yy10
      generalize Rg.out (Rg.opsOf Try.f4 19) b' 11 = yy11
      generalize Rg.out (Rg.opsOf Try.f4 19) b' 12 = yy12
      go_frame
      have hbq : ((bi != ai) && ((i : Int) != (a : Int))) = false := by
        by_cases hne : i = a
        · subst hne; simp
        · have := HEQ.out hne; simp [this]
      rw [hbq]
      have HBR8 := hidden (HBR.out.trans (hb8.mono hszr))
      clear hbq hb8 HBR HEQ
      go_wp2_with fail
      go_roundw
      case rel => exact ⟨i + 1, rfl, by omega, by rw [HST2.out], HBR8.out⟩
      case measure => simp [intOf]; omega
    · have hlti : ¬ (i : Int) < (x.a : Int) := by omega
      obtain rfl : i = x.a := by omega
      have hsum : ((bal x (Td + 1)).take x.a).sum = ((Td + 1 : Nat) : Int) := by rw [List.take_of_length_le (by rw [HLB.out]; exact Nat.le_refl _)]; exact HSUM.out
      rw [hsum]
      have hbi : (bal x (Td + 1))[a]? = some (cc + 1) := by rw [HBS.out]; exact List.getElem?_set_self (by rw [HLA.out]; exact hax)
      obtain ⟨gb, ob, rfl, hgb, y0⟩ := vint_cell (V7.out.below hbb) hbi
      obtain ⟨ga, oa, rfl, hga, z0⟩ := vint_cell (V47.out.below hbb) hcc
      have x3 : wr.cell? ⟨BU, 3, none⟩ = some (.int .i64 y.told) := (PU7.out.below hbb).cell 3
      have hBl := (PU7.out.below hbb).lt
      have HBR := hidden hbb
      clear hbb hsr
      generalize hsm : ((Td + 1 : Nat) : Int) = sm at *
      go_upto_region 21 with fail
      refine regFe21 (n := x.a) (ar := a) (bi := cc + 1) (ai := cc) (sm := sm) (tl := y.told) rfl rfl rfl rfl rfl rfl hga hgb hBl x3 hax y0 z0 hcr0 (by omega) ?_
      intro b' w8 hf hb8 hv
      rw [layFe21 hf, hv]
      clear hv hf y0 z0 x3
      generalize Rg.out (Rg.opsOf Try.f4 21) b' 0 = yy0
      generalize Rg.out (Rg.opsOf Try.f4 21) b' 1 = yy1
      generalize Rg.out (Rg.opsOf Try.f4 21) b' 2 = yy2
      generalize Rg.out (Rg.opsOf Try.f4 21) b' 3 = yy3
      generalize Rg.out (Rg.opsOf Try.f4 21) b' 4 = yy4
      generalize Rg.out (Rg.opsOf Try.f4 21) b' 5 = yy5
      generalize Rg.out (Rg.opsOf Try.f4 21) b' 6 = yy6
      generalize Rg.out (Rg.opsOf Try.f4 21) b' 7 = yy7
      generalize Rg.out (Rg.opsOf Try.f4 21) b' 8 = yy8
      generalize Rg.out (Rg.opsOf Try.f4 21) b' 9 = yy9
      generalize Rg.out (Rg.opsOf Try.f4 21) b' 10 = yy10
      generalize Rg.out (Rg.opsOf Try.f4 21) b' 11 = yy11
      generalize Rg.out (Rg.opsOf Try.f4 21) b' 12 = yy12
      generalize Rg.out (Rg.opsOf Try.f4 21) b' 13 = yy13
      generalize Rg.out (Rg.opsOf Try.f4 21) b' 14 = yy14
      generalize Rg.out (Rg.opsOf Try.f4 21) b' 15 = yy15
      go_frame
      have hbq : ((sm == y.told) && (cc + 1 == cc + 1)) = true := by
        have e1 : sm = y.told := by rw [HYT.out, HTD.out, ← hsm]; simp
        rw [e1]; simp
      rw [hbq]
      have HF := hidden (HB7.out.trans ((HBR.out.trans (hb8.mono hszr)).mono HB7.out.size))
      clear hb8 HBR hbq
      go_wp2_with fail
      go_ret
      exact ⟨rfl, HF.out⟩
end Go.Proofs.Ytoehnlbkgpjhmaa
