/-
  How many are in each arm, as the program counts.
-/
import Derived.Test.YtoehnlbkgpjhmaaTr20a
import Derived.Test.YtoehnlbkgpjhmaaTr13
import Derived.Lib.MinMax
namespace Go.Proofs.Ytoehnlbkgpjhmaa
open Go.RowKit Go.WideShapes Va Lb Tr Go.Maps
set_option linter.all false

theorem made_intsT (n : Nat) : (madeCells (Value.int .i64 0).cells (n * 1)).toList = (List.replicate n (0 : Int)).map fun z => Value.int .i64 z := by
  rw [show (Value.int .i64 0).cells = #[Value.int .i64 0] from rfl, Nat.mul_one, toList_madeCells_one, List.map_replicate]
theorem IR.belowB {w w' : World} {G b : Nat} {l : List Int} (h : IR w G l) (hb : Below b w w') (hG : G < b) : IR w' G l :=
  ⟨Nat.lt_of_lt_of_le h.1 hb.size, fun i x hx => ⟨(hb.cell (p := ⟨G, i, none⟩) hG).trans (h.2 i x hx).1, (hb.frozen (p := ⟨G, i, none⟩) hG).trans (h.2 i x hx).2⟩⟩
theorem PB.belowB {w w' : World} {B b : Nat} {vs : Array Value} {t : TypeId} (h : PB w B vs t) (hb : Below b w w') (hB : B < b) : PB w' B vs t := (hb.block B hB).trans h
theorem OS.far {x : Tl} {ta : Option Addr} {tc b base Bo Bt Bb Br : Nat} {w : World} (h : OS x ta tc b base Bo Bt Bb Br w) {c : Nat} (hc : c < base) (o : Nat) (v : Value) : OS x ta tc b base Bo Bt Bb Br (w.setCell ⟨c, o, none⟩ v) := by
  obtain ⟨pt, pb, lo, ne, st⟩ := h
  refine ⟨pt.far (by omega) o v, pb.far (by omega) o v, lo, ne, ?_⟩
  rcases st with ⟨o1, s, h1, h2⟩ | ⟨s, G, h1, h2, h3, h4⟩
  · exact Or.inl ⟨o1, s, h1.far (by omega) o v, h2.far (by omega) o v⟩
  · exact Or.inr ⟨s, G, h1.far (by omega) o v, h2.far (by omega) o v, h3, h4.far (by omega) o v⟩

set_option maxRecDepth 20000 in
set_option maxHeartbeats 8000000 in
theorem ibalance_any (x : Tl) (ta : Option Addr) (tn tc : Nat) (w : World) (h : VRw 1 cvI w (.slice ta tn tc) x.coins) (hn : x.coins.length ≤ 1048576) :
    Calls Try.prog 18 #[aT x (.slice ta tn tc)] w fun e w' => ∃ v, e = .returned v ∧ VOwn 1 cvI w' w.heap.size v (balance x) ∧ Below w.heap.size w w' := by
  obtain rfl := h.len
  have HTO := hidden (fun W hW => itrial_any x ta x.coins.length tc W hW hn)
  have HP := hidden (PB.new w #[.int .i64 x.arms, .int .i64 x.block, .slice ta x.coins.length tc, .int .i64 x.told] 26)
  have hb0 : Below w.heap.size w (w.alloc (.cells #[.int .i64 x.arms, .int .i64 x.block, .slice ta x.coins.length tc, .int .i64 x.told] 26)) := (Below.refl _ _).alloc (Nat.le_refl _) _
  have hsA : w.heap.size < (w.alloc (.cells #[.int .i64 x.arms, .int .i64 x.block, .slice ta x.coins.length tc, .int .i64 x.told] 26)).heap.size := by simp
  have HH := hidden h
  clear h
  have HV : Hid (balance x = if trialB x = true then bal x x.told.toNat else []) := rfl
  generalize balance x = R at *
  unfold aT at *
  obtain ⟨i0, hi0, hv0, hv1, hv2⟩ := info_partsW infoW64
  go_enter Try.func18, Try.ntmps18
  go_upto_region 1 with fail
  generalize w.alloc (.cells #[.int .i64 x.arms, .int .i64 x.block, .slice ta x.coins.length tc, .int .i64 x.told] 26) = wA at *
  have hK := HTO.out wA (HH.out.below hb0)
  obtain ⟨c0, c1, c2, c3⟩ := HP.out.four
  by_cases q1 : trialB x = true
  case neg =>
    have hR : Hid (R = []) := by rw [Hid, HV.out, if_neg q1]
    have q2 : trialB x = false := by simpa using q1
    rw [q2] at hK
    clear q1 q2 HTO
    go_wp2_with (with_reducible refine hK.mono ?_; rintro e w1 ⟨rfl, hb1⟩; have HB1 := hidden (onto hb0 hb1); clear hb1)
    go_ret
    rw [hR.out]
    exact ⟨_, rfl, VOwn.nil _ _ _ _, HB1.out.alloc HB1.out.size _⟩
  rw [q1] at hK
  have hR : Hid (R = bal x x.told.toNat) := by rw [Hid, HV.out, if_pos q1]
  obtain ⟨⟨a1, a2⟩, ⟨b1, b2⟩, -, -, ⟨t1, t2⟩, -⟩ := trialB_iff.1 q1
  have HXA : Hid (x.arms = (x.a : Int)) := by rw [Hid]; unfold Tl.a; omega
  have HXB : Hid (x.block = (x.b : Int)) := by rw [Hid]; unfold Tl.b; omega
  obtain ⟨T, hT⟩ := Int.eq_ofNat_of_zero_le t1
  have HXT := hidden hT
  have HQ1 := hidden q1
  have ha5 : x.a ≤ 5 := by have := HXA.out; omega
  have hb20 : x.b ≤ 20 := by have := HXB.out; omega
  have hbp := b_pos q1
  clear q1 HTO hT
  go_upto_region 3 with (with_reducible refine hK.mono ?_; rintro e w1 ⟨rfl, hb1⟩)
  clear c0 c1 c2 c3 hK
  have HB1 := hidden (onto hb0 hb1)
  have HP1 := hidden (HP.out.below hb1)
  have hs1 : w.heap.size < w1.heap.size := Nat.lt_of_lt_of_le hsA hb1.size
  clear HP hb1
  obtain ⟨c0, c1, c2, c3⟩ := HP1.out.four
  go_wp2_with (refine wpList_make_full _ rfl (.tmp 12) (.tmp 12) 24 rfl w1.heap.size 2 i0 (.int .i64 0) 1 Try.underlying24 hi0 hv0 hv1 .i64 .i64 _ _ x.a rfl rfl HXA.out HXA.out (by rw [hv2]; omega) (by unfold maxLen; omega) (Nat.le_refl _) ?_; intro w2 ho2 hg2; have hbm : Below w1.heap.size w1 w2 := (Below.refl _ w1).grown hg2 (Nat.le_refl _) (by simp); have hzz : w1.heap.size < w2.heap.size := (by obtain ⟨_, ⟨h3, _⟩ | ⟨g, cap, cur, h3, _, h5, _⟩⟩ := ho2; (cases h3); (simp at h3; rw [h3.1]; exact (Array.getElem?_eq_some_iff.1 h5).1)); rw [made_intsT] at ho2; have hown := vownI (L := List.replicate x.a (0 : Int)) (by simpa using ho2); clear ho2 hg2 c0 c1 c2 c3; obtain ⟨c0, c1, c2, c3⟩ := (HP1.out.below hbm).four)
  obtain ⟨-, -, G0, hG0, -, hir0⟩ := IR.of_own hown (by simp; have := HXA.out; omega)
  obtain rfl : G0 = w1.heap.size := by simpa using hG0.symm
  clear hG0 hown
  rw [← bal_zero] at hir0
  have HM2 := hidden hbm
  have HI0 := hidden hir0
  clear hbm hir0
  go_loopw [4, 5, 6, 35] (fun fv ov pv lv wr => ∃ f : Nat, fv = .int .i64 f ∧ ∃ q : Nat, Hid (f = q * x.b) ∧ f < T + x.b ∧ IR wr w1.heap.size (bal x (min f T)) ∧ Below w1.heap.size w1 wr ∧ w1.heap.size < wr.heap.size) (fun fv _ _ _ _ => T - (intOf fv).toNat)
  case atStart => exact ⟨0, rfl, 0, by rw [Hid]; omega, by omega, by rw [Nat.zero_min]; exact HI0.out, HM2.out, hzz⟩
  case round =>
    clear c0 c1 c2 c3 HI0 HM2 hzz
    obtain ⟨f, rfl, q, hfq, hfT, hir, hb, hlt1⟩ := hrel
    have hsz := hb.size
    have HPr := hidden (HP1.out.below hb)
    obtain ⟨c0, c1, c2, c3⟩ := HPr.out.four
    by_cases hlt : f < T
    · have hlti : (f : Int) < x.told := by have := HXT.out; omega
      have hq9 : q ≤ 1000 := by
        have := hfq.out
        have h2 := Nat.le_mul_of_pos_right q hbp
        have := HXT.out
        omega
      have hdv : (f : Int) / x.block = (q : Int) := by rw [HXB.out, hfq.out]; rw [← Int.natCast_ediv, Nat.mul_div_cancel _ hbp]
      have hdt : (f : Int).tdiv x.block = (q : Int) := by rw [HXB.out, hfq.out]; show (((q * x.b) / x.b : Nat) : Int) = _; rw [Nat.mul_div_cancel _ hbp]
      have hz0 : ¬ x.block = 0 := by omega
      have HBl := HPr.out.lt
      have HIR := hidden hir
      have HB := hidden hb
      clear hir hb
      go_upto_region 7 with fail
      refine regIb7 (x := x) (n := f) (d := q) (base := wr.heap.size) rfl rfl rfl HBl c0 c1 c2 c3 hz0 b1 hdt hdv hq9 (Nat.le_refl _) ?_
      rintro b' w3 hf hb3 ⟨Bo, Bt, Bb, Br, hv, hos⟩
      rw [layIb7 hf, hv]
      unfold onF
      clear hv hf
      generalize Rg.out (Rg.opsOf Try.f18 7) b' 0 = y0
      generalize Rg.out (Rg.opsOf Try.f18 7) b' 1 = y1
      generalize Rg.out (Rg.opsOf Try.f18 7) b' 2 = y2
      generalize Rg.out (Rg.opsOf Try.f18 7) b' 3 = y3
      generalize Rg.out (Rg.opsOf Try.f18 7) b' 4 = y4
      generalize Rg.out (Rg.opsOf Try.f18 7) b' 5 = y5
      go_frame
      have HIR3 := hidden (HIR.out.below hb3)
      have HB3 := hidden (HB.out.trans (hb3.mono HB.out.size))
      have HP3 := hidden (HPr.out.below hb3)
      have HS3 := hidden hos
      have hz3 := hb3.size
      clear hb3 hos HIR c0 c1 c2 c3 hdv hdt
      obtain ⟨c0, c1, c2, c3⟩ := HP3.out.four
      obtain ⟨m, hm⟩ : ∃ m : Nat, m = min x.b (T - f) := ⟨_, rfl⟩
      have hmin : min x.block (x.told - (f : Int)) = (m : Int) := by rw [HXB.out, HXT.out, hm]; omega
      have HMF : Hid (min f T + m = min (f + x.b) T) := by rw [Hid]; omega
      have HMB : Hid (m ≤ x.b) := by rw [Hid]; omega
      have HF0 : Hid (min f T = f) := by rw [Hid]; omega
      have hm2 : m ≤ 20 := by omega
      clear hm
      obtain ⟨base, hbs⟩ : ∃ base, base = wr.heap.size := ⟨_, rfl⟩
      rw [← hbs] at HS3 hz3 hlt1
      clear hbs
      go_wp2_with fail
      go_loopw [6, 35] (fun pv iv wt => ∃ p : Nat, p ≤ m ∧ iv = .int .i64 p ∧ IR wt w1.heap.size (bal x (f + p)) ∧ OS x ta tc q base Bo Bt Bb Br wt ∧ Below w1.heap.size w1 wt ∧ base ≤ wt.heap.size ∧ PB wt w.heap.size #[.int .i64 x.arms, .int .i64 x.block, .slice ta x.coins.length tc, .int .i64 x.told] 26) (fun _ iv _ => m - (intOf iv).toNat)
      case atStart => exact ⟨0, Nat.zero_le _, rfl, by have e := HF0.out; have h0 := HIR3.out; rw [e] at h0; exact h0, HS3.out, HB3.out, hz3, HP3.out⟩
      case round =>
        clear c0 c1 c2 c3 HIR3 HB3 HP3 HS3 hz3 HF0 hlti hsz
        obtain ⟨p, hp, rfl, hir, hos, hb, hzw, hpb⟩ := hrel
        by_cases hlt2 : p < m
        · have hltp : (p : Int) < (m : Int) := by omega
          have hpb2 : p < x.b := by have := HMB.out; omega
          have hal := alloc_in HQ1.out (b := q) hpb2
          rw [← hfq.out] at hal
          have har := alloc_rng HQ1.out (f + p)
          obtain ⟨a, haa⟩ := Int.eq_ofNat_of_zero_le har.1
          have hax : a < x.a := by have := HXA.out; omega
          have hcc := bal_get (x := x) (n := f + p) hax
          have HBS := hidden (bal_succ x (f + p) haa hax hcc)
          have hcr := bal_rng hcc
          generalize ((((List.range (f + p)).countP fun i => decide (alloc x i = (a : Int)) : Nat)) : Int) = c at *
          rw [haa] at hal
          have hC := hidden (otell_any x ta tc q base Bo Bt Bb Br wr hzw (fun W2 hW2 => HH.out.below (HB1.out.trans ((hb.trans (hW2.mono (Nat.le_of_lt hlt1))).mono HB1.out.size))) HQ1.out hq9 hos)
          have HIR := hidden hir
          have HB := hidden hb
          have HPB := hidden hpb
          have hc1000 : c ≤ 2000 := by have := HXT.out; omega
          have g1 : (p : Int) < (x.b : Int) := by omega
          have g2 : (a : Int) < (x.a : Int) := by omega
          have hwb : w.heap.size < base := by omega
          obtain ⟨hcr0, -⟩ := hcr
          clear hir hb hpb hos haa har
          go_wp2_with (go_at_call 64; refine hC.out.mono ?_; rintro e w2 ⟨G, hG, rfl, hir2, hos2, hb2⟩; have hirc := HIR.out.belowB hb2 hlt1; have HIC := hidden hirc; have HO2 := hidden hos2; have HB2 := hidden hb2; obtain ⟨e0, -⟩ := hir2.2 _ _ hal; obtain ⟨e1, f1⟩ := hirc.2 _ _ hcc; clear hirc hir2 hos2 hb2)
          go_roundw
          case rel =>
            refine ⟨p + 1, by omega, rfl, ?_, HO2.out.far hlt1 a _, (HB.out.trans (HB2.out.mono (Nat.le_of_lt hlt1))).setCell (p := ⟨w1.heap.size, a, none⟩) (Nat.le_refl _) _, Nat.le_trans hzw (by simpa [World.setCell] using HB2.out.size), (HPB.out.belowB HB2.out hwb).far (by omega) a _⟩
            have e := HBS.out
            rw [show f + (p + 1) = f + p + 1 by omega, e]
            exact HIC.out.set a (c + 1)
          case measure => simp [intOf]; omega
        · have hltp : ¬ (p : Int) < (m : Int) := by omega
          obtain rfl : p = m := by omega
          have hadd : (f : Int) + x.block = ((f + x.b : Nat) : Int) := by have := HXB.out; omega
          have hbx : x.block ≤ 20 := b2
          obtain ⟨c0, c1, c2, c3⟩ := hpb.four
          have HIR := hidden hir
          have HB := hidden hb
          have hsx : w1.heap.size < wr.heap.size := by omega
          have hf1000 : f ≤ 1000 := by have := HXT.out; omega
          clear hir hb hpb hos
          go_wp2_with fail
          go_roundw
          case rel =>
            refine ⟨f + x.b, rfl, q + 1, by rw [Hid, hfq.out, Nat.succ_mul], by omega, ?_, HB.out, hsx⟩
            have e := HMF.out
            rw [← e, show min f T = f by omega]
            exact HIR.out
          case measure => simp [intOf]; omega
    · have hlti : ¬ (f : Int) < x.told := by have := HXT.out; omega
      have HIR := hidden hir
      have HBB := hidden (HB1.out.trans (hb.mono HB1.out.size))
      have hTT : Hid (R = bal x (min f T)) := by rw [Hid, hR.out, HXT.out]; congr 1; show T = min f T; omega
      clear hir hb
      go_wp2_with fail
      go_ret
      rw [hTT.out]
      have hl := bal_len x (min f T)
      exact ⟨_, rfl, by have h0 := HIR.out.own (base := w.heap.size) (by omega) x.a (by omega); rw [hl] at h0; exact h0, HBB.out⟩
end Go.Proofs.Ytoehnlbkgpjhmaa
