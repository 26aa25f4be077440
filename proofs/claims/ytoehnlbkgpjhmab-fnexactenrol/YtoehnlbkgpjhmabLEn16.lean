/-
  Proved: for every trial, the program's Enrol answers as the specification's, writes into no argument, and its answer is its own (FnExactEnrol returns true). No conditions.
-/
import Derived.Test.YtoehnlbkgpjhmabTr4
import Derived.Test.YtoehnlbkgpjhmabTr24
namespace Go.Proofs.Ytoehnlbkgpjhmab
open Go.RowKit Va Lb Tr

theorem VOwn.mark_pb {α : Type} {s : Nat} {cs : α → Nat → Value} {wx w w' : World} {base B : Nat} {v : Value} {l : List α} {vs : Array Value} {t : TypeId} (h : VOwn s cs wx base v l) (hx : wx.heap.size ≤ B) (ha : Aside w w' v) (hz : l.length = 0 → w' = w) (p : PB w B vs t) : PB w' B vs t := by
  rcases Nat.eq_zero_or_pos l.length with q | q
  · rw [hz q]; exact p
  · obtain ⟨ao, cap, rfl, _, hh⟩ := h
    obtain ⟨G, rfl, hG, ho⟩ := hh.resolve_left (by omega)
    refine (ha.block B ?_).trans p
    intro e
    have e2 : G = B := Option.some.inj e
    have := ho.1
    omega

namespace fnExactEnrol
open Go.ChangeShapes Go.WideShapes Go.ChangeAt Go.Joins
set_option linter.all false

theorem own : ownKnob Try.prog.godebug = none := by kernel_rfl
theorem laidOut : laidOutB Try.prog = true := by kernel_rfl

set_option maxRecDepth 20000 in
set_option maxHeartbeats 4000000 in
theorem walk (x : Tl) (ta : Option Addr) (tc : Nat) (w : World) (h : VRw 1 cvI w (.slice ta x.coins.length tc) x.coins) (hm : x.coins.length ≤ maxLen) :
    Calls Try.prog 4 #[aT x (.slice ta x.coins.length tc)] w fun e w' => e = .returned (.bool true) ∧ Below w.heap.size w w' := by
  have hS := fun W => sztrial_any x ta x.coins.length tc 1048576 W (by unfold maxLen at hm; omega) (by omega) (by omega)
  have HP := hidden (PB.new w #[.int .i64 x.arms, .int .i64 x.block, .slice ta x.coins.length tc, .int .i64 x.told] 24)
  have hb0 : Below w.heap.size w (w.alloc (.cells #[.int .i64 x.arms, .int .i64 x.block, .slice ta x.coins.length tc, .int .i64 x.told] 24)) := (Below.refl _ _).alloc (Nat.le_refl _) _
  have HA := hidden (h.below hb0)
  clear h
  unfold aT at hS ⊢
  go_enter Try.func4, Try.ntmps4
  go_upto_region 1 with fail
  generalize w.alloc (.cells #[.int .i64 x.arms, .int .i64 x.block, .slice ta x.coins.length tc, .int .i64 x.told] 24) = wA at *
  generalize hav : Value.agg #[.int .i64 x.arms, .int .i64 x.block, .slice ta x.coins.length tc, .int .i64 x.told] = av
  rw [hav] at hS
  obtain ⟨c0, c1, c2, c3⟩ := HP.out.four
  by_cases hbig : (1048576 : Int) < (x.coins.length : Int)
  · simp only [if_pos hbig] at hS
    go_wp2_with fail
    refine (hS _).mono ?_
    rintro e w1 ⟨rfl, hb1⟩
    go_wp2_with fail
    go_ret
    exact ⟨rfl, onto hb0 hb1⟩
  simp only [if_neg hbig] at hS
  have hn : ¬ (1048576 : Int) - x.coins.length < 0 := by omega
  have hll : x.coins.length ≤ 1048576 := by omega
  have HT := hidden (fun W hW => totrial_any x ta x.coins.length tc W hW hll)
  have HE := hidden (fun a n c a2 n2 c2 W hW hW2 => eqtrial_any x a n c a2 n2 c2 W hW hW2 hll)
  have hyl : (enr x).1.coins.length ≤ 1048576 := by
    unfold enr
    split
    · exact hll
    · simp
  have HSP := hidden (fun a n c W hW => senrol_any x a n c W hW hll)
  have HIM := hidden (fun a n c W hW => ienrol_any x a n c W hW hll)
  generalize (enr x).2 = A at *
  generalize (enr x).1 = y at *
  have HMK := hidden (fun a n c base W hW => marktrial_any x a n c base 1 W hW hll (by omega) (by omega))
  have HMY := hidden (fun a n c base W hW => marktrial_any y a n c base 1 W hW hyl (by omega) (by omega))
  have HHY := hidden (fun a n c W hW => heldtrial_any y y.coins.length a n c 1 W hW hyl (by omega) (by omega))
  have HEY := hidden (fun a n c a2 n2 c2 W hW hW2 => eqtrial_any y a n c a2 n2 c2 W hW hW2 hyl)
  unfold aT at *
  rw [hav] at HT
  have BW := hidden (fun W (hW : Below wA.heap.size wA W) => onto hb0 hW)
  clear hb0 hbig
  go_wp2_with fail
  refine (hS _).mono ?_
  rintro e w1 ⟨rfl, hb1⟩
  have K1 := hidden hb1
  clear hS hb1 c0 c1 c2 c3
  obtain ⟨c0, c1, c2, c3⟩ := (HP.out.below K1.out).four
  go_wp2_with fail
  refine (HT.out _ (HA.out.below K1.out)).mono ?_
  rintro e w2 ⟨G2, hG2, rfl, ho2, hb2⟩
  have R2 := hidden ho2.row
  have K2 := hidden (K1.out.trans (hb2.mono K1.out.size))
  clear ho2 hb2 K1 c0 c1 c2 c3
  go_wp2_with fail
  refine (HSP.out _ _ _ _ R2.out).mono ?_
  rintro e w3 ⟨a3, k3, rfl, hv3, hb3⟩
  have K3 := hidden (K2.out.trans (hb3.mono K2.out.size))
  have bs : Below w3.heap.size w3 (w3.alloc (.cells #[.int .i64 y.arms, .int .i64 y.block, .slice a3 y.coins.length k3, .int .i64 y.told] 27)) := (Below.refl _ _).alloc (Nat.le_refl _) _
  have PS := hidden (PB.new w3 #[.int .i64 y.arms, .int .i64 y.block, .slice a3 y.coins.length k3, .int .i64 y.told] 27)
  have V3 := hidden (hv3.row.below bs)
  have KS := hidden (K3.out.trans (bs.mono K3.out.size))
  clear hb3 hv3 R2 K2 K3 bs
  go_upto_region 6 with fail
  generalize hwS : w3.alloc (.cells #[.int .i64 y.arms, .int .i64 y.block, .slice a3 y.coins.length k3, .int .i64 y.told] 27) = wS at *
  generalize hBS : w3.heap.size = BS at *
  clear hwS hBS
  have KB := hidden (Below.refl wS.heap.size wS)
  obtain ⟨c0, c1, c2, c3⟩ := (HP.out.below (KS.out.trans (KB.out.mono KS.out.size))).four
  go_wp2_with fail
  refine (HT.out _ (HA.out.below (KS.out.trans (KB.out.mono KS.out.size)))).mono ?_
  rintro e w4 ⟨G4, hG4, rfl, ho4, hb4⟩
  have X4 := hidden ho4
  have XB := hidden ho4
  have z4 := hb4.size
  clear KB
  have KB := hidden hb4
  clear ho4 hb4 c0 c1 c2 c3
  go_upto_region 7 with fail
  have PX := hidden (PB.new w4 #[.int .i64 x.arms, .int .i64 x.block, .slice (some ⟨G4, 0, none⟩) x.coins.length x.coins.length, .int .i64 x.told] 27)
  have bx : Below w4.heap.size w4 (w4.alloc (.cells #[.int .i64 x.arms, .int .i64 x.block, .slice (some ⟨G4, 0, none⟩) x.coins.length x.coins.length, .int .i64 x.told] 27)) := (Below.refl _ _).alloc (Nat.le_refl _) _
  have zx : w4.heap.size < (w4.alloc (.cells #[.int .i64 x.arms, .int .i64 x.block, .slice (some ⟨G4, 0, none⟩) x.coins.length x.coins.length, .int .i64 x.told] 27)).heap.size := by simp
  have RX := hidden (X4.out.below bx)
  have KX := hidden (KB.out.trans (bx.mono KB.out.size))
  clear bx X4 KB
  generalize hwX : w4.alloc (.cells #[.int .i64 x.arms, .int .i64 x.block, .slice (some ⟨G4, 0, none⟩) x.coins.length x.coins.length, .int .i64 x.told] 27) = wX at *
  generalize hBX : w4.heap.size = BX at *
  clear hwX
  obtain ⟨d0, d1, d2, d3⟩ := PX.out.four
  go_wp2_with fail
  refine (HIM.out _ _ _ _ RX.out.row).mono ?_
  rintro e w5 ⟨a5, k5, rfl, hv5, hb5⟩
  have z5 := hb5.size
  have O5B := hidden hv5
  have bg : Below w5.heap.size w5 (w5.alloc (.cells #[.int .i64 y.arms, .int .i64 y.block, .slice a5 y.coins.length k5, .int .i64 y.told] 27)) := (Below.refl _ _).alloc (Nat.le_refl _) _
  have PG := hidden (PB.new w5 #[.int .i64 y.arms, .int .i64 y.block, .slice a5 y.coins.length k5, .int .i64 y.told] 27)
  have O := hidden (hv5.below bg)
  have X := hidden ((RX.out.below hb5).below bg)
  have P := hidden ((PX.out.below hb5).below bg)
  have KB := hidden ((KX.out.trans (hb5.mono KX.out.size)).trans (bg.mono (Nat.le_trans KX.out.size z5)))
  clear hb5 hv5 RX PX KX bg d0 d1 d2 d3
  go_upto_region 8 with fail
  generalize hwG : w5.alloc (.cells #[.int .i64 y.arms, .int .i64 y.block, .slice a5 y.coins.length k5, .int .i64 y.told] 27) = wG at *
  generalize hBG : w5.heap.size = BG at *
  clear hwG
  obtain ⟨d0, d1, d2, d3⟩ := PG.out.four
  obtain ⟨c0, c1, c2, c3⟩ := (PS.out.below KB.out).four
  go_wp2_with fail
  refine (HEY.out _ _ _ _ _ _ _ O.out.row (V3.out.below KB.out)).mono ?_
  rintro e w6 ⟨rfl, hb6⟩
  clear d0 d1 d2 d3 c0 c1 c2 c3
  have O' := hidden (O.out.below hb6)
  clear O
  have O := O'
  clear O'
  have X' := hidden (X.out.below hb6)
  clear X
  have X := X'
  clear X'
  have P' := hidden (P.out.below hb6)
  clear P
  have P := P'
  clear P'
  have PG' := hidden (PG.out.below hb6)
  clear PG
  have PG := PG'
  clear PG'
  have KB' := hidden (KB.out.trans (hb6.mono KB.out.size))
  clear KB
  have KB := KB'
  clear KB'
  clear hb6
  obtain ⟨d0, d1, d2, d3⟩ := P.out.four
  obtain ⟨c0, c1, c2, c3⟩ := (HP.out.below (KS.out.trans (KB.out.mono KS.out.size))).four
  have HRT := hidden (fun W (hW : Below w6.heap.size w6 W) => HT.out W (HA.out.below ((KS.out.trans (KB.out.mono KS.out.size)).trans (hW.mono (KS.out.trans (KB.out.mono KS.out.size)).size))))
  have HR6 := hidden (fun W (hW : Below w6.heap.size w6 W) => X.out.row.below hW)
  have HP6 := hidden (fun W (hW : Below w6.heap.size w6 W) => P.out.below hW)
  go_upto_region 10 with fail
  go_cut [45] from 41 (fun sv wc => sv = .bool false ∧ Below w6.heap.size w6 wc)
  case first =>
    first | go_region_with (first | (go_at_call 10; refine (HRT.out _ (by repeat (first | exact Below.refl _ _ | assumption | refine st_drew ?_ | refine st_drewN ?_ _ | refine Below.setCell ?_ (by first | omega | (simp; done) | (simp; omega)) _ | refine Below.alloc ?_ (by first | omega | (simp; done) | (simp; omega)) _))).mono ?_; rintro e w7 ⟨G6, hG6, rfl, ho6, hb6⟩; have b6 := onto (show Below w6.heap.size w6 _ from by repeat (first | exact Below.refl _ _ | assumption | refine st_drew ?_ | refine st_drewN ?_ _ | refine Below.setCell ?_ (by first | omega | (simp; done) | (simp; omega)) _ | refine Below.alloc ?_ (by first | omega | (simp; done) | (simp; omega)) _)) hb6; have R6 := hidden ho6.row; have b6s := b6; have K6 := hidden (HR6.out _ b6s); obtain ⟨e0, e1, e2, e3⟩ := (HP6.out _ b6s).four; clear ho6 hb6) | (go_at_call 12; refine (HE.out _ _ _ _ _ _ _ (VRw.below K6.out (by repeat (first | exact Below.refl _ _ | assumption | refine st_drew ?_ | refine st_drewN ?_ _ | refine Below.setCell ?_ (by first | omega | (simp; done) | (simp; omega)) _ | refine Below.alloc ?_ (by first | omega | (simp; done) | (simp; omega)) _))) (VRw.below R6.out (by repeat (first | exact Below.refl _ _ | assumption | refine st_drew ?_ | refine st_drewN ?_ _ | refine Below.setCell ?_ (by first | omega | (simp; done) | (simp; omega)) _ | refine Below.alloc ?_ (by first | omega | (simp; done) | (simp; omega)) _)))).mono ?_; rintro e w8 ⟨rfl, hb7⟩; have b7 := onto (show Below w6.heap.size w6 _ from by repeat (first | exact Below.refl _ _ | assumption | refine st_drew ?_ | refine st_drewN ?_ _ | refine Below.setCell ?_ (by first | omega | (simp; done) | (simp; omega)) _ | refine Below.alloc ?_ (by first | omega | (simp; done) | (simp; omega)) _)) hb7; clear hb7) | fail) | fail
    all_goals (first | go_meet | (go_wp2_with fail; go_meet))
    all_goals exact ⟨rfl, by repeat (first | exact Below.refl _ _ | assumption | refine st_drew ?_ | refine st_drewN ?_ _ | refine Below.setCell ?_ (by first | omega | (simp; done) | (simp; omega)) _ | refine Below.alloc ?_ (by first | omega | (simp; done) | (simp; omega)) _)⟩
  case rest =>
    obtain ⟨rfl, hbc⟩ := hcut
    clear HRT HR6 HP6 c0 c1 c2 c3 d0 d1 d2 d3
    have O' := hidden (O.out.below hbc)
    clear O
    have O := O'
    clear O'
    have X' := hidden (X.out.below hbc)
    clear X
    have X := X'
    clear X'
    have P' := hidden (P.out.below hbc)
    clear P
    have P := P'
    clear P'
    have PG' := hidden (PG.out.below hbc)
    clear PG
    have PG := PG'
    clear PG'
    have KB' := hidden (KB.out.trans (hbc.mono KB.out.size))
    clear KB
    have KB := KB'
    clear KB'
    clear hbc
    obtain ⟨d0, d1, d2, d3⟩ := P.out.four
    go_wp2_with fail
    refine (HMK.out _ _ _ _ _ X.out).mono ?_
    rintro e w8 ⟨rfl, wm, hbm, -, ha, hz⟩
    have nk8 : ¬ (1 : Int) + (x.coins.length : Int) < 0 := by omega
    have KBm := KB.out.trans (hbm.mono KB.out.size)
    have KB' := hidden ((X.out.below hbm).mark_below ha hz KBm (Nat.le_refl _))
    have O' := hidden (XB.out.mark_own (by omega) ha hz (O.out.below hbm))
    have PG' := hidden (XB.out.mark_pb (B := BG) (by omega) ha hz (PG.out.below hbm))
    clear hbm ha hz KBm O X P PG KB HMK d0 d1 d2 d3
    have KB := KB'
    have O := O'
    have PG := PG'
    clear KB' O' PG'
    obtain ⟨d0, d1, d2, d3⟩ := PG.out.four
    obtain ⟨c0, c1, c2, c3⟩ := (PS.out.below KB.out).four
    go_wp2_with fail
    refine (HEY.out _ _ _ _ _ _ _ O.out.row (V3.out.below KB.out)).mono ?_
    rintro e w9 ⟨rfl, hb9⟩
    clear d0 d1 d2 d3 c0 c1 c2 c3
    have O' := hidden (O.out.below hb9)
    clear O
    have O := O'
    clear O'
    have PG' := hidden (PG.out.below hb9)
    clear PG
    have PG := PG'
    clear PG'
    have KB' := hidden (KB.out.trans (hb9.mono KB.out.size))
    clear KB
    have KB := KB'
    clear KB'
    clear hb9
    obtain ⟨d0, d1, d2, d3⟩ := PG.out.four
    go_wp2_with fail
    refine (HMY.out _ _ _ _ _ O.out).mono ?_
    rintro e w10 ⟨rfl, wm, hbm, hm, ha, hz⟩
    have KBm := KB.out.trans (hbm.mono KB.out.size)
    have KB' := hidden ((O.out.below hbm).mark_below ha hz KBm (by omega))
    have M := hidden hm
    have PG' := hidden (O5B.out.mark_pb (B := BG) (by omega) ha hz (PG.out.below hbm))
    have nL : ¬ (1 : Int) + (y.coins.length : Int) < 0 := by omega
    clear hbm ha hz KBm O PG KB HMY hm d0 d1 d2 d3
    have KB := KB'
    have PG := PG'
    clear KB' PG'
    obtain ⟨d0, d1, d2, d3⟩ := PG.out.four
    go_wp2_with fail
    refine (HHY.out _ _ _ _ M.out.row).mono ?_
    rintro e w11 ⟨rfl, hb11⟩
    clear d0 d1 d2 d3
    have M' := hidden (M.out.below hb11)
    clear M
    have M := M'
    clear M'
    have PG' := hidden (PG.out.below hb11)
    clear PG
    have PG := PG'
    clear PG'
    have KB' := hidden (KB.out.trans (hb11.mono KB.out.size))
    clear KB
    have KB := KB'
    clear KB'
    clear hb11
    obtain ⟨c0, c1, c2, c3⟩ := (HP.out.below (KS.out.trans (KB.out.mono KS.out.size))).four
    go_wp2_with fail
    refine (HT.out _ (HA.out.below (KS.out.trans (KB.out.mono KS.out.size)))).mono ?_
    rintro e w12 ⟨G12, hG12, rfl, ho12, hb12⟩
    have R12 := hidden ho12.row
    clear c0 c1 c2 c3
    have M' := hidden (M.out.below hb12)
    clear M
    have M := M'
    clear M'
    have PG' := hidden (PG.out.below hb12)
    clear PG
    have PG := PG'
    clear PG'
    have KB' := hidden (KB.out.trans (hb12.mono KB.out.size))
    clear KB
    have KB := KB'
    clear KB'
    clear ho12 hb12
    go_wp2_with fail
    refine (HIM.out _ _ _ _ R12.out).mono ?_
    rintro e w13 ⟨a13, k13, rfl, hv13, hb13⟩
    have bh : Below w13.heap.size w13 (w13.alloc (.cells #[.int .i64 y.arms, .int .i64 y.block, .slice a13 y.coins.length k13, .int .i64 y.told] 27)) := (Below.refl _ _).alloc (Nat.le_refl _) _
    have PH := hidden (PB.new w13 #[.int .i64 y.arms, .int .i64 y.block, .slice a13 y.coins.length k13, .int .i64 y.told] 27)
    have Q13 := hidden (hv13.row.below bh)
    have M' := hidden (M.out.below hb13)
    clear M
    have M := M'
    clear M'
    have PG' := hidden (PG.out.below hb13)
    clear PG
    have PG := PG'
    clear PG'
    have KB' := hidden (KB.out.trans (hb13.mono KB.out.size))
    clear KB
    have KB := KB'
    clear KB'
    clear hb13 hv13 R12
    have M' := hidden (M.out.below bh)
    clear M
    have M := M'
    clear M'
    have PG' := hidden (PG.out.below bh)
    clear PG
    have PG := PG'
    clear PG'
    have KB' := hidden (KB.out.trans (bh.mono KB.out.size))
    clear KB
    have KB := KB'
    clear KB'
    clear bh
    go_upto_region 25 with fail
    generalize hwH : w13.alloc (.cells #[.int .i64 y.arms, .int .i64 y.block, .slice a13 y.coins.length k13, .int .i64 y.told] 27) = wH at *
    generalize hBH : w13.heap.size = BH at *
    clear hwH hBH
    obtain ⟨d0, d1, d2, d3⟩ := PH.out.four
    obtain ⟨c0, c1, c2, c3⟩ := (PS.out.below KB.out).four
    go_wp2_with fail
    refine (HEY.out _ _ _ _ _ _ _ Q13.out (V3.out.below KB.out)).mono ?_
    rintro e w14 ⟨rfl, hb14⟩
    clear d0 d1 d2 d3 c0 c1 c2 c3
    have M' := hidden (M.out.below hb14)
    clear M
    have M := M'
    clear M'
    have PG' := hidden (PG.out.below hb14)
    clear PG
    have PG := PG'
    clear PG'
    have KB' := hidden (KB.out.trans (hb14.mono KB.out.size))
    clear KB
    have KB := KB'
    clear KB'
    clear hb14 PH Q13
    obtain ⟨d0, d1, d2, d3⟩ := PG.out.four
    go_wp2_with fail
    refine (HHY.out _ _ _ _ M.out.row).mono ?_
    rintro e w15 ⟨rfl, hb15⟩
    have KB' := hidden (KB.out.trans (hb15.mono KB.out.size))
    clear KB
    have KB := KB'
    clear KB'
    clear hb15
    go_wp2_with fail
    go_ret
    exact ⟨rfl, BW.out _ (KS.out.trans (KB.out.mono KS.out.size))⟩

set_option maxRecDepth 100000 in
theorem lifted (os : Os) (started : os.Started) (H : Type) (enc : TypeId × Value → H) :
    ReturnsInHanded {} Try.checked os 4 .any (Rows.fnExactEnrolSpec.pre6 enc Try.prog Try.f4 Rows.fnExactEnrolRow.domain false) (Rows.fnExactEnrolSpec.post enc Try.prog Try.f4 false true false false) := by
  refine returnsInHanded_of_change (C := Try.checked) own started (by kernel_rfl) Try.func4
    (ChangeSpec.witness6 (enc := enc) (C := Try.checked) false ⟨#[], #[.agg #[.int .i64 0, .int .i64 0, .slice none 0 0, .int .i64 0]], []⟩ 8 (by kernel_rfl) (by kernel_rfl) (by kernel_rfl) (by kernel_rfl)) ?_
  intro W base args ds gs before hval0 hW hcnd _
  have hval : ∀ (j : Nat) t v, Try.f4.params[j]? = some t → args[j]? = some v → Value.okWide Try.prog W .any base t v := hval0
  have hW' := hW
  obtain ⟨p, q, hA0, hV, rfl, hfz, hnd⟩ := hW
  have hA : DataW.TrodAll enc Try.prog W 0 (fun _ => true) true Try.f4.params.toList args.toList ds p := hA0
  rw [Try.params4] at hA hval
  obtain ⟨v0, vs0, d0, ds0, p0, q0, hargs, rfl, rfl, h0, r0⟩ := trodAll_cons hA
  obtain ⟨rfl, rfl, rfl⟩ := trodAll_nil r0
  obtain rfl : args = #[v0] := by cases args; simp_all
  obtain ⟨rfl, rfl⟩ := trodVars_none hV
  have k0 := h0
  have lt0 : ∀ x ∈ p0, x.block < W.heap.size := by obtain ⟨m, hm⟩ := k0; exact DataW.trod_lt m _ _ _ hm
  obtain ⟨x, ta, tc, rfl, hcl, hcr⟩ := trial_of_read (hval 0 24 v0 rfl rfl) h0
  clear hA0 hval0
  refine (walk x ta tc W hcr hcl).mono fun e W' ⟨he, bel⟩ => ?_
  subst he
  exact ⟨_, rfl, _, _, _, [], _, [], hW', trodAll_mk1 (shut_bool Try.underlying4 _), (trodAll_cons_mk (Below.trod laidOut (by kernel_rfl) (of_decide_eq_true (by kernel_rfl)) k0 bel lt0) trodAll_mk0), rfl, bel.frame _, fun h => by cases h⟩

theorem over : Rows.fnExactEnrolRow.holds Try.pinned (OpenSpec.ofChange Rows.fnExactEnrolSpec) :=
  OpenClaim.holds_of_wide 4 Try.f4 rfl rfl rfl rfl rfl rfl rfl ⟨rfl, rfl, rfl, rfl, rfl⟩ rfl rfl rfl rfl rfl (by kernel_rfl) Try.func4 (by kernel_rfl)
    (of_decide_eq_true (by kernel_rfl)) (by unfold Func.isWrapper; first | (rw [if_pos (by decide +kernel)]; kernel_rfl) | (rw [if_neg (by decide +kernel)]; exact ⟨rfl, rfl⟩))
    (fun os started H enc _ => lifted os started H enc)
end fnExactEnrol
theorem fnExactEnrol_holds : Rows.FnExactEnrolSaid := fnExactEnrol.over
end Go.Proofs.Ytoehnlbkgpjhmab
