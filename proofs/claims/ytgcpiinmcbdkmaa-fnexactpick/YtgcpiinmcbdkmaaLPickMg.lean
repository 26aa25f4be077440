/-
  Proved: for every list of units, every need, every time and every count, the program's Pick answers as the specification's, writes into no argument and keeps none, and its answer is its own (FnExactPick returns true). No conditions.
-/
import Derived.Test.YtgcpiinmcbdkmaaMg35
import Derived.Test.YtgcpiinmcbdkmaaMg4
import Derived.Test.YtgcpiinmcbdkmaaMg2
namespace Go.Proofs.Ytgcpiinmcbdkmaa
open Go.RowKit Va Bl
namespace fnExactPick
open Go.ChangeShapes Go.WideShapes Go.ChangeAt Go.Joins
set_option linter.all false
theorem own : ownKnob Try.prog.godebug = none := by kernel_rfl
theorem laidOut : laidOutB Try.prog = true := by kernel_rfl
theorem pick_len (l : List Ut) (n : Nd) (t c : Int) : (pick l n t c).length ≤ 100 := by
  unfold pick
  split
  · rename_i h
    have := pickB_iff.1 h
    rw [List.length_map, List.length_take]
    omega
  · simp
theorem aside_pb {w w' : World} {v : Value} {B : Nat} {vs : Array Value} {t : TypeId} (ha : Aside w w' v) (h : PB w B vs t) (hne : ¬ v.ownBlock = some B) : PB w' B vs t := (ha.block B hne).trans h
set_option maxRecDepth 20000 in
set_option maxHeartbeats 16000000 in
theorem walk (ad : Option Addr) (dlen dcap : Nat) (D : List Ut) (n : Nd) (na : Option Addr) (nc : Nat) (t c : Int) (w : World) (hd : URw w (.slice ad dlen dcap) D) (hdm : dlen ≤ maxLen) (hdc : ∀ x ∈ D, x.ant.length ≤ maxLen) (h' : IRw w (.slice na n.ag.length nc) n.ag) (hm' : n.ag.length ≤ maxLen) :
    Calls Try.prog 5 #[.slice ad dlen dcap, aN n (.slice na n.ag.length nc), .int .i64 t, .int .i64 c] w fun e w' => e = .returned (.bool true) ∧ Below w.heap.size w w' := by
  obtain rfl := hd.len
  have HJ := hidden (fun W (hW : Below w.heap.size w W) => hd.below hW)
  have HNn := hidden (fun W (hW : Below w.heap.size w W) => h'.below hW)
  have hS := fun W (hW : Below w.heap.size w W) => szunits_any ad D.length dcap D 1048576 W (hd.below hW) hdm hdc (by omega) (by omega)
  have PN0 := hidden (PB.new w #[.int .i64 n.p, .int .i64 n.g, .slice na n.ag.length nc] 43)
  have K0 : Below w.heap.size w (w.alloc (.cells #[.int .i64 n.p, .int .i64 n.g, .slice na n.ag.length nc] 43)) := by repeat (first | exact Below.refl _ _ | assumption | refine st_drew ?_ | refine st_drewN ?_ _ | refine Below.setCell ?_ (by first | omega | (simp; done) | (simp; omega)) _ | refine Below.alloc ?_ (by first | omega | (simp; done) | (simp; omega)) _)
  clear hd hdc h'
  unfold aN at *
  go_enter Try.func5, Try.ntmps5
  go_upto_region 1 with fail
  generalize w.alloc (.cells #[.int .i64 n.p, .int .i64 n.g, .slice na n.ag.length nc] 43) = wA at *
  go_wp2_with fail
  refine (hS _ K0).mono ?_
  rintro e w1 ⟨q, rfl, hr, hb1⟩
  clear hS
  have PN1 := hidden (PN0.out.below hb1)
  have K1 := onto K0 hb1
  have z1 := hb1.size
  clear hb1 K0 PN0
  rcases hr with hr | ⟨hr0, hr1, hll, hlt⟩
  · go_wp2_with fail
    go_ret
    exact ⟨rfl, K1⟩
  have hr2 : ¬ q < 0 := by omega
  have hS2 := fun W => szneed_any n na n.ag.length nc q W (by unfold maxLen at hm'; omega) hr0 (by omega)
  unfold aN at hS2
  obtain ⟨d0, d1, d2⟩ := PN1.out.three
  by_cases hbig2 : q < (n.ag.length : Int)
  · simp only [if_pos hbig2] at hS2
    go_wp2_with fail
    refine (hS2 _).mono ?_
    rintro e w2 ⟨rfl, hb2⟩
    go_wp2_with fail
    go_ret
    exact ⟨rfl, onto K1 hb2⟩
  simp only [if_neg hbig2] at hS2
  have hn2 : ¬ q - (n.ag.length : Int) < 0 := by omega
  have hlk : n.ag.length ≤ 1048576 := by omega
  have HT := hidden (fun W (hW : Below w.heap.size w W) => tounits_any ad D.length dcap D W (HJ.out W hW) hll hlt)
  have HU := hidden (fun W (hW : Below w.heap.size w W) => toneed_any n na n.ag.length nc W (HNn.out W hW) hlk)
  have HR := hidden (fun a m c a2 m2 c2 W hW hW2 => eqneed_any n a m c a2 m2 c2 W hW hW2 hlk)
  have HSP := hidden (fun a1 m1 c1 a2 m2 c2 W hW hW2 => spick_any a1 m1 c1 D n a2 m2 c2 t c W hW hll hlt hW2 hlk)
  have HIM := hidden (fun a1 m1 c1 a2 m2 c2 W hW hW2 => ipick_any a1 m1 c1 D n a2 m2 c2 t c W hW hll hlt hW2 hlk)
  have hcl := pick_len D n t c
  generalize pick D n t c = R at *
  have HL := hidden hll
  have HM := hidden hlt
  have HK := hidden hlk
  unfold aN at *
  go_wp2_with fail
  refine (hS2 _).mono ?_
  rintro e w2 ⟨rfl, hb2⟩
  clear hS2 d0 d1 d2 hll hlt hlk
  have PN2 := hidden (PN1.out.below hb2)
  have K2 := onto K1 hb2
  have z2 := hb2.size
  clear hb2 K1 PN1
  go_upto_region 8 with fail
  refine regLp8 (D := D) (R := R) (n := n) (t9 := t) (c9 := c) rfl rfl rfl rfl rfl PN2.out
    (fun W hW => (HT.out W (onto K2 hW)).mono (fun e W' h => ⟨_, h.1, h.2.1.drw D.length (Nat.le_refl _), h.2.2⟩))
    (fun W hW => HU.out W (onto K2 hW))
    (fun G1 G2 W hW h1 h2 => (HSP.out _ _ _ _ _ _ W h1 (out_irw h2 _ (Nat.le_refl _))).mono (fun e W' ⟨ad, k, h, ho, hb⟩ => ⟨ad, k, h, ownW_base ho hW.size, hb⟩)) ?_
  intro b' w3 hf hb3 ⟨a3, k3, hv1, hS0⟩
  rw [layLp8 hf, hv1]
  clear hv1 hf
  generalize Rg.out (Rg.opsOf Try.f5 8) b' 0 = y0
  generalize Rg.out (Rg.opsOf Try.f5 8) b' 1 = y1
  generalize Rg.out (Rg.opsOf Try.f5 8) b' 2 = y2
  generalize Rg.out (Rg.opsOf Try.f5 8) b' 3 = y3
  generalize Rg.out (Rg.opsOf Try.f5 8) b' 4 = y4
  generalize Rg.out (Rg.opsOf Try.f5 8) b' 5 = y5
  generalize Rg.out (Rg.opsOf Try.f5 8) b' 6 = y6
  have S3 := hidden hS0
  have Z3 := hidden (ownW_lt hS0)
  have PN3z := hidden (Nat.lt_of_lt_of_le PN2.out.lt (show w2.heap.size ≤ w3.heap.size from hb3.size))
  clear hS0
  have PN3 := hidden (PN2.out.below hb3)
  have K3 := onto K2 hb3
  have z3 := hb3.size
  clear hb3 K2 PN2
  have zw3 := K3.size
  go_frame
  go_wp2_with fail
  refine (HT.out _ K3).mono ?_
  rintro e w4 ⟨rfl, hj4, hb4⟩
  have X4 := hidden (hj4.drw D.length (Nat.le_refl _))
  have M4 := hidden hj4.marked
  clear hj4
  have PN4 := hidden (PN3.out.below hb4)
  have S4 := hidden (ownW_below S3.out hb4)
  have K4 := onto K3 hb4
  have z4 := hb4.size
  clear hb4 K3 PN3 S3
  obtain ⟨d0, d1, d2⟩ := PN4.out.three
  go_wp2_with fail
  refine (HU.out _ K4).mono ?_
  rintro e w5 ⟨G2, hG2, hG2l, rfl, ho2, hb5⟩
  have O5 := hidden ho2
  clear ho2 d0 d1 d2
  have PN5 := hidden (PN4.out.below hb5)
  have S5 := hidden (ownW_below S4.out hb5)
  have X5 := hidden (X4.out.below hb5)
  have M5 := hidden (M4.out.below (by omega) hb5)
  have K5 := onto K4 hb5
  have z5 := hb5.size
  clear hb5 K4 PN4 S4 X4 M4
  go_upto_region 11 with fail
  have PX6 := hidden (PB.new w5 #[.int .i64 n.p, .int .i64 n.g, .slice (some ⟨G2, 0, none⟩) n.ag.length n.ag.length] 27)
  have hb6 : Below w5.heap.size w5 (w5.alloc (.cells #[.int .i64 n.p, .int .i64 n.g, .slice (some ⟨G2, 0, none⟩) n.ag.length n.ag.length] 27)) := by repeat (first | exact Below.refl _ _ | assumption | refine st_drew ?_ | refine st_drewN ?_ _ | refine Below.setCell ?_ (by first | omega | (simp; done) | (simp; omega)) _ | refine Below.alloc ?_ (by first | omega | (simp; done) | (simp; omega)) _)
  generalize w5.alloc (.cells #[.int .i64 n.p, .int .i64 n.g, .slice (some ⟨G2, 0, none⟩) n.ag.length n.ag.length] 27) = w6 at *
  have PN6 := hidden (PN5.out.below hb6)
  have S6 := hidden (ownW_below S5.out hb6)
  have X6 := hidden (X5.out.below hb6)
  have M6 := hidden (M5.out.below (by omega) hb6)
  have O6 := hidden (O5.out.below hb6)
  have K6 := onto K5 hb6
  have z6 := hb6.size
  clear hb6 K5 PN5 S5 X5 M5 O5
  obtain ⟨d0, d1, d2⟩ := PX6.out.three
  go_wp2_with fail
  refine (HIM.out _ _ _ _ _ _ w6 X6.out (out_irw O6.out _ (Nat.le_refl _))).mono ?_
  rintro e w7 ⟨a7, k7, rfl, ho7, hb7⟩
  have G7 := hidden ho7
  have Z7 := hidden (ownW_lt ho7)
  clear ho7 d0 d1 d2
  have PN7 := hidden (PN6.out.below hb7)
  have S7 := hidden (ownW_below S6.out hb7)
  have X7 := hidden (X6.out.below hb7)
  have M7 := hidden (M6.out.below (by omega) hb7)
  have O7 := hidden (O6.out.below hb7)
  have PX7 := hidden (PX6.out.below hb7)
  have K7 := onto K6 hb7
  have z7 := hb7.size
  clear hb7 K6 PN6 S6 X6 M6 O6 PX6
  go_wp2_with fail
  refine (eqints_any _ _ _ _ _ _ R _ (ownI_irw G7.out) (ownI_irw S7.out) (by omega)).mono ?_
  rintro e w8 ⟨rfl, hb8⟩
  have PN8 := hidden (PN7.out.below hb8)
  have S8 := hidden (ownW_below S7.out hb8)
  have X8 := hidden (X7.out.below hb8)
  have M8 := hidden (M7.out.below (by omega) hb8)
  have O8 := hidden (O7.out.below hb8)
  have PX8 := hidden (PX7.out.below hb8)
  have G8 := hidden (ownW_below G7.out hb8)
  have K8 := onto K7 hb8
  have z8 := hb8.size
  clear hb8 K7 PN7 S7 X7 M7 O7 PX7 G7
  go_wp2_with fail
  refine (HT.out _ K8).mono ?_
  rintro e w9 ⟨rfl, hj9, hb9⟩
  have U9 := hidden (hj9.drw D.length (Nat.le_refl _))
  clear hj9
  have PN9 := hidden (PN8.out.below hb9)
  have S9 := hidden (ownW_below S8.out hb9)
  have X9 := hidden (X8.out.below hb9)
  have M9 := hidden (M8.out.below (by omega) hb9)
  have O9 := hidden (O8.out.below hb9)
  have PX9 := hidden (PX8.out.below hb9)
  have G9 := hidden (ownW_below G8.out hb9)
  have K9 := onto K8 hb9
  have z9 := hb9.size
  clear hb9 K8 PN8 S8 X8 M8 O8 PX8 G8
  go_wp2_with fail
  refine (equnits_any _ _ _ _ _ _ D _ X9.out U9.out HL.out HM.out).mono ?_
  rintro e w10 ⟨rfl, hb10⟩
  clear U9
  have PN10 := hidden (PN9.out.below hb10)
  have S10 := hidden (ownW_below S9.out hb10)
  have X10 := hidden (X9.out.below hb10)
  have M10 := hidden (M9.out.below (by omega) hb10)
  have O10 := hidden (O9.out.below hb10)
  have PX10 := hidden (PX9.out.below hb10)
  have G10 := hidden (ownW_below G9.out hb10)
  have K10 := onto K9 hb10
  have z10 := hb10.size
  clear hb10 K9 PN9 S9 X9 M9 O9 PX9 G9
  go_upto_region 16 with fail
  refine regLp16 rfl rfl rfl PN10.out PX10.out (fun W hW => HU.out W (onto K10 hW)) (fun G W hW hG => HR.out _ _ _ _ _ _ W (out_irw (O10.out.below hW) _ (Nat.le_refl _)) (out_irw hG _ (Nat.le_refl _))) ?_
  intro b' w11 hf hb11 hv
  rw [layLp16 hf, hv]
  clear hv hf
  generalize Rg.out (Rg.opsOf Try.f5 16) b' 0 = y0
  generalize Rg.out (Rg.opsOf Try.f5 16) b' 1 = y1
  generalize Rg.out (Rg.opsOf Try.f5 16) b' 2 = y2
  generalize Rg.out (Rg.opsOf Try.f5 16) b' 3 = y3
  have PN11 := hidden (PN10.out.below hb11)
  have S11 := hidden (ownW_below S10.out hb11)
  have X11 := hidden (X10.out.below hb11)
  have M11 := hidden (M10.out.below (by omega) hb11)
  have O11 := hidden (O10.out.below hb11)
  have PX11 := hidden (PX10.out.below hb11)
  have G11 := hidden (ownW_below G10.out hb11)
  have K11 := onto K10 hb11
  have z11 := hb11.size
  clear hb11 K10 PN10 S10 X10 M10 O10 PX10 G10
  go_frame
  go_wp2_with fail
  refine (markunits_any _ _ _ _ D 1 _ M11.out HL.out HM.out (by omega) (by omega)).mono ?_
  rintro e w12 ⟨k, rfl, ⟨hk0, hk1⟩, kp⟩
  have hDL := HL.out
  have K12 := kp.below K11 (by omega)
  have zk12 := kp.size
  have S12 := hidden (kp_own kp S11.out (fun k hk => Or.inl (Z3.out k hk).2))
  have G12 := hidden (kp_own kp G11.out (fun k hk => Or.inr (by have := (Z7.out k hk).1; omega)))
  have PN12 := hidden (show PB w12 _ _ _ from (kp.block _ (Or.inl (by have := PN3z.out; omega))).trans PN11.out)
  have PX12 := hidden (show PB w12 _ _ _ from (kp.block _ (Or.inr (by omega))).trans PX11.out)
  have O12 := hidden (show ∀ j, j < n.ag.length → (∃ u, w12.cell? ⟨G2, j, none⟩ = some u) ∧ w12.frozen? ⟨G2, j, none⟩ = false from fun j hj => ⟨kp.cell _ _ (O11.out.2.1 j (by omega)).1, (kp.fro _ _).trans (O11.out.2.1 j (by omega)).2⟩)
  clear M11 S11 G11 PN11 PX11 O11 X11 K11 kp
  obtain ⟨d0, d1, d2⟩ := PX12.out.three
  have kmn := markneed_any n G2 n.ag.length n.ag.length k w12 (by omega) O12.out HK.out hk0 (by omega)
  unfold aN at kmn
  go_wp2_with fail
  refine kmn.mono ?_
  rintro e w14 ⟨rfl, w13, hb13, kp⟩
  have hlk := HK.out
  have z13 := hb13.size
  have zk14 := kp.size
  have K14 := kp.below (onto K12 hb13) (by omega)
  have S14 := hidden (kp_own kp (ownW_below S12.out hb13) (fun k hk => Or.inl (by have := (Z3.out k hk).2; omega)))
  have G14 := hidden (kp_own kp (ownW_below G12.out hb13) (fun k hk => Or.inr (by have := (Z7.out k hk).1; omega)))
  have PN14 := hidden (show PB w14 _ _ _ from (kp.block _ (Or.inl (by have := PN3z.out; omega))).trans (PN12.out.below hb13))
  have hkk : ¬ k + (n.ag.length : Int) < 0 := by omega
  clear S12 G12 PN12 PX12 O12 K12 kp hb13 d0 d1 d2 kmn hk0 hk1
  go_wp2_with fail
  refine (eqints_any _ _ _ _ _ _ R _ (ownI_irw G14.out) (ownI_irw S14.out) (by omega)).mono ?_
  rintro e w15 ⟨rfl, hb15⟩
  have PN15 := hidden (PN14.out.below hb15)
  have S15 := hidden (ownW_below S14.out hb15)
  have G15 := hidden (ownW_below G14.out hb15)
  have K15 := onto K14 hb15
  have z15 := hb15.size
  clear hb15 K14 PN14 S14 G14
  go_wp2_with fail
  refine (markint_any _ R _ 1 _ (ownI_own G15.out) (by omega) (by omega) (by omega)).mono ?_
  rintro e w16 ⟨rfl, ho16, ha16, hz16⟩
  have K16 := (ownI_own G15.out).mark_below ha16 hz16 K15 (by omega)
  have S16 := hidden (aside_own ha16 S15.out (fun k hk hk2 => by have y1 := (Z3.out k hk).2; have y2 := (Z7.out k hk2).1; omega))
  have PN16 := hidden (aside_pb ha16 PN15.out (fun hk2 => by have y1 := PN3z.out; have y2 := (Z7.out _ hk2).1; omega))
  have H16 := hidden ho16
  clear S15 G15 PN15 K15 ha16 hz16 ho16
  go_wp2_with fail
  refine (heldint_any _ 1 R.length _ H16.out.row (by omega) (by omega) (by omega)).mono ?_
  rintro e w17 ⟨rfl, hw17⟩
  obtain rfl := hw17.symm
  clear hw17
  have hkn : ¬ (1 : Int) + (R.length : Int) < 0 := by omega
  have HMK := hidden (marks_len 1 1 R.length)
  go_upto_region 31 with fail
  refine regLp31 (D := D) (R := R) (n := n) (t9 := t) (c9 := c) rfl rfl rfl rfl rfl PN16.out
    (fun W hW => (HT.out W (onto K16 hW)).mono (fun e W' h => ⟨_, h.1, h.2.1.drw D.length (Nat.le_refl _), h.2.2⟩))
    (fun W hW => HU.out W (onto K16 hW))
    (fun G1 G2 W hW h1 h2 => (HIM.out _ _ _ _ _ _ W h1 (out_irw h2 _ (Nat.le_refl _))).mono (fun e W' ⟨ad, k, h, ho, hb⟩ => ⟨ad, k, h, ownW_base ho hW.size, hb⟩)) ?_
  intro b' w18 hf hb18 ⟨a18, k18, hv1, hH0⟩
  rw [layLp31 hf, hv1]
  clear hv1 hf
  generalize Rg.out (Rg.opsOf Try.f5 31) b' 0 = y0
  generalize Rg.out (Rg.opsOf Try.f5 31) b' 1 = y1
  generalize Rg.out (Rg.opsOf Try.f5 31) b' 2 = y2
  generalize Rg.out (Rg.opsOf Try.f5 31) b' 3 = y3
  generalize Rg.out (Rg.opsOf Try.f5 31) b' 4 = y4
  generalize Rg.out (Rg.opsOf Try.f5 31) b' 5 = y5
  generalize Rg.out (Rg.opsOf Try.f5 31) b' 6 = y6
  have V18 := hidden hH0
  clear hH0
  have S18 := hidden (ownW_below S16.out hb18)
  have H18 := hidden (H16.out.below hb18)
  have K18 := onto K16 hb18
  have z18 := hb18.size
  clear hb18 K16 S16 H16
  go_frame
  go_wp2_with fail
  refine (eqints_any _ _ _ _ _ _ R _ (ownI_irw V18.out) (ownI_irw S18.out) (by omega)).mono ?_
  rintro e w19 ⟨rfl, hb19⟩
  clear V18
  have S19 := hidden (ownW_below S18.out hb19)
  have H19 := hidden (H18.out.below hb19)
  have K19 := onto K18 hb19
  have z19 := hb19.size
  clear hb19 K18 S18 H18
  go_wp2_with fail
  refine (heldint_any _ 1 R.length _ H19.out.row (by omega) (by omega) (by omega)).mono ?_
  rintro e w20 ⟨rfl, hw20⟩
  obtain rfl := hw20.symm
  clear hw20
  go_wp2_with fail
  go_ret
  exact ⟨rfl, K19⟩
set_option maxRecDepth 100000 in
theorem lifted (os : Os) (started : os.Started) (H : Type) (enc : TypeId × Value → H) :
    ReturnsInHanded {} Try.checked os 5 .any (Rows.fnExactPickSpec.pre6 enc Try.prog Try.f5 Rows.fnExactPickRow.domain false) (Rows.fnExactPickSpec.post enc Try.prog Try.f5 false true false false) := by
  refine returnsInHanded_of_change (C := Try.checked) own started (by kernel_rfl) Try.func5
    (ChangeSpec.witness6 (enc := enc) (C := Try.checked) false ⟨#[], #[.slice none 0 0, .agg #[.int .i64 0, .int .i64 0, .slice none 0 0], .int .i64 0, .int .i64 0], []⟩ 8 (by kernel_rfl) (by kernel_rfl) (by kernel_rfl) (by kernel_rfl)) ?_
  intro W base args ds gs before hval0 hW hcnd _
  have hval : ∀ (j : Nat) t v, Try.f5.params[j]? = some t → args[j]? = some v → Value.okWide Try.prog W .any base t v := hval0
  have hW' := hW
  obtain ⟨p, q, hA0, hV, rfl, hfz, hnd⟩ := hW
  have hA : DataW.TrodAll enc Try.prog W 0 (fun _ => true) true Try.f5.params.toList args.toList ds p := hA0
  rw [Try.params5] at hA hval
  obtain ⟨v0, vs0, d0, ds0, p0, q0, hargs, rfl, rfl, h0, r0⟩ := trodAll_cons hA
  obtain ⟨v1, vs1, d1, ds1, p1, q1, rfl, rfl, rfl, h1, r1⟩ := trodAll_cons r0
  obtain ⟨v2, vs2, d2, ds2, p2, q2, rfl, rfl, rfl, h2, r2⟩ := trodAll_cons r1
  obtain ⟨v3, vs3, d3, ds3, p3, q3, rfl, rfl, rfl, h3, r3⟩ := trodAll_cons r2
  obtain ⟨rfl, rfl, rfl⟩ := trodAll_nil r3
  obtain rfl : args = #[v0, v1, v2, v3] := by cases args; simp_all
  obtain ⟨rfl, rfl⟩ := trodVars_none hV
  have k0 := h0
  have lt0 : ∀ x ∈ p0, x.block < W.heap.size := by obtain ⟨m, hm⟩ := k0; exact DataW.trod_lt m _ _ _ hm
  obtain ⟨ad, dlen, dcap, rfl⟩ := okWide_slice Try.underlying42 (hval 0 42 v0 rfl rfl)
  obtain ⟨D, dl, dm, drow, dcl⟩ := units_of_read h0
  have k1 := h1
  have lt1 : ∀ x ∈ p1, x.block < W.heap.size := by obtain ⟨m, hm⟩ := k1; exact DataW.trod_lt m _ _ _ hm
  obtain ⟨n, na, nc, rfl, hnl, hnr⟩ := need_of_read (hval 1 43 v1 rfl rfl) h1
  obtain ⟨t, rfl, rfl, rfl, k2⟩ := open_int Try.underlying2 (hval 2 2 v2 rfl rfl) h2
  obtain ⟨c, rfl, rfl, rfl, k3⟩ := open_int Try.underlying2 (hval 3 2 v3 rfl rfl) h3
  clear hA0 hval0
  refine (walk ad dlen dcap D n na nc t c W drow dm dcl hnr hnl).mono fun e W' ⟨he, bel⟩ => ?_
  subst he
  exact ⟨_, rfl, _, _, _, [], _, [], hW', trodAll_mk1 (shut_bool Try.underlying4 _), (trodAll_cons_mk (Below.trod laidOut (by kernel_rfl) (of_decide_eq_true (by kernel_rfl)) k0 bel lt0) (trodAll_cons_mk (Below.trod laidOut (by kernel_rfl) (of_decide_eq_true (by kernel_rfl)) k1 bel lt1) (trodAll_cons_mk (shut_int Try.underlying2 k2) (trodAll_cons_mk (shut_int Try.underlying2 k3) trodAll_mk0)))), rfl, bel.frame _, fun h => by cases h⟩
theorem over : Rows.fnExactPickRow.holds Try.pinned (OpenSpec.ofChange Rows.fnExactPickSpec) :=
  OpenClaim.holds_of_wide 5 Try.f5 rfl rfl rfl rfl rfl rfl rfl ⟨rfl, rfl, rfl, rfl, rfl⟩ rfl rfl rfl rfl rfl (by kernel_rfl) Try.func5 (by kernel_rfl)
    (of_decide_eq_true (by kernel_rfl)) (by unfold Func.isWrapper; first | (rw [if_pos (by decide +kernel)]; kernel_rfl) | (rw [if_neg (by decide +kernel)]; exact ⟨rfl, rfl⟩))
    (fun os started H enc _ => lifted os started H enc)
end fnExactPick
theorem fnExactPick_holds : Rows.FnExactPickSaid := fnExactPick.over
end Go.Proofs.Ytgcpiinmcbdkmaa
