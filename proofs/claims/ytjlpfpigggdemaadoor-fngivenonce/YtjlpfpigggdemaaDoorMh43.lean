/-
 Merged: U81 U78 By.
-/
import Derived.Test.YtjlpfpigggdemaaDoorMh42
import Derived.Test.YtjlpfpigggdemaaDoorMh34
import Derived.Test.YtjlpfpigggdemaaDoorMh20
import Derived.Test.YtjlpfpigggdemaaDoorMh1
import Derived.ProofKit
import Derived.OpenShut
import Derived.ShutString
import Derived.ChangeOld
import Derived.Below
import Derived.Deep.Slices
namespace Go.Proofs.YtjlpfpigggdemaaDoor.Uo
set_option maxRecDepth 8000
set_option maxHeartbeats 4000000
open Va
set_option linter.all false
structure Rep (os : List Od) (ds : List Ds) (x : Dd) (i : Nat) (D : List Ds) : Prop where
 five : x.k = 5
 right : jm os D = true
 len : D.length = ds.length + 1 + i
 small : ds.length <= 100
 dd : ddB x = true
 ord : ∃ (k : Nat) (o : Od), atO os x.id = (k : Int) /\ os[k]? = some o /\ o.id = x.id /\ o.s = 2 /\ x.p = o.p /\ x.d = o.d /\ x.n = o.n /\ byB o.two x.b x.a = true
 late : zad D x.m = false
theorem zgu (D : List Ds) (y : Ds) : zad (D ++ [y]) y.m = false := by
 unfold zad
 rw [List.length_append, List.length_singleton, Nat.add_sub_cancel, zhw]
 simp
theorem zjd {os : List Od} {ds : List Ds} {x : Dd} (hc : jm os ds = true) (hd : doC os ds x = 0) (hk : x.k = 5) (hs : ds.length <= 100) : Rep os ds x 0 (qy os ds x) /\ yj os x = os := by
 obtain ⟨k, o, t, h⟩ := zg3 hc hd hk
 refine ⟨?_, (h.ds hk).1⟩
 rw [(h.ds hk).2]
 exact ⟨hk, zgl hc h, by simp, hs, zet hd, ⟨k, o, h.at_, h.get, h.id, h.s, h.p, h.d, h.n, h.by_⟩, zgu _ _⟩
theorem Rep.code {os : List Od} {ds : List Ds} {x : Dd} {i : Nat} {D : List Ds} (h : Rep os ds x i D) (hi : i <= 12) : doC os D x = 0 ∨ doC os D x = 9 := by
 obtain ⟨k, o, h1, h2, h3, h4, h5, h6, h7, h8⟩ := h.ord
 have hk := h.five
 have hl := h.len
 have hs := h.small
 unfold doC
 rw [if_neg (by rw [h.dd]; simp), if_neg (by omega), if_neg (by omega), h1, show ((k : Int).toNat) = k from rfl, kw h2, if_neg (by rw [hk, h4]; decide), if_pos hk]
 unfold zaj
 rw [if_neg (by simpa using h5), if_neg (by simpa using h6), if_neg (by simpa using h7)]
 by_cases e : (za3 os D x.m x.id).length = 0
 ·rw [if_pos e]; exact Or.inr rfl
 ·rw [if_neg e, if_neg (by rw [h8]; simp), if_neg (by rw [h.late]; simp), if_neg (by omega)]; exact Or.inl rfl
theorem Rep.next {os : List Od} {ds : List Ds} {x : Dd} {i : Nat} {D : List Ds} (h : Rep os ds x i D) (hd : doC os D x = 0) : ∃ t : Nat, Rep os ds x (i + 1) (D ++ [⟨x.id, (t : Int), x.m, x.b, x.a⟩]) /\ yj os x = os /\ qy os D x = D ++ [⟨x.id, (t : Int), x.m, x.b, x.a⟩] /\ ∀ d ∈ D, ¬ (d.o = x.id /\ d.t = (t : Int)) := by
 obtain ⟨k, o, t, g⟩ := zg3 h.right hd h.five
 have hl := h.len
 exact ⟨t, ⟨h.five, zgl h.right g, by rw [List.length_append, List.length_singleton]; omega, h.small, h.dd, h.ord, zgu _ _⟩, (g.ds h.five).1, (g.ds h.five).2, g.new⟩
end Go.Proofs.YtjlpfpigggdemaaDoor.Uo
namespace Go.Proofs.YtjlpfpigggdemaaDoor
open Go.RowKit Va Uo
set_option linter.all false
set_option maxRecDepth 20000 in
set_option maxHeartbeats 16000000 in
theorem fgo_walk (ao : Option Addr) (cap : Nat) (bs : List Int) (w : World) (hb : Bytes w w.heap.size ao bs) (hL : zcy w) :
  Calls Tryd.prog 4 #[.slice ao bs.length cap] w fun e w' => e = .returned (.bool true) /\ Below w.heap.size w w' := by
 have kb := big_any ao cap bs.length w
 by_cases hbig : (4096 : Int) < (bs.length : Int)
 ·rw [decide_eq_true hbig] at kb
  clear hb
  go_enter Tryd.func4, Tryd.ntmps4
  go_wp2_with fail
  refine kb.mono ?_
  rintro e w1 ⟨rfl, hw1⟩
  subst hw1
  go_wp2_with fail
  go_ret
  exact ⟨rfl, Below.refl _ _⟩
 rw [decide_eq_false hbig] at kb
 have hl : bs.length <= 4096 := by omega
 have HD := hidden (dod_any ao cap bs w hb (by omega))
 have HL := hidden hL
 clear hb hbig hL
 go_enter Tryd.func4, Tryd.ntmps4
 go_wp2_with fail
 refine kb.mono ?_
 rintro e w1 ⟨rfl, hw1⟩
 subst hw1
 clear kb
 go_wp2_with fail
 refine HD.out.mono ?_
 rintro e wD ⟨v1, v2, os, ds, x, rfl, hR, hol, hdl, hbD⟩
 obtain ⟨a1, c1, rfl⟩ := hR.1.form
 obtain ⟨a2, c2, rfl⟩ := hR.2.form
 unfold qm
 have bA : Below wD.heap.size wD ((wD.alloc (.cells #[.slice a1 os.length c1, .slice a2 ds.length c2] 27)).alloc (.cells #[.int .i64 x.k, .int .i64 x.o.id, .int .i64 x.o.p, .int .i64 x.o.d, .int .i64 x.o.n, .int .i64 x.o.f, .int .i64 x.o.e, .int .i64 x.o.c, .int .i64 x.o.s, .bool x.o.two, .int .i64 x.id, .int .i64 x.p, .int .i64 x.d, .int .i64 x.n, .int .i64 x.m, .int .i64 x.b, .int .i64 x.a] 31)) := ((Below.refl _ wD).alloc (Nat.le_refl _) _).alloc (by simp) _
 have hX := (PB.new wD #[.slice a1 os.length c1, .slice a2 ds.length c2] 27).alloc (.cells #[.int .i64 x.k, .int .i64 x.o.id, .int .i64 x.o.p, .int .i64 x.o.d, .int .i64 x.o.n, .int .i64 x.o.f, .int .i64 x.o.e, .int .i64 x.o.c, .int .i64 x.o.s, .bool x.o.two, .int .i64 x.id, .int .i64 x.p, .int .i64 x.d, .int .i64 x.n, .int .i64 x.m, .int .i64 x.b, .int .i64 x.a] 31)
 have hM := PB.new (wD.alloc (.cells #[.slice a1 os.length c1, .slice a2 ds.length c2] 27)) #[.int .i64 x.k, .int .i64 x.o.id, .int .i64 x.o.p, .int .i64 x.o.d, .int .i64 x.o.n, .int .i64 x.o.f, .int .i64 x.o.e, .int .i64 x.o.c, .int .i64 x.o.s, .bool x.o.two, .int .i64 x.id, .int .i64 x.p, .int .i64 x.d, .int .i64 x.n, .int .i64 x.m, .int .i64 x.b, .int .i64 x.a] 31
 simp only [World.size_alloc] at hM
 have HR3 := hidden (show Cp.CRw _ _ _ os ds from ⟨hR.1.below bA, hR.2.below bA⟩)
 have HB3 := hidden (hbD.trans (bA.mono hbD.size))
 have HL3 := hidden (HL.out.below HB3.out)
 have HL1 := HL
 clear hR hbD bA HD HL
 go_upto_region 4 with fail
 generalize (wD.alloc (.cells #[.slice a1 os.length c1, .slice a2 ds.length c2] 27)).alloc (.cells #[.int .i64 x.k, .int .i64 x.o.id, .int .i64 x.o.p, .int .i64 x.o.d, .int .i64 x.o.n, .int .i64 x.o.f, .int .i64 x.o.e, .int .i64 x.o.c, .int .i64 x.o.s, .bool x.o.two, .int .i64 x.id, .int .i64 x.p, .int .i64 x.d, .int .i64 x.n, .int .i64 x.m, .int .i64 x.b, .int .i64 x.a] 31) = w3 at *
 generalize wD.heap.size = X at *
 have HXX := hidden hX
 have HMM : Hid (PB w3 (X + 1) (qm x) 31) := hM
 generalize hME : X + 1 = M at *
 have hMX : M ≠ X := by omega
 clear hX hM hME
 obtain ⟨x0, x1⟩ := HXX.out.two
 go_wp2_with (first | (refine wpList_load_row rfl 31 (.tmp 4) rfl M rfl 31 (qm x) (0, 0) _ HMM.out Tryd.underlying31 rfl (by kernel_rfl) ?_) | fail)
 refine (zju a1 c1 a2 c2 os ds x w3 HR3.out (by omega) (by omega)).mono ?_
 rintro e w4 ⟨v1, v2, rfl, hN4, hb4⟩
 obtain ⟨r1, s1, r2, s2, rfl, rfl⟩ := hN4.form
 have HB35 := hidden (hb4.alloc hb4.size (.cells #[.slice r1 (yh os ds x).length s1, .slice r2 (yg os ds x).length s2] 27))
 clear hN4 hb4 x0 x1
 go_upto_region 5 with fail
 generalize w4.alloc (.cells #[.slice r1 (yh os ds x).length s1, .slice r2 (yg os ds x).length s2] 27) = w5 at *
 have HR5 := hidden (show Cp.CRw w5 _ _ os ds from ⟨HR3.out.1.below HB35.out, HR3.out.2.below HB35.out⟩)
 have HX5 := hidden (HXX.out.below HB35.out)
 have HM5 := hidden (HMM.out.below HB35.out)
 have HL5 := hidden (HL3.out.below HB35.out)
 have HB5 := hidden (HB3.out.trans (HB35.out.mono HB3.out.size))
 clear HXX HMM HR3 HL3 HB35 HB3
 obtain ⟨x0, x1⟩ := HX5.out.two
 go_wp2_with (first | (refine wpList_load_row rfl 31 (.tmp 4) rfl M rfl 31 (qm x) (0, 0) _ HM5.out Tryd.underlying31 rfl (by kernel_rfl) ?_) | fail)
 refine (zh9 a1 os.length c1 a2 ds.length c2 os ds x w5 HR5.out (by omega) (by omega) HL5.out).mono ?_
 rintro e w6 ⟨v1, v2, rfl, hN6, hb6⟩
 obtain ⟨p1, q1, p2, q2, rfl, rfl⟩ := hN6.form
 have ba : Below w6.heap.size w6 (w6.alloc (.cells #[.slice p1 (yh os ds x).length q1, .slice p2 (yg os ds x).length q2] 27)) := (Below.refl _ _).alloc (Nat.le_refl _) _
 have hG := PB.new w6 #[.slice p1 (yh os ds x).length q1, .slice p2 (yg os ds x).length q2] 27
 have HN7 := hidden (hN6.below ba)
 have HB57 := hidden (hb6.trans (ba.mono hb6.size))
 have hMY : M < w6.heap.size := Nat.lt_of_lt_of_le HM5.out.lt hb6.size
 have HsY : Hid (w5.heap.size <= w6.heap.size) := hb6.size
 clear hN6 hb6 ba x0 x1
 go_upto_region 6 with fail
 generalize w6.alloc (.cells #[.slice p1 (yh os ds x).length q1, .slice p2 (yg os ds x).length q2] 27) = w7 at *
 generalize w6.heap.size = Y at *
 have HGG := hidden hG
 have HX7 := hidden (HX5.out.below HB57.out)
 have HM7 := hidden (HM5.out.below HB57.out)
 have HL7 := hidden (HL5.out.below HB57.out)
 have HB7 := hidden (HB5.out.trans (HB57.out.mono HB5.out.size))
 have HBY : Hid (w1.heap.size <= Y) := Nat.le_trans HB5.out.size HsY.out
 have hMY' : Y ≠ M := by omega
 clear hG HX5 HM5 HR5 HL5 HB57 HB5 HsY hMY
 have e1 : (odC os ds x != odC os ds x) = false := by simp
 have d0 : w7.cell? ⟨M, 0, none⟩ = some (.int .i64 x.k) := HM7.out.cell 0
 obtain ⟨x0, x1⟩ := HX7.out.two
 by_cases h5 : x.k = 5
 case neg =>
  have h5' : (x.k != 5) = true := by simp [h5]
  generalize odC os ds x = cc at *
  clear HGG HN7
  go_wp2_with fail
  go_ret
  exact ⟨rfl, HB7.out⟩
 have h5' : (x.k != 5) = false := by simp [h5]
 by_cases hc0 : odC os ds x = 0
 case neg =>
  have hc0' : (odC os ds x != 0) = true := by simp [hc0]
  generalize odC os ds x = cc at *
  clear HGG HN7
  go_wp2_with fail
  go_ret
  exact ⟨rfl, HB7.out⟩
 have hcB : jm os ds = true := by
  cases hq : jm os ds with
  | true => rfl
  | false => rw [show odC os ds x = 1 by simp [odC, hq]] at hc0; cases hc0
 have hd0 : doC os ds x = 0 := by rw [<- hc0]; simp [odC, hcB]
 rw [hc0] at e1 ⊢
 by_cases h100 : (100 : Int) < (ds.length : Int)
 ·clear HGG HN7
  go_wp2_with fail
  go_ret
  exact ⟨rfl, HB7.out⟩
 obtain ⟨hrep, hOs⟩ := zjd hcB hd0 h5 (by omega)
 have g2 : yh os ds x = os := by simp [yh, hcB, hd0, hOs]
 have g3 : yg os ds x = qy os ds x := by simp [yg, hcB, hd0]
 rw [g2, g3] at HGG HN7 ⊢
 generalize qy os ds x = D0 at *
 have HREP := hidden hrep
 have HOS := hidden hOs
 clear g2 g3 hrep hOs hcB hd0 hc0
 go_wp2_with fail
 clear x0 x1 d0 e1 h5' HX7
 go_loopw [10] (fun iv wr => ∃ (i : Nat) (D : List Ds) (k1 l1 : Option Addr) (k2 l2 base : Nat), i <= 12 /\ iv = .int .i64 i /\ PB wr Y #[.slice k1 os.length k2, .slice l1 D.length l2] 27 /\ Cp.zo wr base (.slice k1 os.length k2) (.slice l1 D.length l2) os D /\ Rep os ds x i D /\ PB wr M (qm x) 31 /\ zcy wr /\ Below w1.heap.size w1 wr) (fun iv _ => 12 - (intOf iv).toNat)
 case atStart => exact ⟨0, D0, _, _, _, _, _, Nat.zero_le _, rfl, HGG.out, HN7.out, HREP.out, HM7.out, HL7.out, HB7.out⟩
 case round =>
  clear HGG HN7 HREP HM7 HL7 HB7
  obtain ⟨i, D, k1, l1, k2, l2, base, hi, rfl, hY, hN, hrp, hM, hLd, hbr⟩ := hrel
  have HDL := hidden hrp.len
  have hDm : D.length <= 113 := by have := HDL.out; have := hrp.small; omega
  by_cases hlt : i < 12
  case neg =>
   obtain rfl : i = 12 := by omega
   have HF := hidden hbr
   have hz : ((ds.length : Int) + 13 == (ds.length : Int) + 13) = true := by simp
   rw [show D.length = ds.length + 13 by have := HDL.out; omega] at hY
   obtain ⟨y0, y1⟩ := hY.two
   clear hY hN hrp hM hLd hbr hDm HDL
   go_wp2_with fail
   go_ret
   exact ⟨by first | rfl | simp, HF.out⟩
  have hlti : (i : Int) < 12 := by omega
  have HYY := hidden hY
  have HNN := hidden hN
  have HRP := hidden hrp
  have HMM := hidden hM
  have HLL := hidden hLd
  have HBR := hidden hbr
  obtain ⟨y0, y1⟩ := hY.two
  clear hY hN hrp hM hLd hbr
  go_wp2_with (first | (refine wpList_load_row rfl 31 (.tmp 4) rfl M rfl 31 (qm x) (0, 0) _ HMM.out Tryd.underlying31 rfl (by kernel_rfl) ?_) | fail)
  refine (zh9 k1 os.length k2 l1 D.length l2 os D x wr (zb6 HNN.out) (by omega) (by omega) HLL.out).mono ?_
  rintro e w4 ⟨v1, v2, rfl, hN4, hb4⟩
  obtain ⟨p1, q1, p2, q2, rfl, rfl⟩ := hN4.form
  have hcode := HRP.out.code (by omega)
  have hcD : odC os D x = doC os D x := by simp [odC, HRP.out.right]
  have ba : Below w4.heap.size w4 (w4.alloc (.cells #[.slice p1 (yh os D x).length q1, .slice p2 (yg os D x).length q2] 27)) := (Below.refl _ _).alloc (Nat.le_refl _) _
  have hZ := PB.new w4 #[.slice p1 (yh os D x).length q1, .slice p2 (yg os D x).length q2] 27
  have HN5 := hidden (hN4.below ba)
  have HB45 := hidden (hb4.trans (ba.mono hb4.size))
  have hYZ : Y < w4.heap.size := Nat.lt_of_lt_of_le HYY.out.lt hb4.size
  clear hN4 hb4 ba y0 y1
  go_upto_region 15 with fail
  generalize w4.alloc (.cells #[.slice p1 (yh os D x).length q1, .slice p2 (yg os D x).length q2] 27) = w5 at *
  generalize w4.heap.size = Z at *
  have HZZ := hidden hZ
  have HY5 := hidden (HYY.out.below HB45.out)
  have HM5 := hidden (HMM.out.below HB45.out)
  have HL5 := hidden (HLL.out.below HB45.out)
  have HNO := hidden (HNN.out.below HB45.out)
  have HB5 := hidden (HBR.out.trans (HB45.out.mono HBR.out.size))
  clear hZ HYY HMM HLL HNN HBR HB45
  rw [hcD] at *
  rcases hcode with h0 | h9
  case inr =>
   have g2 : yh os D x = os := by simp [yh, HRP.out.right, h9]
   have g3 : yg os D x = D := by simp [yg, HRP.out.right, h9]
   rw [g2, g3] at HZZ HN5
   rw [h9]
   obtain ⟨y0, y1⟩ := HY5.out.two
   obtain ⟨z0, z1⟩ := HZZ.out.two
   have n1 := (zb6 HN5.out)
   have n2 := (zb6 HNO.out)
   have HSC := hidden (zks p1 p2 k1 l1 os.length D.length os.length D.length q1 q2 k2 l2 os D w5 n1 n2 (by omega) (by omega))
   clear n1 n2 g2 g3 hcD h9
   go_wp2_with fail
   refine HSC.out.mono ?_
   rintro e w8 ⟨rfl, hb8⟩
   have HF := hidden (HB5.out.trans (hb8.mono HB5.out.size))
   clear hb8
   go_wp2_with fail
   go_ret
   exact ⟨rfl, HF.out⟩
  obtain ⟨t, hR2, hOs2, hDs2, hnew⟩ := HRP.out.next h0
  have g2 : yh os D x = os := by simp [yh, HRP.out.right, h0, HOS.out]
  have g3 : yg os D x = D ++ [⟨x.id, (t : Int), x.m, x.b, x.a⟩] := by simp [yg, HRP.out.right, h0, hDs2]
  rw [g2, g3] at HZZ HN5
  rw [h0]
  have HR2 := hidden hR2
  have HNW := hidden hnew
  have hdn : (D ++ [(⟨x.id, (t : Int), x.m, x.b, x.a⟩ : Ds)])[D.length]? = some ⟨x.id, (t : Int), x.m, x.b, x.a⟩ := by rw [List.getElem?_append_right (Nat.le_refl _)]; simp
  have hlen2 : (D ++ [(⟨x.id, (t : Int), x.m, x.b, x.a⟩ : Ds)]).length = D.length + 1 := by simp
  generalize hD2 : D ++ [(⟨x.id, (t : Int), x.m, x.b, x.a⟩ : Ds)] = D2 at *
  clear hD2
  obtain ⟨G, og, hp2, hGl, hgc⟩ := (zb6 HN5.out).2.at hdn
  obtain rfl := hp2
  rw [hlen2] at HZZ HN5
  have HL2 := hidden hlen2
  clear g2 g3 hcD h0 hR2 hnew hOs2 hDs2 hdn hlen2
  obtain ⟨z0, z1⟩ := HZZ.out.two
  have n0 : w5.cell? ⟨G, og + D.length * 5, none⟩ = some (.int .i64 x.id) := hgc 0 (by omega)
  have n1 : w5.cell? ⟨G, og + D.length * 5 + 1, none⟩ = some (.int .i64 (t : Int)) := hgc 1 (by omega)
  have n2 : w5.cell? ⟨G, og + D.length * 5 + 2, none⟩ = some (.int .i64 x.m) := hgc 2 (by omega)
  have n3 : w5.cell? ⟨G, og + D.length * 5 + 3, none⟩ = some (.int .i64 x.b) := hgc 3 (by omega)
  have n4 : w5.cell? ⟨G, og + D.length * 5 + 4, none⟩ = some (.int .i64 x.a) := hgc 4 (by omega)
  clear hgc
  have bE : Below w5.heap.size w5 (w5.alloc (.cells #[.int .i64 x.id, .int .i64 (t : Int), .int .i64 x.m, .int .i64 x.b, .int .i64 x.a] 39)) := (Below.refl _ _).alloc (Nat.le_refl _) _
  have HE := hidden (PB.new w5 #[.int .i64 x.id, .int .i64 (t : Int), .int .i64 x.m, .int .i64 x.b, .int .i64 x.a] 39)
  have HY6 := hidden (HY5.out.below bE)
  have HZ6 := hidden (HZZ.out.below bE)
  have HM6 := hidden (HM5.out.below bE)
  have HL6 := hidden (HL5.out.below bE)
  have HN6 := hidden (HN5.out.below bE)
  have HO6 := hidden (HNO.out.below bE)
  have HB6 := hidden (HB5.out.trans (bE.mono HB5.out.size))
  clear bE HY5 HZZ HM5 HL5 HN5 HNO HB5 HRP
  go_upto_region 18 with fail
  generalize w5.alloc (.cells #[.int .i64 x.id, .int .i64 (t : Int), .int .i64 x.m, .int .i64 x.b, .int .i64 x.a] 39) = w6 at *
  generalize w5.heap.size = E at *
  clear z0 z1 n0 n1 n2 n3 n4
  go_wp2_with fail
  go_loopw [14] (fun jv wz => ∃ j : Nat, j <= D.length /\ jv = .int .i64 j /\ Below w6.heap.size w6 wz) (fun jv _ => D.length - (intOf jv).toNat)
  case atStart => exact ⟨0, Nat.zero_le _, rfl, Below.refl _ _⟩
  case round =>
   obtain ⟨j, hj, rfl, hbz⟩ := hrel
   obtain ⟨y0, y1⟩ := (HY6.out.below hbz).two
   by_cases hjl : j < D.length
   ·have hlj : (j : Int) < (D.length : Int) := by omega
    obtain ⟨d, hd⟩ := yz D j hjl
    obtain ⟨Go, oo2, hl1, hGo, hoc⟩ := ((zb6 HO6.out).2.below hbz).at hd
    obtain rfl := hl1
    have s0 : wr.cell? ⟨Go, oo2 + j * 5, none⟩ = some (.int .i64 d.o) := hoc 0 (by omega)
    have s1 : wr.cell? ⟨Go, oo2 + j * 5 + 1, none⟩ = some (.int .i64 d.t) := hoc 1 (by omega)
    have e0 : wr.cell? ⟨E, 0, none⟩ = some (.int .i64 x.id) := (HE.out.below hbz).cell 0
    have e1 : wr.cell? ⟨E, 1, none⟩ = some (.int .i64 (t : Int)) := (HE.out.below hbz).cell 1
    have hnd := HNW.out d (List.mem_of_getElem? hd)
    have HBZ := hidden hbz
    clear hoc hd hbz
    by_cases hdo : d.o = x.id
    ·have hdt : ¬ d.t = (t : Int) := fun q => hnd ⟨hdo, q⟩
     have hdt' : (d.t == (t : Int)) = false := by simp [hdt]
     rw [hdo] at s0
     clear hnd
     go_wp2_with fail
     first | go_region | fail
     all_goals go_wp2_with fail
     all_goals go_roundw
     all_goals first | exact ⟨j + 1, by omega, rfl, jo HBZ.out⟩ | exact ⟨j + 1, by omega, rfl, HBZ.out⟩ | (simp [intOf]; omega) | fail
    ·have hdo' : (d.o == x.id) = false := by simp [hdo]
     clear hnd
     go_wp2_with fail
     first | go_region | fail
     all_goals go_wp2_with fail
     all_goals go_roundw
     all_goals first | exact ⟨j + 1, by omega, rfl, jo HBZ.out⟩ | exact ⟨j + 1, by omega, rfl, HBZ.out⟩ | (simp [intOf]; omega) | fail
   ·obtain rfl : j = D.length := by omega
    obtain ⟨z0, z1⟩ := (HZ6.out.below hbz).two
    have hYY := HY6.out.below hbz
    have hNz := HN6.out.below hbz
    have hMz := HM6.out.below hbz
    have HLz := hidden (HL6.out.below hbz)
    have HBz := hidden (HB6.out.trans (hbz.mono HB6.out.size))
    rw [<- HL2.out] at z1 hNz
    have HYn := hidden ((hYY.put 0 (.slice p1 os.length q1) rfl).put 1 (.slice (some ⟨G, og, none⟩) D2.length q2) rfl)
    have HNn := hidden (zas (zas hNz hYY (by decide) (by decide) 0 (.slice p1 os.length q1)) (hYY.put 0 (.slice p1 os.length q1) rfl) (by decide) (by decide) 1 (.slice (some ⟨G, og, none⟩) D2.length q2))
    have HMn := hidden ((hMz.far hMY' 0 (.slice p1 os.length q1)).far hMY' 1 (.slice (some ⟨G, og, none⟩) D2.length q2))
    have HBn := hidden ((HBz.out.setCell (p := ⟨Y, 0, none⟩) HBY.out (.slice p1 os.length q1)).setCell (p := ⟨Y, 1, none⟩) HBY.out (.slice (some ⟨G, og, none⟩) D2.length q2))
    have f0 := hYY.frozen 0
    have f1 := hYY.frozen 1
    clear hYY hNz hMz hbz
    go_wp2_with fail
    go_roundw
    case rel => exact ⟨i + 1, D2, _, _, _, _, _, by omega, rfl, HYn.out, HNn.out, HR2.out, HMn.out, HL1.out.below HBn.out, HBn.out⟩
    case measure => simp [intOf]; omega
end Go.Proofs.YtjlpfpigggdemaaDoor
namespace Go.Proofs.YtjlpfpigggdemaaDoor
open Go.RowKit
set_option maxRecDepth 20000 in
set_option maxHeartbeats 16000000 in
theorem zis {H : Type} {enc : TypeId × Value -> H} {P : Program} {W : World} {sp : Nat -> Bool} {hd : Bool} {t e : TypeId} {ao : Option Addr} {len cap : Nat} {d : DataW H} {p : List MemPlace}
  (ht : P.underlying t = some (.slice e)) (he : P.underlying e = some (.int .u8)) (hc : P.cellsOf e = 1) (h : DataW.Trod enc P W 0 sp hd t (.slice ao len cap) d p) :
  ∃ bs : List Int, bs.length = len /\ Bytes W W.heap.size ao bs := by
 obtain ⟨fuel, hf⟩ := h
 rcases Deep.open_slice1 ht hc hf with ⟨h1, _⟩ | ⟨a, l, c, m, n, V, D, Pl, h1, _, hl, _, hm, _, hx⟩
 ·simp [Value.cells] at h1
  obtain ⟨rfl, rfl, rfl⟩ := h1
  exact ⟨[], rfl, by simp, Or.inl rfl⟩
 ·simp [Value.cells] at h1
  obtain ⟨rfl, rfl, rfl⟩ := h1
  have hle : len <= m := by rw [hm]; split <;> omega
  have hV : ∀ i, i < len -> ∃ x : Int, V i = .int .u8 x /\ 0 <= x /\ x <= 255 := by
   intro i hi
   obtain ⟨_, h2⟩ := hx i (by omega)
   cases n with
   | zero => simp [DataW.trod] at h2
   | succ n =>
    simp only [DataW.trod, he] at h2
    cases hv : V i with
    | int k b =>
     rw [hv] at h2
     by_cases q : k = .u8 /\ (Lit.int .u8 b).wf = true
     ·obtain ⟨rfl, q2⟩ := q
      refine ⟨b, rfl, ?_⟩
      have q3 : (decide (IntKind.u8.min <= b) && decide (b <= IntKind.u8.max)) = true := q2
      have e1 : IntKind.u8.min = 0 := by decide
      have e2 : IntKind.u8.max = 255 := by decide
      rw [e1, e2] at q3
      simpa using q3
     ·simp [q] at h2
    | _ => rw [hv] at h2; simp at h2
  refine ⟨(List.range len).map (fun i => match V i with | .int _ b => b | _ => 0), by simp, ?_, ?_⟩
  ·intro x hxm
   obtain ⟨i, hi, rfl⟩ := List.mem_map.1 hxm
   obtain ⟨y, hy, h0, h1⟩ := hV i (List.mem_range.1 hi)
   simp only [hy]
   exact ⟨h0, h1⟩
  ·by_cases h0 : len = 0
   ·exact Or.inl (by simp [h0])
   ·obtain ⟨b, off, spot⟩ := a
    have hs := (hx 0 (by omega)).1
    have hspot : spot = none := by simpa [Addr.add] using World.cell?_spot hs
    subst hspot
    refine Or.inr ⟨b, off, rfl, World.block_lt_of_cell? W _ (by simpa [Addr.add] using hs), ?_⟩
    intro i hi
    have hi' : i < len := by simpa using hi
    have h2 := (hx i (by omega)).1
    obtain ⟨x, hxv, _⟩ := hV i hi'
    rw [hxv] at h2
    have h3 : W.cell? ⟨b, off + i, none⟩ = some (.int .u8 x) := by
     by_cases q : i = 0
     ·subst q; simpa [Addr.add] using h2
     ·simpa [Addr.add, q] using h2
    rw [h3]
    simp [hi', hxv]
end Go.Proofs.YtjlpfpigggdemaaDoor
