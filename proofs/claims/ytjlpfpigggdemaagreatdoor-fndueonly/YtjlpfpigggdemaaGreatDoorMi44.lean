/-
 Merged: U84 By.
-/
import Derived.Test.YtjlpfpigggdemaaGreatDoorMi42
import Derived.Test.YtjlpfpigggdemaaGreatDoorMi43
import Derived.Test.YtjlpfpigggdemaaGreatDoorMi34
import Derived.Test.YtjlpfpigggdemaaGreatDoorMi20
import Derived.Test.YtjlpfpigggdemaaGreatDoorMi1
import Derived.ProofKit
import Derived.OpenShut
import Derived.ShutString
import Derived.ChangeOld
import Derived.Below
import Derived.Deep.Slices
namespace Go.Proofs.YtjlpfpigggdemaaGreatDoor
set_option maxRecDepth 8000
set_option maxHeartbeats 4000000
open Go.RowKit Va Uo
set_option linter.all false
theorem someZ {α : Type} (l : List α) (i : Nat) (h : i < l.length) : ∃ x, l[i]? = some x := ⟨_, List.getElem?_eq_getElem h⟩
theorem zhd {os : List Od} {ds : List Ds} {t : Int} {d : Du} (h : d ∈ zaj os ds t) : (ji os ds = true /\ zl t = true) /\ zaj os ds t = vg os ds t 0 := by
 unfold zaj at *
 by_cases hq : ji os ds = true /\ zl t = true
 ·exact ⟨hq, if_pos hq⟩
 ·rw [if_neg hq] at h; cases h
theorem zks {os : List Od} {ds : List Ds} {t : Int} {i : Nat} {d : Du} (h : (zaj os ds t)[i]? = some d) : (0 <= t /\ t <= 10000000) /\ (t - 60 <= d.s /\ d.s <= t + 30) /\ (∀ y ∈ ds, ¬ (y.o = d.o /\ y.t = d.t)) /\ (0 < i -> ∃ x, (zaj os ds t)[i - 1]? = some x /\ x.s <= d.s) := by
 obtain ⟨⟨hc, ht⟩, he⟩ := zhd (List.mem_of_getElem? h)
 have ht' : 0 <= t /\ t <= 10000000 := by simpa [zl, rng] using ht
 rw [he] at h ⊢
 obtain ⟨h1, h2, _⟩ := zi7 hc (List.mem_of_getElem? h)
 refine ⟨ht', h1, h2, fun hi => ?_⟩
 obtain ⟨k, rfl⟩ : ∃ k, i = k + 1 := ⟨i - 1, by omega⟩
 have hk := (List.getElem?_eq_some_iff.1 h).1
 refine ⟨_, List.getElem?_eq_getElem (show k + 1 - 1 < _ by omega), ?_⟩
 exact zjv hc (i := k) (List.getElem?_eq_getElem (by omega)) h
theorem zkr {os : List Od} {ds : List Ds} {t : Int} {d : Du} (h : d ∈ zaj os ds t) : odC os ds (qi d.o) = 0 /\ (∀ x ∈ zaj (zbb os ds (qi d.o)) (zbg os ds (qi d.o)) t, x.o ≠ d.o) /\ (zaj (zbb os ds (qi d.o)) (zbg os ds (qi d.o)) t).length < (zaj os ds t).length /\ (zbb os ds (qi d.o)).length <= 1000 /\ (zbg os ds (qi d.o)).length <= 1000 := by
 obtain ⟨⟨hc, ht⟩, he⟩ := zhd h
 rw [he] at h ⊢
 obtain ⟨h0, h1, h2, h3⟩ := due_held hc h
 have e1 : zbb os ds (qi d.o) = ve os (qi d.o) := by simp [zbb, hc, h0]
 have e2 : zbg os ds (qi d.o) = qo os ds (qi d.o) := by simp [zbg, hc, h0]
 rw [e1, e2]
 have e3 : zaj (ve os (qi d.o)) (qo os ds (qi d.o)) t = vg (ve os (qi d.o)) (qo os ds (qi d.o)) t 0 := if_pos ⟨h1, ht⟩
 rw [e3]
 have hl := (za5.1 h1).1
 exact ⟨by simp [odC, hc, h0], h2, h3, by omega, by omega⟩
set_option maxRecDepth 20000 in
set_option maxHeartbeats 16000000 in
theorem fdo_walk (ao : Option Addr) (cap : Nat) (bs : List Int) (w : World) (hb : Bytes w w.heap.size ao bs) (hL : zd6 w) :
  Calls Tryz.prog 3 #[.slice ao bs.length cap] w fun e w' => e = .returned (.bool true) /\ Below w.heap.size w w' := by
 have kb := big_any ao cap bs.length w
 by_cases hbig : (4096 : Int) < (bs.length : Int)
 ·rw [decide_eq_true hbig] at kb
  clear hb
  go_enter Tryz.func3, Tryz.ntmps3
  go_wp2_with fail
  refine kb.mono ?_
  rintro e w1 ⟨rfl, hw1⟩
  subst hw1
  go_wp2_with fail
  go_ret
  exact ⟨rfl, Below.refl _ _⟩
 rw [decide_eq_false hbig] at kb
 have hl : bs.length <= 4096 := by omega
 have HD := hidden (ddue_any ao cap bs w hb (by omega))
 have HL := hidden hL
 clear hb hbig hL
 go_enter Tryz.func3, Tryz.ntmps3
 go_wp2_with fail
 refine kb.mono ?_
 rintro e w1 ⟨rfl, hw1⟩
 subst hw1
 clear kb
 go_wp2_with fail
 refine HD.out.mono ?_
 rintro e wD ⟨v1, v2, os, ds, t, rfl, hR, hol, hdl, hbD⟩
 obtain ⟨a1, c1, rfl⟩ := hR.1.form
 obtain ⟨a2, c2, rfl⟩ := hR.2.form
 have bA : Below wD.heap.size wD (wD.alloc (.cells #[.slice a1 os.length c1, .slice a2 ds.length c2] 27)) := (Below.refl _ wD).alloc (Nat.le_refl _) _
 have hX := PB.new wD #[.slice a1 os.length c1, .slice a2 ds.length c2] 27
 have HR3 := hidden (show Cp.CRw _ _ _ os ds from ⟨hR.1.below bA, hR.2.below bA⟩)
 have HB3 := hidden (hbD.trans (bA.mono hbD.size))
 clear hR hbD bA HD
 go_upto_region 4 with fail
 generalize wD.alloc (.cells #[.slice a1 os.length c1, .slice a2 ds.length c2] 27) = w3 at *
 generalize wD.heap.size = X at *
 have HXX := hidden hX
 clear hX
 obtain ⟨x0, x1⟩ := HXX.out.two
 go_wp2_with fail
 refine (zia a1 os.length c1 a2 ds.length c2 os ds t w3 HR3.out.1 HR3.out.2 (by omega) (by omega)).mono ?_
 rintro e w4 ⟨v, rfl, hown, hb4⟩
 obtain ⟨l1, l2, rfl⟩ := hown.row.form
 have HV4 := hidden hown.row
 have HR4 := hidden (show Cp.CRw w4 _ _ os ds from ⟨HR3.out.1.below hb4, HR3.out.2.below hb4⟩)
 have HX4 := hidden (HXX.out.below hb4)
 have HB4 := hidden (HB3.out.trans (hb4.mono HB3.out.size))
 clear x0 x1 HXX HR3 HB3 hown hb4
 obtain ⟨x0, x1⟩ := HX4.out.two
 have HS := hidden (zj7 a1 os.length c1 a2 ds.length c2 os ds t w4 HR4.out.1 HR4.out.2 (by omega) (by omega))
 have H1 := hidden (fun i d => zks (os := os) (ds := ds) (t := t) (i := i) (d := d))
 have H2 := hidden (fun d => zkr (os := os) (ds := ds) (t := t) (d := d))
 have HLn := hidden (ziw os ds t)
 generalize zaj os ds t = L at *
 go_wp2_with fail
 refine HS.out.mono ?_
 rintro e w5 ⟨v, rfl, hown, hb5⟩
 obtain ⟨s1, s2, rfl⟩ : ∃ s1 s2, v = .slice s1 L.length s2 := Cp.zac hown
 have HV5 := hidden (HV4.out.below hb5)
 have HR5 := hidden (show Cp.CRw w5 _ _ os ds from ⟨HR4.out.1.below hb5, HR4.out.2.below hb5⟩)
 have HX5 := hidden (HX4.out.below hb5)
 have HB5 := hidden (HB4.out.trans (hb5.mono HB4.out.size))
 clear x0 x1 HX4 HR4 HB4 HV4 hown hb5 HS
 go_wp2_with fail
 go_loopw [6, 7] (fun iv kv wr => ∃ i : Nat, i <= L.length /\ iv = .int .i64 i /\ Below w5.heap.size w5 wr) (fun iv _ _ => L.length - (intOf iv).toNat)
 case atStart => exact ⟨0, Nat.zero_le _, rfl, Below.refl _ _⟩
 case round =>
  obtain ⟨i, hi, rfl, hbr⟩ := hrel
  have hLb := HLn.out
  by_cases hlt : i < L.length
  ·have hlti : (i : Int) < (L.length : Int) := by omega
   obtain ⟨d, hd⟩ := someZ L i hlt
   obtain ⟨⟨ht0, ht1⟩, ⟨hw0, hw9⟩, hnot, hprev⟩ := H1.out i d hd
   have hV := HV5.out.below hbr
   obtain ⟨G, og, hl1, hGl, hgc⟩ := hV.at hd
   obtain rfl := hl1
   have s0 : wr.cell? ⟨G, og + i * 3, none⟩ = some (.int .i64 d.o) := hgc 0 (by omega)
   have s1 : wr.cell? ⟨G, og + i * 3 + 1, none⟩ = some (.int .i64 d.t) := hgc 1 (by omega)
   have s2 : wr.cell? ⟨G, og + i * 3 + 2, none⟩ = some (.int .i64 d.s) := hgc 2 (by omega)
   have hwa : IntKind.i64.wrap (t - 60) = t - 60 := by rw [IntKind.wrap_i64]; omega
   have hwb : IntKind.i64.wrap (t + 30) = t + 30 := by rw [IntKind.wrap_i64]; omega
   have e1 : decide (d.s < t - 60) = false := by simp; omega
   have e2 : decide (t + 30 < d.s) = false := by simp; omega
   have HNT := hidden hnot
   have HBR := hidden hbr
   have HDI := hidden hd
   clear hgc hnot hbr hd hw0 hw9 ht0 ht1 hlt
   go_upto_region 10 with fail
   go_cut [70] (fun gv wx => gv = .bool false /\ Below w5.heap.size w5 wx)
   case first =>
    by_cases h0 : 0 < i
    ·obtain ⟨x, hx, hxs⟩ := hprev h0
     obtain ⟨G', og', hl', _, hgp⟩ := hV.at hx
     obtain ⟨rfl, rfl⟩ : G = G' /\ og = og' := by simpa using hl'
     have p2 : wr.cell? ⟨G, og + (i - 1) * 3 + 2, none⟩ = some (.int .i64 x.s) := hgp 2 (by omega)
     have e3 : decide (d.s < x.s) = false := by simp; omega
     have hgi : decide (0 < i) = true := by simp; omega
     have hwr : IntKind.i64.wrap ((i : Int) - 1) = ((i - 1 : Nat) : Int) := by rw [IntKind.wrap_i64]; omega
     have hi2 : i - 1 < L.length := by omega
     have hi3 : ((i - 1 : Nat) : Int) < (L.length : Int) := by omega
     have hHV := hidden hV
     clear hgp hl' hx hprev hV
     go_quiet (fail)
     all_goals go_wp2_with fail
     all_goals go_meet
     all_goals exact ⟨rfl, by first | exact HBR.out | exact jq HBR.out | exact zao HBR.out _⟩
    ·have hgi : decide (0 < i) = false := by simp; omega
     have hHV := hidden hV
     clear hprev hV
     go_quiet (fail)
     all_goals go_wp2_with fail
     all_goals go_meet
     all_goals exact ⟨rfl, by first | exact HBR.out | exact jq HBR.out | exact zao HBR.out _⟩
   case rest =>
    obtain ⟨rfl, hbx⟩ := hcut
    have HBX := hidden hbx
    clear s0 s1 s2 e1 e2 hwa hwb hbx HBR
    go_wp2_with fail
    go_loopw [7] (fun kv wz => ∃ k : Nat, k <= ds.length /\ kv = .int .i64 k /\ Below w5.heap.size w5 wz) (fun kv _ => ds.length - (intOf kv).toNat)
    case atStart => exact ⟨0, Nat.zero_le _, rfl, HBX.out⟩
    case round =>
     obtain ⟨k, hk, rfl, hbz⟩ := hrel
     obtain ⟨x0, x1⟩ := (HX5.out.below hbz).two
     by_cases hkl : k < ds.length
     ·have hlk : (k : Int) < (ds.length : Int) := by omega
      obtain ⟨y, hy⟩ := someZ ds k hkl
      obtain ⟨G2, o2, ha2, hG2, hyc⟩ := (HR5.out.2.below hbz).at hy
      obtain rfl := ha2
      have y0 : wr.cell? ⟨G2, o2 + k * 5, none⟩ = some (.int .i64 y.o) := hyc 0 (by omega)
      have y1 : wr.cell? ⟨G2, o2 + k * 5 + 1, none⟩ = some (.int .i64 y.t) := hyc 1 (by omega)
      obtain ⟨G3, o3, hl3, hG3, hdc⟩ := (HV5.out.below hbz).at HDI.out
      obtain ⟨rfl, rfl⟩ : G = G3 /\ og = o3 := by simpa using hl3
      have s0 : wr.cell? ⟨G, og + i * 3, none⟩ = some (.int .i64 d.o) := hdc 0 (by omega)
      have s1 : wr.cell? ⟨G, og + i * 3 + 1, none⟩ = some (.int .i64 d.t) := hdc 1 (by omega)
      have hny := HNT.out y (List.mem_of_getElem? hy)
      have HBZ := hidden hbz
      clear hyc hdc hl3 hy hbz
      by_cases hyo : y.o = d.o
      ·have hyt : ¬ y.t = d.t := fun q => hny ⟨hyo, q⟩
       have e5 : (y.t == d.t) = false := by simp [hyt]
       rw [hyo] at y0
       clear hny hyo
       go_wp2_with fail
       go_quiet (fail)
       all_goals go_wp2_with fail
       all_goals go_roundw
       all_goals first | exact ⟨k + 1, by omega, rfl, HBZ.out⟩ | exact ⟨k + 1, by omega, rfl, jq HBZ.out⟩ | exact ⟨k + 1, by omega, rfl, zao HBZ.out _⟩ | (simp [intOf]; omega) | fail
      ·have e4 : (y.o == d.o) = false := by simp [hyo]
       clear hny hyo
       go_wp2_with fail
       go_quiet (fail)
       all_goals go_wp2_with fail
       all_goals go_roundw
       all_goals first | exact ⟨k + 1, by omega, rfl, HBZ.out⟩ | exact ⟨k + 1, by omega, rfl, jq HBZ.out⟩ | exact ⟨k + 1, by omega, rfl, zao HBZ.out _⟩ | (simp [intOf]; omega) | fail
     ·obtain rfl : k = ds.length := by omega
      have HBZ := hidden hbz
      clear hbz
      go_wp2_with fail
      go_roundw
      case rel => exact ⟨i + 1, by omega, rfl, HBZ.out⟩
      case measure => simp [intOf]; omega
  ·obtain rfl : i = L.length := by omega
   by_cases hz : L.length = 0
   ·have hz' : ((L.length : Int) == 0) = true := by simp [hz]
    have HF := hidden (HB5.out.trans (hbr.mono HB5.out.size))
    clear hbr hlt hi
    rw [hz]
    go_wp2_with fail
    go_ret
    exact ⟨rfl, HF.out⟩
   ·have hz' : ((L.length : Int) == 0) = false := by simpa using hz
    have hpos : (0 : Int) < (L.length : Int) := by omega
    have hpos' : 0 < L.length := by omega
    obtain ⟨d, hd⟩ := someZ L 0 (by omega)
    obtain ⟨ho0, hno, hless, hb1, hb2⟩ := H2.out d (List.mem_of_getElem? hd)
    obtain ⟨G, og, hl1, hGl, hgc⟩ := (HV5.out.below hbr).at hd
    obtain rfl := hl1
    have s0 : wr.cell? ⟨G, og, none⟩ = some (.int .i64 d.o) := by
     have h : wr.cell? ⟨G, og + 0 * 3, none⟩ = some (.int .i64 d.o) := hgc 0 (by omega)
     simpa using h
    obtain ⟨x0, x1⟩ := (HX5.out.below hbr).two
    have HO : Hid (∀ W, Below w5.heap.size w5 W -> Calls Tryz.prog 8 #[.agg #[.slice a1 os.length c1, .slice a2 ds.length c2], .agg #[.int .i64 3, .int .i64 0, .int .i64 0, .int .i64 0, .int .i64 0, .int .i64 0, .int .i64 0, .int .i64 0, .int .i64 0, .bool false, .int .i64 d.o, .int .i64 0, .int .i64 0, .int .i64 0, .int .i64 0, .int .i64 0, .int .i64 0]] W fun e w' => ∃ v1 v2, e = .returned (.tuple #[.agg #[v1, v2], .int .i64 (odC os ds (qi d.o))]) /\ Cp.zo w' W.heap.size v1 v2 (zbb os ds (qi d.o)) (zbg os ds (qi d.o)) /\ Below W.heap.size W w') := fun W hW => zi9 a1 os.length c1 a2 ds.length c2 os ds (qi d.o) W ⟨HR5.out.1.below hW, HR5.out.2.below hW⟩ (by omega) (by omega) (HL.out.below (HB5.out.trans (hW.mono HB5.out.size)))
    rw [ho0] at HO
    have HNO := hidden hno
    have HLE := hidden hless
    have HDI := hidden hd
    have HBR := hidden hbr
    generalize zbb os ds (qi d.o) = os' at *
    generalize zbg os ds (qi d.o) = ds' at *
    clear ho0 hno hless hgc hd hbr
    go_upto_region 19 with fail
    refine regDO19 (w0 := wr) (a1 := a1) (a2 := a2) (c1 := c1) (c2 := c2) (G := G) (og := og) (n := L.length) (cp := l2) (os := os) (ds := ds) (di := d.o) (L1 := os') (L2 := ds') (X := X) rfl rfl rfl (HX5.out.below HBR.out) hpos' hGl s0 (fun W hW => HO.out W (HBR.out.trans (hW.mono HBR.out.size))) ?_
    intro b' w6 Y r1 r2 hf hI h10 hYl hPY hN6 h12
    have HB6 := hidden (HBR.out.trans (hI.mono HBR.out.size))
    have HV6 := hidden (HV5.out.below HB6.out)
    obtain ⟨p1, q1, p2, q2, rfl, rfl⟩ := hN6.form
    have HN6 := hidden (zev hN6)
    have HF6 := hidden (HB5.out.trans (HB6.out.mono HB5.out.size))
    (rw [layDO19 hf]; simp only [Rg.fl0, Rg.fl1, Rg.fl2, Nat.reduceAdd]; rw [h10, h12])
    clear hf h10 h12 hN6 hI x0 x1 s0 HO HBR
    generalize Rg.out (Rg.opsOf Tryz.f3 19) b' = yF
    go_frame
    obtain ⟨y0, y1⟩ := hPY.two
    go_wp2_with fail
    refine (zia p1 os'.length q1 p2 ds'.length q2 os' ds' t w6 HN6.out.1 HN6.out.2 (by omega) (by omega)).mono ?_
    rintro e w7 ⟨v7, rfl, hown7, hb7⟩
    obtain ⟨m1, m2, rfl⟩ := hown7.row.form
    have HM7 := hidden hown7.row
    have HL7 := hidden (HV6.out.below hb7)
    have HF7 := hidden (HF6.out.trans (hb7.mono HF6.out.size))
    have hMlen := ziw os' ds' t
    generalize zaj os' ds' t = M at *
    clear y0 y1 hPY hown7 hb7 HN6 HV6 HF6
    go_wp2_with fail
    go_loopw [11] (fun jv wz => ∃ j : Nat, j <= M.length /\ jv = .int .i64 j /\ Below w7.heap.size w7 wz) (fun jv _ => M.length - (intOf jv).toNat)
    case atStart => exact ⟨0, Nat.zero_le _, rfl, Below.refl _ _⟩
    case round =>
     obtain ⟨j, hj, rfl, hbz⟩ := hrel
     by_cases hjl : j < M.length
     ·have hlj : (j : Int) < (M.length : Int) := by omega
      obtain ⟨y, hy⟩ := someZ M j hjl
      obtain ⟨G2, o2, ha2, hG2, hyc⟩ := (HM7.out.below hbz).at hy
      obtain rfl := ha2
      have y0 : wr.cell? ⟨G2, o2 + j * 3, none⟩ = some (.int .i64 y.o) := hyc 0 (by omega)
      obtain ⟨G3, o3, hl3, hG3, hdc⟩ := (HL7.out.below hbz).at HDI.out
      obtain ⟨rfl, rfl⟩ : G = G3 /\ og = o3 := by simpa using hl3
      have s0 : wr.cell? ⟨G, og, none⟩ = some (.int .i64 d.o) := by
       have h : wr.cell? ⟨G, og + 0 * 3, none⟩ = some (.int .i64 d.o) := hdc 0 (by omega)
       simpa using h
      have e4 : (y.o == d.o) = false := by simp [HNO.out y (List.mem_of_getElem? hy)]
      have HBZ := hidden hbz
      clear hyc hdc hl3 hy hbz
      go_wp2_with fail
      go_quiet (fail)
      all_goals go_wp2_with fail
      all_goals go_roundw
      all_goals first | exact ⟨j + 1, by omega, rfl, HBZ.out⟩ | exact ⟨j + 1, by omega, rfl, jq HBZ.out⟩ | exact ⟨j + 1, by omega, rfl, zao HBZ.out _⟩ | (simp [intOf]; omega) | fail
     ·obtain rfl : j = M.length := by omega
      have hll : (M.length : Int) < (L.length : Int) := by have := HLE.out; omega
      have HFF := hidden (HF7.out.trans (hbz.mono HF7.out.size))
      clear hbz
      go_wp2_with fail
      go_ret
      exact ⟨rfl, HFF.out⟩
end Go.Proofs.YtjlpfpigggdemaaGreatDoor
namespace Go.Proofs.YtjlpfpigggdemaaGreatDoor
open Go.RowKit
set_option maxRecDepth 20000 in
set_option maxHeartbeats 16000000 in
theorem zk1 {H : Type} {enc : TypeId × Value -> H} {P : Program} {W : World} {sp : Nat -> Bool} {hd : Bool} {t e : TypeId} {ao : Option Addr} {len cap : Nat} {d : DataW H} {p : List MemPlace}
  (ht : P.underlying t = some (.slice e)) (he : P.underlying e = some (.int .u8)) (hc : P.cellsOf e = 1) (h : DataW.Trod enc P W 0 sp hd t (.slice ao len cap) d p) :
  ∃ bs : List Int, bs.length = len /\ Bytes W W.heap.size ao bs := by
 obtain ⟨fuel, hf⟩ := h
 rcases Deep.open_slice1 ht hc hf with ⟨h1, _⟩ | ⟨a, l, c, m, n, V, D, Pl, h1, _, hl, _, hm, _, hx⟩
 ·simp [Value.cells] at h1
  obtain ⟨rfl, rfl, rfl⟩ := h1
  exact ⟨[], rfl, by simp, Or.inl rfl⟩
 ·simp [Value.cells] at h1
  obtain ⟨rfl, rfl, rfl⟩ := h1
  have hle : len <= m := by rw [hm]; split <;> omega
  have hV : ∀ i, i < len -> ∃ x : Int, V i = .int .u8 x /\ 0 <= x /\ x <= 255 := by
   intro i hi
   obtain ⟨_, h2⟩ := hx i (by omega)
   cases n with
   | zero => simp [DataW.trod] at h2
   | succ n =>
    simp only [DataW.trod, he] at h2
    cases hv : V i with
    | int k b =>
     rw [hv] at h2
     by_cases q : k = .u8 /\ (Lit.int .u8 b).wf = true
     ·obtain ⟨rfl, q2⟩ := q
      refine ⟨b, rfl, ?_⟩
      have q3 : (decide (IntKind.u8.min <= b) && decide (b <= IntKind.u8.max)) = true := q2
      have e1 : IntKind.u8.min = 0 := by decide
      have e2 : IntKind.u8.max = 255 := by decide
      rw [e1, e2] at q3
      simpa using q3
     ·simp [q] at h2
    | _ => rw [hv] at h2; simp at h2
  refine ⟨(List.range len).map (fun i => match V i with | .int _ b => b | _ => 0), by simp, ?_, ?_⟩
  ·intro x hxm
   obtain ⟨i, hi, rfl⟩ := List.mem_map.1 hxm
   obtain ⟨y, hy, h0, h1⟩ := hV i (List.mem_range.1 hi)
   simp only [hy]
   exact ⟨h0, h1⟩
  ·by_cases h0 : len = 0
   ·exact Or.inl (by simp [h0])
   ·obtain ⟨b, off, spot⟩ := a
    have hs := (hx 0 (by omega)).1
    have hspot : spot = none := by simpa [Addr.add] using World.cell?_spot hs
    subst hspot
    refine Or.inr ⟨b, off, rfl, World.block_lt_of_cell? W _ (by simpa [Addr.add] using hs), ?_⟩
    intro i hi
    have hi' : i < len := by simpa using hi
    have h2 := (hx i (by omega)).1
    obtain ⟨x, hxv, _⟩ := hV i hi'
    rw [hxv] at h2
    have h3 : W.cell? ⟨b, off + i, none⟩ = some (.int .u8 x) := by
     by_cases q : i = 0
     ·subst q; simpa [Addr.add] using h2
     ·simpa [Addr.add, q] using h2
    rw [h3]
    simp [hi', hxv]
end Go.Proofs.YtjlpfpigggdemaaGreatDoor
