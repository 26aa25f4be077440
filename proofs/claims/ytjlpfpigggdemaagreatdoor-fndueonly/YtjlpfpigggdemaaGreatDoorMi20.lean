/-
 Merged: Ud Uw.
-/
import Derived.Test.YtjlpfpigggdemaaGreatDoorMi19
import Derived.Test.YtjlpfpigggdemaaGreatDoorMi3
namespace Go.Proofs.YtjlpfpigggdemaaGreatDoor
set_option maxRecDepth 8000
set_option maxHeartbeats 4000000
open Go.RowKit Va Uo
set_option linter.all false
theorem okOd_eq {os : List Od} {i : Nat} {x : Od} (hx : os[i]? = some x) (yid : Int) (hy : yid = (os.getD (i - 1) default).id) : qj os i = !((!(odB x)) || ((decide ((0 : Int) < (i : Int))) && (decide (x.id <= yid)))) := by
 unfold qj
 rw [jm hx, <- hy]
 have e1 : decide (i = 0) = !decide ((0 : Int) < (i : Int)) := by by_cases h : i = 0 <;> simp [h]; omega
 have e2 : decide (yid < x.id) = !decide (x.id <= yid) := by by_cases h : yid < x.id <;> simp [h] <;> omega
 rw [e1, e2]
 cases odB x <;> cases decide ((0 : Int) < (i : Int)) <;> cases decide (x.id <= yid) <;> rfl
theorem oneD_eq {os : List Od} {ds : List Ds} {i k : Nat} {d : Ds} {o : Od} (hd : ds[i]? = some d) (hk : atO os d.o = (k : Int)) (ho : os[k]? = some o) (ym : Int) (hy : ym = (ds.getD (i - 1) default).m) : yj os ds i = !(((((((decide (o.s = 1)) || (!(rng d.t 0 (o.c - 1)))) || (!(zl d.m))) || (!(zh d.b))) || ((!decide (d.a = -1)) && (!(zh d.a)))) || (!(byB o.two d.b d.a))) || ((decide ((0 : Int) < (i : Int))) && (decide (d.m < ym)))) := by
 unfold yj
 simp only
 rw [zbj hd, hk, show ((k : Int).toNat) = k from rfl, jm ho, <- hy]
 have e0 : decide ((0 : Int) <= (k : Int)) = true := by simp
 have e1 : decide (i = 0) = !decide ((0 : Int) < (i : Int)) := by by_cases h : i = 0 <;> simp [h]; omega
 have e2 : decide (ym <= d.m) = !decide (d.m < ym) := by by_cases h : ym <= d.m <;> simp [h] <;> omega
 have e3 : decide (¬ o.s = 1) = !decide (o.s = 1) := by by_cases h : o.s = 1 <;> simp [h]
 rw [e0, e1, e2, e3]
 generalize decide (o.s = 1) = b1
 generalize rng d.t 0 (o.c - 1) = b2
 generalize zl d.m = b3
 generalize zh d.b = b4
 generalize decide (d.a = -1) = b5
 generalize zh d.a = b6
 generalize byB o.two d.b d.a = b7
 generalize decide ((0 : Int) < (i : Int)) = b8
 generalize decide (d.m < ym) = b9
 revert b1 b2 b3 b4 b5 b6 b7 b8 b9
 decide
theorem oneD_no {os : List Od} {ds : List Ds} {i : Nat} {d : Ds} (hd : ds[i]? = some d) (hk : atO os d.o < 0) : yj os ds i = false := by
 unfold yj
 simp only
 rw [zbj hd]
 have e0 : decide ((0 : Int) <= atO os d.o) = false := by simp; omega
 rw [e0]
 rfl
theorem sameT_eq {ds : List Ds} {i j : Nat} {d y : Ds} (hd : ds[i]? = some d) (hy : ds[j]? = some y) : za6 ds i j = ((decide (y.o = d.o)) && (decide (y.t = d.t))) := by
 unfold za6
 rw [zbj hd, zbj hy]
set_option maxRecDepth 20000 in
set_option maxHeartbeats 16000000 in
theorem zkt (ao : Option Addr) (n cap : Nat) (ad : Option Addr) (m dcap : Nat) (os : List Od) (ds : List Ds) (w : World) (ho : VRw 9 jd w (.slice ao n cap) os) (hd : VRw 5 jy w (.slice ad m dcap) ds) (hn : os.length <= 1048576) (hm : ds.length <= 1048576) :
  Calls Tryz.prog 22 #[.agg #[.slice ao n cap, .slice ad m dcap]] w fun e w' => e = .returned (.bool (ji os ds)) /\ Below w.heap.size w w' := by
 obtain rfl := ho.len
 obtain rfl := hd.len
 have hb0 : Below w.heap.size w (w.alloc (.cells #[.slice ao os.length cap, .slice ad ds.length dcap] 27)) := (Below.refl _ _).alloc (Nat.le_refl _) _
 have HX := hidden (PB.new w #[.slice ao os.length cap, .slice ad ds.length dcap] 27)
 have HO := hidden (ho.below hb0)
 have HD := hidden (hd.below hb0)
 have HB := hidden hb0
 clear ho hd hb0
 go_enter Tryz.func22, Tryz.ntmps22
 go_upto_region 1 with fail
 generalize w.alloc (.cells #[.slice ao os.length cap, .slice ad ds.length dcap] 27) = wA at *
 generalize Value.agg #[.slice ao os.length cap, .slice ad ds.length dcap] = av
 generalize w.heap.size = CB at HX ⊢
 obtain ⟨b0, b1⟩ := HX.out.two
 by_cases h100 : (100 : Int) < (os.length : Int)
 ·have HN : Hid (ji os ds = false) := zit (by omega)
  go_wp2_with fail
  go_ret
  exact ⟨by rw [HN.out]; rfl, HB.out⟩
 by_cases h500 : (500 : Int) < (ds.length : Int)
 ·have HN : Hid (ji os ds = false) := zit (by omega)
  go_wp2_with fail
  go_ret
  exact ⟨by rw [HN.out]; rfl, HB.out⟩
 have hl1 : os.length <= 100 := by omega
 have hl2 : ds.length <= 500 := by omega
 go_wp2_with fail
 clear b0 b1
 go_loopw [3] (fun iv wr => ∃ i : Nat, i <= os.length /\ iv = .int .i64 i /\ Below wA.heap.size wA wr /\ Hid (∀ j, j < i -> qj os j = true)) (fun iv _ => os.length - (intOf iv).toNat)
 case atStart => exact ⟨0, Nat.zero_le _, rfl, Below.refl _ _, fun j hj => absurd hj (Nat.not_lt_zero _)⟩
 case round =>
  obtain ⟨i, hi, rfl, hb, hok⟩ := hrel
  obtain ⟨b0, b1⟩ := (HX.out.below hb).two
  by_cases hlt : i < os.length
  ·have hlti : (i : Int) < (os.length : Int) := by omega
   obtain ⟨x, hx⟩ := zaa os i hlt
   obtain ⟨g, off, rfl, hg, hcs⟩ := (HO.out.below hb).at hx
   obtain ⟨yid, hyid⟩ : ∃ yid, yid = (os.getD (i - 1) default).id := ⟨_, rfl⟩
   have hy0 : 0 < i -> wr.cell? ⟨g, off + (i - 1) * 9, none⟩ = some (.int .i64 yid) := fun h0 => by
    obtain ⟨y, hy⟩ := zaa os (i - 1) (by omega)
    obtain ⟨g', off', he, _, hcs'⟩ := (HO.out.below hb).at hy
    obtain ⟨rfl, rfl⟩ : g = g' /\ off = off' := by simpa using he
    rw [hyid, jm hy]
    exact hcs' 0 (by omega)
   have HEq := hidden (okOd_eq hx yid hyid)
   have hPX := HX.out.below hb
   have hK := zhk x
   unfold aOd at hK
   clear hyid hx
   go_upto_region 6 with fail
   refine regC6 (x := x) (yid := yid) rfl rfl rfl hPX hlt (by omega) hg (hcs 0 (by omega)) (hcs 1 (by omega)) (hcs 2 (by omega)) (hcs 3 (by omega)) (hcs 4 (by omega)) (hcs 5 (by omega)) (hcs 6 (by omega)) (hcs 7 (by omega)) (hcs 8 (by omega)) hy0 hK ?_
   intro b' w3 hf hb3 hv
   (rw [layC6 hf]; simp only [Rg.fl0, Rg.fl1, Rg.fl2, Nat.reduceAdd]; rw [hv])
   clear hv hf hK hPX hcs hy0
   generalize Rg.out (Rg.opsOf Tryz.f22 6) b' = yF
   have HB3 := hidden (hb.trans (hb3.mono hb.size))
   clear hb3 hb b0 b1
   generalize ((!(odB x)) || ((decide ((0 : Int) < (i : Int))) && (decide (x.id <= yid)))) = Bq at *
   go_frame
   cases Bq with
   | true =>
    have HN : Hid (ji os ds = false) := zk4 hlt (by rw [HEq.out]; rfl)
    go_wp2_with fail
    go_ret
    exact ⟨by rw [HN.out]; rfl, onto HB.out HB3.out⟩
   | false =>
    have hok2 : Hid (∀ j, j < i + 1 -> qj os j = true) := fun j hj => by
     rcases Nat.lt_succ_iff_lt_or_eq.1 hj with k | rfl
     ·exact hok.out j k
     ·rw [HEq.out]; rfl
    go_wp2_with fail
    go_roundw
    case rel => exact ⟨i + 1, by omega, rfl, HB3.out, hok2⟩
    case measure => simp [intOf]; omega
  ·have hlti : ¬ (i : Int) < (os.length : Int) := by omega
   have HOK : Hid (∀ j, j < os.length -> qj os j = true) := fun j hj => hok.out j (by omega)
   have HB1 := hidden hb
   clear hok hb
   go_wp2_with fail
   clear b0 b1
   go_loopw [4, 5, 6, 7, 8] (fun iv _ _ _ _ wx => ∃ i : Nat, i <= ds.length /\ iv = .int .i64 i /\ Below wA.heap.size wA wx /\ Hid (∀ j, j < i -> okD os ds j = true)) (fun iv _ _ _ _ _ => ds.length - (intOf iv).toNat)
   case atStart => exact ⟨0, Nat.zero_le _, rfl, HB1.out, fun j hj => absurd hj (Nat.not_lt_zero _)⟩
   case round =>
    clear HB1
    obtain ⟨i, hi, rfl, hb, hok⟩ := hrel
    obtain ⟨b0, b1⟩ := (HX.out.below hb).two
    by_cases hlt : i < ds.length
    ·have hlti : (i : Int) < (ds.length : Int) := by omega
     obtain ⟨d, hd⟩ := zaa ds i hlt
     obtain ⟨g, off, rfl, hg, hcs⟩ := (HD.out.below hb).at hd
     have c0 : wr.cell? ⟨g, off + i * 5, none⟩ = some (.int .i64 d.o) := hcs 0 (by omega)
     have c1 : wr.cell? ⟨g, off + i * 5 + 1, none⟩ = some (.int .i64 d.t) := hcs 1 (by omega)
     have c2 : wr.cell? ⟨g, off + i * 5 + 2, none⟩ = some (.int .i64 d.m) := hcs 2 (by omega)
     have c3 : wr.cell? ⟨g, off + i * 5 + 3, none⟩ = some (.int .i64 d.b) := hcs 3 (by omega)
     have c4 : wr.cell? ⟨g, off + i * 5 + 4, none⟩ = some (.int .i64 d.a) := hcs 4 (by omega)
     have bx : Below wr.heap.size wr (wr.alloc (.cells #[.int .i64 d.o, .int .i64 d.t, .int .i64 d.m, .int .i64 d.b, .int .i64 d.a] 35)) := (Below.refl _ _).alloc (Nat.le_refl _) _
     have HPD := hidden (PB.new wr #[.int .i64 d.o, .int .i64 d.t, .int .i64 d.m, .int .i64 d.b, .int .i64 d.a] 35)
     have HB2 := hidden (hb.trans (bx.mono hb.size))
     have HDi := hidden hd
     clear hcs hd bx hb
     go_upto_region 12 with fail
     clear c0 c1 c2 c3 c4 b0 b1
     generalize wr.alloc (.cells #[.int .i64 d.o, .int .i64 d.t, .int .i64 d.m, .int .i64 d.b, .int .i64 d.a] 35) = wD at *
     generalize wr.heap.size = DB at *
     obtain ⟨b0, b1⟩ := (HX.out.below HB2.out).two
     obtain ⟨d0, d1, d2, d3, d4⟩ := HPD.out.five
     have hA := zb7 ao os.length cap os d.o wD (HO.out.below HB2.out) (by omega)
     have hbd := atO_bd os d.o
     by_cases hneg : atO os d.o < 0
     ·have HN : Hid (ji os ds = false) := zf4 hlt (by unfold okD; rw [oneD_no HDi.out hneg]; rfl)
      generalize atO os d.o = ka at *
      go_wp2_with (go_at_call 37; refine hA.mono ?_; rintro e w4 ⟨rfl, hw4⟩; have hw5 := hw4.symm; clear hw4; subst hw5)
      go_ret
      exact ⟨by rw [HN.out]; rfl, onto HB.out HB2.out⟩
     obtain ⟨k, hk⟩ := Int.eq_ofNat_of_zero_le (show 0 <= atO os d.o by omega)
     obtain ⟨o, ho⟩ := zaa os k (by omega)
     obtain ⟨go, offo, rfl, hgo, hcs⟩ := (HO.out.below HB2.out).at ho
     have o0 : wD.cell? ⟨go, offo + k * 9, none⟩ = some (.int .i64 o.id) := hcs 0 (by omega)
     have o1 : wD.cell? ⟨go, offo + k * 9 + 1, none⟩ = some (.int .i64 o.p) := hcs 1 (by omega)
     have o2 : wD.cell? ⟨go, offo + k * 9 + 2, none⟩ = some (.int .i64 o.d) := hcs 2 (by omega)
     have o3 : wD.cell? ⟨go, offo + k * 9 + 3, none⟩ = some (.int .i64 o.n) := hcs 3 (by omega)
     have o4 : wD.cell? ⟨go, offo + k * 9 + 4, none⟩ = some (.int .i64 o.f) := hcs 4 (by omega)
     have o5 : wD.cell? ⟨go, offo + k * 9 + 5, none⟩ = some (.int .i64 o.e) := hcs 5 (by omega)
     have o6 : wD.cell? ⟨go, offo + k * 9 + 6, none⟩ = some (.int .i64 o.c) := hcs 6 (by omega)
     have o7 : wD.cell? ⟨go, offo + k * 9 + 7, none⟩ = some (.int .i64 o.s) := hcs 7 (by omega)
     have o8 : wD.cell? ⟨go, offo + k * 9 + 8, none⟩ = some (.bool o.two) := hcs 8 (by omega)
     have hklt : (k : Int) < (os.length : Int) := by omega
     obtain ⟨ym, hym⟩ : ∃ ym, ym = (ds.getD (i - 1) default).m := ⟨_, rfl⟩
     have HEq := hidden (oneD_eq HDi.out hk ho ym hym)
     have hod : odB o = true := by have := HOK.out k (by omega); unfold qj at this; rw [jm ho] at this; simp only [Bool.and_eq_true] at this; exact this.1
     have hoc : 1 <= o.c /\ o.c <= 200 := by simp only [odB, Bool.and_eq_true, zax] at hod; exact hod.2.2.2.2.2.2.1
     have by2 : Below wD.heap.size wD (wD.alloc (.cells #[.int .i64 o.id, .int .i64 o.p, .int .i64 o.d, .int .i64 o.n, .int .i64 o.f, .int .i64 o.e, .int .i64 o.c, .int .i64 o.s, .bool o.two] 38)) := (Below.refl _ _).alloc (Nat.le_refl _) _
     have HPO := hidden (PB.new wD #[.int .i64 o.id, .int .i64 o.p, .int .i64 o.d, .int .i64 o.n, .int .i64 o.f, .int .i64 o.e, .int .i64 o.c, .int .i64 o.s, .bool o.two] 38)
     have HPD2 := hidden (HPD.out.below by2)
     have HB4 := hidden (HB2.out.trans (by2.mono HB2.out.size))
     rw [hk] at hA
     clear hcs by2 hod hk
     go_upto_region 16 with (go_at_call 37; refine hA.mono ?_; rintro e w4 ⟨rfl, hw4⟩; have hw5 := hw4.symm; clear hw4; subst hw5)
     clear hA o0 o1 o2 o3 o4 o5 o6 o7 o8 d0 d1 d2 d3 d4 b0 b1
     generalize wD.alloc (.cells #[.int .i64 o.id, .int .i64 o.p, .int .i64 o.d, .int .i64 o.n, .int .i64 o.f, .int .i64 o.e, .int .i64 o.c, .int .i64 o.s, .bool o.two] 38) = wO at *
     generalize wD.heap.size = OB at *
     obtain ⟨g2, off2, he2, hg2, hcs2⟩ := (HD.out.below HB4.out).at HDi.out
     obtain ⟨rfl, rfl⟩ : g = g2 /\ off = off2 := by simpa using he2
     have hy2 : 0 < i -> wO.cell? ⟨g, off + (i - 1) * 5 + 2, none⟩ = some (.int .i64 ym) := fun h0 => by
      obtain ⟨y, hy⟩ := zaa ds (i - 1) (by omega)
      obtain ⟨g', off', he, _, hcs'⟩ := (HD.out.below HB4.out).at hy
      obtain ⟨rfl, rfl⟩ : g = g' /\ off = off' := by simpa using he
      rw [hym, zbj hy]
      exact hcs' 2 (by omega)
     have hK5 := zht o d.b d.a
     unfold aOd at hK5
     refine regC16 (o := o) (d := d) (ym := ym) rfl rfl rfl rfl rfl (HX.out.below HB4.out) HPO.out HPD2.out hlt (by omega) hg2 (by omega) hy2 (fun W => zbe _ _ _ W) (fun W => ze7 _ W) (fun W => zd9 _ W) (fun W => zd9 _ W) hK5 ?_
     intro b' w5 hf hb5 hv
     (rw [layC16 hf]; simp only [Rg.fl0, Rg.fl1, Rg.fl2, Nat.reduceAdd]; rw [hv])
     clear hv hf hK5 hy2 hcs2 he2
     generalize Rg.out (Rg.opsOf Tryz.f22 16) b' = yF
     have HB5 := hidden (HB4.out.trans (hb5.mono HB4.out.size))
     have HPD5 := hidden (HPD2.out.below hb5)
     clear hb5 HPO HPD HPD2 HB4 HB2 hoc hym hg2 hg
     generalize (((((((decide (o.s = 1)) || (!(rng d.t 0 (o.c - 1)))) || (!(zl d.m))) || (!(zh d.b))) || ((!decide (d.a = -1)) && (!(zh d.a)))) || (!(byB o.two d.b d.a))) || ((decide ((0 : Int) < (i : Int))) && (decide (d.m < ym)))) = Bq at *
     go_frame
     cases Bq with
     | true =>
      have HN : Hid (ji os ds = false) := zf4 hlt (by unfold okD; rw [HEq.out]; rfl)
      go_wp2_with fail
      go_ret
      exact ⟨by rw [HN.out]; rfl, onto HB.out HB5.out⟩
     | false =>
      go_wp2_with fail
      go_loopw [8] (fun jv wz => ∃ j : Nat, j <= i /\ jv = .int .i64 j /\ Below w5.heap.size w5 wz /\ Hid (∀ j', j' < j -> za6 ds i j' = false)) (fun jv _ => i - (intOf jv).toNat)
      case atStart => exact ⟨0, Nat.zero_le _, rfl, Below.refl _ _, fun j hj => absurd hj (Nat.not_lt_zero _)⟩
      case round =>
       obtain ⟨j, hj, rfl, hbz, hokj⟩ := hrel
       by_cases hji : j < i
       ·have hjii : (j : Int) < (i : Int) := by omega
        obtain ⟨y, hy⟩ := zaa ds j (by omega)
        have bW := HB5.out.trans (hbz.mono HB5.out.size)
        obtain ⟨g3, off3, he3, hg3, hcs3⟩ := (HD.out.below bW).at hy
        obtain ⟨rfl, rfl⟩ : g = g3 /\ off = off3 := by simpa using he3
        have HSm := hidden (sameT_eq HDi.out hy)
        go_upto_region 21 with fail
        refine regC21 (d := d) (y := y) rfl rfl rfl rfl (HX.out.below bW) (HPD5.out.below hbz) (by omega) hg3 (hcs3 0 (by omega)) (hcs3 1 (by omega)) ?_
        intro b' w6 hf hb6 hv
        (rw [layC21 hf]; simp only [Rg.fl0, Rg.fl1, Rg.fl2, Nat.reduceAdd]; rw [hv])
        clear hv hf hcs3 he3 hy
        generalize Rg.out (Rg.opsOf Tryz.f22 21) b' = yF
        have HB6 := hidden (hbz.trans (hb6.mono hbz.size))
        clear hb6 hbz bW
        generalize ((decide (y.o = d.o)) && (decide (y.t = d.t))) = Cq at *
        go_frame
        cases Cq with
        | true =>
         have HN : Hid (ji os ds = false) := zf4 hlt (by
          unfold okD
          rw [show ((List.range i).all fun j => !za6 ds i j) = false by rw [List.all_eq_false]; exact ⟨j, List.mem_range.2 hji, by rw [HSm.out]; simp⟩]
          simp)
         go_wp2_with fail
         go_ret
         exact ⟨by rw [HN.out]; rfl, onto HB.out (HB5.out.trans (HB6.out.mono HB5.out.size))⟩
        | false =>
         have hok6 : Hid (∀ j', j' < j + 1 -> za6 ds i j' = false) := fun j' hj' => by
          rcases Nat.lt_succ_iff_lt_or_eq.1 hj' with k | rfl
          ·exact hokj.out j' k
          ·exact HSm.out
         go_wp2_with fail
         go_roundw
         case rel => exact ⟨j + 1, by omega, rfl, HB6.out, hok6⟩
         case measure => simp [intOf]; omega
       ·have hjii : ¬ (j : Int) < (i : Int) := by omega
        have hok2 : Hid (∀ j, j < i + 1 -> okD os ds j = true) := fun j2 hj2 => by
         rcases Nat.lt_succ_iff_lt_or_eq.1 hj2 with k | rfl
         ·exact hok.out j2 k
         ·unfold okD
          rw [HEq.out, show ((List.range j2).all fun j => !za6 ds j2 j) = true by rw [List.all_eq_true]; intro z hz; rw [hokj.out z (by have := List.mem_range.1 hz; omega)]; rfl]
          rfl
        go_wp2_with fail
        go_roundw
        case rel => exact ⟨i + 1, by omega, rfl, HB5.out.trans (hbz.mono HB5.out.size), hok2⟩
        case measure => simp [intOf]; omega
    ·have hlti : ¬ (i : Int) < (ds.length : Int) := by omega
     have HN : Hid (ji os ds = true) := zkm ⟨hl1, hl2⟩ HOK.out (fun j hj => hok.out j (by omega))
     go_wp2_with fail
     go_ret
     exact ⟨by rw [HN.out]; rfl, onto HB.out hb⟩
end Go.Proofs.YtjlpfpigggdemaaGreatDoor
namespace Go.Proofs.YtjlpfpigggdemaaGreatDoor
open Go.RowKit Va Uo
set_option linter.all false
theorem zif {ds : List Ds} {id t : Int} {i : Nat} {d : Ds} (hd : ds[i]? = some d) (h : vw (ds.take i) id t = false) (h2 : ¬ (d.o = id /\ d.t = t)) : vw (ds.take (i + 1)) id t = false := by
 rw [List.take_add_one, hd]
 unfold vw at *
 rw [List.any_append, h]
 by_cases q : d.o = id <;> by_cases r : d.t = t <;> simp_all
theorem giv_hit {ds : List Ds} {id t : Int} {i : Nat} {d : Ds} (hd : ds[i]? = some d) (h1 : d.o = id) (h2 : d.t = t) : vw ds id t = true := by
 unfold vw
 rw [List.any_eq_true]
 exact ⟨d, List.mem_of_getElem? hd, by simp [h1, h2]⟩
set_option maxRecDepth 20000 in
set_option maxHeartbeats 16000000 in
theorem zi6 (so : Value) (ad : Option Addr) (m dcap : Nat) (ds : List Ds) (id t : Int) (w : World) (hd : VRw 5 jy w (.slice ad m dcap) ds) (hm : ds.length <= 1048576) (hso : ∃ a n c, so = .slice a n c) :
  Calls Tryz.prog 41 #[.agg #[so, .slice ad m dcap], .int .i64 id, .int .i64 t] w fun e w' => e = .returned (.bool (vw ds id t)) /\ Below w.heap.size w w' := by
 obtain rfl := hd.len
 obtain ⟨sa, sn, sc, rfl⟩ := hso
 have hb0 : Below w.heap.size w (w.alloc (.cells #[.slice sa sn sc, .slice ad ds.length dcap] 27)) := (Below.refl _ _).alloc (Nat.le_refl _) _
 have HX := hidden (PB.new w #[.slice sa sn sc, .slice ad ds.length dcap] 27)
 have HD := hidden (hd.below hb0)
 have HB := hidden hb0
 clear hd hb0
 go_enter Tryz.func41, Tryz.ntmps41
 go_upto_region 1 with fail
 generalize w.alloc (.cells #[.slice sa sn sc, .slice ad ds.length dcap] 27) = wA at *
 generalize w.heap.size = CB at HX ⊢
 obtain ⟨b0, b1⟩ := HX.out.two
 go_wp2_with fail
 go_loopw [7] (fun iv wr => wr = wA /\ ∃ i : Nat, i <= ds.length /\ iv = .int .i64 i /\ Hid (vw (ds.take i) id t = false)) (fun iv _ => ds.length - (intOf iv).toNat)
 case atStart => exact ⟨rfl, 0, Nat.zero_le _, rfl, rfl⟩
 case round =>
  obtain ⟨rfl, i, hi, rfl, hok⟩ := hrel
  by_cases hlt : i < ds.length
  ·have hlti : (i : Int) < (ds.length : Int) := by omega
   obtain ⟨x, hx⟩ := zaa ds i hlt
   obtain ⟨g, off, rfl, hg, hcs⟩ := HD.out.at hx
   have c0 : wr.cell? ⟨g, off + i * 5, none⟩ = some (.int .i64 x.o) := hcs 0 (by omega)
   have c1 : wr.cell? ⟨g, off + i * 5 + 1, none⟩ = some (.int .i64 x.t) := hcs 1 (by omega)
   have HX' := hidden hx
   clear hcs hx
   by_cases q : x.o = id
   ·by_cases r : x.t = t
    ·have HA : Hid (vw ds id t = true) := giv_hit HX'.out q r
     subst q
     subst r
     go_wp2_with fail
     go_ret
     exact ⟨by rw [HA.out]; rfl, HB.out⟩
    ·have HA : Hid (vw (ds.take (i + 1)) id t = false) := zif HX'.out hok.out (fun h => r h.2)
     subst q
     go_wp2_with fail
     go_roundw
     case rel => exact ⟨by first | rfl | trivial, i + 1, by omega, rfl, HA⟩
     case measure => simp [intOf]; omega
   ·have HA : Hid (vw (ds.take (i + 1)) id t = false) := zif HX'.out hok.out (fun h => q h.1)
    go_wp2_with fail
    go_roundw
    case rel => exact ⟨by first | rfl | trivial, i + 1, by omega, rfl, HA⟩
    case measure => simp [intOf]; omega
  ·have hlti : ¬ (i : Int) < (ds.length : Int) := by omega
   have HA : Hid (vw ds id t = false) := by have := hok.out; rw [show i = ds.length by omega, List.take_length] at this; exact this
   go_wp2_with fail
   go_ret
   exact ⟨by rw [HA.out]; rfl, HB.out⟩
end Go.Proofs.YtjlpfpigggdemaaGreatDoor
