/-
 Merged: U14 U37 U38.
-/
import Derived.Test.YtjlpfpigggdemaaGreatDoorMi21
import Derived.Test.YtjlpfpigggdemaaGreatDoorMi13
import Derived.Test.YtjlpfpigggdemaaGreatDoorMi17
import Derived.Test.YtjlpfpigggdemaaGreatDoorMi6
namespace Go.Proofs.YtjlpfpigggdemaaGreatDoor
set_option maxRecDepth 8000
set_option maxHeartbeats 4000000
open Go.RowKit Va Uo Go.Maps
set_option linter.all false
set_option maxRecDepth 20000 in
set_option maxHeartbeats 16000000 in
theorem zhv (x : Od) (time : Int) (B : Nat) (D : DataW Unit) (ds : List Ds) (w : World) (hown : w.ownsMap Tryz.prog 68 (plainElem Tryz.prog 3) B 500 D) (hC : Cnt D ds) (hod : odB x = true) (ht : zl time = true) :
  Calls Tryz.prog 17 #[aOd x, .int .i64 time, .map (some B)] w fun e w' => ∃ G c, e = .returned (.slice (some ⟨G, 0, none⟩) (jh ds time x x.c.toNat).length c) /\ w'.ownsRow w.heap.size 33 3 (.slice (some ⟨G, 0, none⟩) (jh ds time x x.c.toNat).length c) (jh ds time x x.c.toNat).length (zt 3 jc (jh ds time x x.c.toNat)) /\ Below w.heap.size w w' := by
 obtain ⟨i0, hi0, hv0, hv1, hv2⟩ := zfe zfo
 have ht2 : 0 <= time /\ time <= 10000000 := zax.1 ht
 obtain ⟨ht0, ht1⟩ := ht2
 have hxc : 1 <= x.c := by have := hod; simp only [odB, Bool.and_eq_true, zax] at this; exact this.2.2.2.2.2.2.1.1
 have HOd := hidden hod
 have HOw := hidden hown
 have HC := hidden hC
 have hBl := hown.lt
 have hbA : Below w.heap.size w (w.alloc (.cells #[.int .i64 x.id, .int .i64 x.p, .int .i64 x.d, .int .i64 x.n, .int .i64 x.f, .int .i64 x.e, .int .i64 x.c, .int .i64 x.s, .bool x.two] 38)) := (Below.refl _ _).alloc (Nat.le_refl _) _
 have HB0 := hidden (hbA.alloc hbA.size (.cells #[] 33))
 have HX0 := hidden ((PB.new w #[.int .i64 x.id, .int .i64 x.p, .int .i64 x.d, .int .i64 x.n, .int .i64 x.f, .int .i64 x.e, .int .i64 x.c, .int .i64 x.s, .bool x.two] 38).alloc (.cells #[] 33))
 have HR0 : Hid (((w.alloc (.cells #[.int .i64 x.id, .int .i64 x.p, .int .i64 x.d, .int .i64 x.n, .int .i64 x.f, .int .i64 x.e, .int .i64 x.c, .int .i64 x.s, .bool x.two] 38)).alloc (.cells #[] 33)).ownsRow w.heap.size 33 3 (.slice (some ⟨w.heap.size + 1, 0, none⟩) 0 0) 0 []) := by
  have h9 := zc7 (zdx (w.alloc (.cells #[.int .i64 x.id, .int .i64 x.p, .int .i64 x.d, .int .i64 x.n, .int .i64 x.f, .int .i64 x.e, .int .i64 x.c, .int .i64 x.s, .bool x.two] 38)) 33 3) hbA.size
  have e9 : (w.alloc (.cells #[.int .i64 x.id, .int .i64 x.p, .int .i64 x.d, .int .i64 x.n, .int .i64 x.f, .int .i64 x.e, .int .i64 x.c, .int .i64 x.s, .bool x.two] 38)).heap.size = w.heap.size + 1 := by simp
  rw [e9] at h9
  exact h9
 generalize hRR : jh ds time x x.c.toNat = RR
 have HRR := hidden hRR.symm
 clear hRR hod hown hC ht hbA
 unfold aOd
 go_enter Tryz.func17, Tryz.ntmps17
 go_upto_region 2 with fail
 generalize (w.alloc (.cells #[.int .i64 x.id, .int .i64 x.p, .int .i64 x.d, .int .i64 x.n, .int .i64 x.f, .int .i64 x.e, .int .i64 x.c, .int .i64 x.s, .bool x.two] 38)).alloc (.cells #[] 33) = wA at *
 generalize Value.agg #[.int .i64 x.id, .int .i64 x.p, .int .i64 x.d, .int .i64 x.n, .int .i64 x.f, .int .i64 x.e, .int .i64 x.c, .int .i64 x.s, .bool x.two] = av
 obtain ⟨o0, o1, o2, o3, o4, o5, o6, o7, o8⟩ := HX0.out.nine
 go_wp2_with fail
 clear o0 o1 o2 o3 o4 o5 o6 o7 o8
 go_loopw [7, 8, 9, 10, 14] (fun sv _ _ _ tv wr => ∃ (t : Nat) (L : List Du), (t : Int) <= x.c /\ tv = .int .i64 t /\ Hid (L = jh ds time x t) /\ (∃ G c, sv = .slice (some ⟨G, 0, none⟩) L.length c /\ wr.ownsRow w.heap.size 33 3 (.slice (some ⟨G, 0, none⟩) L.length c) L.length (zt 3 jc L)) /\ PB wr w.heap.size #[.int .i64 x.id, .int .i64 x.p, .int .i64 x.d, .int .i64 x.n, .int .i64 x.f, .int .i64 x.e, .int .i64 x.c, .int .i64 x.s, .bool x.two] 38 /\ Below w.heap.size w wr) (fun _ _ _ _ tv _ => x.c.toNat - (intOf tv).toNat)
 case atStart => exact ⟨0, [], by omega, rfl, rfl, ⟨_, _, rfl, HR0.out⟩, HX0.out, HB0.out⟩
 case round =>
  clear HR0 HX0 HB0
  obtain ⟨t, L, htc, rfl, HL, ⟨G, c, rfl, hrow⟩, hX, hb⟩ := hrel
  obtain ⟨o0, o1, o2, o3, o4, o5, o6, o7, o8⟩ := hX.nine
  have hll : L.length <= t := by rw [HL.out]; exact zfc ds time x t
  by_cases htl : (t : Int) < x.c
  ·obtain ⟨e1, e2, e3, e4⟩ := zfu HOd.out htl
   have hsw : IntKind.i64.wrap ((t : Int) * x.e) = (t : Int) * x.e := by rw [IntKind.wrap_i64]; omega
   have hsw2 : IntKind.i64.wrap (x.f + (t : Int) * x.e) = x.f + (t : Int) * x.e := by rw [IntKind.wrap_i64]; omega
   have HDB : Hid (yw ds time x t = ((decide (time - 60 <= x.f + (t : Int) * x.e) && decide (x.f + (t : Int) * x.e <= time + 30)) && !vw ds x.id (t : Int))) := rfl
   have HNo : Hid (yw ds time x t = false -> L = jh ds time x (t + 1)) := fun hq => by rw [jh, if_neg (by rw [hq]; simp)]; exact HL.out
   have HYes : Hid (yw ds time x t = true -> L ++ [jf x t] = jh ds time x (t + 1)) := fun hq => by rw [jh, if_pos hq, <- HL.out]
   have hz : ∀ u : World, (zeroValue 3).run Tryz.prog u = .ok (.int .i64 0) u := fun u => by kernel_rfl
   have bId : Bd x.id := ⟨by omega, by omega⟩
   have bT : Bd (t : Int) := ⟨by omega, by omega⟩
   have hmap := Rt.zcz HOw.out (hb.block B hBl)
   obtain ⟨cn, hl, hat, -⟩ := hmap.lookup_int zf6 Tryz.underlying50 Tryz.underlying3 (hz wr) (zec bId bT)
   obtain ⟨cn2, hat2, p0, p1, p2⟩ := HC.out.at' x.id t bId bT
   have hcc : cn2 = cn := by rw [hat] at hat2; simpa using hat2.symm
   rw [hcc] at p2
   have HP2 := hidden p2
   clear hmap hat hat2 hcc p0 p1 p2 hz bId bT
   generalize yw ds time x t = dq at *
   by_cases h1 : time - 60 <= x.f + (t : Int) * x.e
   ·by_cases h2 : x.f + (t : Int) * x.e <= time + 30
    ·by_cases h3 : cn = 0
     ·have HI2 : Hid (L ++ [jf x t] = jh ds time x (t + 1)) := HYes.out (by rw [HDB.out, decide_eq_true h1, decide_eq_true h2, HP2.out.1 h3]; rfl)
      subst h3
      clear HNo HYes HDB HP2
      have hszw := hb.size
      go_wp2_with (at_builtin; refine wpList_append_own_at _ rfl (.tmp 44) (.tmp 50) 30 rfl w.heap.size 33 i0 (.agg #[.int .i64 0, .int .i64 0, .int .i64 0]) 3 24 Tryz.underlying30 hi0 hv0 hv1 hv2 rfl (by decide) _ L.length (zt 3 jc L) rfl (hrow.alloc _) ⟨wr.heap.size, 0, none⟩ 1 1 [.int .i64 x.id, .int .i64 (t : Nat), .int .i64 (x.f + (t : Int) * x.e)] rfl rfl (zgj _ _ _ _ _) (by simp [Value.oneCell']) (by unfold maxLen; omega) (by omega) (by simp; omega) ?_; intro v5 w5 ho5 hg5 hn5 hloc5; obtain ⟨ad5, c5, rfl⟩ := zc5 ho5; obtain ⟨G5, rfl⟩ := zf8 ho5)
      have HX5 := hidden ((hX.alloc (.cells #[.int .i64 x.id, .int .i64 (t : Nat), .int .i64 (x.f + (t : Int) * x.e)] 33)).kept hg5 (jb hrow hX (by decide)))
      have HB5 := hidden ((hb.alloc hszw (.cells #[.int .i64 x.id, .int .i64 (t : Nat), .int .i64 (x.f + (t : Int) * x.e)] 33)).grown hg5 (by simp; omega) (fun k hk => (zcw hrow k hk).1))
      have HR5 : Hid (w5.ownsRow w.heap.size 33 3 (.slice (some ⟨G5, 0, none⟩) (L ++ [jf x t]).length c5) (L ++ [jf x t]).length (zt 3 jc (L ++ [jf x t]))) := by rw [Hid, zb9, List.length_append]; exact ho5
      go_roundw
      case rel => exact ⟨t + 1, L ++ [jf x t], by omega, rfl, HI2, ⟨_, _, by rw [List.length_append]; rfl, HR5.out⟩, HX5.out, HB5.out⟩
      case measure => simp [intOf]; omega
     ·have HI2 : Hid (L = jh ds time x (t + 1)) := HNo.out (by
       rw [HDB.out, decide_eq_true h1, decide_eq_true h2]
       cases hg : vw ds x.id (t : Int) with
       | true => rfl
       | false => exact absurd (HP2.out.2 hg) h3)
      have q3 : (cn == 0) = false := by simpa using h3
      clear HNo HYes HDB HP2
      go_wp2_with fail
      go_roundw
      case rel => exact ⟨t + 1, L, by omega, rfl, HI2, ⟨_, _, rfl, hrow⟩, hX, hb⟩
      case measure => simp [intOf]; omega
    ·have HI2 : Hid (L = jh ds time x (t + 1)) := HNo.out (by rw [HDB.out, decide_eq_false h2]; simp)
     clear HNo HYes HDB HP2
     go_wp2_with fail
     go_roundw
     case rel => exact ⟨t + 1, L, by omega, rfl, HI2, ⟨_, _, rfl, hrow⟩, hX, hb⟩
     case measure => simp [intOf]; omega
   ·have HI2 : Hid (L = jh ds time x (t + 1)) := HNo.out (by rw [HDB.out, decide_eq_false h1]; simp)
    clear HNo HYes HDB HP2
    go_wp2_with fail
    go_roundw
    case rel => exact ⟨t + 1, L, by omega, rfl, HI2, ⟨_, _, rfl, hrow⟩, hX, hb⟩
    case measure => simp [intOf]; omega
  ·have htl2 : ¬ (t : Int) < x.c := htl
   have HL1 : Hid (L = RR) := by rw [Hid, HRR.out, HL.out, show x.c.toNat = t by omega]
   go_wp2_with fail
   go_ret
   rw [<- HL1.out]
   exact ⟨_, _, rfl, hrow, hb⟩
def zaj (os : List Od) (ds : List Ds) (time : Int) : List Du := if ji os ds = true /\ zl time = true then vg os ds time 0 else []
theorem ziw (os : List Od) (ds : List Ds) (time : Int) : (zaj os ds time).length <= 20000 := by
 unfold zaj
 split
 ·rename_i h
  obtain ⟨⟨h1, _⟩, h2, _⟩ := za5.1 h.1
  have := zgr (os := os) ds time 0 (fun i hi => by
   have := h2 i hi
   simp only [qj, Bool.and_eq_true] at this
   have h3 := this.1
   simp only [odB, Bool.and_eq_true, zax] at h3
   exact h3.2.2.2.2.2.2.1.2) os.length (Nat.le_refl _)
  unfold vg
  omega
 ·simp
theorem zi1 {os : List Od} {ds : List Ds} (h : ji os ds = true) : ∀ (i : Nat) (x : Od), os[i]? = some x -> odB x = true := fun i x hx => by
 obtain ⟨_, h2, _⟩ := za5.1 h
 have := h2 i (List.getElem?_eq_some_iff.1 hx).1
 simp only [qj, Bool.and_eq_true, jm hx] at this
 exact this.1
set_option maxRecDepth 20000 in
set_option maxHeartbeats 16000000 in
theorem zj7 (ao : Option Addr) (n cap : Nat) (ad : Option Addr) (m dcap : Nat) (os : List Od) (ds : List Ds) (time : Int) (w : World) (ho : VRw 9 jd w (.slice ao n cap) os) (hd : VRw 5 jy w (.slice ad m dcap) ds) (hn : os.length <= 1048576) (hm : ds.length <= 1048576) :
  Calls Tryz.prog 7 #[.agg #[.slice ao n cap, .slice ad m dcap], .int .i64 time] w fun e w' => ∃ v, e = .returned v /\ w'.ownsRow w.heap.size 33 3 v (zaj os ds time).length (zt 3 jc (zaj os ds time)) /\ Below w.heap.size w w' := by
 obtain rfl := ho.len
 obtain rfl := hd.len
 have hb0 : Below w.heap.size w (w.alloc (.cells #[.slice ao os.length cap, .slice ad ds.length dcap] 27)) := (Below.refl _ _).alloc (Nat.le_refl _) _
 have HX := hidden (PB.new w #[.slice ao os.length cap, .slice ad ds.length dcap] 27)
 have HO := hidden (ho.below hb0)
 have HD := hidden (hd.below hb0)
 have HB := hidden hb0
 have H1 := hidden (fun W h1 h2 => zkt ao os.length cap ad ds.length dcap os ds W h1 h2 hn hm)
 have h2 := ze7 time
 have H3 : Hid (ji os ds = true -> zl time = true -> ∀ W, VRw 9 jd W (.slice ao os.length cap) os -> VRw 5 jy W (.slice ad ds.length dcap) ds -> Calls Tryz.prog 24 #[.agg #[.slice ao os.length cap, .slice ad ds.length dcap], .int .i64 time, .int .i64 0] W fun e w' => ∃ v, e = .returned v /\ w'.ownsRow W.heap.size 33 3 v (vg os ds time 0).length (zt 3 jc (vg os ds time 0)) /\ Below W.heap.size W w') := fun hc ht W h1 h2 => by
  obtain ⟨⟨q1, q2⟩, _⟩ := za5.1 hc
  exact zhc ao os.length cap ad ds.length dcap os ds time 0 W h1 h2 q1 q2 (zi1 hc) ht
 have HV : Hid (zaj os ds time = if ji os ds = true /\ zl time = true then vg os ds time 0 else []) := rfl
 clear ho hd hb0
 generalize zaj os ds time = R at *
 generalize vg os ds time 0 = R1 at *
 generalize ji os ds = t1 at *
 generalize zl time = t2 at *
 go_enter Tryz.func7, Tryz.ntmps7
 go_upto_region 1 with fail
 generalize w.alloc (.cells #[.slice ao os.length cap, .slice ad ds.length dcap] 27) = wA at *
 generalize hCB : w.heap.size = CB at HX ⊢
 obtain ⟨b0, b1⟩ := HX.out.two
 cases t1 with
 | false =>
  have HN : Hid (R = []) := by rw [Hid, HV.out]; simp
  go_wp2_with (go_at_call 22; refine (H1.out _ HO.out HD.out).mono ?_; rintro e w1 ⟨rfl, hb1⟩)
  go_ret
  rw [HN.out]
  have hb2 := onto HB.out hb1
  refine ⟨_, rfl, ?_, by exact hb2.alloc hb2.size _⟩
  exact zc7 (zdx w1 33 3) hb2.size
 | true =>
  cases t2 with
  | false =>
   have HN : Hid (R = []) := by rw [Hid, HV.out]; simp
   go_wp2_with (first | (go_at_call 22; refine (H1.out _ HO.out HD.out).mono ?_; rintro e w1 ⟨rfl, hb1⟩) | (go_at_call 23; refine (h2 _).mono ?_; rintro e w9 ⟨rfl, rfl⟩))
   go_ret
   rw [HN.out]
   have hb2 := onto HB.out hb1
   refine ⟨_, rfl, ?_, by exact hb2.alloc hb2.size _⟩
   exact zc7 (zdx w1 33 3) hb2.size
  | true =>
   have HN : Hid (R = R1) := by rw [Hid, HV.out]; simp
   have H4 := hidden (H3.out rfl rfl)
   clear H3 HV
   go_wp2_with (first | (go_at_call 22; refine (H1.out _ HO.out HD.out).mono ?_; rintro e w1 ⟨rfl, hb1⟩; obtain ⟨e0, e1⟩ := (HX.out.below hb1).two) | (go_at_call 23; refine (h2 _).mono ?_; rintro e w9 ⟨rfl, rfl⟩) | (go_at_call 24; refine (H4.out _ (HO.out.below hb1) (HD.out.below hb1)).mono ?_; rintro e w2 ⟨v, rfl, ho2, hb2⟩))
   go_ret
   rw [HN.out]
   have hb3 := onto HB.out hb1
   refine ⟨_, rfl, ?_, by exact onto hb3 hb2⟩
   exact zc7 ho2 hb3.size
end Go.Proofs.YtjlpfpigggdemaaGreatDoor
namespace Go.Proofs.YtjlpfpigggdemaaGreatDoor
open Go.RowKit Va Uo Go.Maps
set_option linter.all false
def FD8 (B2 B3 B7 base : Nat) (ad : Option Addr) (dcap : Nat) (ds : List Ds) (x : Dd) (o : Od) (k : Nat) (v : Value) (w : World) : Prop :=
 match k with
 | 0 => v = .agg #[.int .i64 o.id, .int .i64 o.p, .int .i64 o.d, .int .i64 o.n, .int .i64 o.f, .int .i64 o.e, .int .i64 o.c, .int .i64 o.s, .bool o.two]
 | 1 => v = .pointer (some ⟨B3, 14, none⟩)
 | 2 => v = .int .i64 x.m
 | 3 => v = .pointer (some ⟨B2, 1, none⟩)
 | 4 => v = .slice ad ds.length dcap
 | 5 => ∃ B D, v = .map (some B) /\ w.ownsMap Tryz.prog 68 (plainElem Tryz.prog 3) B 500 D /\ Cnt D ds
 | 6 => ∃ G c, v = .slice (some ⟨G, 0, none⟩) (jh ds x.m o o.c.toNat).length c /\ w.ownsRow base 33 3 (.slice (some ⟨G, 0, none⟩) (jh ds x.m o o.c.toNat).length c) (jh ds x.m o o.c.toNat).length (zt 3 jc (jh ds x.m o o.c.toNat))
 | 7 => ∃ G c, v = .slice (some ⟨G, 0, none⟩) (jh ds x.m o o.c.toNat).length c /\ w.ownsRow base 33 3 (.slice (some ⟨G, 0, none⟩) (jh ds x.m o o.c.toNat).length c) (jh ds x.m o o.c.toNat).length (zt 3 jc (jh ds x.m o o.c.toNat))
 | _ => True
theorem zd4 : (Rg.opsOf Tryz.f47 8).size = 8 := by kernel_rfl
set_option maxRecDepth 20000 in
set_option maxHeartbeats 16000000 in
theorem regD8 {Q : Exit -> Act -> World -> Prop} {a : Act} {w9 : World} {B2 B3 B7 : Nat} {vo : Value} {ad : Option Addr} {dcap : Nat} {ds : List Ds} {x : Dd} {o : Od} (ha : a.tmps.size = 103) (k2 : a.tmps[2]? = some (.pointer (some ⟨B2, 0, none⟩))) (k3 : a.tmps[3]? = some (.pointer (some ⟨B3, 0, none⟩))) (k7 : a.tmps[7]? = some (.pointer (some ⟨B7, 0, none⟩)))
  (p2 : PB w9 B2 #[vo, .slice ad ds.length dcap] 27) (p3 : PB w9 B3 #[.int .i64 x.k, .int .i64 x.o.id, .int .i64 x.o.p, .int .i64 x.o.d, .int .i64 x.o.n, .int .i64 x.o.f, .int .i64 x.o.e, .int .i64 x.o.c, .int .i64 x.o.s, .bool x.o.two, .int .i64 x.id, .int .i64 x.p, .int .i64 x.d, .int .i64 x.n, .int .i64 x.m, .int .i64 x.b, .int .i64 x.a] 40) (p7 : PB w9 B7 #[.int .i64 o.id, .int .i64 o.p, .int .i64 o.d, .int .i64 o.n, .int .i64 o.f, .int .i64 o.e, .int .i64 o.c, .int .i64 o.s, .bool o.two] 38) (hD : VRw 5 jy w9 (.slice ad ds.length dcap) ds) (hm : ds.length <= 500) (hbd : ∀ (i : Nat) (d : Ds), ds[i]? = some d -> Bd d.o /\ Bd d.t) (hod : odB o = true) (ht : zl x.m = true)
  (hend : ∀ b' w', Rg.Fr (Rg.opsOf Tryz.f47 8) a b' -> Below w9.heap.size w9 w' -> (∃ G c, Rg.out (Rg.opsOf Tryz.f47 8) b' 7 = .slice (some ⟨G, 0, none⟩) (jh ds x.m o o.c.toNat).length c /\ w'.ownsRow w9.heap.size 33 3 (.slice (some ⟨G, 0, none⟩) (jh ds x.m o o.c.toNat).length c) (jh ds x.m o o.c.toNat).length (zt 3 jc (jh ds x.m o o.c.toNat))) -> Q .normal b' w') : (Code.region 8 (Rg.opsOf Tryz.f47 8) true).wp Tryz.prog Q a w9 := by
 refine Rg.zcq (by kernel_rfl) (fun _ w' => Below w9.heap.size w9 w') (FD8 B2 B3 B7 w9.heap.size ad dcap ds x o) (by rw [ha, zd4]; kernel_rfl) (jq (Below.refl _ _)) ?_ ?_
 case refine_2 =>
  intro l b' w' hf hall hI hA
  rw [zd4] at hA
  exact hend b' w' hf hI (hA 7 (by decide))
 case refine_1 =>
  clear hend
  have HS : ∀ {w w' : World}, Below w.heap.size w w' -> ∀ k9 y9, FD8 B2 B3 B7 w9.heap.size ad dcap ds x o k9 y9 w -> FD8 B2 B3 B7 w9.heap.size ad dcap ds x o k9 y9 w' := fun hb k9 y9 h => by
   unfold FD8 at *
   split at h <;> first | exact h | (obtain ⟨B, D, h1, h2, h3⟩ := h; exact ⟨B, D, h1, Rt.zcz h2 (hb.block B h2.lt), h3⟩) | (obtain ⟨G, c, h1, h2⟩ := h; exact ⟨G, c, h1, Cp.own_below h2 hb⟩)
  intro i' hi'
  rw [zd4] at hi'
  rcases (show i' = 0 ∨ i' = 1 ∨ i' = 2 ∨ i' = 3 ∨ i' = 4 ∨ i' = 5 ∨ i' = 6 ∨ i' = 7 by omega) with rfl | rfl | rfl | rfl | rfl | rfl | rfl | rfl
  ·intro ll bb w' hs hlf hN hO hf hI hA
   clear hi'
   have q7 := hf.kept (s := 7) (by rw [zd4]; kernel_rfl) k7
   have e := p7.below hI
   have e0 : w'.cell? ⟨B7, 0, none⟩ = some _ := e.cell 0
   have e1 : w'.cell? ⟨B7, 1, none⟩ = some _ := e.cell 1
   have e2 : w'.cell? ⟨B7, 2, none⟩ = some _ := e.cell 2
   have e3 : w'.cell? ⟨B7, 3, none⟩ = some _ := e.cell 3
   have e4 : w'.cell? ⟨B7, 4, none⟩ = some _ := e.cell 4
   have e5 : w'.cell? ⟨B7, 5, none⟩ = some _ := e.cell 5
   have e6 : w'.cell? ⟨B7, 6, none⟩ = some _ := e.cell 6
   have e7 : w'.cell? ⟨B7, 7, none⟩ = some _ := e.cell 7
   have e8 : w'.cell? ⟨B7, 8, none⟩ = some _ := e.cell 8
   exact Rg.zf (o := ⟨some 51, Op.load 38 (Operand.tmp 7), _, _, _, _⟩) (x := .agg #[.int .i64 o.id, .int .i64 o.p, .int .i64 o.d, .int .i64 o.n, .int .i64 o.f, .int .i64 o.e, .int .i64 o.c, .int .i64 o.s, .bool o.two]) rfl rfl (by clear hA hN hO HS p2 p3 p7 hD hbd e; simp only [execOp]; go_simp) ⟨_, rfl, (fun h => by cases h), rfl, hI, fun _ _ _ _ h => h⟩
  ·intro ll bb w' hs hlf hN hO hf hI hA
   clear hi'
   have q3 := hf.kept (s := 3) (by rw [zd4]; kernel_rfl) k3
   exact Rg.zf (o := ⟨some 52, Op.fieldAddr 40 (Operand.tmp 3) 6, _, _, _, _⟩) (x := .pointer (some ⟨B3, 14, none⟩)) rfl rfl (by clear hA hN hO HS p2 p3 p7 hD hbd; simp only [execOp]; go_simp) ⟨_, rfl, (fun h => by cases h), rfl, hI, fun _ _ _ _ h => h⟩
  ·intro ll bb w' hs hlf hN hO hf hI hA
   clear hi'
   have q52 : bb.tmps[52]? = some _ := hf.tmp (k := 1) rfl (by rw [ha]; decide) (hA 1 (by kernel_rfl))
   have e14 : w'.cell? ⟨B3, 14, none⟩ = some (.int .i64 x.m) := (p3.below hI).cell 14
   exact Rg.zf (o := ⟨some 53, Op.load 2 (Operand.tmp 52), _, _, _, _⟩) (x := .int .i64 x.m) rfl rfl (by clear hA hN hO HS p2 p3 p7 hD hbd; simp only [execOp]; go_simp) ⟨_, rfl, (fun h => by cases h), rfl, hI, fun _ _ _ _ h => h⟩
  ·intro ll bb w' hs hlf hN hO hf hI hA
   clear hi'
   have q2 := hf.kept (s := 2) (by rw [zd4]; kernel_rfl) k2
   exact Rg.zf (o := ⟨some 54, Op.fieldAddr 27 (Operand.tmp 2) 1, _, _, _, _⟩) (x := .pointer (some ⟨B2, 1, none⟩)) rfl rfl (by clear hA hN hO HS p2 p3 p7 hD hbd; simp only [execOp]; go_simp) ⟨_, rfl, (fun h => by cases h), rfl, hI, fun _ _ _ _ h => h⟩
  ·intro ll bb w' hs hlf hN hO hf hI hA
   clear hi'
   have q54 : bb.tmps[54]? = some _ := hf.tmp (k := 3) rfl (by rw [ha]; decide) (hA 3 (by kernel_rfl))
   obtain ⟨b0, b1⟩ := (p2.below hI).two
   exact Rg.zf (o := ⟨some 55, Op.load 25 (Operand.tmp 54), _, _, _, _⟩) (x := .slice ad ds.length dcap) rfl rfl (by clear hA hN hO HS p2 p3 p7 hD hbd; simp only [execOp]; go_simp) ⟨_, rfl, (fun h => by cases h), rfl, hI, fun _ _ _ _ h => h⟩
  ·intro ll bb w' hs hlf hN hO hf hI hA
   clear hi'
   have q55 : bb.tmps[55]? = some _ := hf.tmp (k := 4) rfl (by rw [ha]; decide) (hA 4 (by kernel_rfl))
   refine Rg.jr (o := ⟨some 56, Op.call { callee := Callee.value (Operand.func 16), args := #[Operand.tmp 55], argTypes := _ }, _, _, _, _⟩) rfl rfl (by clear hA hN hO HS p2 p3 p7 hD hbd; simp only [execOp, resolve]; go_simp) (zgt ad ds.length dcap ds w' (hD.below hI) hm hbd) ?_
   rintro e w2 ⟨rfl, ⟨D, ho, hc⟩, hb2⟩
   exact ⟨_, rfl, _, rfl, (fun h => by cases h), ⟨_, D, rfl, ho, hc⟩, onto hI hb2, fun k9 y9 _ _ h => HS hb2 k9 y9 h⟩
  ·intro ll bb w' hs hlf hN hO hf hI hA
   clear hi'
   have q51 : bb.tmps[51]? = some _ := hf.tmp (k := 0) rfl (by rw [ha]; decide) (hA 0 (by kernel_rfl))
   have q53 : bb.tmps[53]? = some _ := hf.tmp (k := 2) rfl (by rw [ha]; decide) (hA 2 (by kernel_rfl))
   obtain ⟨B, D, hv, ho, hc⟩ := hA 5 (by kernel_rfl)
   have q56 : bb.tmps[56]? = some _ := hf.tmp (k := 5) rfl (by rw [ha]; decide) hv
   have hC := zhv o x.m B D ds w' ho hc hod ht
   unfold aOd at hC
   refine Rg.jr (o := ⟨some 57, Op.call { callee := Callee.value (Operand.func 17), args := #[Operand.tmp 51, Operand.tmp 53, Operand.tmp 56], argTypes := _ }, _, _, _, _⟩) rfl rfl (by clear hA hN hO HS p2 p3 p7 hD hbd hC hv ho hc; simp only [execOp, resolve]; go_simp) hC ?_
   rintro e w2 ⟨G, c, rfl, ho2, hb2⟩
   exact ⟨_, rfl, _, rfl, (fun h => by cases h), ⟨G, c, rfl, Cp.own_base ho2 hI.size⟩, onto hI hb2, fun k9 y9 _ _ h => HS hb2 k9 y9 h⟩
  ·intro ll bb w' hs hlf hN hO hf hI hA
   clear hi'
   obtain ⟨G, c, hv, ho⟩ := hA 6 (by kernel_rfl)
   have q57 : bb.tmps[57]? = some _ := hf.tmp (k := 6) rfl (by rw [ha]; decide) hv
   exact Rg.zf (o := ⟨some 8, Op.assign (Operand.tmp 57), _, _, _, _⟩) (x := .slice (some ⟨G, 0, none⟩) (jh ds x.m o o.c.toNat).length c) rfl rfl (by clear hA hN hO HS p2 p3 p7 hD hbd hv ho; simp only [execOp]; go_simp) ⟨_, rfl, (fun h => by cases h), ⟨G, c, rfl, ho⟩, hI, fun _ _ _ _ h => h⟩
theorem layD8 {a b : Act} (hf : Rg.Fr (Rg.opsOf Tryz.f47 8) a b) : b = Rg.fl (Rg.opsOf Tryz.f47 8) b 0 [some 51, some 52, some 53, some 54, some 55, some 56, some 57, some 8] a := Rg.ql _ (by kernel_rfl) hf
end Go.Proofs.YtjlpfpigggdemaaGreatDoor
namespace Go.Proofs.YtjlpfpigggdemaaGreatDoor
open Go.RowKit Va Uo
set_option linter.all false
def FD10d (B3 B7 : Nat) (x : Dd) (o : Od) (i9 : Nat) (v : Value) (w : World) : Prop :=
 match i9 with
 | 0 => v = .agg #[.int .i64 x.k, .int .i64 x.o.id, .int .i64 x.o.p, .int .i64 x.o.d, .int .i64 x.o.n, .int .i64 x.o.f, .int .i64 x.o.e, .int .i64 x.o.c, .int .i64 x.o.s, .bool x.o.two, .int .i64 x.id, .int .i64 x.p, .int .i64 x.d, .int .i64 x.n, .int .i64 x.m, .int .i64 x.b, .int .i64 x.a]
 | 1 => v = .agg #[.int .i64 o.id, .int .i64 o.p, .int .i64 o.d, .int .i64 o.n, .int .i64 o.f, .int .i64 o.e, .int .i64 o.c, .int .i64 o.s, .bool o.two]
 | 2 => v = .pointer (some ⟨B3, 15, none⟩)
 | 3 => v = .int .i64 x.b
 | 4 => v = .pointer (some ⟨B3, 16, none⟩)
 | 5 => v = .int .i64 x.a
 | 6 => v = .bool false
 | 7 => v = .bool true
 | 8 => False
 | _ => True
theorem zda : (Rg.opsOf Tryz.f47 10).size = 9 := by kernel_rfl
set_option maxRecDepth 20000 in
set_option maxHeartbeats 16000000 in
theorem regD10d {Q : Exit -> Act -> World -> Prop} {a : Act} {w9 : World} {B3 B7 : Nat} {x : Dd} {o : Od} (ha : a.tmps.size = 103)
  (k3 : a.tmps[3]? = some (.pointer (some ⟨B3, 0, none⟩))) (k7 : a.tmps[7]? = some (.pointer (some ⟨B7, 0, none⟩))) (p3 : PB w9 B3 #[.int .i64 x.k, .int .i64 x.o.id, .int .i64 x.o.p, .int .i64 x.o.d, .int .i64 x.o.n, .int .i64 x.o.f, .int .i64 x.o.e, .int .i64 x.o.c, .int .i64 x.o.s, .bool x.o.two, .int .i64 x.id, .int .i64 x.p, .int .i64 x.d, .int .i64 x.n, .int .i64 x.m, .int .i64 x.b, .int .i64 x.a] 40) (p7 : PB w9 B7 #[.int .i64 o.id, .int .i64 o.p, .int .i64 o.d, .int .i64 o.n, .int .i64 o.f, .int .i64 o.e, .int .i64 o.c, .int .i64 o.s, .bool o.two] 38) (ht : za3 o.two x.b x.a = false) (hdie : ∀ b' w', Rg.Fr (Rg.opsOf Tryz.f47 10) a b' -> Below w9.heap.size w9 w' -> Q (.panic [{ v := kz x.k 10, recovered := false }]) b' w') :
  (Code.region 10 (Rg.opsOf Tryz.f47 10) true).wp Tryz.prog Q a w9 := by
 refine Rg.zas (by kernel_rfl) (fun w' => Below w9.heap.size w9 w') (FD10d B3 B7 x o) (fun _ => none) (by rw [ha, zda]; kernel_rfl) (jq (Below.refl _ _)) ?_ ?_
 case refine_2 =>
  intro b' w' hf hI hA
  rw [zda] at hA
  exact (hA 8 (by decide) rfl).elim
 case refine_1 =>
  have HS : ∀ {w w' : World}, Below w.heap.size w w' -> ∀ k9 y9, FD10d B3 B7 x o k9 y9 w -> FD10d B3 B7 x o k9 y9 w' := fun hb k9 y9 h => by
   unfold FD10d at *
   split at h <;> exact h
  intro i' hi'
  rw [zda] at hi'
  rcases (show i' = 0 ∨ i' = 1 ∨ i' = 2 ∨ i' = 3 ∨ i' = 4 ∨ i' = 5 ∨ i' = 6 ∨ i' = 7 ∨ i' = 8 by omega) with rfl | rfl | rfl | rfl | rfl | rfl | rfl | rfl | rfl
  ·intro bb w' hf hI hA
   clear hi'
   have q3 := hf.kept (s := 3) (by rw [zda]; kernel_rfl) k3
   obtain ⟨e30, ⟨e31, e32, e33, e34, e35, e36, e37, e38, e39⟩, e3a, e3b, e3c, e3d, e3e, e3f, e3g⟩ := (p3.below hI).deed
   clear p3 p7
   clear hA HS ht hdie
   exact Rg.zf (o := ⟨some 63, Op.load 40 (Operand.tmp 3), _, _, _, _⟩) (x := .agg #[.int .i64 x.k, .int .i64 x.o.id, .int .i64 x.o.p, .int .i64 x.o.d, .int .i64 x.o.n, .int .i64 x.o.f, .int .i64 x.o.e, .int .i64 x.o.c, .int .i64 x.o.s, .bool x.o.two, .int .i64 x.id, .int .i64 x.p, .int .i64 x.d, .int .i64 x.n, .int .i64 x.m, .int .i64 x.b, .int .i64 x.a]) rfl rfl (by simp only [execOp]; go_simp) ⟨_, rfl, (fun h => by cases h), rfl, hI, fun _ _ _ h => h⟩
  ·intro bb w' hf hI hA
   clear hi'
   have q7 := hf.kept (s := 7) (by rw [zda]; kernel_rfl) k7
   obtain ⟨r0, r1, r2, r3, r4, r5, r6, r7, r8⟩ := (p7.below hI).nine
   clear p3 p7
   clear hA HS ht hdie
   exact Rg.zf (o := ⟨some 64, Op.load 38 (Operand.tmp 7), _, _, _, _⟩) (x := .agg #[.int .i64 o.id, .int .i64 o.p, .int .i64 o.d, .int .i64 o.n, .int .i64 o.f, .int .i64 o.e, .int .i64 o.c, .int .i64 o.s, .bool o.two]) rfl rfl (by simp only [execOp]; go_simp) ⟨_, rfl, (fun h => by cases h), rfl, hI, fun _ _ _ h => h⟩
  ·intro bb w' hf hI hA
   clear hi'
   have q3 := hf.kept (s := 3) (by rw [zda]; kernel_rfl) k3
   clear hA HS ht hdie
   exact Rg.zf (o := ⟨some 65, Op.fieldAddr 40 (Operand.tmp 3) 7, _, _, _, _⟩) (x := .pointer (some ⟨B3, 15, none⟩)) rfl rfl (by simp only [execOp]; go_simp) ⟨_, rfl, (fun h => by cases h), rfl, hI, fun _ _ _ h => h⟩
  ·intro bb w' hf hI hA
   clear hi'
   have q65 : bb.tmps[65]? = some _ := hf.tmp (k := 2) rfl (by rw [ha]; decide) (hA 2 (by kernel_rfl) (.inl rfl))
   obtain ⟨e30, ⟨e31, e32, e33, e34, e35, e36, e37, e38, e39⟩, e3a, e3b, e3c, e3d, e3e, e3f, e3g⟩ := (p3.below hI).deed
   clear p3 p7
   clear hA HS ht hdie
   exact Rg.zf (o := ⟨some 66, Op.load 2 (Operand.tmp 65), _, _, _, _⟩) (x := .int .i64 x.b) rfl rfl (by simp only [execOp]; go_simp) ⟨_, rfl, (fun h => by cases h), rfl, hI, fun _ _ _ h => h⟩
  ·intro bb w' hf hI hA
   clear hi'
   have q3 := hf.kept (s := 3) (by rw [zda]; kernel_rfl) k3
   clear hA HS ht hdie
   exact Rg.zf (o := ⟨some 67, Op.fieldAddr 40 (Operand.tmp 3) 8, _, _, _, _⟩) (x := .pointer (some ⟨B3, 16, none⟩)) rfl rfl (by simp only [execOp]; go_simp) ⟨_, rfl, (fun h => by cases h), rfl, hI, fun _ _ _ h => h⟩
  ·intro bb w' hf hI hA
   clear hi'
   have q67 : bb.tmps[67]? = some _ := hf.tmp (k := 4) rfl (by rw [ha]; decide) (hA 4 (by kernel_rfl) (.inl rfl))
   obtain ⟨e30, ⟨e31, e32, e33, e34, e35, e36, e37, e38, e39⟩, e3a, e3b, e3c, e3d, e3e, e3f, e3g⟩ := (p3.below hI).deed
   clear p3 p7
   clear hA HS ht hdie
   exact Rg.zf (o := ⟨some 68, Op.load 2 (Operand.tmp 67), _, _, _, _⟩) (x := .int .i64 x.a) rfl rfl (by simp only [execOp]; go_simp) ⟨_, rfl, (fun h => by cases h), rfl, hI, fun _ _ _ h => h⟩
  ·intro bb w' hf hI hA
   clear hi'
   have q64 : bb.tmps[64]? = some _ := hf.tmp (k := 1) rfl (by rw [ha]; decide) (hA 1 (by kernel_rfl) (.inl rfl))
   have q66 : bb.tmps[66]? = some _ := hf.tmp (k := 3) rfl (by rw [ha]; decide) (hA 3 (by kernel_rfl) (.inl rfl))
   have q68 : bb.tmps[68]? = some _ := hf.tmp (k := 5) rfl (by rw [ha]; decide) (hA 5 (by kernel_rfl) (.inl rfl))
   clear p3 p7
   refine Rg.jr (o := ⟨some 69, Op.call { callee := Callee.value (Operand.func 74), args := #[(Operand.tmp 64), (Operand.tmp 66), (Operand.tmp 68)], argTypes := _ }, _, _, _, _⟩) rfl rfl (by clear hA HS ht hdie; simp only [execOp, resolve]; go_simp) (zid o x.b x.a w' ht) ?_
   rintro e w2 ⟨rfl, hb⟩
   exact ⟨_, rfl, _, rfl, (fun h => by cases h), rfl, onto hI hb, fun k9 y9 _ h => HS hb k9 y9 h⟩
  ·intro bb w' hf hI hA
   clear hi'
   have q69 : bb.tmps[69]? = some _ := hf.tmp (k := 6) rfl (by rw [ha]; decide) (hA 6 (by kernel_rfl) (.inl rfl))
   clear hA HS ht hdie
   exact Rg.zf (o := ⟨some 70, Op.unOp UnOp.not 4 (Operand.tmp 69), _, _, _, _⟩) (x := .bool true) rfl rfl (by simp only [execOp]; go_simp) ⟨_, rfl, (fun h => by cases h), rfl, hI, fun _ _ _ h => h⟩
  ·intro bb w' hf hI hA
   clear hi'
   have q63 : bb.tmps[63]? = some _ := hf.tmp (k := 0) rfl (by rw [ha]; decide) (hA 0 (by kernel_rfl) (.inl rfl))
   have q70 : bb.tmps[70]? = some _ := hf.tmp (k := 7) rfl (by rw [ha]; decide) (hA 7 (by kernel_rfl) (.inl rfl))
   refine Rg.zdk (o := ⟨some 71, Op.call { callee := Callee.value (Operand.func 44), args := #[(Operand.tmp 63), (Operand.tmp 70), (Operand.const (Value.int .i64 10))], argTypes := _ }, _, _, _, _⟩) rfl rfl (by clear hA HS hdie; simp only [execOp, resolve]; go_simp) (zce x 10 w') ?_
   rintro e w2 ⟨rfl, hb⟩
   exact ⟨_, rfl, hdie _ _ hf (onto hI hb)⟩
def FD11d (B3 B2 : Nat) (x : Dd) (ad : Option Addr) (dcap : Nat) (ds : List Ds) (vo : Value) (i9 : Nat) (v : Value) (w : World) : Prop :=
 match i9 with
 | 0 => v = .agg #[.int .i64 x.k, .int .i64 x.o.id, .int .i64 x.o.p, .int .i64 x.o.d, .int .i64 x.o.n, .int .i64 x.o.f, .int .i64 x.o.e, .int .i64 x.o.c, .int .i64 x.o.s, .bool x.o.two, .int .i64 x.id, .int .i64 x.p, .int .i64 x.d, .int .i64 x.n, .int .i64 x.m, .int .i64 x.b, .int .i64 x.a]
 | 1 => v = .agg #[vo, .slice ad ds.length dcap]
 | 2 => v = .pointer (some ⟨B3, 14, none⟩)
 | 3 => v = .int .i64 x.m
 | 4 => v = .bool true
 | 5 => False
 | _ => True
theorem zd7 : (Rg.opsOf Tryz.f47 11).size = 6 := by kernel_rfl
set_option maxRecDepth 20000 in
set_option maxHeartbeats 16000000 in
theorem regD11d {Q : Exit -> Act -> World -> Prop} {a : Act} {w9 : World} {B3 B2 : Nat} {x : Dd} {ad : Option Addr} {dcap : Nat} {ds : List Ds} {vo : Value} (ha : a.tmps.size = 103)
  (k3 : a.tmps[3]? = some (.pointer (some ⟨B3, 0, none⟩))) (k2 : a.tmps[2]? = some (.pointer (some ⟨B2, 0, none⟩))) (p3 : PB w9 B3 #[.int .i64 x.k, .int .i64 x.o.id, .int .i64 x.o.p, .int .i64 x.o.d, .int .i64 x.o.n, .int .i64 x.o.f, .int .i64 x.o.e, .int .i64 x.o.c, .int .i64 x.o.s, .bool x.o.two, .int .i64 x.id, .int .i64 x.p, .int .i64 x.d, .int .i64 x.n, .int .i64 x.m, .int .i64 x.b, .int .i64 x.a] 40) (p2 : PB w9 B2 #[vo, .slice ad ds.length dcap] 27) (hd : VRw 5 jy w9 (.slice ad ds.length dcap) ds) (hm : ds.length <= 1048576) (ho1 : ∃ a n c, vo = .slice a n c) (ht : zay ds x.m = true) (hdie : ∀ b' w', Rg.Fr (Rg.opsOf Tryz.f47 11) a b' -> Below w9.heap.size w9 w' -> Q (.panic [{ v := kz x.k 11, recovered := false }]) b' w') :
  (Code.region 11 (Rg.opsOf Tryz.f47 11) true).wp Tryz.prog Q a w9 := by
 refine Rg.zas (by kernel_rfl) (fun w' => Below w9.heap.size w9 w') (FD11d B3 B2 x ad dcap ds vo) (fun _ => none) (by rw [ha, zd7]; kernel_rfl) (jq (Below.refl _ _)) ?_ ?_
 case refine_2 =>
  intro b' w' hf hI hA
  rw [zd7] at hA
  exact (hA 5 (by decide) rfl).elim
 case refine_1 =>
  have HS : ∀ {w w' : World}, Below w.heap.size w w' -> ∀ k9 y9, FD11d B3 B2 x ad dcap ds vo k9 y9 w -> FD11d B3 B2 x ad dcap ds vo k9 y9 w' := fun hb k9 y9 h => by
   unfold FD11d at *
   split at h <;> exact h
  intro i' hi'
  rw [zd7] at hi'
  rcases (show i' = 0 ∨ i' = 1 ∨ i' = 2 ∨ i' = 3 ∨ i' = 4 ∨ i' = 5 by omega) with rfl | rfl | rfl | rfl | rfl | rfl
  ·intro bb w' hf hI hA
   clear hi'
   have q3 := hf.kept (s := 3) (by rw [zd7]; kernel_rfl) k3
   obtain ⟨e30, ⟨e31, e32, e33, e34, e35, e36, e37, e38, e39⟩, e3a, e3b, e3c, e3d, e3e, e3f, e3g⟩ := (p3.below hI).deed
   clear p3 p2 hd
   clear hA HS ht hdie
   exact Rg.zf (o := ⟨some 72, Op.load 40 (Operand.tmp 3), _, _, _, _⟩) (x := .agg #[.int .i64 x.k, .int .i64 x.o.id, .int .i64 x.o.p, .int .i64 x.o.d, .int .i64 x.o.n, .int .i64 x.o.f, .int .i64 x.o.e, .int .i64 x.o.c, .int .i64 x.o.s, .bool x.o.two, .int .i64 x.id, .int .i64 x.p, .int .i64 x.d, .int .i64 x.n, .int .i64 x.m, .int .i64 x.b, .int .i64 x.a]) rfl rfl (by simp only [execOp]; go_simp) ⟨_, rfl, (fun h => by cases h), rfl, hI, fun _ _ _ h => h⟩
  ·intro bb w' hf hI hA
   clear hi'
   have q2 := hf.kept (s := 2) (by rw [zd7]; kernel_rfl) k2
   have e0 : w'.cell? ⟨B2, 0, none⟩ = some vo := (p2.below hI).cell 0
   have e1 : w'.cell? ⟨B2, 1, none⟩ = some (.slice ad ds.length dcap) := (p2.below hI).cell 1
   clear p3 p2 hd
   clear hA HS ht hdie
   exact Rg.zf (o := ⟨some 73, Op.load 27 (Operand.tmp 2), _, _, _, _⟩) (x := .agg #[vo, .slice ad ds.length dcap]) rfl rfl (by simp only [execOp]; go_simp) ⟨_, rfl, (fun h => by cases h), rfl, hI, fun _ _ _ h => h⟩
  ·intro bb w' hf hI hA
   clear hi'
   have q3 := hf.kept (s := 3) (by rw [zd7]; kernel_rfl) k3
   clear hA HS ht hdie
   exact Rg.zf (o := ⟨some 74, Op.fieldAddr 40 (Operand.tmp 3) 6, _, _, _, _⟩) (x := .pointer (some ⟨B3, 14, none⟩)) rfl rfl (by simp only [execOp]; go_simp) ⟨_, rfl, (fun h => by cases h), rfl, hI, fun _ _ _ h => h⟩
  ·intro bb w' hf hI hA
   clear hi'
   have q74 : bb.tmps[74]? = some _ := hf.tmp (k := 2) rfl (by rw [ha]; decide) (hA 2 (by kernel_rfl) (.inl rfl))
   obtain ⟨e30, ⟨e31, e32, e33, e34, e35, e36, e37, e38, e39⟩, e3a, e3b, e3c, e3d, e3e, e3f, e3g⟩ := (p3.below hI).deed
   clear p3 p2 hd
   clear hA HS ht hdie
   exact Rg.zf (o := ⟨some 75, Op.load 2 (Operand.tmp 74), _, _, _, _⟩) (x := .int .i64 x.m) rfl rfl (by simp only [execOp]; go_simp) ⟨_, rfl, (fun h => by cases h), rfl, hI, fun _ _ _ h => h⟩
  ·intro bb w' hf hI hA
   clear hi'
   have q73 : bb.tmps[73]? = some _ := hf.tmp (k := 1) rfl (by rw [ha]; decide) (hA 1 (by kernel_rfl) (.inl rfl))
   have q75 : bb.tmps[75]? = some _ := hf.tmp (k := 3) rfl (by rw [ha]; decide) (hA 3 (by kernel_rfl) (.inl rfl))
   have hd2 := hd.below hI
   clear p3 p2 hd
   refine Rg.jr (o := ⟨some 76, Op.call { callee := Callee.value (Operand.func 75), args := #[(Operand.tmp 73), (Operand.tmp 75)], argTypes := _ }, _, _, _, _⟩) rfl rfl (by clear hA HS ht hdie; simp only [execOp, resolve]; go_simp) (zg9 vo ad dcap ds x.m w' hd2 hm ho1 ht) ?_
   rintro e w2 ⟨rfl, hb⟩
   exact ⟨_, rfl, _, rfl, (fun h => by cases h), rfl, onto hI hb, fun k9 y9 _ h => HS hb k9 y9 h⟩
  ·intro bb w' hf hI hA
   clear hi'
   have q72 : bb.tmps[72]? = some _ := hf.tmp (k := 0) rfl (by rw [ha]; decide) (hA 0 (by kernel_rfl) (.inl rfl))
   have q76 : bb.tmps[76]? = some _ := hf.tmp (k := 4) rfl (by rw [ha]; decide) (hA 4 (by kernel_rfl) (.inl rfl))
   refine Rg.zdk (o := ⟨some 77, Op.call { callee := Callee.value (Operand.func 44), args := #[(Operand.tmp 72), (Operand.tmp 76), (Operand.const (Value.int .i64 11))], argTypes := _ }, _, _, _, _⟩) rfl rfl (by clear hA HS hdie; simp only [execOp, resolve]; go_simp) (zce x 11 w') ?_
   rintro e w2 ⟨rfl, hb⟩
   exact ⟨_, rfl, hdie _ _ hf (onto hI hb)⟩
end Go.Proofs.YtjlpfpigggdemaaGreatDoor
