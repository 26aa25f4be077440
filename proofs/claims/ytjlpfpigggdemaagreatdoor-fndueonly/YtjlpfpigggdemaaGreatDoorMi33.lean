/-
 Merged: U31 U32 U33.
-/
import Derived.Test.YtjlpfpigggdemaaGreatDoorMi27
import Derived.Test.YtjlpfpigggdemaaGreatDoorMi32
import Derived.Test.YtjlpfpigggdemaaGreatDoorMi28
import Derived.Test.YtjlpfpigggdemaaGreatDoorMi30
import Derived.Test.YtjlpfpigggdemaaGreatDoorMi31
import Derived.Test.YtjlpfpigggdemaaGreatDoorMi20
namespace Go.Proofs.YtjlpfpigggdemaaGreatDoor
set_option maxRecDepth 8000
set_option maxHeartbeats 4000000
open Go.RowKit Va Uo
set_option linter.all false
theorem zgd (w : World) (v0 v1 v2 v3 v4 v5 v6 v7 v8 : Value) (t : TypeId) : ∀ (j : Nat) (u : Value), [v0, v1, v2, v3, v4, v5, v6, v7, v8][j]? = some u -> (w.alloc (.cells #[v0, v1, v2, v3, v4, v5, v6, v7, v8] t)).cell? ((⟨w.heap.size, 0, none⟩ : Addr).add j) = some u := fun j u hu => by
 rw [Addr.add_lit, Nat.zero_add, (PB.new w #[v0, v1, v2, v3, v4, v5, v6, v7, v8] t).cell j]
 simpa using hu
theorem BX.swap {w W : World} {B2 B3 B4 B6 : Nat} {ao ad : Option Addr} {n cap m dcap : Nat} {x : Dd} {v1 v2 : Value} (h : BX w W B2 B3 B4 B6 ao ad n cap m dcap x v1 v2) (v : Value) : BX w (W.setCell ⟨B6, 0, none⟩ v) B2 B3 B4 B6 ao ad n cap m dcap x v v2 :=
 ⟨h.b2.far h.n26 _ _, h.b3.far h.n36 _ _, h.b4.far h.n46 _ _, h.b6.set 0 v, h.below.setCell (p := ⟨B6, 0, none⟩) h.l6 _, h.l2, h.l3, h.l4, h.l6, h.n26, h.n36, h.n46⟩
theorem BX.grow {w W w5 : World} {B2 B3 B4 B6 : Nat} {ao ad : Option Addr} {n cap m dcap : Nat} {x : Dd} {v1 v2 v5 : Value} {L : List Od} {ds : List Ds} (h : BX w W B2 B3 B4 B6 ao ad n cap m dcap x v1 v2) (hN : Cp.zo W w.heap.size v1 v2 L ds) (ob : Obj) (y : Od) (ho : w5.ownsRow w.heap.size 38 9 v5 (L.length + 1) (zt 9 jd L ++ (List.range 9).map (fun k => jd y k))) (hg : (W.alloc ob).grownBy w5 v1.ownBlock) :
  BX w (w5.setCell ⟨B6, 0, none⟩ v5) B2 B3 B4 B6 ao ad n cap m dcap x v5 v2 /\ Cp.zo (w5.setCell ⟨B6, 0, none⟩ v5) w.heap.size v5 v2 (L ++ [y]) ds := by
 have ok := hN.1.alloc ob
 have k : ∀ {B tb : Nat} {vs : Array Value}, PB W B vs tb -> tb ≠ 38 -> PB w5 B vs tb := fun hp hne => (hp.alloc ob).kept hg (jb ok (hp.alloc ob) hne)
 have k6 := k h.b6 (by decide)
 refine ⟨⟨(k h.b2 (by decide)).far h.n26 _ _, (k h.b3 (by decide)).far h.n36 _ _, (k h.b4 (by decide)).far h.n46 _ _, k6.set 0 v5, ?_, h.l2, h.l3, h.l4, h.l6, h.n26, h.n36, h.n46⟩, ?_, ?_⟩
 ·exact ((h.below.alloc h.below.size ob).grown hg (h.below.alloc h.below.size ob).size (fun j hj => Cp.ze3 hN.1 j hj)).setCell (p := ⟨B6, 0, none⟩) h.l6 _
 ·rw [zb9, List.length_append]
  exact Cp.jo ho (jb ho k6 (by decide)) _ _
 ·have h2 := Cp.zfk ok (hN.2.alloc ob) (by decide) hg
  exact Cp.jo h2 (jb h2 k6 (by decide)) _ _
set_option maxRecDepth 20000 in
set_option maxHeartbeats 16000000 in
theorem sdo_ins (ao : Option Addr) (cap : Nat) (ad : Option Addr) (dcap : Nat) (os : List Od) (ds : List Ds) (x : Dd) (w : World) (h : Cp.CRw w (.slice ao os.length cap) (.slice ad ds.length dcap) os ds) (hn : os.length <= 100) (hm : ds.length <= 500) (hx : ddB x = true) (hk : x.k = 1) (ha : atO os x.o.id < 0) (hl : ¬ os.length = 100) :
  Calls Tryz.prog 50 #[.agg #[.slice ao os.length cap, .slice ad ds.length dcap], aDd x] w (Left (yl os x.o) ds 0 w) := by
 have HRW := hidden h
 have HK := hidden hk
 have HL := hidden hl
 clear hk hl
 obtain ⟨i0, hi0, hv0, hv1, hv2⟩ := zfe zbi
 have HH := hidden h
 clear h
 obtain ⟨hb0, p2, p3, p4⟩ := yh w #[.slice ao os.length cap, .slice ad ds.length dcap] #[.int .i64 x.k, .int .i64 x.o.id, .int .i64 x.o.p, .int .i64 x.o.d, .int .i64 x.o.n, .int .i64 x.o.f, .int .i64 x.o.e, .int .i64 x.o.c, .int .i64 x.o.s, .bool x.o.two, .int .i64 x.id, .int .i64 x.p, .int .i64 x.d, .int .i64 x.n, .int .i64 x.m, .int .i64 x.b, .int .i64 x.a] #[.slice none 0 0, .slice none 0 0] 27 40 27
 unfold aDd
 go_enter Tryz.func50, Tryz.ntmps50
 go_upto_region 1 with fail
 generalize (((w.alloc (.cells #[.slice ao os.length cap, .slice ad ds.length dcap] 27)).alloc (.cells #[.int .i64 x.k, .int .i64 x.o.id, .int .i64 x.o.p, .int .i64 x.o.d, .int .i64 x.o.n, .int .i64 x.o.f, .int .i64 x.o.e, .int .i64 x.o.c, .int .i64 x.o.s, .bool x.o.two, .int .i64 x.id, .int .i64 x.p, .int .i64 x.d, .int .i64 x.n, .int .i64 x.m, .int .i64 x.b, .int .i64 x.a] 40)).alloc (.cells #[.slice none 0 0, .slice none 0 0] 27)) = W0 at *
 have l0 := hb0.size
 have g2 : w.heap.size <= w.heap.size := Nat.le_refl _
 have g3 : w.heap.size <= w.heap.size + 1 := Nat.le_succ _
 have g4 : w.heap.size <= w.heap.size + 1 + 1 := by omega
 have z2 := p2.lt
 have z3 := p3.lt
 have z4 := p4.lt
 generalize hB3 : w.heap.size + 1 = B3 at *
 generalize hB4 : B3 + 1 = B4 at *
 generalize hB2 : w.heap.size = B2 at *
 have e20 : W0.cell? ⟨B2, 0, none⟩ = some _ := p2.cell 0
 have e21 : W0.cell? ⟨B2, 1, none⟩ = some _ := p2.cell 1
 have HC := hidden (Cp.zb5 ao ad os.length cap ds.length dcap os ds W0 (HH.out.below (hB2.symm ▸ hb0)) (by omega) (by omega))
 go_upto_region 2 with ((with_reducible refine HC.out.mono ?_); rintro e w1 ⟨a1, c1, a2, c2, rfl, hN1, hb1⟩)
 have hW1 : Below w1.heap.size w1 (w1.alloc (.cells #[.slice a1 os.length c1, .slice a2 ds.length c2] 27)) := (Below.refl _ _).alloc (Nat.le_refl _) _
 have p6 : PB (w1.alloc (.cells #[.slice a1 os.length c1, .slice a2 ds.length c2] 27)) w1.heap.size #[.slice a1 os.length c1, .slice a2 ds.length c2] 27 := PB.new _ _ _
 have z1 := hb1.size
 have hbx1 : BX w (w1.alloc (.cells #[.slice a1 os.length c1, .slice a2 ds.length c2] 27)) B2 B3 B4 w1.heap.size ao ad os.length cap ds.length dcap x (.slice a1 os.length c1) (.slice a2 ds.length c2) := by
  refine ⟨(p2.below hb1).below hW1, (p3.below hb1).below hW1, (p4.below hb1).below hW1, p6, ?_, by omega, by omega, by omega, by omega, by omega, by omega, by omega⟩
  rw [hB2]
  exact (hb0.trans (hb1.mono l0)).trans (hW1.mono (by omega))
 have hN2 : Cp.zo (w1.alloc (.cells #[.slice a1 os.length c1, .slice a2 ds.length c2] 27)) w.heap.size (.slice a1 os.length c1) (.slice a2 ds.length c2) os ds := (hN1.below hW1).zbr (by omega)
 have hR1 : Cp.CRw (w1.alloc (.cells #[.slice a1 os.length c1, .slice a2 ds.length c2] 27)) (.slice ao os.length cap) (.slice ad ds.length dcap) os ds := HH.out.below hbx1.below
 clear HC hN1 p6 p2 p3 p4 hb0 e20 e21 HH hb1
 generalize w1.alloc (.cells #[.slice a1 os.length c1, .slice a2 ds.length c2] 27) = W1 at *
 clear hW1 z1 z2 z3 z4 l0 g2 g3 g4
 generalize w1.heap.size = B6 at *
 clear hB3 hB4 hB2
 have HD := hidden (zb1 x W1)
 obtain ⟨e30, ⟨e31, e32, e33, e34, e35, e36, e37, e38, e39⟩, e3a, e3b, e3c, e3d, e3e, e3f, e3g⟩ := hbx1.b3.deed
 have HBX := hidden hbx1
 have HN := hidden hN2
 have HR := hidden hR1
 clear hbx1 hN2 hR1
 unfold aDd at HD
 rw [hx] at HD
 go_upto_region 4 with ((with_reducible refine HD.out.mono ?_); rintro e w2 ⟨rfl, hb2⟩)
 have hbx := HBX.out.step hb2
 have hN := HN.out.below hb2
 have hR := HR.out.below hb2
 clear HBX HN HR HD hb2 e30 e31 e32 e33 e34 e35 e36 e37 e38 e39 e3a e3b e3c e3d e3e e3f e3g
 have e30 : w2.cell? ⟨B3, 0, none⟩ = some (.int .i64 1) := by rw [hbx.b3.cell 0]; simp [HK.out]
 have e31 : w2.cell? ⟨B3, 1, none⟩ = some (.int .i64 x.o.id) := hbx.b3.cell 1
 have e20 : w2.cell? ⟨B2, 0, none⟩ = some _ := hbx.b2.cell 0
 have HA := hidden (zb7 ao os.length cap os x.o.id w2 hR.1 (by omega))
 have g : ((os.length : Int) == 100) = false := by have := HL.out; simp; omega
 go_upto_region 9 with ((with_reducible refine HA.out.mono ?_); rintro e w3 ⟨rfl, h3⟩; obtain rfl := h3.symm)
 clear HA e30 e31 e20 g hR
 have hW3 : Below w2.heap.size w2 (w2.alloc (.cells #[] 38)) := (Below.refl _ _).alloc (Nat.le_refl _) _
 have e60 : (w2.alloc (.cells #[] 38)).cell? ⟨B6, 0, none⟩ = some _ := (hbx.b6.alloc _).cell 0
 have f60 := (hbx.b6.alloc (.cells #[] 38)).frozen 0
 have h0 : (w2.alloc (.cells #[] 38)).ownsRow w.heap.size 38 9 (.slice (some ⟨w2.heap.size, 0, none⟩) 0 0) 0 [] := zc7 (zdx w2 38 9) hbx.below.size
 have HB0 := hidden ((hbx.step hW3).swap (.slice (some ⟨w2.heap.size, 0, none⟩) 0 0))
 have HN0 : Hid (Cp.zo ((w2.alloc (.cells #[] 38)).setCell ⟨B6, 0, none⟩ (.slice (some ⟨w2.heap.size, 0, none⟩) 0 0)) w.heap.size (.slice (some ⟨w2.heap.size, 0, none⟩) 0 0) (.slice a2 ds.length c2) [] ds) :=
  ⟨Cp.jo h0 (jb h0 (hbx.b6.alloc (.cells #[] 38)) (by decide)) _ _, Cp.jo (hN.2.alloc (.cells #[] 38)) (jb (hN.2.alloc (.cells #[] 38)) (hbx.b6.alloc (.cells #[] 38)) (by decide)) _ _⟩
 clear hbx hN h0 hW3
 go_upto_region 10 with fail
 clear e60 f60
 generalize (w2.alloc (.cells #[] 38)).setCell ⟨B6, 0, none⟩ (.slice (some ⟨w2.heap.size, 0, none⟩) 0 0) = w3 at *
 generalize w2.heap.size = G0 at *
 go_wp2_with fail
 go_loopw [7, 8] (fun pv iv wr => ∃ (i : Nat) (p : Bool) (L : List Od) (a : Option Addr) (c : Nat), i <= os.length /\ iv = .int .i64 i /\ pv = .bool p /\ Hid (p = za0 os x.o i /\ L = yu os x.o i) /\ BX w wr B2 B3 B4 B6 ao ad os.length cap ds.length dcap x (.slice a L.length c) (.slice a2 ds.length c2) /\ Cp.zo wr w.heap.size (.slice a L.length c) (.slice a2 ds.length c2) L ds) (fun _ iv _ => os.length - (intOf iv).toNat)
 case atStart => exact ⟨0, false, [], _, _, by omega, rfl, rfl, ⟨rfl, rfl⟩, HB0.out, HN0.out⟩
 case round =>
  clear HB0 HN0
  obtain ⟨i, p, L, a, c, hi, rfl, rfl, HI, hbx, hN⟩ := hrel
  have hLl : L.length <= os.length + 1 := by rw [HI.out.2]; have := (zfz os x.o i).1; omega
  have hszr := hbx.below.size
  by_cases hlt : i < os.length
  ·have hlti : (i : Int) < (os.length : Int) := by omega
   obtain ⟨o, ho⟩ : ∃ o, os[i]? = some o := ⟨_, List.getElem?_eq_getElem hlt⟩
   have e20 : wr.cell? ⟨B2, 0, none⟩ = some _ := hbx.b2.cell 0
   have HBX := hidden hbx
   have HNr := hidden hN
   clear hbx hN
   go_upto_region 14 with fail
   clear e20
   obtain ⟨g, off, rfl, zg, hrow⟩ := (HRW.out.below HBX.out.below).1.at ho
   rcases p with _ | _
   ·refine regO14f (N := os.length) (cap := cap) (i := i) (g := g) (off := off) (zi := x.o.id) (yi := o.id) rfl rfl rfl rfl rfl hlti (HBX.out.b3.cell 1) (HBX.out.b2.cell 0) (hrow 0 (by decide)) HBX.out.b3.lt HBX.out.b2.lt zg ?_
    intro b' w6 hf hb6 hv
    (rw [layO14f hf]; simp only [Rg.fl0, Rg.fl1, Rg.fl2, Nat.reduceAdd]; rw [hv])
    clear hf hv hrow zg
    have HBX3 := hidden (HBX.out.step hb6)
    have HN3 := hidden (HNr.out.below hb6)
    clear HBX HNr hb6
    generalize Rg.out (Rg.opsOf Tryz.f50 14) b' 0 = o0
    generalize Rg.out (Rg.opsOf Tryz.f50 14) b' 1 = o1
    generalize Rg.out (Rg.opsOf Tryz.f50 14) b' 2 = o2
    generalize Rg.out (Rg.opsOf Tryz.f50 14) b' 3 = o3
    generalize Rg.out (Rg.opsOf Tryz.f50 14) b' 4 = o4
    generalize Rg.out (Rg.opsOf Tryz.f50 14) b' 5 = o5
    generalize Rg.out (Rg.opsOf Tryz.f50 14) b' 6 = o6
    generalize Rg.out (Rg.opsOf Tryz.f50 14) b' 7 = o7
    generalize Rg.out (Rg.opsOf Tryz.f50 14) b' 8 = o8
    generalize Rg.out (Rg.opsOf Tryz.f50 14) b' 9 = o9
    generalize Rg.out (Rg.opsOf Tryz.f50 14) b' 10 = o10
    generalize Rg.out (Rg.opsOf Tryz.f50 14) b' 11 = o11
    generalize Rg.out (Rg.opsOf Tryz.f50 14) b' 12 = o12
    by_cases hq : x.o.id < o.id
    ·rw [decide_eq_true hq]
     have HI2 : Hid (true = za0 os x.o (i + 1) /\ L ++ [x.o] ++ [o] = yu os x.o (i + 1)) := by
      rw [Hid, za0, yu, jm ho, decide_eq_true hq, Bool.or_true, if_pos ⟨HI.out.1.symm, hq⟩, <- HI.out.2]; exact ⟨rfl, rfl⟩
     have hsz6 := HBX3.out.below.size
     obtain ⟨e31, e32, e33, e34, e35, e36, e37, e38, e39⟩ := HBX3.out.b3.deed.2.1
     have e60 : w6.cell? ⟨B6, 0, none⟩ = some _ := HBX3.out.b6.cell 0
     go_frame
     go_upto_region 17 with (at_builtin; go_loud (refine wpList_append_own_at _ rfl (.tmp 59) (.tmp 62) 24 rfl w.heap.size 38 i0 (.agg #[.int .i64 0, .int .i64 0, .int .i64 0, .int .i64 0, .int .i64 0, .int .i64 0, .int .i64 0, .int .i64 0, .bool false]) 9 72 Tryz.underlying24 hi0 hv0 hv1 hv2 rfl (by decide) _ L.length (zt 9 jd L) rfl (HN3.out.1.alloc _) ⟨w6.heap.size, 0, none⟩ 1 1 [.int .i64 x.o.id, .int .i64 x.o.p, .int .i64 x.o.d, .int .i64 x.o.n, .int .i64 x.o.f, .int .i64 x.o.e, .int .i64 x.o.c, .int .i64 x.o.s, .bool x.o.two] rfl rfl (zgd _ _ _ _ _ _ _ _ _ _ _) (by simp [Value.oneCell']) (by unfold maxLen; omega) (by omega) (by simp; omega) ?_; intro v5 w5 ho5 hg5 hn5 hloc5; obtain ⟨ad5, c5, rfl⟩ := zc5 ho5; have p65 := (HBX3.out.b6.alloc (.cells #[.int .i64 x.o.id, .int .i64 x.o.p, .int .i64 x.o.d, .int .i64 x.o.n, .int .i64 x.o.f, .int .i64 x.o.e, .int .i64 x.o.c, .int .i64 x.o.s, .bool x.o.two] 38)).kept hg5 (jb (HN3.out.1.alloc (.cells #[.int .i64 x.o.id, .int .i64 x.o.p, .int .i64 x.o.d, .int .i64 x.o.n, .int .i64 x.o.f, .int .i64 x.o.e, .int .i64 x.o.c, .int .i64 x.o.s, .bool x.o.two] 38)) (HBX3.out.b6.alloc (.cells #[.int .i64 x.o.id, .int .i64 x.o.p, .int .i64 x.o.d, .int .i64 x.o.n, .int .i64 x.o.f, .int .i64 x.o.e, .int .i64 x.o.c, .int .i64 x.o.s, .bool x.o.two] 38)) (by decide)); have e65 := p65.cell 0; have f65 := p65.frozen 0))
     clear e31 e32 e33 e34 e35 e36 e37 e38 e39 e60 e65 f65 p65
     obtain ⟨hbx4, hN4⟩ := HBX3.out.grow HN3.out _ x.o ho5 hg5
     generalize w5.setCell ⟨B6, 0, none⟩ (.slice ad5 (L.length + 1) c5) = w7 at *
     clear HBX3 HN3 ho5 hg5 hn5 hloc5 HI
     have HROW := hidden (fun W (hW : Below w.heap.size w W) => (HRW.out.below hW).1.at ho)
     refine zfr (w0 := w) (base := w.heap.size) (nn := (L ++ [x.o]).length) (xs := zt 9 jd (L ++ [x.o])) (N := os.length) (cap := cap) (i := i) (x := o) (z := x) (g := g) (off := off) (v2 := .slice ad ds.length dcap) (v6 := .slice a2 ds.length c2) (n6 := ds.length) (ys := zt 5 jy ds) (B2 := B2) (B3 := B3) (B4 := B4) (B6 := B6) rfl rfl rfl rfl hbx4.below (Nat.le_refl _) ⟨hbx4.b2, hbx4.b3, hbx4.b4, hN4.2⟩ hbx4.b6 hbx4.l6 hN4.1 trivial (by first | omega | (simp; omega)) hbx4.n26 hbx4.n36 hbx4.n46 hlti (fun W hW => ?_) ?_
     ·obtain ⟨g', off', e', _, hrow'⟩ := HROW.out W hW
      simp only [Option.some.injEq, Addr.mk.injEq, and_true] at e'
      obtain ⟨rfl, rfl⟩ := e'
      exact ⟨hrow' 0 (by decide), hrow' 1 (by decide), hrow' 2 (by decide), hrow' 3 (by decide), hrow' 4 (by decide), hrow' 5 (by decide), hrow' 6 (by decide), hrow' 7 (by decide), hrow' 8 (by decide)⟩
     intro b' w8 v hf hb8 hP8 hT8 hv8 ho8
     obtain ⟨va, vc, rfl⟩ := hv8
     (rw [zfp hf]; simp only [Rg.fl0, Rg.fl1, Rg.fl2, Nat.reduceAdd])
     clear hf HROW
     have hbx8 : BX w w8 B2 B3 B4 B6 (some ⟨g, off, none⟩) ad os.length cap ds.length dcap x (.slice va ((L ++ [x.o]).length + 1) vc) (.slice a2 ds.length c2) := ⟨hP8.1, hP8.2.1, hP8.2.2.1, hT8, hb8, hbx4.l2, hbx4.l3, hbx4.l4, hbx4.l6, hbx4.n26, hbx4.n36, hbx4.n46⟩
     have hN8 : Cp.zo w8 w.heap.size (.slice va ((L ++ [x.o]).length + 1) vc) (.slice a2 ds.length c2) ((L ++ [x.o]) ++ [o]) ds := by
      refine ⟨?_, hP8.2.2.2⟩
      rw [zb9, show ((L ++ [x.o]) ++ [o]).length = (L ++ [x.o]).length + 1 from by rw [List.length_append]; rfl]
      exact ho8
     have HB8 := hidden hbx8
     have HN8 := hidden hN8
     clear hbx8 hN8 hP8 hT8 ho8 hbx4 hN4 hb8
     generalize Rg.out (Rg.opsOf Tryz.f50 17) b' 0 = o0
     generalize Rg.out (Rg.opsOf Tryz.f50 17) b' 1 = o1
     generalize Rg.out (Rg.opsOf Tryz.f50 17) b' 2 = o2
     generalize Rg.out (Rg.opsOf Tryz.f50 17) b' 3 = o3
     generalize Rg.out (Rg.opsOf Tryz.f50 17) b' 4 = o4
     generalize Rg.out (Rg.opsOf Tryz.f50 17) b' 5 = o5
     generalize Rg.out (Rg.opsOf Tryz.f50 17) b' 6 = o6
     generalize Rg.out (Rg.opsOf Tryz.f50 17) b' 7 = o7
     generalize Rg.out (Rg.opsOf Tryz.f50 17) b' 8 = o8
     generalize Rg.out (Rg.opsOf Tryz.f50 17) b' 9 = o9
     go_frame
     go_wp2_with fail
     go_roundw
     case rel => exact ⟨i + 1, true, (L ++ [x.o]) ++ [o], _, _, by omega, rfl, rfl, HI2, by rw [List.length_append]; exact HB8.out, by rw [List.length_append]; exact HN8.out⟩
     case measure => simp [intOf]; omega
    ·rw [decide_eq_false hq]
     have HI2 : Hid (false = za0 os x.o (i + 1) /\ L ++ [o] = yu os x.o (i + 1)) := by
      rw [Hid, za0, yu, jm ho, decide_eq_false hq, <- HI.out.1, if_neg (fun h => hq h.2), <- HI.out.2]; exact ⟨rfl, rfl⟩
     go_frame
     go_upto_region 17 with fail
     have hbx4 := HBX3.out
     have hN4 := HN3.out
     clear HBX3 HN3 HI
     have HROW := hidden (fun W (hW : Below w.heap.size w W) => (HRW.out.below hW).1.at ho)
     refine zfr (w0 := w) (base := w.heap.size) (nn := (L).length) (xs := zt 9 jd (L)) (N := os.length) (cap := cap) (i := i) (x := o) (z := x) (g := g) (off := off) (v2 := .slice ad ds.length dcap) (v6 := .slice a2 ds.length c2) (n6 := ds.length) (ys := zt 5 jy ds) (B2 := B2) (B3 := B3) (B4 := B4) (B6 := B6) rfl rfl rfl rfl hbx4.below (Nat.le_refl _) ⟨hbx4.b2, hbx4.b3, hbx4.b4, hN4.2⟩ hbx4.b6 hbx4.l6 hN4.1 trivial (by first | omega | (simp; omega)) hbx4.n26 hbx4.n36 hbx4.n46 hlti (fun W hW => ?_) ?_
     ·obtain ⟨g', off', e', _, hrow'⟩ := HROW.out W hW
      simp only [Option.some.injEq, Addr.mk.injEq, and_true] at e'
      obtain ⟨rfl, rfl⟩ := e'
      exact ⟨hrow' 0 (by decide), hrow' 1 (by decide), hrow' 2 (by decide), hrow' 3 (by decide), hrow' 4 (by decide), hrow' 5 (by decide), hrow' 6 (by decide), hrow' 7 (by decide), hrow' 8 (by decide)⟩
     intro b' w8 v hf hb8 hP8 hT8 hv8 ho8
     obtain ⟨va, vc, rfl⟩ := hv8
     (rw [zfp hf]; simp only [Rg.fl0, Rg.fl1, Rg.fl2, Nat.reduceAdd])
     clear hf HROW
     have hbx8 : BX w w8 B2 B3 B4 B6 (some ⟨g, off, none⟩) ad os.length cap ds.length dcap x (.slice va ((L).length + 1) vc) (.slice a2 ds.length c2) := ⟨hP8.1, hP8.2.1, hP8.2.2.1, hT8, hb8, hbx4.l2, hbx4.l3, hbx4.l4, hbx4.l6, hbx4.n26, hbx4.n36, hbx4.n46⟩
     have hN8 : Cp.zo w8 w.heap.size (.slice va ((L).length + 1) vc) (.slice a2 ds.length c2) ((L) ++ [o]) ds := by
      refine ⟨?_, hP8.2.2.2⟩
      rw [zb9, show ((L) ++ [o]).length = (L).length + 1 from by rw [List.length_append]; rfl]
      exact ho8
     have HB8 := hidden hbx8
     have HN8 := hidden hN8
     clear hbx8 hN8 hP8 hT8 ho8 hbx4 hN4 hb8
     generalize Rg.out (Rg.opsOf Tryz.f50 17) b' 0 = o0
     generalize Rg.out (Rg.opsOf Tryz.f50 17) b' 1 = o1
     generalize Rg.out (Rg.opsOf Tryz.f50 17) b' 2 = o2
     generalize Rg.out (Rg.opsOf Tryz.f50 17) b' 3 = o3
     generalize Rg.out (Rg.opsOf Tryz.f50 17) b' 4 = o4
     generalize Rg.out (Rg.opsOf Tryz.f50 17) b' 5 = o5
     generalize Rg.out (Rg.opsOf Tryz.f50 17) b' 6 = o6
     generalize Rg.out (Rg.opsOf Tryz.f50 17) b' 7 = o7
     generalize Rg.out (Rg.opsOf Tryz.f50 17) b' 8 = o8
     generalize Rg.out (Rg.opsOf Tryz.f50 17) b' 9 = o9
     go_frame
     go_wp2_with fail
     go_roundw
     case rel => exact ⟨i + 1, false, (L) ++ [o], _, _, by omega, rfl, rfl, HI2, by rw [List.length_append]; exact HB8.out, by rw [List.length_append]; exact HN8.out⟩
     case measure => simp [intOf]; omega
   ·refine regO14t (B2 := B2) (B3 := B3) rfl rfl rfl rfl ?_
    intro b' w6 hf hb6 hv
    (rw [layO14t hf]; simp only [Rg.fl0, Rg.fl1, Rg.fl2, Nat.reduceAdd]; rw [hv])
    clear hf hv hrow zg
    have hbx4 := HBX.out.step hb6
    have hN4 := HNr.out.below hb6
    clear HBX HNr hb6
    have HI2 : Hid (true = za0 os x.o (i + 1) /\ L ++ [o] = yu os x.o (i + 1)) := by
     rw [Hid, za0, yu, jm ho, <- HI.out.1, if_neg (fun h => by cases h.1), <- HI.out.2]; exact ⟨rfl, rfl⟩
    generalize Rg.out (Rg.opsOf Tryz.f50 14) b' 0 = o0
    generalize Rg.out (Rg.opsOf Tryz.f50 14) b' 1 = o1
    generalize Rg.out (Rg.opsOf Tryz.f50 14) b' 2 = o2
    generalize Rg.out (Rg.opsOf Tryz.f50 14) b' 3 = o3
    generalize Rg.out (Rg.opsOf Tryz.f50 14) b' 4 = o4
    generalize Rg.out (Rg.opsOf Tryz.f50 14) b' 5 = o5
    generalize Rg.out (Rg.opsOf Tryz.f50 14) b' 6 = o6
    generalize Rg.out (Rg.opsOf Tryz.f50 14) b' 7 = o7
    generalize Rg.out (Rg.opsOf Tryz.f50 14) b' 8 = o8
    generalize Rg.out (Rg.opsOf Tryz.f50 14) b' 9 = o9
    generalize Rg.out (Rg.opsOf Tryz.f50 14) b' 10 = o10
    generalize Rg.out (Rg.opsOf Tryz.f50 14) b' 11 = o11
    generalize Rg.out (Rg.opsOf Tryz.f50 14) b' 12 = o12
    go_frame
    go_upto_region 17 with fail
    clear HI
    have HROW := hidden (fun W (hW : Below w.heap.size w W) => (HRW.out.below hW).1.at ho)
    refine zfr (w0 := w) (base := w.heap.size) (nn := (L).length) (xs := zt 9 jd (L)) (N := os.length) (cap := cap) (i := i) (x := o) (z := x) (g := g) (off := off) (v2 := .slice ad ds.length dcap) (v6 := .slice a2 ds.length c2) (n6 := ds.length) (ys := zt 5 jy ds) (B2 := B2) (B3 := B3) (B4 := B4) (B6 := B6) rfl rfl rfl rfl hbx4.below (Nat.le_refl _) ⟨hbx4.b2, hbx4.b3, hbx4.b4, hN4.2⟩ hbx4.b6 hbx4.l6 hN4.1 trivial (by first | omega | (simp; omega)) hbx4.n26 hbx4.n36 hbx4.n46 hlti (fun W hW => ?_) ?_
    ·obtain ⟨g', off', e', _, hrow'⟩ := HROW.out W hW
     simp only [Option.some.injEq, Addr.mk.injEq, and_true] at e'
     obtain ⟨rfl, rfl⟩ := e'
     exact ⟨hrow' 0 (by decide), hrow' 1 (by decide), hrow' 2 (by decide), hrow' 3 (by decide), hrow' 4 (by decide), hrow' 5 (by decide), hrow' 6 (by decide), hrow' 7 (by decide), hrow' 8 (by decide)⟩
    intro b' w8 v hf hb8 hP8 hT8 hv8 ho8
    obtain ⟨va, vc, rfl⟩ := hv8
    (rw [zfp hf]; simp only [Rg.fl0, Rg.fl1, Rg.fl2, Nat.reduceAdd])
    clear hf HROW
    have hbx8 : BX w w8 B2 B3 B4 B6 (some ⟨g, off, none⟩) ad os.length cap ds.length dcap x (.slice va ((L).length + 1) vc) (.slice a2 ds.length c2) := ⟨hP8.1, hP8.2.1, hP8.2.2.1, hT8, hb8, hbx4.l2, hbx4.l3, hbx4.l4, hbx4.l6, hbx4.n26, hbx4.n36, hbx4.n46⟩
    have hN8 : Cp.zo w8 w.heap.size (.slice va ((L).length + 1) vc) (.slice a2 ds.length c2) ((L) ++ [o]) ds := by
     refine ⟨?_, hP8.2.2.2⟩
     rw [zb9, show ((L) ++ [o]).length = (L).length + 1 from by rw [List.length_append]; rfl]
     exact ho8
    have HB8 := hidden hbx8
    have HN8 := hidden hN8
    clear hbx8 hN8 hP8 hT8 ho8 hbx4 hN4 hb8
    generalize Rg.out (Rg.opsOf Tryz.f50 17) b' = yF
    go_frame
    go_wp2_with fail
    go_roundw
    case rel => exact ⟨i + 1, true, (L) ++ [o], _, _, by omega, rfl, rfl, HI2, by rw [List.length_append]; exact HB8.out, by rw [List.length_append]; exact HN8.out⟩
    case measure => simp [intOf]; omega
  ·obtain rfl : i = os.length := by omega
   have hlti : ¬ (os.length : Int) < (os.length : Int) := by omega
   have e20 : wr.cell? ⟨B2, 0, none⟩ = some _ := hbx.b2.cell 0
   rcases p with _ | _
   ·have HE : Hid (yl os x.o = L ++ [x.o]) := by rw [Hid, yl, <- HI.out.1, <- HI.out.2]; rfl
    have HBX3 := hidden hbx
    have HN3 := hidden hN
    clear hbx hN
    obtain ⟨e31, e32, e33, e34, e35, e36, e37, e38, e39⟩ := HBX3.out.b3.deed.2.1
    have e60 : wr.cell? ⟨B6, 0, none⟩ = some _ := HBX3.out.b6.cell 0
    go_upto_region 20 with (at_builtin; go_loud (refine wpList_append_own_at _ rfl (.tmp 78) (.tmp 81) 24 rfl w.heap.size 38 i0 (.agg #[.int .i64 0, .int .i64 0, .int .i64 0, .int .i64 0, .int .i64 0, .int .i64 0, .int .i64 0, .int .i64 0, .bool false]) 9 72 Tryz.underlying24 hi0 hv0 hv1 hv2 rfl (by decide) _ L.length (zt 9 jd L) rfl (HN3.out.1.alloc _) ⟨wr.heap.size, 0, none⟩ 1 1 [.int .i64 x.o.id, .int .i64 x.o.p, .int .i64 x.o.d, .int .i64 x.o.n, .int .i64 x.o.f, .int .i64 x.o.e, .int .i64 x.o.c, .int .i64 x.o.s, .bool x.o.two] rfl rfl (zgd _ _ _ _ _ _ _ _ _ _ _) (by simp [Value.oneCell']) (by unfold maxLen; omega) (by omega) (by simp; omega) ?_; intro v5 w5 ho5 hg5 hn5 hloc5; obtain ⟨ad5, c5, rfl⟩ := zc5 ho5; have p65 := (HBX3.out.b6.alloc (.cells #[.int .i64 x.o.id, .int .i64 x.o.p, .int .i64 x.o.d, .int .i64 x.o.n, .int .i64 x.o.f, .int .i64 x.o.e, .int .i64 x.o.c, .int .i64 x.o.s, .bool x.o.two] 38)).kept hg5 (jb (HN3.out.1.alloc (.cells #[.int .i64 x.o.id, .int .i64 x.o.p, .int .i64 x.o.d, .int .i64 x.o.n, .int .i64 x.o.f, .int .i64 x.o.e, .int .i64 x.o.c, .int .i64 x.o.s, .bool x.o.two] 38)) (HBX3.out.b6.alloc (.cells #[.int .i64 x.o.id, .int .i64 x.o.p, .int .i64 x.o.d, .int .i64 x.o.n, .int .i64 x.o.f, .int .i64 x.o.e, .int .i64 x.o.c, .int .i64 x.o.s, .bool x.o.two] 38)) (by decide)); have e65 := p65.cell 0; have f65 := p65.frozen 0))
    clear e31 e32 e33 e34 e35 e36 e37 e38 e39 e60 e65 f65 p65 e20
    obtain ⟨hbx4, hN4⟩ := HBX3.out.grow HN3.out _ x.o ho5 hg5
    generalize w5.setCell ⟨B6, 0, none⟩ (.slice ad5 (L.length + 1) c5) = w7 at *
    clear HBX3 HN3 ho5 hg5 hn5 hloc5 HI
    have hN9 : Cp.zo w7 w.heap.size (.slice ad5 (L.length + 1) c5) (.slice a2 ds.length c2) (yl os x.o) ds := by rw [HE.out]; exact hN4
    clear hN4
    have e60 : w7.cell? ⟨B6, 0, none⟩ = some _ := hbx4.b6.cell 0
    have e61 : w7.cell? ⟨B6, 1, none⟩ = some _ := hbx4.b6.cell 1
    have e40 : w7.cell? ⟨B4, 0, none⟩ = some _ := hbx4.b4.cell 0
    have e41 : w7.cell? ⟨B4, 1, none⟩ = some _ := hbx4.b4.cell 1
    have f40 := hbx4.b4.frozen 0
    have f41 := hbx4.b4.frozen 1
    go_wp2_with fail
    exact zaw hbx4 hN9 rfl rfl
   ·have HE : Hid (yl os x.o = L) := by rw [Hid, yl, <- HI.out.1, <- HI.out.2]; rfl
    go_upto_region 20 with fail
    clear e20
    have hN9 : Cp.zo wr w.heap.size (.slice a L.length c) (.slice a2 ds.length c2) (yl os x.o) ds := by rw [HE.out]; exact hN
    clear hN
    have e60 : wr.cell? ⟨B6, 0, none⟩ = some _ := hbx.b6.cell 0
    have e61 : wr.cell? ⟨B6, 1, none⟩ = some _ := hbx.b6.cell 1
    have e40 : wr.cell? ⟨B4, 0, none⟩ = some _ := hbx.b4.cell 0
    have e41 : wr.cell? ⟨B4, 1, none⟩ = some _ := hbx.b4.cell 1
    have f40 := hbx.b4.frozen 0
    have f41 := hbx.b4.frozen 1
    go_wp2_with fail
    exact zaw hbx hN9 rfl rfl
end Go.Proofs.YtjlpfpigggdemaaGreatDoor
namespace Go.Proofs.YtjlpfpigggdemaaGreatDoor
open Go.RowKit Va Uo
set_option linter.all false
set_option maxRecDepth 20000 in
set_option maxHeartbeats 16000000 in
theorem zge (ao : Option Addr) (cap : Nat) (ad : Option Addr) (dcap : Nat) (os : List Od) (ds : List Ds) (x : Dd) (w : World) (h : Cp.CRw w (.slice ao os.length cap) (.slice ad ds.length dcap) os ds) (hn : os.length <= 100) (hm : ds.length <= 500) (hod : ∀ (i : Nat) (y : Od), os[i]? = some y -> odB y = true) :
  Calls Tryz.prog 50 #[.agg #[.slice ao os.length cap, .slice ad ds.length dcap], aDd x] w (Left (if doC os ds x = 0 then ve os x else os) (if doC os ds x = 0 then qo os ds x else ds) (doC os ds x) w) := by
 by_cases hx' : ddB x = false
 ·have hc : doC os ds x = 2 := by unfold doC; rw [if_pos hx']
  rw [hc, if_neg (by decide), if_neg (by decide)]
  exact sdo_bad ao cap ad dcap os ds x w h hn hm hx'
 have hx0 : ¬ ddB x = false := hx'
 have hx : ddB x = true := by simpa using hx'
 by_cases hk : x.k = 1
 ·by_cases ha : 0 <= atO os x.o.id
  ·have hc : doC os ds x = 3 := by unfold doC; rw [if_neg hx0, if_pos hk, if_pos ha]
   rw [hc, if_neg (by decide), if_neg (by decide)]
   exact zka ao cap ad dcap os ds x w h hn hm hx hk ha
  ·by_cases hl : os.length = 100
   ·have hc : doC os ds x = 12 := by unfold doC; rw [if_neg hx0, if_pos hk, if_neg ha, if_pos hl]
    rw [hc, if_neg (by decide), if_neg (by decide)]
    exact sdo_full ao cap ad dcap os ds x w h hn hm hx hk (by omega) hl
   ·have hc : doC os ds x = 0 := by unfold doC; rw [if_neg hx0, if_pos hk, if_neg ha, if_neg hl]
    have e1 : ve os x = yl os x.o := by unfold ve; rw [if_pos hk]
    have e2 : qo os ds x = ds := by unfold qo; rw [if_neg (by rw [hk]; decide)]
    rw [hc, if_pos rfl, if_pos rfl, e1, e2]
    exact sdo_ins ao cap ad dcap os ds x w h hn hm hx hk (by omega) hl
 by_cases ha : atO os x.id < 0
 ·have hc : doC os ds x = 4 := by unfold doC; rw [if_neg hx0, if_neg hk, if_pos ha]
  rw [hc, if_neg (by decide), if_neg (by decide)]
  exact sdo_none ao cap ad dcap os ds x w h hn hm hx hk ha
 have hbd := (zgm os x.id os.length).2
 obtain ⟨k, hat⟩ : ∃ k : Nat, atO os x.id = (k : Int) := ⟨(atO os x.id).toNat, by omega⟩
 have hkl : k < os.length := by
  have : atO os x.id < (os.length : Int) := hbd
  omega
 obtain ⟨o, hko⟩ : ∃ o, os[k]? = some o := ⟨_, List.getElem?_eq_getElem hkl⟩
 have eT : (atO os x.id).toNat = k := by omega
 by_cases hf' : yc o.s x.k = false
 ·have hc : doC os ds x = 5 := by unfold doC; rw [if_neg hx0, if_neg hk, if_neg ha, eT, jm hko, if_pos hf']
  rw [hc, if_neg (by decide), if_neg (by decide)]
  exact zkq ao cap ad dcap os ds x w h hn hm hx hk k o hat hko hf'
 have hf0 : ¬ yc o.s x.k = false := hf'
 have hf : yc o.s x.k = true := by simpa using hf'
 by_cases h5 : x.k = 5
 ·have hc : doC os ds x = zar os ds x o := by unfold doC; rw [if_neg hx0, if_neg hk, if_neg ha, eT, jm hko, if_neg hf0, if_pos h5]
  have e1 : ve os x = os := by unfold ve; rw [if_neg hk, if_pos h5]
  have ht : zl x.m = true := by
   have := hx
   unfold ddB at this
   rw [if_neg hk, if_neg (by rw [h5]; decide), if_pos h5] at this
   simp only [Bool.and_eq_true] at this
   exact this.2.2.2.2.1
  rw [hc, e1, ite_self]
  exact sdo_give ao cap ad dcap os ds x w h hn hm hx h5 k o hat hko hf hod ht _ _ ⟨rfl, rfl⟩
 have hc : doC os ds x = 0 := by unfold doC; rw [if_neg hx0, if_neg hk, if_neg ha, eT, jm hko, if_neg hf0, if_neg h5]
 have e2 : qo os ds x = ds := by unfold qo; rw [if_neg h5]
 have e1 : ve os x = os.set k { o with s := x.k } := by unfold ve; rw [if_neg hk, if_neg h5, eT, jm hko]
 rw [hc, if_pos rfl, if_pos rfl, e1, e2]
 have h24 : x.k = 2 ∨ x.k = 3 ∨ x.k = 4 := by
  have := hx
  unfold ddB at this
  rw [if_neg hk] at this
  by_cases q : x.k = 2 ∨ x.k = 3 ∨ x.k = 4
  ·exact q
  ·rw [if_neg q, if_neg h5] at this; cases this
 rcases h24 with q | q | q
 ·rw [q]; exact sdo_set2 ao cap ad dcap os ds x w h hn hm hx q k o hat hko hf
 ·rw [q]; exact sdo_set3 ao cap ad dcap os ds x w h hn hm hx q k o hat hko hf
 ·rw [q]; exact sdo_set4 ao cap ad dcap os ds x w h hn hm hx q k o hat hko hf
end Go.Proofs.YtjlpfpigggdemaaGreatDoor
namespace Go.Proofs.YtjlpfpigggdemaaGreatDoor
open Go.RowKit Va Uo
set_option linter.all false
end Go.Proofs.YtjlpfpigggdemaaGreatDoor
