/-
 Merged: U27.
-/
import Derived.Test.YtjlpfpigggdemaaGreatDoorMi27
import Derived.Test.YtjlpfpigggdemaaGreatDoorMi29
namespace Go.Proofs.YtjlpfpigggdemaaGreatDoor
set_option maxRecDepth 8000
set_option maxHeartbeats 4000000
open Go.RowKit Va Uo
set_option linter.all false
theorem zi0 {w : World} {base c : Nat} {ad : Option Addr} {D : List Du} (h : w.ownsRow base 33 3 (.slice ad D.length c) D.length (zt 3 jc D)) (hn : ¬ D.length = 0) : ∃ g cs, ad = some ⟨g, 0, none⟩ /\ PB w g cs 33 /\ cs[1]? = some (.int .i64 (D.getD 0 default).t) := by
 obtain ⟨q, ⟨q1, q2⟩ | ⟨g, cap, cur, q1, hb, hg, hc, hm, hs, ht⟩⟩ := h
 ·simp only [Value.slice.injEq] at q1; exact absurd q1.2.1 hn
 ·simp only [Value.slice.injEq] at q1
  obtain ⟨rfl, -, -⟩ := q1
  refine ⟨g, cur, rfl, hg, ?_⟩
  obtain ⟨d, hd⟩ : ∃ d, D[0]? = some d := ⟨_, List.getElem?_eq_getElem (by omega)⟩
  have h1 := jg (cs := jc) (s := 3) D 0 d hd 1 (by decide)
  rw [<- ht, List.getElem?_take, if_pos (by omega), Array.getElem?_toList] at h1
  rw [zee hd]
  exact h1
theorem zg6 {w W : World} {tm : Array Value} {B4 : Nat} {z1 z2 v1 v2 : Value} {L1 : List Od} {L2 : List Ds} {c : Int} (h4b : PB W B4 #[z1, z2] 27) (l4 : w.heap.size <= B4) (hb : Below w.heap.size w W) (hN : Cp.zo W w.heap.size v1 v2 L1 L2) (h4 : tm.getD 4 undef = .pointer (some ⟨B4, 0, none⟩)) (h5 : tm.getD 5 undef = .int .i64 c) :
  bodyPost Tryz.prog Tryz.f50 (Left L1 L2 c w) Exit.ret ⟨tm, []⟩ ((W.setCell ⟨B4, 0, none⟩ v1).setCell ⟨B4, 1, none⟩ v2) := by
 have p4 : PB ((W.setCell ⟨B4, 0, none⟩ v1).setCell ⟨B4, 1, none⟩ v2) B4 #[v1, v2] 27 := (h4b.set 0 v1).set 1 v2
 refine bodyPost_ret (zin Tryz.results50 _ _ B4 27 _ _ h4 p4 Tryz.underlying27 rfl (by kernel_rfl)) rfl ⟨v1, v2, by rw [h5], ⟨?_, ?_⟩, (hb.setCell (p := ⟨B4, 0, none⟩) l4 _).setCell (p := ⟨B4, 1, none⟩) l4 _⟩
 ·exact Cp.jo (Cp.jo hN.1 (jb hN.1 h4b (by decide)) _ _) (jb hN.1 h4b (by decide)) _ _
 ·exact Cp.jo (Cp.jo hN.2 (jb hN.2 h4b (by decide)) _ _) (jb hN.2 h4b (by decide)) _ _
set_option maxRecDepth 20000 in
set_option maxHeartbeats 16000000 in
theorem sdo_give (ao : Option Addr) (cap : Nat) (ad : Option Addr) (dcap : Nat) (os : List Od) (ds : List Ds) (x : Dd) (w : World) (h : Cp.CRw w (.slice ao os.length cap) (.slice ad ds.length dcap) os ds) (hn : os.length <= 100) (hm : ds.length <= 500) (hx : ddB x = true) (hk5 : x.k = 5) (k : Nat) (o : Od) (hat : atO os x.id = (k : Int)) (hko : os[k]? = some o) (hf : yc o.s x.k = true) (hod : ∀ (i : Nat) (y : Od), os[i]? = some y -> odB y = true) (ht : zl x.m = true) (L2 : List Ds) (c : Int) (HL : Hid (c = zar os ds x o /\ L2 = if zar os ds x o = 0 then qo os ds x else ds)) :
  Calls Tryz.prog 50 #[.agg #[.slice ao os.length cap, .slice ad ds.length dcap], aDd x] w (Left os L2 c w) := by
 have hk1 : ¬ x.k = 1 := by rw [hk5]; decide
 have HAT := hidden hat
 have HF := hidden hf
 have HK := hidden hk5
 have HOD := hidden hod
 have HT := hidden ht
 clear hat hf hk5 hod ht
 have HH := hidden h
 clear h
 obtain ⟨hb0, p2, p3, p4⟩ := yh w #[.slice ao os.length cap, .slice ad ds.length dcap] #[.int .i64 x.k, .int .i64 x.o.id, .int .i64 x.o.p, .int .i64 x.o.d, .int .i64 x.o.n, .int .i64 x.o.f, .int .i64 x.o.e, .int .i64 x.o.c, .int .i64 x.o.s, .bool x.o.two, .int .i64 x.id, .int .i64 x.p, .int .i64 x.d, .int .i64 x.n, .int .i64 x.m, .int .i64 x.b, .int .i64 x.a] #[.slice none 0 0, .slice none 0 0] 27 40 27
 unfold aDd
 go_enter Tryz.func50, Tryz.ntmps50
 go_upto_region 1 with fail
 generalize (((w.alloc (.cells #[.slice ao os.length cap, .slice ad ds.length dcap] 27)).alloc (.cells #[.int .i64 x.k, .int .i64 x.o.id, .int .i64 x.o.p, .int .i64 x.o.d, .int .i64 x.o.n, .int .i64 x.o.f, .int .i64 x.o.e, .int .i64 x.o.c, .int .i64 x.o.s, .bool x.o.two, .int .i64 x.id, .int .i64 x.p, .int .i64 x.d, .int .i64 x.n, .int .i64 x.m, .int .i64 x.b, .int .i64 x.a] 40)).alloc (.cells #[.slice none 0 0, .slice none 0 0] 27)) = W0 at *
 have l0 := hb0.size
 have g2 : w.heap.size <= w.heap.size := Nat.le_refl _
 have g3 : w.heap.size <= w.heap.size + 1 := Nat.le_succ _
 have g4 : w.heap.size <= w.heap.size + 1 + 1 := by omega
 have z2 := p2.lt
 have z3 := p3.lt
 have z4 := p4.lt
 generalize hB3 : w.heap.size + 1 = B3 at *
 generalize hB4 : B3 + 1 = B4 at *
 generalize hB2 : w.heap.size = B2 at *
 have e20 : W0.cell? ⟨B2, 0, none⟩ = some _ := p2.cell 0
 have e21 : W0.cell? ⟨B2, 1, none⟩ = some _ := p2.cell 1
 have HC := hidden (Cp.zb5 ao ad os.length cap ds.length dcap os ds W0 (HH.out.below (hB2.symm ▸ hb0)) (by omega) (by omega))
 go_upto_region 2 with ((with_reducible refine HC.out.mono ?_); rintro e w1 ⟨a1, c1, a2, c2, rfl, hN1, hb1⟩)
 have hW1 : Below w1.heap.size w1 (w1.alloc (.cells #[.slice a1 os.length c1, .slice a2 ds.length c2] 27)) := (Below.refl _ _).alloc (Nat.le_refl _) _
 have p6 : PB (w1.alloc (.cells #[.slice a1 os.length c1, .slice a2 ds.length c2] 27)) w1.heap.size #[.slice a1 os.length c1, .slice a2 ds.length c2] 27 := PB.new _ _ _
 have z1 := hb1.size
 have hbx1 : BX w (w1.alloc (.cells #[.slice a1 os.length c1, .slice a2 ds.length c2] 27)) B2 B3 B4 w1.heap.size ao ad os.length cap ds.length dcap x (.slice a1 os.length c1) (.slice a2 ds.length c2) := by
  refine ⟨(p2.below hb1).below hW1, (p3.below hb1).below hW1, (p4.below hb1).below hW1, p6, ?_, by omega, by omega, by omega, by omega, by omega, by omega, by omega⟩
  rw [hB2]
  exact (hb0.trans (hb1.mono l0)).trans (hW1.mono (by omega))
 have hN2 : Cp.zo (w1.alloc (.cells #[.slice a1 os.length c1, .slice a2 ds.length c2] 27)) w.heap.size (.slice a1 os.length c1) (.slice a2 ds.length c2) os ds := (hN1.below hW1).zbr (by omega)
 have hR1 : Cp.CRw (w1.alloc (.cells #[.slice a1 os.length c1, .slice a2 ds.length c2] 27)) (.slice ao os.length cap) (.slice ad ds.length dcap) os ds := HH.out.below hbx1.below
 clear HC hN1 p6 p2 p3 p4 hb0 e20 e21 HH hb1
 generalize w1.alloc (.cells #[.slice a1 os.length c1, .slice a2 ds.length c2] 27) = W1 at *
 clear hW1 z1 z2 z3 z4 l0 g2 g3 g4
 generalize w1.heap.size = B6 at *
 clear hB3 hB4 hB2
 have HD := hidden (zb1 x W1)
 obtain ⟨e30, ⟨e31, e32, e33, e34, e35, e36, e37, e38, e39⟩, e3a, e3b, e3c, e3d, e3e, e3f, e3g⟩ := hbx1.b3.deed
 have HBX := hidden hbx1
 have HN := hidden hN2
 have HR := hidden hR1
 clear hbx1 hN2 hR1
 unfold aDd at HD
 rw [hx] at HD
 go_upto_region 4 with ((with_reducible refine HD.out.mono ?_); rintro e w2 ⟨rfl, hb2⟩)
 have hbx := HBX.out.step hb2
 have hN := HN.out.below hb2
 have hR := HR.out.below hb2
 clear HBX HN HR HD hb2 e30 e31 e32 e33 e34 e35 e36 e37 e38 e39 e3a e3b e3c e3d e3e e3f e3g
 have e30 : w2.cell? ⟨B3, 0, none⟩ = some (.int .i64 x.k) := hbx.b3.cell 0
 have e3a : w2.cell? ⟨B3, 10, none⟩ = some (.int .i64 x.id) := hbx.b3.cell 10
 have e20 : w2.cell? ⟨B2, 0, none⟩ = some _ := hbx.b2.cell 0
 have HA := hidden (zb7 ao os.length cap os x.id w2 hR.1 (by omega))
 obtain ⟨g, off, rfl, hgl, hrow⟩ := hR.1.at hko
 have r0 : w2.cell? ⟨g, off + k * 9, none⟩ = some (.int .i64 o.id) := hrow 0 (by decide)
 have r1 : w2.cell? ⟨g, off + k * 9 + 1, none⟩ = some (.int .i64 o.p) := hrow 1 (by decide)
 have r2 : w2.cell? ⟨g, off + k * 9 + 2, none⟩ = some (.int .i64 o.d) := hrow 2 (by decide)
 have r3 : w2.cell? ⟨g, off + k * 9 + 3, none⟩ = some (.int .i64 o.n) := hrow 3 (by decide)
 have r4 : w2.cell? ⟨g, off + k * 9 + 4, none⟩ = some (.int .i64 o.f) := hrow 4 (by decide)
 have r5 : w2.cell? ⟨g, off + k * 9 + 5, none⟩ = some (.int .i64 o.e) := hrow 5 (by decide)
 have r6 : w2.cell? ⟨g, off + k * 9 + 6, none⟩ = some (.int .i64 o.c) := hrow 6 (by decide)
 have r7 : w2.cell? ⟨g, off + k * 9 + 7, none⟩ = some (.int .i64 o.s) := hrow 7 (by decide)
 have r8 : w2.cell? ⟨g, off + k * 9 + 8, none⟩ = some (.bool o.two) := hrow 8 (by decide)
 have hkl : (k : Int) < (os.length : Int) := by have := (List.getElem?_eq_some_iff.1 hko).1; omega
 have hk0 : (0 : Int) <= (k : Int) := by omega
 clear hrow
 rw [HAT.out] at HA
 go_upto_region 25 with ((with_reducible refine HA.out.mono ?_); rintro e w3 ⟨rfl, h3⟩; obtain rfl := h3.symm)
 have hW3 : Below w2.heap.size w2 (w2.alloc (.cells #[.int .i64 o.id, .int .i64 o.p, .int .i64 o.d, .int .i64 o.n, .int .i64 o.f, .int .i64 o.e, .int .i64 o.c, .int .i64 o.s, .bool o.two] 38)) := (Below.refl _ _).alloc (Nat.le_refl _) _
 have p10 : PB (w2.alloc (.cells #[.int .i64 o.id, .int .i64 o.p, .int .i64 o.d, .int .i64 o.n, .int .i64 o.f, .int .i64 o.e, .int .i64 o.c, .int .i64 o.s, .bool o.two] 38)) w2.heap.size #[.int .i64 o.id, .int .i64 o.p, .int .i64 o.d, .int .i64 o.n, .int .i64 o.f, .int .i64 o.e, .int .i64 o.c, .int .i64 o.s, .bool o.two] 38 := PB.new _ _ _
 have l10 : w.heap.size <= w2.heap.size := hbx.below.size
 have hbx3 := hbx.step hW3
 have hN3 := hN.below hW3
 have hR3 := hR.below hW3
 clear HA r0 r1 r2 r3 r4 r5 r6 r7 r8 e30 e3a e20 hbx hN hR
 generalize w2.alloc (.cells #[.int .i64 o.id, .int .i64 o.p, .int .i64 o.d, .int .i64 o.n, .int .i64 o.f, .int .i64 o.e, .int .i64 o.c, .int .i64 o.s, .bool o.two] 38) = w4 at *
 clear hW3
 generalize w2.heap.size = B10 at *
 have e30 : w4.cell? ⟨B3, 0, none⟩ = some (.int .i64 x.k) := hbx3.b3.cell 0
 have ea7 : w4.cell? ⟨B10, 7, none⟩ = some (.int .i64 o.s) := p10.cell 7
 have kf := zer o.s x.k w4
 rw [HF.out] at kf
 go_upto_region 27 with ((with_reducible refine kf.mono ?_); rintro e w5 ⟨rfl, h5⟩; obtain rfl := h5)
 clear kf e30 ea7
 have e30 : w4.cell? ⟨B3, 0, none⟩ = some (.int .i64 5) := by rw [hbx3.b3.cell 0]; simp [HK.out]
 go_upto_region 37 with fail
 clear e30
 have e20 : w4.cell? ⟨B2, 0, none⟩ = some _ := hbx3.b2.cell 0
 have e21 : w4.cell? ⟨B2, 1, none⟩ = some _ := hbx3.b2.cell 1
 have e3e : w4.cell? ⟨B3, 14, none⟩ = some (.int .i64 x.m) := hbx3.b3.cell 14
 have e3a : w4.cell? ⟨B3, 10, none⟩ = some (.int .i64 x.id) := hbx3.b3.cell 10
 have HS := hidden (zhc (some ⟨g, off, none⟩) os.length cap ad ds.length dcap os ds x.m x.id w4 hR3.1 hR3.2 hn hm HOD.out HT.out)
 have HBX3 := hidden hbx3
 go_upto_region 39 with ((with_reducible refine HS.out.mono ?_); rintro e w5 ⟨v, rfl, hO, hb5⟩; obtain ⟨av, cv, rfl⟩ := Cp.zac hO; have e21' : w5.cell? ⟨B2, 1, none⟩ = some (.slice ad ds.length dcap) := (HBX3.out.step hb5).b2.cell 1)
 have hbx := hbx3.step hb5
 have hN := hN3.below hb5
 have hR := hR3.below hb5
 have q10 := p10.below hb5
 have l5 : w.heap.size <= w4.heap.size := hbx3.below.size
 clear HS HBX3 e20 e21 e3e e3a e21' hbx3 hN3 hR3 p10 hb5
 have e3b : w5.cell? ⟨B3, 11, none⟩ = some (.int .i64 x.p) := hbx.b3.cell 11
 have e3c : w5.cell? ⟨B3, 12, none⟩ = some (.int .i64 x.d) := hbx.b3.cell 12
 have e3d : w5.cell? ⟨B3, 13, none⟩ = some (.int .i64 x.n) := hbx.b3.cell 13
 have ea1 : w5.cell? ⟨B10, 1, none⟩ = some (.int .i64 o.p) := q10.cell 1
 have ea2 : w5.cell? ⟨B10, 2, none⟩ = some (.int .i64 o.d) := q10.cell 2
 have ea3 : w5.cell? ⟨B10, 3, none⟩ = some (.int .i64 o.n) := q10.cell 3
 have HX : Hid (zar os ds x o = if x.p ≠ o.p then 6 else if x.d ≠ o.d then 7 else if x.n ≠ o.n then 8 else if (vg os ds x.m x.id).length = 0 then 9 else if byB o.two x.b x.a = false then 10 else if zay ds x.m = true then 11 else if ds.length = 500 then 12 else 0) := rfl
 by_cases h1 : x.p = o.p
 ·have g : (x.p != o.p) = false := by simp [h1]
  have Hh1 := hidden h1
  clear h1
  go_upto_region 41 with fail
  clear g
  by_cases h2 : x.d = o.d
  ·have g : (x.d != o.d) = false := by simp [h2]
   have Hh2 := hidden h2
   clear h2
   go_upto_region 43 with fail
   clear g
   by_cases h3 : x.n = o.n
   ·have g : (x.n != o.n) = false := by simp [h3]
    have Hh3 := hidden h3
    clear h3
    go_upto_region 45 with fail
    clear g
    clear e3b e3c e3d ea1 ea2 ea3
    generalize hD : vg os ds x.m x.id = D at *
    by_cases h4 : D.length = 0
    ·have hc : zar os ds x o = 9 := by rw [HX.out]; simp [Hh1.out, Hh2.out, Hh3.out, h4]
     obtain ⟨rfl, rfl⟩ : c = 9 /\ L2 = ds := by rw [HL.out.1, HL.out.2, hc]; simp
     have g : ((D.length : Int) == 0) = true := by simp [h4]
     clear hc HX h4 HL
     go_upto_region 46 with fail
     clear g
     have e60 : w5.cell? ⟨B6, 0, none⟩ = some _ := hbx.b6.cell 0
     have e61 : w5.cell? ⟨B6, 1, none⟩ = some _ := hbx.b6.cell 1
     have e40 : w5.cell? ⟨B4, 0, none⟩ = some _ := hbx.b4.cell 0
     have e41 : w5.cell? ⟨B4, 1, none⟩ = some _ := hbx.b4.cell 1
     have f40 := hbx.b4.frozen 0
     have f41 := hbx.b4.frozen 1
     go_wp2_with fail
     exact zaw hbx hN rfl rfl
    ·have g : ((D.length : Int) == 0) = false := by simp; intro h; exact h4 (by rw [h]; rfl)
     have H4 := hidden h4
     clear h4
     go_upto_region 47 with fail
     clear g
     have HB := hidden (zht o x.b x.a w5)
     unfold aOd at HB
     have e3f : w5.cell? ⟨B3, 15, none⟩ = some (.int .i64 x.b) := hbx.b3.cell 15
     have e3g : w5.cell? ⟨B3, 16, none⟩ = some (.int .i64 x.a) := hbx.b3.cell 16
     obtain ⟨ea0, ea1, ea2, ea3, ea4, ea5, ea6, ea7, ea8⟩ := q10.nine
     by_cases h5 : byB o.two x.b x.a = false
     ·have hc : zar os ds x o = 10 := by rw [HX.out]; simp [Hh1.out, Hh2.out, Hh3.out, H4.out, h5]
      obtain ⟨rfl, rfl⟩ : c = 10 /\ L2 = ds := by rw [HL.out.1, HL.out.2, hc]; simp
      rw [h5] at HB
      clear hc HX h5 HL
      go_upto_region 48 with ((with_reducible refine HB.out.mono ?_); rintro e w6 ⟨rfl, hb6⟩)
      have hbx6 := hbx.step hb6
      have hN6 := hN.below hb6
      clear HB e3f e3g ea0 ea1 ea2 ea3 ea4 ea5 ea6 ea7 ea8
      have e60 : w6.cell? ⟨B6, 0, none⟩ = some _ := hbx6.b6.cell 0
      have e61 : w6.cell? ⟨B6, 1, none⟩ = some _ := hbx6.b6.cell 1
      have e40 : w6.cell? ⟨B4, 0, none⟩ = some _ := hbx6.b4.cell 0
      have e41 : w6.cell? ⟨B4, 1, none⟩ = some _ := hbx6.b4.cell 1
      have f40 := hbx6.b4.frozen 0
      have f41 := hbx6.b4.frozen 1
      go_wp2_with fail
      exact zaw hbx6 hN6 rfl rfl
     ·have h5' : byB o.two x.b x.a = true := by simpa using h5
      have H5 := hidden h5'
      rw [h5'] at HB
      clear h5 h5'
      go_upto_region 49 with ((with_reducible refine HB.out.mono ?_); rintro e w6 ⟨rfl, hb6⟩)
      have hbx6 := hbx.step hb6
      have hN6 := hN.below hb6
      have hR6 := hR.below hb6
      have hO6 := zgu hO hb6
      clear HB e3f e3g ea0 ea1 ea2 ea3 ea4 ea5 ea6 ea7 ea8 hbx hN hR hO q10 hb6
      by_cases h0 : ds.length = 0
      ·have hlt : zay ds x.m = false := by unfold zay; rw [decide_eq_false (by omega)]; rfl
       have HLT := hidden hlt
       refine regO49n (B2 := B2) (B3 := B3) rfl (by show some (Value.int .i64 (ds.length : Int)) = _; rw [h0]; rfl) rfl rfl ?_
       intro b' w7 hf hb7 hv
       (rw [layO49n hf]; simp only [Rg.fl0, Rg.fl1, Rg.fl2, Nat.reduceAdd]; rw [hv])
       clear hv hf h0 hlt
       generalize Rg.out (Rg.opsOf Tryz.f50 49) b' 0 = o0
       generalize Rg.out (Rg.opsOf Tryz.f50 49) b' 1 = o1
       generalize Rg.out (Rg.opsOf Tryz.f50 49) b' 2 = o2
       generalize Rg.out (Rg.opsOf Tryz.f50 49) b' 3 = o3
       generalize Rg.out (Rg.opsOf Tryz.f50 49) b' 4 = o4
       generalize Rg.out (Rg.opsOf Tryz.f50 49) b' 5 = o5
       generalize Rg.out (Rg.opsOf Tryz.f50 49) b' 6 = o6
       generalize Rg.out (Rg.opsOf Tryz.f50 49) b' 7 = o7
       generalize Rg.out (Rg.opsOf Tryz.f50 49) b' 8 = o8
       generalize Rg.out (Rg.opsOf Tryz.f50 49) b' 9 = o9
       generalize Rg.out (Rg.opsOf Tryz.f50 49) b' 10 = o10
       generalize Rg.out (Rg.opsOf Tryz.f50 49) b' 11 = o11
       generalize Rg.out (Rg.opsOf Tryz.f50 49) b' 12 = o12
       generalize Rg.out (Rg.opsOf Tryz.f50 49) b' 13 = o13
       have hbx7 := hbx6.step hb7
       have hN7 := hN6.below hb7
       have hO7 := zgu hO6 hb7
       clear hbx6 hN6 hR6 hO6 hb7
       go_frame
       go_upto_region 51 with fail
       by_cases h7 : ds.length = 500
       ·have hc : zar os ds x o = 12 := by rw [HX.out]; simp [Hh1.out, Hh2.out, Hh3.out, H4.out, H5.out, HLT.out, h7]
        have g : ((ds.length : Int) == 500) = true := by simp [h7]
        obtain ⟨rfl, rfl⟩ : c = 12 /\ L2 = ds := by rw [HL.out.1, HL.out.2, hc]; simp
        clear hc HX h7 HL
        go_upto_region 52 with fail
        clear g
        have e60 : w7.cell? ⟨B6, 0, none⟩ = some _ := hbx7.b6.cell 0
        have e61 : w7.cell? ⟨B6, 1, none⟩ = some _ := hbx7.b6.cell 1
        have e40 : w7.cell? ⟨B4, 0, none⟩ = some _ := hbx7.b4.cell 0
        have e41 : w7.cell? ⟨B4, 1, none⟩ = some _ := hbx7.b4.cell 1
        have f40 := hbx7.b4.frozen 0
        have f41 := hbx7.b4.frozen 1
        go_wp2_with fail
        exact zaw hbx7 hN7 rfl rfl
       ·have hc : zar os ds x o = 0 := by rw [HX.out]; simp [Hh1.out, Hh2.out, Hh3.out, H4.out, H5.out, HLT.out, h7]
        obtain ⟨rfl, rfl⟩ : c = 0 /\ L2 = qo os ds x := by rw [HL.out.1, HL.out.2, hc]; simp
        have g : ((ds.length : Int) == 500) = false := by simp; omega
        clear hc HX HL
        go_upto_region 53 with fail
        clear g h7
        obtain ⟨gd, cs, hge, hgd, hcs⟩ := zi0 hO7 H4.out
        refine regO53 (w0 := w) (base := w.heap.size) (v6 := .slice a1 os.length c1) (n6 := os.length) (ys := zt 9 jd os) (nn := ds.length) (xs := zt 5 jy ds) (t := (D.getD 0 default).t) (cs := cs) (gd := gd) (B4 := B4) rfl rfl rfl (by show some (Value.slice av D.length cv) = _; rw [hge]) hbx7.below (Nat.le_refl _) ⟨hbx7.b3, hgd, hbx7.b4, hN7.1⟩ hbx7.b6 hbx7.l6 hN7.2 trivial (by omega) hbx7.n36 hbx7.n46 (fun e => by subst e; have := hbx7.b6.symm.trans hgd; simp at this) (by have := H4.out; omega) hcs ?_
        intro b' w8 v hf hb8 hP8 hT8 hv8 ho8
        obtain ⟨va, vc, rfl⟩ := hv8
        (rw [layO53 hf]; simp only [Rg.fl0, Rg.fl1, Rg.fl2, Nat.reduceAdd])
        clear hf
        generalize Rg.out (Rg.opsOf Tryz.f50 53) b' 0 = o0
        generalize Rg.out (Rg.opsOf Tryz.f50 53) b' 1 = o1
        generalize Rg.out (Rg.opsOf Tryz.f50 53) b' 2 = o2
        generalize Rg.out (Rg.opsOf Tryz.f50 53) b' 3 = o3
        generalize Rg.out (Rg.opsOf Tryz.f50 53) b' 4 = o4
        generalize Rg.out (Rg.opsOf Tryz.f50 53) b' 5 = o5
        generalize Rg.out (Rg.opsOf Tryz.f50 53) b' 6 = o6
        generalize Rg.out (Rg.opsOf Tryz.f50 53) b' 7 = o7
        generalize Rg.out (Rg.opsOf Tryz.f50 53) b' 8 = o8
        generalize Rg.out (Rg.opsOf Tryz.f50 53) b' 9 = o9
        generalize Rg.out (Rg.opsOf Tryz.f50 53) b' 10 = o10
        generalize Rg.out (Rg.opsOf Tryz.f50 53) b' 11 = o11
        generalize Rg.out (Rg.opsOf Tryz.f50 53) b' 12 = o12
        generalize Rg.out (Rg.opsOf Tryz.f50 53) b' 13 = o13
        generalize Rg.out (Rg.opsOf Tryz.f50 53) b' 14 = o14
        generalize Rg.out (Rg.opsOf Tryz.f50 53) b' 15 = o15
        generalize Rg.out (Rg.opsOf Tryz.f50 53) b' 16 = o16
        generalize Rg.out (Rg.opsOf Tryz.f50 53) b' 17 = o17
        have l4 := hbx7.l4
        have hN8 : Cp.zo w8 w.heap.size (.slice a1 os.length c1) (.slice va (ds.length + 1) vc) os (qo os ds x) := by
         refine ⟨hP8.2.2.2, ?_⟩
         have e1 : qo os ds x = ds ++ [⟨x.id, (D.getD 0 default).t, x.m, x.b, x.a⟩] := by unfold qo; rw [if_pos HK.out, hD]
         rw [e1, zb9, List.length_append]
         exact ho8
        have p4 := hP8.2.2.1
        clear hbx7 hN7 hO7 hP8 ho8 hgd hcs hge
        go_frame
        have e60 : w8.cell? ⟨B6, 0, none⟩ = some _ := hT8.cell 0
        have e61 : w8.cell? ⟨B6, 1, none⟩ = some _ := hT8.cell 1
        have e40 : w8.cell? ⟨B4, 0, none⟩ = some _ := p4.cell 0
        have e41 : w8.cell? ⟨B4, 1, none⟩ = some _ := p4.cell 1
        have f40 := p4.frozen 0
        have f41 := p4.frozen 1
        go_wp2_with fail
        exact zg6 p4 l4 hb8 hN8 rfl rfl
      ·obtain ⟨n1, h1⟩ : ∃ n1, ds.length = n1 + 1 := ⟨ds.length - 1, by omega⟩
       obtain ⟨y, hy⟩ : ∃ y, ds[n1]? = some y := ⟨_, List.getElem?_eq_getElem (by omega)⟩
       obtain ⟨gd, od, rfl, zd, hcell⟩ := hR6.2.at hy
       have hl : zay ds x.m = decide (x.m < y.m) := by unfold zay; rw [decide_eq_true (by omega), h1, Nat.add_sub_cancel, zbj hy]; rfl
       refine regO49 (n1 := n1) (x := x) (l := y.m) (gd := gd) (od := od) (dcap := dcap) rfl (by show some (Value.int .i64 (ds.length : Int)) = _; rw [h1]) rfl rfl (by omega) (hbx6.b3.cell 14) (by rw [hbx6.b2.cell 1, <- h1]; rfl) (hcell 2 (by decide)) hbx6.b3.lt hbx6.b2.lt zd ?_
       intro b' w7 hf hb7 hv
       (rw [layO49 hf]; simp only [Rg.fl0, Rg.fl1, Rg.fl2, Nat.reduceAdd]; rw [hv])
       clear hv hf h0 h1 hcell hy
       by_cases h6 : x.m < y.m
       ·rw [decide_eq_true h6]
        have hc : zar os ds x o = 11 := by rw [HX.out, hl]; simp [Hh1.out, Hh2.out, Hh3.out, H4.out, H5.out, h6]
        obtain ⟨rfl, rfl⟩ : c = 11 /\ L2 = ds := by rw [HL.out.1, HL.out.2, hc]; simp
        clear hc HX h6 HL hl
        have hbx7 := hbx6.step hb7
        have hN7 := hN6.below hb7
        clear hbx6 hN6 hR6 hO6 hb7
        generalize Rg.out (Rg.opsOf Tryz.f50 49) b' 0 = o0
        generalize Rg.out (Rg.opsOf Tryz.f50 49) b' 1 = o1
        generalize Rg.out (Rg.opsOf Tryz.f50 49) b' 2 = o2
        generalize Rg.out (Rg.opsOf Tryz.f50 49) b' 3 = o3
        generalize Rg.out (Rg.opsOf Tryz.f50 49) b' 4 = o4
        generalize Rg.out (Rg.opsOf Tryz.f50 49) b' 5 = o5
        generalize Rg.out (Rg.opsOf Tryz.f50 49) b' 6 = o6
        generalize Rg.out (Rg.opsOf Tryz.f50 49) b' 7 = o7
        generalize Rg.out (Rg.opsOf Tryz.f50 49) b' 8 = o8
        generalize Rg.out (Rg.opsOf Tryz.f50 49) b' 9 = o9
        generalize Rg.out (Rg.opsOf Tryz.f50 49) b' 10 = o10
        generalize Rg.out (Rg.opsOf Tryz.f50 49) b' 11 = o11
        generalize Rg.out (Rg.opsOf Tryz.f50 49) b' 12 = o12
        generalize Rg.out (Rg.opsOf Tryz.f50 49) b' 13 = o13
        go_frame
        go_upto_region 50 with fail
        have e60 : w7.cell? ⟨B6, 0, none⟩ = some _ := hbx7.b6.cell 0
        have e61 : w7.cell? ⟨B6, 1, none⟩ = some _ := hbx7.b6.cell 1
        have e40 : w7.cell? ⟨B4, 0, none⟩ = some _ := hbx7.b4.cell 0
        have e41 : w7.cell? ⟨B4, 1, none⟩ = some _ := hbx7.b4.cell 1
        have f40 := hbx7.b4.frozen 0
        have f41 := hbx7.b4.frozen 1
        go_wp2_with fail
        exact zaw hbx7 hN7 rfl rfl
       ·rw [decide_eq_false h6]
        have HLT : Hid (zay ds x.m = false) := by rw [Hid, hl, decide_eq_false h6]
        clear h6 hl
        generalize Rg.out (Rg.opsOf Tryz.f50 49) b' 0 = o0
        generalize Rg.out (Rg.opsOf Tryz.f50 49) b' 1 = o1
        generalize Rg.out (Rg.opsOf Tryz.f50 49) b' 2 = o2
        generalize Rg.out (Rg.opsOf Tryz.f50 49) b' 3 = o3
        generalize Rg.out (Rg.opsOf Tryz.f50 49) b' 4 = o4
        generalize Rg.out (Rg.opsOf Tryz.f50 49) b' 5 = o5
        generalize Rg.out (Rg.opsOf Tryz.f50 49) b' 6 = o6
        generalize Rg.out (Rg.opsOf Tryz.f50 49) b' 7 = o7
        generalize Rg.out (Rg.opsOf Tryz.f50 49) b' 8 = o8
        generalize Rg.out (Rg.opsOf Tryz.f50 49) b' 9 = o9
        generalize Rg.out (Rg.opsOf Tryz.f50 49) b' 10 = o10
        generalize Rg.out (Rg.opsOf Tryz.f50 49) b' 11 = o11
        generalize Rg.out (Rg.opsOf Tryz.f50 49) b' 12 = o12
        generalize Rg.out (Rg.opsOf Tryz.f50 49) b' 13 = o13
        have hbx7 := hbx6.step hb7
        have hN7 := hN6.below hb7
        have hO7 := zgu hO6 hb7
        clear hbx6 hN6 hR6 hO6 hb7
        go_frame
        go_upto_region 51 with fail
        by_cases h7 : ds.length = 500
        ·have hc : zar os ds x o = 12 := by rw [HX.out]; simp [Hh1.out, Hh2.out, Hh3.out, H4.out, H5.out, HLT.out, h7]
         have g : ((ds.length : Int) == 500) = true := by simp [h7]
         obtain ⟨rfl, rfl⟩ : c = 12 /\ L2 = ds := by rw [HL.out.1, HL.out.2, hc]; simp
         clear hc HX h7 HL
         go_upto_region 52 with fail
         clear g
         have e60 : w7.cell? ⟨B6, 0, none⟩ = some _ := hbx7.b6.cell 0
         have e61 : w7.cell? ⟨B6, 1, none⟩ = some _ := hbx7.b6.cell 1
         have e40 : w7.cell? ⟨B4, 0, none⟩ = some _ := hbx7.b4.cell 0
         have e41 : w7.cell? ⟨B4, 1, none⟩ = some _ := hbx7.b4.cell 1
         have f40 := hbx7.b4.frozen 0
         have f41 := hbx7.b4.frozen 1
         go_wp2_with fail
         exact zaw hbx7 hN7 rfl rfl
        ·have hc : zar os ds x o = 0 := by rw [HX.out]; simp [Hh1.out, Hh2.out, Hh3.out, H4.out, H5.out, HLT.out, h7]
         obtain ⟨rfl, rfl⟩ : c = 0 /\ L2 = qo os ds x := by rw [HL.out.1, HL.out.2, hc]; simp
         have g : ((ds.length : Int) == 500) = false := by simp; omega
         clear hc HX HL
         go_upto_region 53 with fail
         clear g h7
         obtain ⟨gd, cs, hge, hgd, hcs⟩ := zi0 hO7 H4.out
         refine regO53 (w0 := w) (base := w.heap.size) (v6 := .slice a1 os.length c1) (n6 := os.length) (ys := zt 9 jd os) (nn := ds.length) (xs := zt 5 jy ds) (t := (D.getD 0 default).t) (cs := cs) (gd := gd) (B4 := B4) rfl rfl rfl (by show some (Value.slice av D.length cv) = _; rw [hge]) hbx7.below (Nat.le_refl _) ⟨hbx7.b3, hgd, hbx7.b4, hN7.1⟩ hbx7.b6 hbx7.l6 hN7.2 trivial (by omega) hbx7.n36 hbx7.n46 (fun e => by subst e; have := hbx7.b6.symm.trans hgd; simp at this) (by have := H4.out; omega) hcs ?_
         intro b' w8 v hf hb8 hP8 hT8 hv8 ho8
         obtain ⟨va, vc, rfl⟩ := hv8
         (rw [layO53 hf]; simp only [Rg.fl0, Rg.fl1, Rg.fl2, Nat.reduceAdd])
         clear hf
         generalize Rg.out (Rg.opsOf Tryz.f50 53) b' = yF
         have l4 := hbx7.l4
         have hN8 : Cp.zo w8 w.heap.size (.slice a1 os.length c1) (.slice va (ds.length + 1) vc) os (qo os ds x) := by
          refine ⟨hP8.2.2.2, ?_⟩
          have e1 : qo os ds x = ds ++ [⟨x.id, (D.getD 0 default).t, x.m, x.b, x.a⟩] := by unfold qo; rw [if_pos HK.out, hD]
          rw [e1, zb9, List.length_append]
          exact ho8
         have p4 := hP8.2.2.1
         clear hbx7 hN7 hO7 hP8 ho8 hgd hcs hge
         go_frame
         have e60 : w8.cell? ⟨B6, 0, none⟩ = some _ := hT8.cell 0
         have e61 : w8.cell? ⟨B6, 1, none⟩ = some _ := hT8.cell 1
         have e40 : w8.cell? ⟨B4, 0, none⟩ = some _ := p4.cell 0
         have e41 : w8.cell? ⟨B4, 1, none⟩ = some _ := p4.cell 1
         have f40 := p4.frozen 0
         have f41 := p4.frozen 1
         go_wp2_with fail
         exact zg6 p4 l4 hb8 hN8 rfl rfl
   ·have g : (x.n != o.n) = true := by simp [h3]
    obtain hc : zar os ds x o = 8 := by rw [HX.out]; simp [Hh1.out, Hh2.out, h3]
    obtain ⟨rfl, rfl⟩ : c = 8 /\ L2 = ds := by rw [HL.out.1, HL.out.2, hc]; simp
    clear hc HX h3 HL
    go_upto_region 44 with fail
    clear g
    have e60 : w5.cell? ⟨B6, 0, none⟩ = some _ := hbx.b6.cell 0
    have e61 : w5.cell? ⟨B6, 1, none⟩ = some _ := hbx.b6.cell 1
    have e40 : w5.cell? ⟨B4, 0, none⟩ = some _ := hbx.b4.cell 0
    have e41 : w5.cell? ⟨B4, 1, none⟩ = some _ := hbx.b4.cell 1
    have f40 := hbx.b4.frozen 0
    have f41 := hbx.b4.frozen 1
    clear e3b e3c e3d ea1 ea2 ea3
    go_wp2_with fail
    exact zaw hbx hN rfl rfl
  ·have g : (x.d != o.d) = true := by simp [h2]
   obtain hc : zar os ds x o = 7 := by rw [HX.out]; simp [Hh1.out, h2]
   obtain ⟨rfl, rfl⟩ : c = 7 /\ L2 = ds := by rw [HL.out.1, HL.out.2, hc]; simp
   clear hc HX h2 HL
   go_upto_region 42 with fail
   clear g
   have e60 : w5.cell? ⟨B6, 0, none⟩ = some _ := hbx.b6.cell 0
   have e61 : w5.cell? ⟨B6, 1, none⟩ = some _ := hbx.b6.cell 1
   have e40 : w5.cell? ⟨B4, 0, none⟩ = some _ := hbx.b4.cell 0
   have e41 : w5.cell? ⟨B4, 1, none⟩ = some _ := hbx.b4.cell 1
   have f40 := hbx.b4.frozen 0
   have f41 := hbx.b4.frozen 1
   clear e3b e3c e3d ea1 ea2 ea3
   go_wp2_with fail
   exact zaw hbx hN rfl rfl
 ·have g : (x.p != o.p) = true := by simp [h1]
  obtain hc : zar os ds x o = 6 := by rw [HX.out]; simp [h1]
  obtain ⟨rfl, rfl⟩ : c = 6 /\ L2 = ds := by rw [HL.out.1, HL.out.2, hc]; simp
  clear hc HX h1 HL
  go_upto_region 40 with fail
  clear g
  have e60 : w5.cell? ⟨B6, 0, none⟩ = some _ := hbx.b6.cell 0
  have e61 : w5.cell? ⟨B6, 1, none⟩ = some _ := hbx.b6.cell 1
  have e40 : w5.cell? ⟨B4, 0, none⟩ = some _ := hbx.b4.cell 0
  have e41 : w5.cell? ⟨B4, 1, none⟩ = some _ := hbx.b4.cell 1
  have f40 := hbx.b4.frozen 0
  have f41 := hbx.b4.frozen 1
  clear e3b e3c e3d ea1 ea2 ea3
  go_wp2_with fail
  exact zaw hbx hN rfl rfl
end Go.Proofs.YtjlpfpigggdemaaGreatDoor
