/-
 Merged: U29.
-/
import Derived.Test.YtjlpfpigggdemaaGreatDoorMi27
namespace Go.Proofs.YtjlpfpigggdemaaGreatDoor
set_option maxRecDepth 8000
set_option maxHeartbeats 4000000
open Go.RowKit Va Uo
set_option linter.all false
theorem zfq {w : World} {base t s n c : Nat} {ad : Option Addr} {xs : List Value} (h : w.ownsRow base t s (.slice ad n c) n xs) (hn : ¬ n = 0) : ∃ G, ad = some ⟨G, 0, none⟩ := by
 obtain ⟨q, ⟨q1, q2⟩ | ⟨g, cap, cur, q1, _⟩⟩ := h
 ·simp only [Value.slice.injEq] at q1; exact absurd q1.2.1 hn
 ·simp only [Value.slice.injEq] at q1
  exact ⟨g, q1.1⟩
theorem zj6 {l : List Od} {i : Nat} {o : Od} (h : l[i]? = some o) (q : Int) : (zt 9 jd l).set (i * 9 + 7) (.int .i64 q) = zt 9 jd (l.set i { o with s := q }) := by
 have hi := (List.getElem?_eq_some_iff.1 h).1
 refine List.ext_getElem? fun k => ?_
 have hlen : (zt 9 jd l).length = l.length * 9 := za2 l
 by_cases hk : k < l.length * 9
 ·obtain ⟨p, r, hr, rfl⟩ : ∃ p r, r < 9 /\ k = p * 9 + r := ⟨k / 9, k % 9, Nat.mod_lt _ (by decide), by omega⟩
  obtain ⟨y, hy⟩ : ∃ y, l[p]? = some y := ⟨_, List.getElem?_eq_getElem (by omega)⟩
  by_cases e : p = i
  ·subst e
   rw [jg (l.set p { o with s := q }) p _ (by rw [List.getElem?_set_self hi]) r hr]
   by_cases e7 : r = 7
   ·subst e7
    rw [List.getElem?_set_self (by rw [hlen]; omega)]
    rfl
   ·rw [List.getElem?_set_ne (by omega), jg l p o h r hr]
    rcases (show r = 0 ∨ r = 1 ∨ r = 2 ∨ r = 3 ∨ r = 4 ∨ r = 5 ∨ r = 6 ∨ r = 8 by omega) with rfl | rfl | rfl | rfl | rfl | rfl | rfl | rfl <;> rfl
  ·rw [jg (l.set i { o with s := q }) p y (by rw [List.getElem?_set_ne (Ne.symm e)]; exact hy) r hr, List.getElem?_set_ne (by omega)]
   exact jg l p y hy r hr
 ·rw [List.getElem?_eq_none (by rw [List.length_set, hlen]; omega), List.getElem?_eq_none (by rw [za2, List.length_set]; omega)]
theorem zgs {w : World} {base G c : Nat} {v2 : Value} {os : List Od} {ds : List Ds} {k : Nat} {o : Od} (h : Cp.zo w base (.slice (some ⟨G, 0, none⟩) os.length c) v2 os ds) (hko : os[k]? = some o) (q : Int) :
  Cp.zo (w.setCell ⟨G, k * 9 + 7, none⟩ (.int .i64 q)) base (.slice (some ⟨G, 0, none⟩) os.length c) v2 (os.set k { o with s := q }) ds := by
 have hk := (List.getElem?_eq_some_iff.1 hko).1
 refine ⟨?_, Cp.jo h.2 (fun e => Cp.zds h.1 h.2 (by decide) G rfl e) _ _⟩
 rw [<- zj6 hko, List.length_set]
 exact zc6 h.1 (k * 9 + 7) (by omega) _
theorem BX.put {w W : World} {B2 B3 B4 B6 : Nat} {ao ad : Option Addr} {n cap m dcap G c : Nat} {x : Dd} {v2 : Value} {os : List Od} {ds : List Ds} (h : BX w W B2 B3 B4 B6 ao ad n cap m dcap x (.slice (some ⟨G, 0, none⟩) os.length c) v2) (hN : Cp.zo W w.heap.size (.slice (some ⟨G, 0, none⟩) os.length c) v2 os ds) (j : Nat) (u : Value) :
  BX w (W.setCell ⟨G, j, none⟩ u) B2 B3 B4 B6 ao ad n cap m dcap x (.slice (some ⟨G, 0, none⟩) os.length c) v2 := by
 have far : ∀ {B tb : Nat} {vs : Array Value}, PB W B vs tb -> tb ≠ 38 -> PB (W.setCell ⟨G, j, none⟩ u) B vs tb := fun hp hne => hp.far (fun e => jb hN.1 hp hne (by rw [<- e]; rfl)) _ _
 exact ⟨far h.b2 (by decide), far h.b3 (by decide), far h.b4 (by decide), far h.b6 (by decide), h.below.setCell (p := ⟨G, j, none⟩) (zbu hN.1).1 _, h.l2, h.l3, h.l4, h.l6, h.n26, h.n36, h.n46⟩
set_option maxRecDepth 20000 in
set_option maxHeartbeats 16000000 in
theorem sdo_set2 (ao : Option Addr) (cap : Nat) (ad : Option Addr) (dcap : Nat) (os : List Od) (ds : List Ds) (x : Dd) (w : World) (h : Cp.CRw w (.slice ao os.length cap) (.slice ad ds.length dcap) os ds) (hn : os.length <= 100) (hm : ds.length <= 500) (hx : ddB x = true) (hkq : x.k = 2) (k : Nat) (o : Od) (hat : atO os x.id = (k : Int)) (hko : os[k]? = some o) (hf : yc o.s x.k = true) :
  Calls Tryz.prog 50 #[.agg #[.slice ao os.length cap, .slice ad ds.length dcap], aDd x] w (Left (os.set k { o with s := 2 }) ds 0 w) := by
 have HAT := hidden hat
 have HF := hidden hf
 have HK := hidden hkq
 have hk1 : ¬ x.k = 1 := by rw [hkq]; decide
 clear hat hf hkq
 have HH := hidden h
 clear h
 obtain ⟨hb0, p2, p3, p4⟩ := yh w #[.slice ao os.length cap, .slice ad ds.length dcap] #[.int .i64 x.k, .int .i64 x.o.id, .int .i64 x.o.p, .int .i64 x.o.d, .int .i64 x.o.n, .int .i64 x.o.f, .int .i64 x.o.e, .int .i64 x.o.c, .int .i64 x.o.s, .bool x.o.two, .int .i64 x.id, .int .i64 x.p, .int .i64 x.d, .int .i64 x.n, .int .i64 x.m, .int .i64 x.b, .int .i64 x.a] #[.slice none 0 0, .slice none 0 0] 27 40 27
 unfold aDd
 go_enter Tryz.func50, Tryz.ntmps50
 go_upto_region 1 with fail
 generalize (((w.alloc (.cells #[.slice ao os.length cap, .slice ad ds.length dcap] 27)).alloc (.cells #[.int .i64 x.k, .int .i64 x.o.id, .int .i64 x.o.p, .int .i64 x.o.d, .int .i64 x.o.n, .int .i64 x.o.f, .int .i64 x.o.e, .int .i64 x.o.c, .int .i64 x.o.s, .bool x.o.two, .int .i64 x.id, .int .i64 x.p, .int .i64 x.d, .int .i64 x.n, .int .i64 x.m, .int .i64 x.b, .int .i64 x.a] 40)).alloc (.cells #[.slice none 0 0, .slice none 0 0] 27)) = W0 at *
 have l0 := hb0.size
 have g2 : w.heap.size <= w.heap.size := Nat.le_refl _
 have g3 : w.heap.size <= w.heap.size + 1 := Nat.le_succ _
 have g4 : w.heap.size <= w.heap.size + 1 + 1 := by omega
 have z2 := p2.lt
 have z3 := p3.lt
 have z4 := p4.lt
 generalize hB3 : w.heap.size + 1 = B3 at *
 generalize hB4 : B3 + 1 = B4 at *
 generalize hB2 : w.heap.size = B2 at *
 have e20 : W0.cell? ⟨B2, 0, none⟩ = some _ := p2.cell 0
 have e21 : W0.cell? ⟨B2, 1, none⟩ = some _ := p2.cell 1
 have HC := hidden (Cp.zb5 ao ad os.length cap ds.length dcap os ds W0 (HH.out.below (hB2.symm ▸ hb0)) (by omega) (by omega))
 go_upto_region 2 with ((with_reducible refine HC.out.mono ?_); rintro e w1 ⟨a1, c1, a2, c2, rfl, hN1, hb1⟩)
 have hW1 : Below w1.heap.size w1 (w1.alloc (.cells #[.slice a1 os.length c1, .slice a2 ds.length c2] 27)) := (Below.refl _ _).alloc (Nat.le_refl _) _
 have p6 : PB (w1.alloc (.cells #[.slice a1 os.length c1, .slice a2 ds.length c2] 27)) w1.heap.size #[.slice a1 os.length c1, .slice a2 ds.length c2] 27 := PB.new _ _ _
 have z1 := hb1.size
 have hbx1 : BX w (w1.alloc (.cells #[.slice a1 os.length c1, .slice a2 ds.length c2] 27)) B2 B3 B4 w1.heap.size ao ad os.length cap ds.length dcap x (.slice a1 os.length c1) (.slice a2 ds.length c2) := by
  refine ⟨(p2.below hb1).below hW1, (p3.below hb1).below hW1, (p4.below hb1).below hW1, p6, ?_, by omega, by omega, by omega, by omega, by omega, by omega, by omega⟩
  rw [hB2]
  exact (hb0.trans (hb1.mono l0)).trans (hW1.mono (by omega))
 have hN2 : Cp.zo (w1.alloc (.cells #[.slice a1 os.length c1, .slice a2 ds.length c2] 27)) w.heap.size (.slice a1 os.length c1) (.slice a2 ds.length c2) os ds := (hN1.below hW1).zbr (by omega)
 have hR1 : Cp.CRw (w1.alloc (.cells #[.slice a1 os.length c1, .slice a2 ds.length c2] 27)) (.slice ao os.length cap) (.slice ad ds.length dcap) os ds := HH.out.below hbx1.below
 clear HC hN1 p6 p2 p3 p4 hb0 e20 e21 HH hb1
 generalize w1.alloc (.cells #[.slice a1 os.length c1, .slice a2 ds.length c2] 27) = W1 at *
 clear hW1 z1 z2 z3 z4 l0 g2 g3 g4
 generalize w1.heap.size = B6 at *
 clear hB3 hB4 hB2
 have HD := hidden (zb1 x W1)
 obtain ⟨e30, ⟨e31, e32, e33, e34, e35, e36, e37, e38, e39⟩, e3a, e3b, e3c, e3d, e3e, e3f, e3g⟩ := hbx1.b3.deed
 have HBX := hidden hbx1
 have HN := hidden hN2
 have HR := hidden hR1
 clear hbx1 hN2 hR1
 unfold aDd at HD
 rw [hx] at HD
 go_upto_region 4 with ((with_reducible refine HD.out.mono ?_); rintro e w2 ⟨rfl, hb2⟩)
 have hbx := HBX.out.step hb2
 have hN := HN.out.below hb2
 have hR := HR.out.below hb2
 clear HBX HN HR HD hb2 e30 e31 e32 e33 e34 e35 e36 e37 e38 e39 e3a e3b e3c e3d e3e e3f e3g
 have e30 : w2.cell? ⟨B3, 0, none⟩ = some (.int .i64 x.k) := hbx.b3.cell 0
 have e3a : w2.cell? ⟨B3, 10, none⟩ = some (.int .i64 x.id) := hbx.b3.cell 10
 have e20 : w2.cell? ⟨B2, 0, none⟩ = some _ := hbx.b2.cell 0
 have HA := hidden (zb7 ao os.length cap os x.id w2 hR.1 (by omega))
 obtain ⟨g, off, rfl, hgl, hrow⟩ := hR.1.at hko
 have r0 : w2.cell? ⟨g, off + k * 9, none⟩ = some (.int .i64 o.id) := hrow 0 (by decide)
 have r1 : w2.cell? ⟨g, off + k * 9 + 1, none⟩ = some (.int .i64 o.p) := hrow 1 (by decide)
 have r2 : w2.cell? ⟨g, off + k * 9 + 2, none⟩ = some (.int .i64 o.d) := hrow 2 (by decide)
 have r3 : w2.cell? ⟨g, off + k * 9 + 3, none⟩ = some (.int .i64 o.n) := hrow 3 (by decide)
 have r4 : w2.cell? ⟨g, off + k * 9 + 4, none⟩ = some (.int .i64 o.f) := hrow 4 (by decide)
 have r5 : w2.cell? ⟨g, off + k * 9 + 5, none⟩ = some (.int .i64 o.e) := hrow 5 (by decide)
 have r6 : w2.cell? ⟨g, off + k * 9 + 6, none⟩ = some (.int .i64 o.c) := hrow 6 (by decide)
 have r7 : w2.cell? ⟨g, off + k * 9 + 7, none⟩ = some (.int .i64 o.s) := hrow 7 (by decide)
 have r8 : w2.cell? ⟨g, off + k * 9 + 8, none⟩ = some (.bool o.two) := hrow 8 (by decide)
 have hkl : (k : Int) < (os.length : Int) := by have := (List.getElem?_eq_some_iff.1 hko).1; omega
 have hk0 : (0 : Int) <= (k : Int) := by omega
 clear hrow
 rw [HAT.out] at HA
 go_upto_region 25 with ((with_reducible refine HA.out.mono ?_); rintro e w3 ⟨rfl, h3⟩; obtain rfl := h3.symm)
 have hW3 : Below w2.heap.size w2 (w2.alloc (.cells #[.int .i64 o.id, .int .i64 o.p, .int .i64 o.d, .int .i64 o.n, .int .i64 o.f, .int .i64 o.e, .int .i64 o.c, .int .i64 o.s, .bool o.two] 38)) := (Below.refl _ _).alloc (Nat.le_refl _) _
 have p10 : PB (w2.alloc (.cells #[.int .i64 o.id, .int .i64 o.p, .int .i64 o.d, .int .i64 o.n, .int .i64 o.f, .int .i64 o.e, .int .i64 o.c, .int .i64 o.s, .bool o.two] 38)) w2.heap.size #[.int .i64 o.id, .int .i64 o.p, .int .i64 o.d, .int .i64 o.n, .int .i64 o.f, .int .i64 o.e, .int .i64 o.c, .int .i64 o.s, .bool o.two] 38 := PB.new _ _ _
 have l10 : w.heap.size <= w2.heap.size := hbx.below.size
 have hbx3 := hbx.step hW3
 have hN3 := hN.below hW3
 have hR3 := hR.below hW3
 clear HA r0 r1 r2 r3 r4 r5 r6 r7 r8 e30 e3a e20 hbx hN hR
 generalize w2.alloc (.cells #[.int .i64 o.id, .int .i64 o.p, .int .i64 o.d, .int .i64 o.n, .int .i64 o.f, .int .i64 o.e, .int .i64 o.c, .int .i64 o.s, .bool o.two] 38) = w4 at *
 clear hW3
 generalize w2.heap.size = B10 at *
 have e30 : w4.cell? ⟨B3, 0, none⟩ = some (.int .i64 x.k) := hbx3.b3.cell 0
 have ea7 : w4.cell? ⟨B10, 7, none⟩ = some (.int .i64 o.s) := p10.cell 7
 have kf := zer o.s x.k w4
 rw [HF.out] at kf
 go_upto_region 27 with ((with_reducible refine kf.mono ?_); rintro e w5 ⟨rfl, h5⟩; obtain rfl := h5)
 clear kf e30 ea7
 have e30 : w4.cell? ⟨B3, 0, none⟩ = some (.int .i64 2) := by rw [hbx3.b3.cell 0]; simp [HK.out]
 go_upto_region 29 with fail
 clear e30
 obtain ⟨G, rfl⟩ := zfq hN3.1 (by omega)
 obtain ⟨er, fr⟩ := jw hN3.1 (jg os k o hko 7 (by decide))
 have er' : w4.cell? ⟨G, k * 9 + 7, none⟩ = some (.int .i64 o.s) := er
 have e60 : w4.cell? ⟨B6, 0, none⟩ = some (.slice (some ⟨G, 0, none⟩) os.length c1) := hbx3.b6.cell 0
 clear er
 have HN3 := hidden hN3
 have HBX3 := hidden hbx3
 clear hN3 hbx3
 go_upto_region 30 with fail
 clear er' fr e60
 have hN5 := zgs HN3.out hko 2
 have hbx5 := HBX3.out.put HN3.out (k * 9 + 7) (.int .i64 2)
 generalize w4.setCell ⟨G, k * 9 + 7, none⟩ (.int .i64 2) = w5 at *
 clear HN3 HBX3
 have e60 : w5.cell? ⟨B6, 0, none⟩ = some _ := hbx5.b6.cell 0
 have e61 : w5.cell? ⟨B6, 1, none⟩ = some _ := hbx5.b6.cell 1
 have e40 : w5.cell? ⟨B4, 0, none⟩ = some _ := hbx5.b4.cell 0
 have e41 : w5.cell? ⟨B4, 1, none⟩ = some _ := hbx5.b4.cell 1
 have f40 := hbx5.b4.frozen 0
 have f41 := hbx5.b4.frozen 1
 go_wp2_with fail
 exact zaw hbx5 hN5 rfl rfl
set_option maxRecDepth 20000 in
set_option maxHeartbeats 16000000 in
theorem sdo_set3 (ao : Option Addr) (cap : Nat) (ad : Option Addr) (dcap : Nat) (os : List Od) (ds : List Ds) (x : Dd) (w : World) (h : Cp.CRw w (.slice ao os.length cap) (.slice ad ds.length dcap) os ds) (hn : os.length <= 100) (hm : ds.length <= 500) (hx : ddB x = true) (hkq : x.k = 3) (k : Nat) (o : Od) (hat : atO os x.id = (k : Int)) (hko : os[k]? = some o) (hf : yc o.s x.k = true) :
  Calls Tryz.prog 50 #[.agg #[.slice ao os.length cap, .slice ad ds.length dcap], aDd x] w (Left (os.set k { o with s := 3 }) ds 0 w) := by
 have HAT := hidden hat
 have HF := hidden hf
 have HK := hidden hkq
 have hk1 : ¬ x.k = 1 := by rw [hkq]; decide
 clear hat hf hkq
 have HH := hidden h
 clear h
 obtain ⟨hb0, p2, p3, p4⟩ := yh w #[.slice ao os.length cap, .slice ad ds.length dcap] #[.int .i64 x.k, .int .i64 x.o.id, .int .i64 x.o.p, .int .i64 x.o.d, .int .i64 x.o.n, .int .i64 x.o.f, .int .i64 x.o.e, .int .i64 x.o.c, .int .i64 x.o.s, .bool x.o.two, .int .i64 x.id, .int .i64 x.p, .int .i64 x.d, .int .i64 x.n, .int .i64 x.m, .int .i64 x.b, .int .i64 x.a] #[.slice none 0 0, .slice none 0 0] 27 40 27
 unfold aDd
 go_enter Tryz.func50, Tryz.ntmps50
 go_upto_region 1 with fail
 generalize (((w.alloc (.cells #[.slice ao os.length cap, .slice ad ds.length dcap] 27)).alloc (.cells #[.int .i64 x.k, .int .i64 x.o.id, .int .i64 x.o.p, .int .i64 x.o.d, .int .i64 x.o.n, .int .i64 x.o.f, .int .i64 x.o.e, .int .i64 x.o.c, .int .i64 x.o.s, .bool x.o.two, .int .i64 x.id, .int .i64 x.p, .int .i64 x.d, .int .i64 x.n, .int .i64 x.m, .int .i64 x.b, .int .i64 x.a] 40)).alloc (.cells #[.slice none 0 0, .slice none 0 0] 27)) = W0 at *
 have l0 := hb0.size
 have g2 : w.heap.size <= w.heap.size := Nat.le_refl _
 have g3 : w.heap.size <= w.heap.size + 1 := Nat.le_succ _
 have g4 : w.heap.size <= w.heap.size + 1 + 1 := by omega
 have z2 := p2.lt
 have z3 := p3.lt
 have z4 := p4.lt
 generalize hB3 : w.heap.size + 1 = B3 at *
 generalize hB4 : B3 + 1 = B4 at *
 generalize hB2 : w.heap.size = B2 at *
 have e20 : W0.cell? ⟨B2, 0, none⟩ = some _ := p2.cell 0
 have e21 : W0.cell? ⟨B2, 1, none⟩ = some _ := p2.cell 1
 have HC := hidden (Cp.zb5 ao ad os.length cap ds.length dcap os ds W0 (HH.out.below (hB2.symm ▸ hb0)) (by omega) (by omega))
 go_upto_region 2 with ((with_reducible refine HC.out.mono ?_); rintro e w1 ⟨a1, c1, a2, c2, rfl, hN1, hb1⟩)
 have hW1 : Below w1.heap.size w1 (w1.alloc (.cells #[.slice a1 os.length c1, .slice a2 ds.length c2] 27)) := (Below.refl _ _).alloc (Nat.le_refl _) _
 have p6 : PB (w1.alloc (.cells #[.slice a1 os.length c1, .slice a2 ds.length c2] 27)) w1.heap.size #[.slice a1 os.length c1, .slice a2 ds.length c2] 27 := PB.new _ _ _
 have z1 := hb1.size
 have hbx1 : BX w (w1.alloc (.cells #[.slice a1 os.length c1, .slice a2 ds.length c2] 27)) B2 B3 B4 w1.heap.size ao ad os.length cap ds.length dcap x (.slice a1 os.length c1) (.slice a2 ds.length c2) := by
  refine ⟨(p2.below hb1).below hW1, (p3.below hb1).below hW1, (p4.below hb1).below hW1, p6, ?_, by omega, by omega, by omega, by omega, by omega, by omega, by omega⟩
  rw [hB2]
  exact (hb0.trans (hb1.mono l0)).trans (hW1.mono (by omega))
 have hN2 : Cp.zo (w1.alloc (.cells #[.slice a1 os.length c1, .slice a2 ds.length c2] 27)) w.heap.size (.slice a1 os.length c1) (.slice a2 ds.length c2) os ds := (hN1.below hW1).zbr (by omega)
 have hR1 : Cp.CRw (w1.alloc (.cells #[.slice a1 os.length c1, .slice a2 ds.length c2] 27)) (.slice ao os.length cap) (.slice ad ds.length dcap) os ds := HH.out.below hbx1.below
 clear HC hN1 p6 p2 p3 p4 hb0 e20 e21 HH hb1
 generalize w1.alloc (.cells #[.slice a1 os.length c1, .slice a2 ds.length c2] 27) = W1 at *
 clear hW1 z1 z2 z3 z4 l0 g2 g3 g4
 generalize w1.heap.size = B6 at *
 clear hB3 hB4 hB2
 have HD := hidden (zb1 x W1)
 obtain ⟨e30, ⟨e31, e32, e33, e34, e35, e36, e37, e38, e39⟩, e3a, e3b, e3c, e3d, e3e, e3f, e3g⟩ := hbx1.b3.deed
 have HBX := hidden hbx1
 have HN := hidden hN2
 have HR := hidden hR1
 clear hbx1 hN2 hR1
 unfold aDd at HD
 rw [hx] at HD
 go_upto_region 4 with ((with_reducible refine HD.out.mono ?_); rintro e w2 ⟨rfl, hb2⟩)
 have hbx := HBX.out.step hb2
 have hN := HN.out.below hb2
 have hR := HR.out.below hb2
 clear HBX HN HR HD hb2 e30 e31 e32 e33 e34 e35 e36 e37 e38 e39 e3a e3b e3c e3d e3e e3f e3g
 have e30 : w2.cell? ⟨B3, 0, none⟩ = some (.int .i64 x.k) := hbx.b3.cell 0
 have e3a : w2.cell? ⟨B3, 10, none⟩ = some (.int .i64 x.id) := hbx.b3.cell 10
 have e20 : w2.cell? ⟨B2, 0, none⟩ = some _ := hbx.b2.cell 0
 have HA := hidden (zb7 ao os.length cap os x.id w2 hR.1 (by omega))
 obtain ⟨g, off, rfl, hgl, hrow⟩ := hR.1.at hko
 have r0 : w2.cell? ⟨g, off + k * 9, none⟩ = some (.int .i64 o.id) := hrow 0 (by decide)
 have r1 : w2.cell? ⟨g, off + k * 9 + 1, none⟩ = some (.int .i64 o.p) := hrow 1 (by decide)
 have r2 : w2.cell? ⟨g, off + k * 9 + 2, none⟩ = some (.int .i64 o.d) := hrow 2 (by decide)
 have r3 : w2.cell? ⟨g, off + k * 9 + 3, none⟩ = some (.int .i64 o.n) := hrow 3 (by decide)
 have r4 : w2.cell? ⟨g, off + k * 9 + 4, none⟩ = some (.int .i64 o.f) := hrow 4 (by decide)
 have r5 : w2.cell? ⟨g, off + k * 9 + 5, none⟩ = some (.int .i64 o.e) := hrow 5 (by decide)
 have r6 : w2.cell? ⟨g, off + k * 9 + 6, none⟩ = some (.int .i64 o.c) := hrow 6 (by decide)
 have r7 : w2.cell? ⟨g, off + k * 9 + 7, none⟩ = some (.int .i64 o.s) := hrow 7 (by decide)
 have r8 : w2.cell? ⟨g, off + k * 9 + 8, none⟩ = some (.bool o.two) := hrow 8 (by decide)
 have hkl : (k : Int) < (os.length : Int) := by have := (List.getElem?_eq_some_iff.1 hko).1; omega
 have hk0 : (0 : Int) <= (k : Int) := by omega
 clear hrow
 rw [HAT.out] at HA
 go_upto_region 25 with ((with_reducible refine HA.out.mono ?_); rintro e w3 ⟨rfl, h3⟩; obtain rfl := h3.symm)
 have hW3 : Below w2.heap.size w2 (w2.alloc (.cells #[.int .i64 o.id, .int .i64 o.p, .int .i64 o.d, .int .i64 o.n, .int .i64 o.f, .int .i64 o.e, .int .i64 o.c, .int .i64 o.s, .bool o.two] 38)) := (Below.refl _ _).alloc (Nat.le_refl _) _
 have p10 : PB (w2.alloc (.cells #[.int .i64 o.id, .int .i64 o.p, .int .i64 o.d, .int .i64 o.n, .int .i64 o.f, .int .i64 o.e, .int .i64 o.c, .int .i64 o.s, .bool o.two] 38)) w2.heap.size #[.int .i64 o.id, .int .i64 o.p, .int .i64 o.d, .int .i64 o.n, .int .i64 o.f, .int .i64 o.e, .int .i64 o.c, .int .i64 o.s, .bool o.two] 38 := PB.new _ _ _
 have l10 : w.heap.size <= w2.heap.size := hbx.below.size
 have hbx3 := hbx.step hW3
 have hN3 := hN.below hW3
 have hR3 := hR.below hW3
 clear HA r0 r1 r2 r3 r4 r5 r6 r7 r8 e30 e3a e20 hbx hN hR
 generalize w2.alloc (.cells #[.int .i64 o.id, .int .i64 o.p, .int .i64 o.d, .int .i64 o.n, .int .i64 o.f, .int .i64 o.e, .int .i64 o.c, .int .i64 o.s, .bool o.two] 38) = w4 at *
 clear hW3
 generalize w2.heap.size = B10 at *
 have e30 : w4.cell? ⟨B3, 0, none⟩ = some (.int .i64 x.k) := hbx3.b3.cell 0
 have ea7 : w4.cell? ⟨B10, 7, none⟩ = some (.int .i64 o.s) := p10.cell 7
 have kf := zer o.s x.k w4
 rw [HF.out] at kf
 go_upto_region 27 with ((with_reducible refine kf.mono ?_); rintro e w5 ⟨rfl, h5⟩; obtain rfl := h5)
 clear kf e30 ea7
 have e30 : w4.cell? ⟨B3, 0, none⟩ = some (.int .i64 3) := by rw [hbx3.b3.cell 0]; simp [HK.out]
 go_upto_region 32 with fail
 clear e30
 obtain ⟨G, rfl⟩ := zfq hN3.1 (by omega)
 obtain ⟨er, fr⟩ := jw hN3.1 (jg os k o hko 7 (by decide))
 have er' : w4.cell? ⟨G, k * 9 + 7, none⟩ = some (.int .i64 o.s) := er
 have e60 : w4.cell? ⟨B6, 0, none⟩ = some (.slice (some ⟨G, 0, none⟩) os.length c1) := hbx3.b6.cell 0
 clear er
 have HN3 := hidden hN3
 have HBX3 := hidden hbx3
 clear hN3 hbx3
 go_upto_region 33 with fail
 clear er' fr e60
 have hN5 := zgs HN3.out hko 3
 have hbx5 := HBX3.out.put HN3.out (k * 9 + 7) (.int .i64 3)
 generalize w4.setCell ⟨G, k * 9 + 7, none⟩ (.int .i64 3) = w5 at *
 clear HN3 HBX3
 have e60 : w5.cell? ⟨B6, 0, none⟩ = some _ := hbx5.b6.cell 0
 have e61 : w5.cell? ⟨B6, 1, none⟩ = some _ := hbx5.b6.cell 1
 have e40 : w5.cell? ⟨B4, 0, none⟩ = some _ := hbx5.b4.cell 0
 have e41 : w5.cell? ⟨B4, 1, none⟩ = some _ := hbx5.b4.cell 1
 have f40 := hbx5.b4.frozen 0
 have f41 := hbx5.b4.frozen 1
 go_wp2_with fail
 exact zaw hbx5 hN5 rfl rfl
set_option maxRecDepth 20000 in
set_option maxHeartbeats 16000000 in
theorem sdo_set4 (ao : Option Addr) (cap : Nat) (ad : Option Addr) (dcap : Nat) (os : List Od) (ds : List Ds) (x : Dd) (w : World) (h : Cp.CRw w (.slice ao os.length cap) (.slice ad ds.length dcap) os ds) (hn : os.length <= 100) (hm : ds.length <= 500) (hx : ddB x = true) (hkq : x.k = 4) (k : Nat) (o : Od) (hat : atO os x.id = (k : Int)) (hko : os[k]? = some o) (hf : yc o.s x.k = true) :
  Calls Tryz.prog 50 #[.agg #[.slice ao os.length cap, .slice ad ds.length dcap], aDd x] w (Left (os.set k { o with s := 4 }) ds 0 w) := by
 have HAT := hidden hat
 have HF := hidden hf
 have HK := hidden hkq
 have hk1 : ¬ x.k = 1 := by rw [hkq]; decide
 clear hat hf hkq
 have HH := hidden h
 clear h
 obtain ⟨hb0, p2, p3, p4⟩ := yh w #[.slice ao os.length cap, .slice ad ds.length dcap] #[.int .i64 x.k, .int .i64 x.o.id, .int .i64 x.o.p, .int .i64 x.o.d, .int .i64 x.o.n, .int .i64 x.o.f, .int .i64 x.o.e, .int .i64 x.o.c, .int .i64 x.o.s, .bool x.o.two, .int .i64 x.id, .int .i64 x.p, .int .i64 x.d, .int .i64 x.n, .int .i64 x.m, .int .i64 x.b, .int .i64 x.a] #[.slice none 0 0, .slice none 0 0] 27 40 27
 unfold aDd
 go_enter Tryz.func50, Tryz.ntmps50
 go_upto_region 1 with fail
 generalize (((w.alloc (.cells #[.slice ao os.length cap, .slice ad ds.length dcap] 27)).alloc (.cells #[.int .i64 x.k, .int .i64 x.o.id, .int .i64 x.o.p, .int .i64 x.o.d, .int .i64 x.o.n, .int .i64 x.o.f, .int .i64 x.o.e, .int .i64 x.o.c, .int .i64 x.o.s, .bool x.o.two, .int .i64 x.id, .int .i64 x.p, .int .i64 x.d, .int .i64 x.n, .int .i64 x.m, .int .i64 x.b, .int .i64 x.a] 40)).alloc (.cells #[.slice none 0 0, .slice none 0 0] 27)) = W0 at *
 have l0 := hb0.size
 have g2 : w.heap.size <= w.heap.size := Nat.le_refl _
 have g3 : w.heap.size <= w.heap.size + 1 := Nat.le_succ _
 have g4 : w.heap.size <= w.heap.size + 1 + 1 := by omega
 have z2 := p2.lt
 have z3 := p3.lt
 have z4 := p4.lt
 generalize hB3 : w.heap.size + 1 = B3 at *
 generalize hB4 : B3 + 1 = B4 at *
 generalize hB2 : w.heap.size = B2 at *
 have e20 : W0.cell? ⟨B2, 0, none⟩ = some _ := p2.cell 0
 have e21 : W0.cell? ⟨B2, 1, none⟩ = some _ := p2.cell 1
 have HC := hidden (Cp.zb5 ao ad os.length cap ds.length dcap os ds W0 (HH.out.below (hB2.symm ▸ hb0)) (by omega) (by omega))
 go_upto_region 2 with ((with_reducible refine HC.out.mono ?_); rintro e w1 ⟨a1, c1, a2, c2, rfl, hN1, hb1⟩)
 have hW1 : Below w1.heap.size w1 (w1.alloc (.cells #[.slice a1 os.length c1, .slice a2 ds.length c2] 27)) := (Below.refl _ _).alloc (Nat.le_refl _) _
 have p6 : PB (w1.alloc (.cells #[.slice a1 os.length c1, .slice a2 ds.length c2] 27)) w1.heap.size #[.slice a1 os.length c1, .slice a2 ds.length c2] 27 := PB.new _ _ _
 have z1 := hb1.size
 have hbx1 : BX w (w1.alloc (.cells #[.slice a1 os.length c1, .slice a2 ds.length c2] 27)) B2 B3 B4 w1.heap.size ao ad os.length cap ds.length dcap x (.slice a1 os.length c1) (.slice a2 ds.length c2) := by
  refine ⟨(p2.below hb1).below hW1, (p3.below hb1).below hW1, (p4.below hb1).below hW1, p6, ?_, by omega, by omega, by omega, by omega, by omega, by omega, by omega⟩
  rw [hB2]
  exact (hb0.trans (hb1.mono l0)).trans (hW1.mono (by omega))
 have hN2 : Cp.zo (w1.alloc (.cells #[.slice a1 os.length c1, .slice a2 ds.length c2] 27)) w.heap.size (.slice a1 os.length c1) (.slice a2 ds.length c2) os ds := (hN1.below hW1).zbr (by omega)
 have hR1 : Cp.CRw (w1.alloc (.cells #[.slice a1 os.length c1, .slice a2 ds.length c2] 27)) (.slice ao os.length cap) (.slice ad ds.length dcap) os ds := HH.out.below hbx1.below
 clear HC hN1 p6 p2 p3 p4 hb0 e20 e21 HH hb1
 generalize w1.alloc (.cells #[.slice a1 os.length c1, .slice a2 ds.length c2] 27) = W1 at *
 clear hW1 z1 z2 z3 z4 l0 g2 g3 g4
 generalize w1.heap.size = B6 at *
 clear hB3 hB4 hB2
 have HD := hidden (zb1 x W1)
 obtain ⟨e30, ⟨e31, e32, e33, e34, e35, e36, e37, e38, e39⟩, e3a, e3b, e3c, e3d, e3e, e3f, e3g⟩ := hbx1.b3.deed
 have HBX := hidden hbx1
 have HN := hidden hN2
 have HR := hidden hR1
 clear hbx1 hN2 hR1
 unfold aDd at HD
 rw [hx] at HD
 go_upto_region 4 with ((with_reducible refine HD.out.mono ?_); rintro e w2 ⟨rfl, hb2⟩)
 have hbx := HBX.out.step hb2
 have hN := HN.out.below hb2
 have hR := HR.out.below hb2
 clear HBX HN HR HD hb2 e30 e31 e32 e33 e34 e35 e36 e37 e38 e39 e3a e3b e3c e3d e3e e3f e3g
 have e30 : w2.cell? ⟨B3, 0, none⟩ = some (.int .i64 x.k) := hbx.b3.cell 0
 have e3a : w2.cell? ⟨B3, 10, none⟩ = some (.int .i64 x.id) := hbx.b3.cell 10
 have e20 : w2.cell? ⟨B2, 0, none⟩ = some _ := hbx.b2.cell 0
 have HA := hidden (zb7 ao os.length cap os x.id w2 hR.1 (by omega))
 obtain ⟨g, off, rfl, hgl, hrow⟩ := hR.1.at hko
 have r0 : w2.cell? ⟨g, off + k * 9, none⟩ = some (.int .i64 o.id) := hrow 0 (by decide)
 have r1 : w2.cell? ⟨g, off + k * 9 + 1, none⟩ = some (.int .i64 o.p) := hrow 1 (by decide)
 have r2 : w2.cell? ⟨g, off + k * 9 + 2, none⟩ = some (.int .i64 o.d) := hrow 2 (by decide)
 have r3 : w2.cell? ⟨g, off + k * 9 + 3, none⟩ = some (.int .i64 o.n) := hrow 3 (by decide)
 have r4 : w2.cell? ⟨g, off + k * 9 + 4, none⟩ = some (.int .i64 o.f) := hrow 4 (by decide)
 have r5 : w2.cell? ⟨g, off + k * 9 + 5, none⟩ = some (.int .i64 o.e) := hrow 5 (by decide)
 have r6 : w2.cell? ⟨g, off + k * 9 + 6, none⟩ = some (.int .i64 o.c) := hrow 6 (by decide)
 have r7 : w2.cell? ⟨g, off + k * 9 + 7, none⟩ = some (.int .i64 o.s) := hrow 7 (by decide)
 have r8 : w2.cell? ⟨g, off + k * 9 + 8, none⟩ = some (.bool o.two) := hrow 8 (by decide)
 have hkl : (k : Int) < (os.length : Int) := by have := (List.getElem?_eq_some_iff.1 hko).1; omega
 have hk0 : (0 : Int) <= (k : Int) := by omega
 clear hrow
 rw [HAT.out] at HA
 go_upto_region 25 with ((with_reducible refine HA.out.mono ?_); rintro e w3 ⟨rfl, h3⟩; obtain rfl := h3.symm)
 have hW3 : Below w2.heap.size w2 (w2.alloc (.cells #[.int .i64 o.id, .int .i64 o.p, .int .i64 o.d, .int .i64 o.n, .int .i64 o.f, .int .i64 o.e, .int .i64 o.c, .int .i64 o.s, .bool o.two] 38)) := (Below.refl _ _).alloc (Nat.le_refl _) _
 have p10 : PB (w2.alloc (.cells #[.int .i64 o.id, .int .i64 o.p, .int .i64 o.d, .int .i64 o.n, .int .i64 o.f, .int .i64 o.e, .int .i64 o.c, .int .i64 o.s, .bool o.two] 38)) w2.heap.size #[.int .i64 o.id, .int .i64 o.p, .int .i64 o.d, .int .i64 o.n, .int .i64 o.f, .int .i64 o.e, .int .i64 o.c, .int .i64 o.s, .bool o.two] 38 := PB.new _ _ _
 have l10 : w.heap.size <= w2.heap.size := hbx.below.size
 have hbx3 := hbx.step hW3
 have hN3 := hN.below hW3
 have hR3 := hR.below hW3
 clear HA r0 r1 r2 r3 r4 r5 r6 r7 r8 e30 e3a e20 hbx hN hR
 generalize w2.alloc (.cells #[.int .i64 o.id, .int .i64 o.p, .int .i64 o.d, .int .i64 o.n, .int .i64 o.f, .int .i64 o.e, .int .i64 o.c, .int .i64 o.s, .bool o.two] 38) = w4 at *
 clear hW3
 generalize w2.heap.size = B10 at *
 have e30 : w4.cell? ⟨B3, 0, none⟩ = some (.int .i64 x.k) := hbx3.b3.cell 0
 have ea7 : w4.cell? ⟨B10, 7, none⟩ = some (.int .i64 o.s) := p10.cell 7
 have kf := zer o.s x.k w4
 rw [HF.out] at kf
 go_upto_region 27 with ((with_reducible refine kf.mono ?_); rintro e w5 ⟨rfl, h5⟩; obtain rfl := h5)
 clear kf e30 ea7
 have e30 : w4.cell? ⟨B3, 0, none⟩ = some (.int .i64 4) := by rw [hbx3.b3.cell 0]; simp [HK.out]
 go_upto_region 35 with fail
 clear e30
 obtain ⟨G, rfl⟩ := zfq hN3.1 (by omega)
 obtain ⟨er, fr⟩ := jw hN3.1 (jg os k o hko 7 (by decide))
 have er' : w4.cell? ⟨G, k * 9 + 7, none⟩ = some (.int .i64 o.s) := er
 have e60 : w4.cell? ⟨B6, 0, none⟩ = some (.slice (some ⟨G, 0, none⟩) os.length c1) := hbx3.b6.cell 0
 clear er
 have HN3 := hidden hN3
 have HBX3 := hidden hbx3
 clear hN3 hbx3
 go_upto_region 36 with fail
 clear er' fr e60
 have hN5 := zgs HN3.out hko 4
 have hbx5 := HBX3.out.put HN3.out (k * 9 + 7) (.int .i64 4)
 generalize w4.setCell ⟨G, k * 9 + 7, none⟩ (.int .i64 4) = w5 at *
 clear HN3 HBX3
 have e60 : w5.cell? ⟨B6, 0, none⟩ = some _ := hbx5.b6.cell 0
 have e61 : w5.cell? ⟨B6, 1, none⟩ = some _ := hbx5.b6.cell 1
 have e40 : w5.cell? ⟨B4, 0, none⟩ = some _ := hbx5.b4.cell 0
 have e41 : w5.cell? ⟨B4, 1, none⟩ = some _ := hbx5.b4.cell 1
 have f40 := hbx5.b4.frozen 0
 have f41 := hbx5.b4.frozen 1
 go_wp2_with fail
 exact zaw hbx5 hN5 rfl rfl
end Go.Proofs.YtjlpfpigggdemaaGreatDoor
