/-
 Merged: U24 U25.
-/
import Derived.Test.YtjlpfpigggdemaaGreatDoorMi27
namespace Go.Proofs.YtjlpfpigggdemaaGreatDoor
open Go.RowKit Va Uo
set_option linter.all false
set_option maxRecDepth 20000 in
set_option maxHeartbeats 16000000 in
theorem zka (ao : Option Addr) (cap : Nat) (ad : Option Addr) (dcap : Nat) (os : List Od) (ds : List Ds) (x : Dd) (w : World) (h : Cp.CRw w (.slice ao os.length cap) (.slice ad ds.length dcap) os ds) (hn : os.length <= 100) (hm : ds.length <= 500) (hx : ddB x = true) (hk : x.k = 1) (ha : 0 <= atO os x.o.id) :
  Calls Tryz.prog 50 #[.agg #[.slice ao os.length cap, .slice ad ds.length dcap], aDd x] w (Left os ds 3 w) := by
 have HK := hidden hk
 clear hk
 have HH := hidden h
 clear h
 obtain ⟨hb0, p2, p3, p4⟩ := yh w #[.slice ao os.length cap, .slice ad ds.length dcap] #[.int .i64 x.k, .int .i64 x.o.id, .int .i64 x.o.p, .int .i64 x.o.d, .int .i64 x.o.n, .int .i64 x.o.f, .int .i64 x.o.e, .int .i64 x.o.c, .int .i64 x.o.s, .bool x.o.two, .int .i64 x.id, .int .i64 x.p, .int .i64 x.d, .int .i64 x.n, .int .i64 x.m, .int .i64 x.b, .int .i64 x.a] #[.slice none 0 0, .slice none 0 0] 27 40 27
 unfold aDd
 go_enter Tryz.func50, Tryz.ntmps50
 go_upto_region 1 with fail
 generalize (((w.alloc (.cells #[.slice ao os.length cap, .slice ad ds.length dcap] 27)).alloc (.cells #[.int .i64 x.k, .int .i64 x.o.id, .int .i64 x.o.p, .int .i64 x.o.d, .int .i64 x.o.n, .int .i64 x.o.f, .int .i64 x.o.e, .int .i64 x.o.c, .int .i64 x.o.s, .bool x.o.two, .int .i64 x.id, .int .i64 x.p, .int .i64 x.d, .int .i64 x.n, .int .i64 x.m, .int .i64 x.b, .int .i64 x.a] 40)).alloc (.cells #[.slice none 0 0, .slice none 0 0] 27)) = W0 at *
 have l0 := hb0.size
 have g2 : w.heap.size <= w.heap.size := Nat.le_refl _
 have g3 : w.heap.size <= w.heap.size + 1 := Nat.le_succ _
 have g4 : w.heap.size <= w.heap.size + 1 + 1 := by omega
 have z2 := p2.lt
 have z3 := p3.lt
 have z4 := p4.lt
 generalize hB3 : w.heap.size + 1 = B3 at *
 generalize hB4 : B3 + 1 = B4 at *
 generalize hB2 : w.heap.size = B2 at *
 have e20 : W0.cell? ⟨B2, 0, none⟩ = some _ := p2.cell 0
 have e21 : W0.cell? ⟨B2, 1, none⟩ = some _ := p2.cell 1
 have HC := hidden (Cp.zb5 ao ad os.length cap ds.length dcap os ds W0 (HH.out.below (hB2.symm ▸ hb0)) (by omega) (by omega))
 go_upto_region 2 with ((with_reducible refine HC.out.mono ?_); rintro e w1 ⟨a1, c1, a2, c2, rfl, hN1, hb1⟩)
 have hW1 : Below w1.heap.size w1 (w1.alloc (.cells #[.slice a1 os.length c1, .slice a2 ds.length c2] 27)) := (Below.refl _ _).alloc (Nat.le_refl _) _
 have p6 : PB (w1.alloc (.cells #[.slice a1 os.length c1, .slice a2 ds.length c2] 27)) w1.heap.size #[.slice a1 os.length c1, .slice a2 ds.length c2] 27 := PB.new _ _ _
 have z1 := hb1.size
 have hbx1 : BX w (w1.alloc (.cells #[.slice a1 os.length c1, .slice a2 ds.length c2] 27)) B2 B3 B4 w1.heap.size ao ad os.length cap ds.length dcap x (.slice a1 os.length c1) (.slice a2 ds.length c2) := by
  refine ⟨(p2.below hb1).below hW1, (p3.below hb1).below hW1, (p4.below hb1).below hW1, p6, ?_, by omega, by omega, by omega, by omega, by omega, by omega, by omega⟩
  rw [hB2]
  exact (hb0.trans (hb1.mono l0)).trans (hW1.mono (by omega))
 have hN2 : Cp.zo (w1.alloc (.cells #[.slice a1 os.length c1, .slice a2 ds.length c2] 27)) w.heap.size (.slice a1 os.length c1) (.slice a2 ds.length c2) os ds := (hN1.below hW1).zbr (by omega)
 have hR1 : Cp.CRw (w1.alloc (.cells #[.slice a1 os.length c1, .slice a2 ds.length c2] 27)) (.slice ao os.length cap) (.slice ad ds.length dcap) os ds := HH.out.below hbx1.below
 clear HC hN1 p6 p2 p3 p4 hb0 e20 e21 HH hb1
 generalize w1.alloc (.cells #[.slice a1 os.length c1, .slice a2 ds.length c2] 27) = W1 at *
 clear hW1 z1 z2 z3 z4 l0 g2 g3 g4
 generalize w1.heap.size = B6 at *
 clear hB3 hB4 hB2
 have HD := hidden (zb1 x W1)
 obtain ⟨e30, ⟨e31, e32, e33, e34, e35, e36, e37, e38, e39⟩, e3a, e3b, e3c, e3d, e3e, e3f, e3g⟩ := hbx1.b3.deed
 have HBX := hidden hbx1
 have HN := hidden hN2
 have HR := hidden hR1
 clear hbx1 hN2 hR1
 unfold aDd at HD
 rw [hx] at HD
 go_upto_region 4 with ((with_reducible refine HD.out.mono ?_); rintro e w2 ⟨rfl, hb2⟩)
 have hbx := HBX.out.step hb2
 have hN := HN.out.below hb2
 have hR := HR.out.below hb2
 clear HBX HN HR HD hb2 e30 e31 e32 e33 e34 e35 e36 e37 e38 e39 e3a e3b e3c e3d e3e e3f e3g
 have e30 : w2.cell? ⟨B3, 0, none⟩ = some (.int .i64 1) := by rw [hbx.b3.cell 0]; simp [HK.out]
 have e31 : w2.cell? ⟨B3, 1, none⟩ = some (.int .i64 x.o.id) := hbx.b3.cell 1
 have e20 : w2.cell? ⟨B2, 0, none⟩ = some _ := hbx.b2.cell 0
 have HA := hidden (zb7 ao os.length cap os x.o.id w2 hR.1 (by omega))
 go_upto_region 6 with ((with_reducible refine HA.out.mono ?_); rintro e w3 ⟨rfl, h3⟩; obtain rfl := h3.symm)
 clear HA
 have e60 : w2.cell? ⟨B6, 0, none⟩ = some _ := hbx.b6.cell 0
 have e61 : w2.cell? ⟨B6, 1, none⟩ = some _ := hbx.b6.cell 1
 have e40 : w2.cell? ⟨B4, 0, none⟩ = some _ := hbx.b4.cell 0
 have e41 : w2.cell? ⟨B4, 1, none⟩ = some _ := hbx.b4.cell 1
 have f40 := hbx.b4.frozen 0
 have f41 := hbx.b4.frozen 1
 clear e30 e31 e20
 go_wp2_with fail
 exact zaw hbx hN rfl rfl
set_option maxRecDepth 20000 in
set_option maxHeartbeats 16000000 in
theorem sdo_full (ao : Option Addr) (cap : Nat) (ad : Option Addr) (dcap : Nat) (os : List Od) (ds : List Ds) (x : Dd) (w : World) (h : Cp.CRw w (.slice ao os.length cap) (.slice ad ds.length dcap) os ds) (hn : os.length <= 100) (hm : ds.length <= 500) (hx : ddB x = true) (hk : x.k = 1) (ha : atO os x.o.id < 0) (hl : os.length = 100) :
  Calls Tryz.prog 50 #[.agg #[.slice ao os.length cap, .slice ad ds.length dcap], aDd x] w (Left os ds 12 w) := by
 have HK := hidden hk
 have HL := hidden hl
 clear hk hl
 have HH := hidden h
 clear h
 obtain ⟨hb0, p2, p3, p4⟩ := yh w #[.slice ao os.length cap, .slice ad ds.length dcap] #[.int .i64 x.k, .int .i64 x.o.id, .int .i64 x.o.p, .int .i64 x.o.d, .int .i64 x.o.n, .int .i64 x.o.f, .int .i64 x.o.e, .int .i64 x.o.c, .int .i64 x.o.s, .bool x.o.two, .int .i64 x.id, .int .i64 x.p, .int .i64 x.d, .int .i64 x.n, .int .i64 x.m, .int .i64 x.b, .int .i64 x.a] #[.slice none 0 0, .slice none 0 0] 27 40 27
 unfold aDd
 go_enter Tryz.func50, Tryz.ntmps50
 go_upto_region 1 with fail
 generalize (((w.alloc (.cells #[.slice ao os.length cap, .slice ad ds.length dcap] 27)).alloc (.cells #[.int .i64 x.k, .int .i64 x.o.id, .int .i64 x.o.p, .int .i64 x.o.d, .int .i64 x.o.n, .int .i64 x.o.f, .int .i64 x.o.e, .int .i64 x.o.c, .int .i64 x.o.s, .bool x.o.two, .int .i64 x.id, .int .i64 x.p, .int .i64 x.d, .int .i64 x.n, .int .i64 x.m, .int .i64 x.b, .int .i64 x.a] 40)).alloc (.cells #[.slice none 0 0, .slice none 0 0] 27)) = W0 at *
 have l0 := hb0.size
 have g2 : w.heap.size <= w.heap.size := Nat.le_refl _
 have g3 : w.heap.size <= w.heap.size + 1 := Nat.le_succ _
 have g4 : w.heap.size <= w.heap.size + 1 + 1 := by omega
 have z2 := p2.lt
 have z3 := p3.lt
 have z4 := p4.lt
 generalize hB3 : w.heap.size + 1 = B3 at *
 generalize hB4 : B3 + 1 = B4 at *
 generalize hB2 : w.heap.size = B2 at *
 have e20 : W0.cell? ⟨B2, 0, none⟩ = some _ := p2.cell 0
 have e21 : W0.cell? ⟨B2, 1, none⟩ = some _ := p2.cell 1
 have HC := hidden (Cp.zb5 ao ad os.length cap ds.length dcap os ds W0 (HH.out.below (hB2.symm ▸ hb0)) (by omega) (by omega))
 go_upto_region 2 with ((with_reducible refine HC.out.mono ?_); rintro e w1 ⟨a1, c1, a2, c2, rfl, hN1, hb1⟩)
 have hW1 : Below w1.heap.size w1 (w1.alloc (.cells #[.slice a1 os.length c1, .slice a2 ds.length c2] 27)) := (Below.refl _ _).alloc (Nat.le_refl _) _
 have p6 : PB (w1.alloc (.cells #[.slice a1 os.length c1, .slice a2 ds.length c2] 27)) w1.heap.size #[.slice a1 os.length c1, .slice a2 ds.length c2] 27 := PB.new _ _ _
 have z1 := hb1.size
 have hbx1 : BX w (w1.alloc (.cells #[.slice a1 os.length c1, .slice a2 ds.length c2] 27)) B2 B3 B4 w1.heap.size ao ad os.length cap ds.length dcap x (.slice a1 os.length c1) (.slice a2 ds.length c2) := by
  refine ⟨(p2.below hb1).below hW1, (p3.below hb1).below hW1, (p4.below hb1).below hW1, p6, ?_, by omega, by omega, by omega, by omega, by omega, by omega, by omega⟩
  rw [hB2]
  exact (hb0.trans (hb1.mono l0)).trans (hW1.mono (by omega))
 have hN2 : Cp.zo (w1.alloc (.cells #[.slice a1 os.length c1, .slice a2 ds.length c2] 27)) w.heap.size (.slice a1 os.length c1) (.slice a2 ds.length c2) os ds := (hN1.below hW1).zbr (by omega)
 have hR1 : Cp.CRw (w1.alloc (.cells #[.slice a1 os.length c1, .slice a2 ds.length c2] 27)) (.slice ao os.length cap) (.slice ad ds.length dcap) os ds := HH.out.below hbx1.below
 clear HC hN1 p6 p2 p3 p4 hb0 e20 e21 HH hb1
 generalize w1.alloc (.cells #[.slice a1 os.length c1, .slice a2 ds.length c2] 27) = W1 at *
 clear hW1 z1 z2 z3 z4 l0 g2 g3 g4
 generalize w1.heap.size = B6 at *
 clear hB3 hB4 hB2
 have HD := hidden (zb1 x W1)
 obtain ⟨e30, ⟨e31, e32, e33, e34, e35, e36, e37, e38, e39⟩, e3a, e3b, e3c, e3d, e3e, e3f, e3g⟩ := hbx1.b3.deed
 have HBX := hidden hbx1
 have HN := hidden hN2
 have HR := hidden hR1
 clear hbx1 hN2 hR1
 unfold aDd at HD
 rw [hx] at HD
 go_upto_region 4 with ((with_reducible refine HD.out.mono ?_); rintro e w2 ⟨rfl, hb2⟩)
 have hbx := HBX.out.step hb2
 have hN := HN.out.below hb2
 have hR := HR.out.below hb2
 clear HBX HN HR HD hb2 e30 e31 e32 e33 e34 e35 e36 e37 e38 e39 e3a e3b e3c e3d e3e e3f e3g
 have e30 : w2.cell? ⟨B3, 0, none⟩ = some (.int .i64 1) := by rw [hbx.b3.cell 0]; simp [HK.out]
 have e31 : w2.cell? ⟨B3, 1, none⟩ = some (.int .i64 x.o.id) := hbx.b3.cell 1
 have e20 : w2.cell? ⟨B2, 0, none⟩ = some _ := hbx.b2.cell 0
 have HA := hidden (zb7 ao os.length cap os x.o.id w2 hR.1 (by omega))
 have hlen : (os.length : Int) = 100 := by have := HL.out; omega
 go_upto_region 8 with ((with_reducible refine HA.out.mono ?_); rintro e w3 ⟨rfl, h3⟩; obtain rfl := h3.symm)
 clear HA
 have e60 : w2.cell? ⟨B6, 0, none⟩ = some _ := hbx.b6.cell 0
 have e61 : w2.cell? ⟨B6, 1, none⟩ = some _ := hbx.b6.cell 1
 have e40 : w2.cell? ⟨B4, 0, none⟩ = some _ := hbx.b4.cell 0
 have e41 : w2.cell? ⟨B4, 1, none⟩ = some _ := hbx.b4.cell 1
 have f40 := hbx.b4.frozen 0
 have f41 := hbx.b4.frozen 1
 clear e30 e31 e20
 go_wp2_with fail
 exact zaw hbx hN rfl rfl
end Go.Proofs.YtjlpfpigggdemaaGreatDoor
namespace Go.Proofs.YtjlpfpigggdemaaGreatDoor
open Go.RowKit Va Uo
set_option linter.all false
set_option maxRecDepth 20000 in
set_option maxHeartbeats 16000000 in
theorem sdo_none (ao : Option Addr) (cap : Nat) (ad : Option Addr) (dcap : Nat) (os : List Od) (ds : List Ds) (x : Dd) (w : World) (h : Cp.CRw w (.slice ao os.length cap) (.slice ad ds.length dcap) os ds) (hn : os.length <= 100) (hm : ds.length <= 500) (hx : ddB x = true) (hk : ¬ x.k = 1) (ha : atO os x.id < 0) :
  Calls Tryz.prog 50 #[.agg #[.slice ao os.length cap, .slice ad ds.length dcap], aDd x] w (Left os ds 4 w) := by
 have HH := hidden h
 clear h
 obtain ⟨hb0, p2, p3, p4⟩ := yh w #[.slice ao os.length cap, .slice ad ds.length dcap] #[.int .i64 x.k, .int .i64 x.o.id, .int .i64 x.o.p, .int .i64 x.o.d, .int .i64 x.o.n, .int .i64 x.o.f, .int .i64 x.o.e, .int .i64 x.o.c, .int .i64 x.o.s, .bool x.o.two, .int .i64 x.id, .int .i64 x.p, .int .i64 x.d, .int .i64 x.n, .int .i64 x.m, .int .i64 x.b, .int .i64 x.a] #[.slice none 0 0, .slice none 0 0] 27 40 27
 unfold aDd
 go_enter Tryz.func50, Tryz.ntmps50
 go_upto_region 1 with fail
 generalize (((w.alloc (.cells #[.slice ao os.length cap, .slice ad ds.length dcap] 27)).alloc (.cells #[.int .i64 x.k, .int .i64 x.o.id, .int .i64 x.o.p, .int .i64 x.o.d, .int .i64 x.o.n, .int .i64 x.o.f, .int .i64 x.o.e, .int .i64 x.o.c, .int .i64 x.o.s, .bool x.o.two, .int .i64 x.id, .int .i64 x.p, .int .i64 x.d, .int .i64 x.n, .int .i64 x.m, .int .i64 x.b, .int .i64 x.a] 40)).alloc (.cells #[.slice none 0 0, .slice none 0 0] 27)) = W0 at *
 have l0 := hb0.size
 have g2 : w.heap.size <= w.heap.size := Nat.le_refl _
 have g3 : w.heap.size <= w.heap.size + 1 := Nat.le_succ _
 have g4 : w.heap.size <= w.heap.size + 1 + 1 := by omega
 have z2 := p2.lt
 have z3 := p3.lt
 have z4 := p4.lt
 generalize hB3 : w.heap.size + 1 = B3 at *
 generalize hB4 : B3 + 1 = B4 at *
 generalize hB2 : w.heap.size = B2 at *
 have e20 : W0.cell? ⟨B2, 0, none⟩ = some _ := p2.cell 0
 have e21 : W0.cell? ⟨B2, 1, none⟩ = some _ := p2.cell 1
 have HC := hidden (Cp.zb5 ao ad os.length cap ds.length dcap os ds W0 (HH.out.below (hB2.symm ▸ hb0)) (by omega) (by omega))
 go_upto_region 2 with ((with_reducible refine HC.out.mono ?_); rintro e w1 ⟨a1, c1, a2, c2, rfl, hN1, hb1⟩)
 have hW1 : Below w1.heap.size w1 (w1.alloc (.cells #[.slice a1 os.length c1, .slice a2 ds.length c2] 27)) := (Below.refl _ _).alloc (Nat.le_refl _) _
 have p6 : PB (w1.alloc (.cells #[.slice a1 os.length c1, .slice a2 ds.length c2] 27)) w1.heap.size #[.slice a1 os.length c1, .slice a2 ds.length c2] 27 := PB.new _ _ _
 have z1 := hb1.size
 have hbx1 : BX w (w1.alloc (.cells #[.slice a1 os.length c1, .slice a2 ds.length c2] 27)) B2 B3 B4 w1.heap.size ao ad os.length cap ds.length dcap x (.slice a1 os.length c1) (.slice a2 ds.length c2) := by
  refine ⟨(p2.below hb1).below hW1, (p3.below hb1).below hW1, (p4.below hb1).below hW1, p6, ?_, by omega, by omega, by omega, by omega, by omega, by omega, by omega⟩
  rw [hB2]
  exact (hb0.trans (hb1.mono l0)).trans (hW1.mono (by omega))
 have hN2 : Cp.zo (w1.alloc (.cells #[.slice a1 os.length c1, .slice a2 ds.length c2] 27)) w.heap.size (.slice a1 os.length c1) (.slice a2 ds.length c2) os ds := (hN1.below hW1).zbr (by omega)
 have hR1 : Cp.CRw (w1.alloc (.cells #[.slice a1 os.length c1, .slice a2 ds.length c2] 27)) (.slice ao os.length cap) (.slice ad ds.length dcap) os ds := HH.out.below hbx1.below
 clear HC hN1 p6 p2 p3 p4 hb0 e20 e21 HH hb1
 generalize w1.alloc (.cells #[.slice a1 os.length c1, .slice a2 ds.length c2] 27) = W1 at *
 clear hW1 z1 z2 z3 z4 l0 g2 g3 g4
 generalize w1.heap.size = B6 at *
 clear hB3 hB4 hB2
 have HD := hidden (zb1 x W1)
 obtain ⟨e30, ⟨e31, e32, e33, e34, e35, e36, e37, e38, e39⟩, e3a, e3b, e3c, e3d, e3e, e3f, e3g⟩ := hbx1.b3.deed
 have HBX := hidden hbx1
 have HN := hidden hN2
 have HR := hidden hR1
 clear hbx1 hN2 hR1
 unfold aDd at HD
 rw [hx] at HD
 go_upto_region 4 with ((with_reducible refine HD.out.mono ?_); rintro e w2 ⟨rfl, hb2⟩)
 have hbx := HBX.out.step hb2
 have hN := HN.out.below hb2
 have hR := HR.out.below hb2
 clear HBX HN HR HD hb2 e30 e31 e32 e33 e34 e35 e36 e37 e38 e39 e3a e3b e3c e3d e3e e3f e3g
 have e30 : w2.cell? ⟨B3, 0, none⟩ = some (.int .i64 x.k) := hbx.b3.cell 0
 have e3a : w2.cell? ⟨B3, 10, none⟩ = some (.int .i64 x.id) := hbx.b3.cell 10
 have e20 : w2.cell? ⟨B2, 0, none⟩ = some _ := hbx.b2.cell 0
 have HA := hidden (zb7 ao os.length cap os x.id w2 hR.1 (by omega))
 go_upto_region 23 with ((with_reducible refine HA.out.mono ?_); rintro e w3 ⟨rfl, h3⟩; obtain rfl := h3.symm)
 clear HA
 have e60 : w2.cell? ⟨B6, 0, none⟩ = some _ := hbx.b6.cell 0
 have e61 : w2.cell? ⟨B6, 1, none⟩ = some _ := hbx.b6.cell 1
 have e40 : w2.cell? ⟨B4, 0, none⟩ = some _ := hbx.b4.cell 0
 have e41 : w2.cell? ⟨B4, 1, none⟩ = some _ := hbx.b4.cell 1
 have f40 := hbx.b4.frozen 0
 have f41 := hbx.b4.frozen 1
 clear e30 e3a e20
 go_wp2_with fail
 exact zaw hbx hN rfl rfl
set_option maxRecDepth 20000 in
set_option maxHeartbeats 16000000 in
theorem zkq (ao : Option Addr) (cap : Nat) (ad : Option Addr) (dcap : Nat) (os : List Od) (ds : List Ds) (x : Dd) (w : World) (h : Cp.CRw w (.slice ao os.length cap) (.slice ad ds.length dcap) os ds) (hn : os.length <= 100) (hm : ds.length <= 500) (hx : ddB x = true) (hk1 : ¬ x.k = 1) (k : Nat) (o : Od) (hat : atO os x.id = (k : Int)) (hko : os[k]? = some o) (hf : yc o.s x.k = false) :
  Calls Tryz.prog 50 #[.agg #[.slice ao os.length cap, .slice ad ds.length dcap], aDd x] w (Left os ds 5 w) := by
 have HAT := hidden hat
 have HF := hidden hf
 clear hat hf
 have HH := hidden h
 clear h
 obtain ⟨hb0, p2, p3, p4⟩ := yh w #[.slice ao os.length cap, .slice ad ds.length dcap] #[.int .i64 x.k, .int .i64 x.o.id, .int .i64 x.o.p, .int .i64 x.o.d, .int .i64 x.o.n, .int .i64 x.o.f, .int .i64 x.o.e, .int .i64 x.o.c, .int .i64 x.o.s, .bool x.o.two, .int .i64 x.id, .int .i64 x.p, .int .i64 x.d, .int .i64 x.n, .int .i64 x.m, .int .i64 x.b, .int .i64 x.a] #[.slice none 0 0, .slice none 0 0] 27 40 27
 unfold aDd
 go_enter Tryz.func50, Tryz.ntmps50
 go_upto_region 1 with fail
 generalize (((w.alloc (.cells #[.slice ao os.length cap, .slice ad ds.length dcap] 27)).alloc (.cells #[.int .i64 x.k, .int .i64 x.o.id, .int .i64 x.o.p, .int .i64 x.o.d, .int .i64 x.o.n, .int .i64 x.o.f, .int .i64 x.o.e, .int .i64 x.o.c, .int .i64 x.o.s, .bool x.o.two, .int .i64 x.id, .int .i64 x.p, .int .i64 x.d, .int .i64 x.n, .int .i64 x.m, .int .i64 x.b, .int .i64 x.a] 40)).alloc (.cells #[.slice none 0 0, .slice none 0 0] 27)) = W0 at *
 have l0 := hb0.size
 have g2 : w.heap.size <= w.heap.size := Nat.le_refl _
 have g3 : w.heap.size <= w.heap.size + 1 := Nat.le_succ _
 have g4 : w.heap.size <= w.heap.size + 1 + 1 := by omega
 have z2 := p2.lt
 have z3 := p3.lt
 have z4 := p4.lt
 generalize hB3 : w.heap.size + 1 = B3 at *
 generalize hB4 : B3 + 1 = B4 at *
 generalize hB2 : w.heap.size = B2 at *
 have e20 : W0.cell? ⟨B2, 0, none⟩ = some _ := p2.cell 0
 have e21 : W0.cell? ⟨B2, 1, none⟩ = some _ := p2.cell 1
 have HC := hidden (Cp.zb5 ao ad os.length cap ds.length dcap os ds W0 (HH.out.below (hB2.symm ▸ hb0)) (by omega) (by omega))
 go_upto_region 2 with ((with_reducible refine HC.out.mono ?_); rintro e w1 ⟨a1, c1, a2, c2, rfl, hN1, hb1⟩)
 have hW1 : Below w1.heap.size w1 (w1.alloc (.cells #[.slice a1 os.length c1, .slice a2 ds.length c2] 27)) := (Below.refl _ _).alloc (Nat.le_refl _) _
 have p6 : PB (w1.alloc (.cells #[.slice a1 os.length c1, .slice a2 ds.length c2] 27)) w1.heap.size #[.slice a1 os.length c1, .slice a2 ds.length c2] 27 := PB.new _ _ _
 have z1 := hb1.size
 have hbx1 : BX w (w1.alloc (.cells #[.slice a1 os.length c1, .slice a2 ds.length c2] 27)) B2 B3 B4 w1.heap.size ao ad os.length cap ds.length dcap x (.slice a1 os.length c1) (.slice a2 ds.length c2) := by
  refine ⟨(p2.below hb1).below hW1, (p3.below hb1).below hW1, (p4.below hb1).below hW1, p6, ?_, by omega, by omega, by omega, by omega, by omega, by omega, by omega⟩
  rw [hB2]
  exact (hb0.trans (hb1.mono l0)).trans (hW1.mono (by omega))
 have hN2 : Cp.zo (w1.alloc (.cells #[.slice a1 os.length c1, .slice a2 ds.length c2] 27)) w.heap.size (.slice a1 os.length c1) (.slice a2 ds.length c2) os ds := (hN1.below hW1).zbr (by omega)
 have hR1 : Cp.CRw (w1.alloc (.cells #[.slice a1 os.length c1, .slice a2 ds.length c2] 27)) (.slice ao os.length cap) (.slice ad ds.length dcap) os ds := HH.out.below hbx1.below
 clear HC hN1 p6 p2 p3 p4 hb0 e20 e21 HH hb1
 generalize w1.alloc (.cells #[.slice a1 os.length c1, .slice a2 ds.length c2] 27) = W1 at *
 clear hW1 z1 z2 z3 z4 l0 g2 g3 g4
 generalize w1.heap.size = B6 at *
 clear hB3 hB4 hB2
 have HD := hidden (zb1 x W1)
 obtain ⟨e30, ⟨e31, e32, e33, e34, e35, e36, e37, e38, e39⟩, e3a, e3b, e3c, e3d, e3e, e3f, e3g⟩ := hbx1.b3.deed
 have HBX := hidden hbx1
 have HN := hidden hN2
 have HR := hidden hR1
 clear hbx1 hN2 hR1
 unfold aDd at HD
 rw [hx] at HD
 go_upto_region 4 with ((with_reducible refine HD.out.mono ?_); rintro e w2 ⟨rfl, hb2⟩)
 have hbx := HBX.out.step hb2
 have hN := HN.out.below hb2
 have hR := HR.out.below hb2
 clear HBX HN HR HD hb2 e30 e31 e32 e33 e34 e35 e36 e37 e38 e39 e3a e3b e3c e3d e3e e3f e3g
 have e30 : w2.cell? ⟨B3, 0, none⟩ = some (.int .i64 x.k) := hbx.b3.cell 0
 have e3a : w2.cell? ⟨B3, 10, none⟩ = some (.int .i64 x.id) := hbx.b3.cell 10
 have e20 : w2.cell? ⟨B2, 0, none⟩ = some _ := hbx.b2.cell 0
 have HA := hidden (zb7 ao os.length cap os x.id w2 hR.1 (by omega))
 obtain ⟨g, off, rfl, hgl, hrow⟩ := hR.1.at hko
 have r0 : w2.cell? ⟨g, off + k * 9, none⟩ = some (.int .i64 o.id) := hrow 0 (by decide)
 have r1 : w2.cell? ⟨g, off + k * 9 + 1, none⟩ = some (.int .i64 o.p) := hrow 1 (by decide)
 have r2 : w2.cell? ⟨g, off + k * 9 + 2, none⟩ = some (.int .i64 o.d) := hrow 2 (by decide)
 have r3 : w2.cell? ⟨g, off + k * 9 + 3, none⟩ = some (.int .i64 o.n) := hrow 3 (by decide)
 have r4 : w2.cell? ⟨g, off + k * 9 + 4, none⟩ = some (.int .i64 o.f) := hrow 4 (by decide)
 have r5 : w2.cell? ⟨g, off + k * 9 + 5, none⟩ = some (.int .i64 o.e) := hrow 5 (by decide)
 have r6 : w2.cell? ⟨g, off + k * 9 + 6, none⟩ = some (.int .i64 o.c) := hrow 6 (by decide)
 have r7 : w2.cell? ⟨g, off + k * 9 + 7, none⟩ = some (.int .i64 o.s) := hrow 7 (by decide)
 have r8 : w2.cell? ⟨g, off + k * 9 + 8, none⟩ = some (.bool o.two) := hrow 8 (by decide)
 have hkl : (k : Int) < (os.length : Int) := by have := (List.getElem?_eq_some_iff.1 hko).1; omega
 have hk0 : (0 : Int) <= (k : Int) := by omega
 clear hrow
 rw [HAT.out] at HA
 go_upto_region 25 with ((with_reducible refine HA.out.mono ?_); rintro e w3 ⟨rfl, h3⟩; obtain rfl := h3.symm)
 have hW3 : Below w2.heap.size w2 (w2.alloc (.cells #[.int .i64 o.id, .int .i64 o.p, .int .i64 o.d, .int .i64 o.n, .int .i64 o.f, .int .i64 o.e, .int .i64 o.c, .int .i64 o.s, .bool o.two] 38)) := (Below.refl _ _).alloc (Nat.le_refl _) _
 have p10 : PB (w2.alloc (.cells #[.int .i64 o.id, .int .i64 o.p, .int .i64 o.d, .int .i64 o.n, .int .i64 o.f, .int .i64 o.e, .int .i64 o.c, .int .i64 o.s, .bool o.two] 38)) w2.heap.size #[.int .i64 o.id, .int .i64 o.p, .int .i64 o.d, .int .i64 o.n, .int .i64 o.f, .int .i64 o.e, .int .i64 o.c, .int .i64 o.s, .bool o.two] 38 := PB.new _ _ _
 have l10 : w.heap.size <= w2.heap.size := hbx.below.size
 have hbx3 := hbx.step hW3
 have hN3 := hN.below hW3
 have hR3 := hR.below hW3
 clear HA r0 r1 r2 r3 r4 r5 r6 r7 r8 e30 e3a e20 hbx hN hR
 generalize w2.alloc (.cells #[.int .i64 o.id, .int .i64 o.p, .int .i64 o.d, .int .i64 o.n, .int .i64 o.f, .int .i64 o.e, .int .i64 o.c, .int .i64 o.s, .bool o.two] 38) = w4 at *
 clear hW3
 generalize w2.heap.size = B10 at *
 have e30 : w4.cell? ⟨B3, 0, none⟩ = some (.int .i64 x.k) := hbx3.b3.cell 0
 have ea7 : w4.cell? ⟨B10, 7, none⟩ = some (.int .i64 o.s) := p10.cell 7
 have kf := zer o.s x.k w4
 rw [HF.out] at kf
 go_upto_region 26 with ((with_reducible refine kf.mono ?_); rintro e w5 ⟨rfl, h5⟩; obtain rfl := h5)
 clear kf
 have e60 : w4.cell? ⟨B6, 0, none⟩ = some _ := hbx3.b6.cell 0
 have e61 : w4.cell? ⟨B6, 1, none⟩ = some _ := hbx3.b6.cell 1
 have e40 : w4.cell? ⟨B4, 0, none⟩ = some _ := hbx3.b4.cell 0
 have e41 : w4.cell? ⟨B4, 1, none⟩ = some _ := hbx3.b4.cell 1
 have f40 := hbx3.b4.frozen 0
 have f41 := hbx3.b4.frozen 1
 clear e30 ea7
 go_wp2_with fail
 exact zaw hbx3 hN3 rfl rfl
end Go.Proofs.YtjlpfpigggdemaaGreatDoor
