/-
 Merged: U40 U42.
-/
import Derived.Test.YtjlpfpigggdemaaGreatDoorMi23
import Derived.Test.YtjlpfpigggdemaaGreatDoorMi10
namespace Go.Proofs.YtjlpfpigggdemaaGreatDoor
open Go.RowKit Va Uo
set_option linter.all false
set_option maxRecDepth 20000 in
set_option maxHeartbeats 16000000 in
theorem zj0 (vb vs : Value) (os : List Od) (ds : List Ds) (base : Nat) (x : Dd) (w : World) (h : Cp.zo w base vb vs os ds) (hbase : base <= w.heap.size) (hn : os.length <= 100) (hr : Ris os) (hm : ds.length <= 500) (hbd : ∀ (i : Nat) (d : Ds), ds[i]? = some d -> Bd d.o /\ Bd d.t) (ht : zl x.m = true) (k : Nat) (oo : Od) (hat : atO os x.id = (k : Int)) (hko : os[k]? = some oo) (hod : odB oo = true) (hd : ¬ (oo.s = 2 /\ x.p = oo.p /\ x.d = oo.d /\ x.n = oo.n)) :
  Calls Tryz.prog 47 #[.agg #[vb, vs], aDd x] w (WD base vb os ds x oo w) := by
 obtain ⟨a1, c1, a2, c2, rfl, rfl⟩ := h.form
 obtain ⟨hb0, p2, p3, p4⟩ := yh w #[.slice a1 os.length c1, .slice a2 ds.length c2] #[.int .i64 x.k, .int .i64 x.o.id, .int .i64 x.o.p, .int .i64 x.o.d, .int .i64 x.o.n, .int .i64 x.o.f, .int .i64 x.o.e, .int .i64 x.o.c, .int .i64 x.o.s, .bool x.o.two, .int .i64 x.id, .int .i64 x.p, .int .i64 x.d, .int .i64 x.n, .int .i64 x.m, .int .i64 x.b, .int .i64 x.a] #[.slice none 0 0, .slice none 0 0] 27 40 27
 have hN0 := h.below hb0
 have HN := hidden hN0
 have hsz0 : w.heap.size + 1 + 1 + 1 = (((w.alloc (.cells #[.slice a1 os.length c1, .slice a2 ds.length c2] 27)).alloc (.cells #[.int .i64 x.k, .int .i64 x.o.id, .int .i64 x.o.p, .int .i64 x.o.d, .int .i64 x.o.n, .int .i64 x.o.f, .int .i64 x.o.e, .int .i64 x.o.c, .int .i64 x.o.s, .bool x.o.two, .int .i64 x.id, .int .i64 x.p, .int .i64 x.d, .int .i64 x.n, .int .i64 x.m, .int .i64 x.b, .int .i64 x.a] 40)).alloc (.cells #[.slice none 0 0, .slice none 0 0] 27)).heap.size := by simp
 unfold aDd
 clear h hN0
 go_enter Tryz.func47, Tryz.ntmps47
 go_upto_region 1 with fail
 generalize (((w.alloc (.cells #[.slice a1 os.length c1, .slice a2 ds.length c2] 27)).alloc (.cells #[.int .i64 x.k, .int .i64 x.o.id, .int .i64 x.o.p, .int .i64 x.o.d, .int .i64 x.o.n, .int .i64 x.o.f, .int .i64 x.o.e, .int .i64 x.o.c, .int .i64 x.o.s, .bool x.o.two, .int .i64 x.id, .int .i64 x.p, .int .i64 x.d, .int .i64 x.n, .int .i64 x.m, .int .i64 x.b, .int .i64 x.a] 40)).alloc (.cells #[.slice none 0 0, .slice none 0 0] 27)) = W0 at *
 have z0 := hb0.size
 have HB0 := hidden hb0
 have P2 := hidden p2
 have P3 := hidden p3
 have P4 := hidden p4
 have e20 : W0.cell? ⟨w.heap.size, 0, none⟩ = some _ := p2.cell 0
 have e21 : W0.cell? ⟨w.heap.size, 1, none⟩ = some _ := p2.cell 1
 obtain ⟨d0, ⟨d1, d2, d3, d4, d5, d6, d7, d8, d9⟩, da, db, dc, dd, de, df, dg⟩ := p3.deed
 clear p2 p3 p4 hb0
 have hPL := zcc a1 os.length c1 (.slice a2 ds.length c2) os x.id W0 (za1 rfl HN.out.1).row (by omega) hr ⟨_, _, _, rfl⟩
 have HYES : Hid (∀ k', Cut os x.id k' -> k' = k /\ qm os x.id k' = true) := fun k' hc => by
  cases hq : qm os x.id k' with
  | false => have := zdz hr hc hq; omega
  | true => have := (zbx hr hc hq).1; exact ⟨by omega, rfl⟩
 have kN := fun W => zbz x 4 W
 have hkl : k < os.length := (List.getElem?_eq_some_iff.1 hko).1
 clear hat hr
 have HD := hidden hd
 clear hd
 have HBD := hidden hbd
 clear hbd
 clear d0 d1 d2 d3 d4 d5 d6 d7 d8 d9 db dc dd de df dg
 go_upto_region 2 with (go_at_call 53; refine hPL.mono ?_; rintro e w1 ⟨k', hcut, rfl, hb1⟩; obtain ⟨rfl, hia⟩ := HYES.out k' hcut; rw [hia]; have bA := onto HB0.out hb1; have P21 := hidden (P2.out.below hb1); have P31 := hidden (P3.out.below hb1); have P41 := hidden (P4.out.below hb1); have N1 := hidden (HN.out.below hb1); have z1 := hb1.size; clear hb1 hcut)
 clear da
 go_upto_region 3 with (first | (refine wpList_load_row rfl 40 (.tmp 3) rfl (w.heap.size + 1) rfl 40 #[.int .i64 x.k, .int .i64 x.o.id, .int .i64 x.o.p, .int .i64 x.o.d, .int .i64 x.o.n, .int .i64 x.o.f, .int .i64 x.o.e, .int .i64 x.o.c, .int .i64 x.o.s, .bool x.o.two, .int .i64 x.id, .int .i64 x.p, .int .i64 x.d, .int .i64 x.n, .int .i64 x.m, .int .i64 x.b, .int .i64 x.a] (0, 0) _ P31.out Tryz.underlying40 rfl (by kernel_rfl) ?_) | (go_at_call 44; with_reducible refine (kN _).mono ?_; rintro e w2 ⟨rfl, hb2⟩; have b2 := onto bA hb2; have P22 := hidden (P21.out.below hb2); have P32 := hidden (P31.out.below hb2); have P42 := hidden (P41.out.below hb2); have N2 := hidden (N1.out.below hb2); have z2 := hb2.size; clear hb2))
 clear kN P21 P31 P41 N1 bA hPL HYES HN HB0 P2 P3 P4 e20 e21
 obtain ⟨G, rfl⟩ := zeh N2.out.1 (by omega)
 have HR := fun j hj => (jw N2.out.1 (jg os k' oo hko j hj)).1
 have r0 : w2.cell? ⟨G, k' * 9, none⟩ = some (.int .i64 oo.id) := HR 0 (by decide)
 have r1 : w2.cell? ⟨G, k' * 9 + 1, none⟩ = some (.int .i64 oo.p) := HR 1 (by decide)
 have r2 : w2.cell? ⟨G, k' * 9 + 2, none⟩ = some (.int .i64 oo.d) := HR 2 (by decide)
 have r3 : w2.cell? ⟨G, k' * 9 + 3, none⟩ = some (.int .i64 oo.n) := HR 3 (by decide)
 have r4 : w2.cell? ⟨G, k' * 9 + 4, none⟩ = some (.int .i64 oo.f) := HR 4 (by decide)
 have r5 : w2.cell? ⟨G, k' * 9 + 5, none⟩ = some (.int .i64 oo.e) := HR 5 (by decide)
 have r6 : w2.cell? ⟨G, k' * 9 + 6, none⟩ = some (.int .i64 oo.c) := HR 6 (by decide)
 have r7 : w2.cell? ⟨G, k' * 9 + 7, none⟩ = some (.int .i64 oo.s) := HR 7 (by decide)
 have r8 : w2.cell? ⟨G, k' * 9 + 8, none⟩ = some (.bool oo.two) := HR 8 (by decide)
 clear HR
 obtain ⟨q20, q21⟩ := P22.out.two
 have hk1 : (k' : Int) < (os.length : Int) := by omega
 have hk2 : (0 : Int) <= (k' : Int) := by omega
 go_upto_region 4 with fail
 clear r0 r1 r2 r3 r4 r5 r6 r7 r8 q20 q21
 have hb3 : Below w2.heap.size w2 (w2.alloc (.cells #[.int .i64 oo.id, .int .i64 oo.p, .int .i64 oo.d, .int .i64 oo.n, .int .i64 oo.f, .int .i64 oo.e, .int .i64 oo.c, .int .i64 oo.s, .bool oo.two] 38)) := (Below.refl _ _).alloc (Nat.le_refl _) _
 have P73 := hidden (PB.new w2 #[.int .i64 oo.id, .int .i64 oo.p, .int .i64 oo.d, .int .i64 oo.n, .int .i64 oo.f, .int .i64 oo.e, .int .i64 oo.c, .int .i64 oo.s, .bool oo.two] 38)
 have b3 := onto b2 hb3
 have P23 := hidden (P22.out.below hb3)
 have P33 := hidden (P32.out.below hb3)
 have P43 := hidden (P42.out.below hb3)
 have N3 := hidden (N2.out.below hb3)
 clear hb3 b2 P22 P32 P42 N2
 generalize w2.alloc (.cells #[.int .i64 oo.id, .int .i64 oo.p, .int .i64 oo.d, .int .i64 oo.n, .int .i64 oo.f, .int .i64 oo.e, .int .i64 oo.c, .int .i64 oo.s, .bool oo.two] 38) = w3 at *
 generalize (Value.agg #[.int .i64 x.k, .int .i64 x.o.id, .int .i64 x.o.p, .int .i64 x.o.d, .int .i64 x.o.n, .int .i64 x.o.f, .int .i64 x.o.e, .int .i64 x.o.c, .int .i64 x.o.s, .bool x.o.two, .int .i64 x.id, .int .i64 x.p, .int .i64 x.d, .int .i64 x.n, .int .i64 x.m, .int .i64 x.b, .int .i64 x.a]) = vD3
 generalize (Value.agg #[.int .i64 oo.id, .int .i64 oo.p, .int .i64 oo.d, .int .i64 oo.n, .int .i64 oo.f, .int .i64 oo.e, .int .i64 oo.c, .int .i64 oo.s, .bool oo.two]) = vO3
 generalize (Value.agg #[Value.slice (some ⟨G, 0, none⟩) os.length c1, Value.slice a2 ds.length c2]) = vC3
 have r7 : w3.cell? ⟨w2.heap.size, 7, none⟩ = some (.int .i64 oo.s) := P73.out.cell 7
 by_cases hz : oo.s = 2
 rotate_left
 ·have kS := fun W => zc3 x 5 W (show (oo.s != 2) = true by simp [hz])
  have HZ := hidden hz
  clear hz
  go_wp2_with (first | (refine wpList_load_row rfl 40 (.tmp 3) rfl (w.heap.size + 1) rfl 40 #[.int .i64 x.k, .int .i64 x.o.id, .int .i64 x.o.p, .int .i64 x.o.d, .int .i64 x.o.n, .int .i64 x.o.f, .int .i64 x.o.e, .int .i64 x.o.c, .int .i64 x.o.s, .bool x.o.two, .int .i64 x.id, .int .i64 x.p, .int .i64 x.d, .int .i64 x.n, .int .i64 x.m, .int .i64 x.b, .int .i64 x.a] (0, 0) _ P33.out Tryz.underlying40 rfl (by kernel_rfl) ?_) | (go_at_call 44; with_reducible refine (kS _).mono ?_; rintro e w9 ⟨rfl, hb9⟩; have b9 := onto b3 hb9; clear hb9))
  exact ⟨rfl, zcu 5 (by have hz := HZ.out; simp [wdC, hz]) (by decide) rfl b9⟩
 have kS := fun W => zbt x 5 W (show (oo.s != 2) = false by simp [hz])
 have H5 := hidden hz
 clear hz
 go_upto_region 5 with (first | (refine wpList_load_row rfl 40 (.tmp 3) rfl (w.heap.size + 1) rfl 40 #[.int .i64 x.k, .int .i64 x.o.id, .int .i64 x.o.p, .int .i64 x.o.d, .int .i64 x.o.n, .int .i64 x.o.f, .int .i64 x.o.e, .int .i64 x.o.c, .int .i64 x.o.s, .bool x.o.two, .int .i64 x.id, .int .i64 x.p, .int .i64 x.d, .int .i64 x.n, .int .i64 x.m, .int .i64 x.b, .int .i64 x.a] (0, 0) _ P33.out Tryz.underlying40 rfl (by kernel_rfl) ?_) | (go_at_call 44; with_reducible refine (kS _).mono ?_; rintro e w4 ⟨rfl, hb4⟩; have b4 := onto b3 hb4; have P24 := hidden (P23.out.below hb4); have P34 := hidden (P33.out.below hb4); have P44 := hidden (P43.out.below hb4); have P74 := hidden (P73.out.below hb4); have N4 := hidden (N3.out.below hb4); clear hb4 b3 P23 P33 P43 P73 N3))
 clear kS r7
 generalize (Value.agg #[.int .i64 x.k, .int .i64 x.o.id, .int .i64 x.o.p, .int .i64 x.o.d, .int .i64 x.o.n, .int .i64 x.o.f, .int .i64 x.o.e, .int .i64 x.o.c, .int .i64 x.o.s, .bool x.o.two, .int .i64 x.id, .int .i64 x.p, .int .i64 x.d, .int .i64 x.n, .int .i64 x.m, .int .i64 x.b, .int .i64 x.a]) = vD4
 have r7 : w4.cell? ⟨w2.heap.size, 1, none⟩ = some (.int .i64 oo.p) := P74.out.cell 1
 have qx : w4.cell? ⟨w.heap.size + 1, 11, none⟩ = some (.int .i64 x.p) := P34.out.cell 11
 by_cases hz : x.p = oo.p
 rotate_left
 ·have kS := fun W => zc3 x 6 W (show (x.p != oo.p) = true by simp [hz])
  have HZ := hidden hz
  clear hz
  go_wp2_with (first | (refine wpList_load_row rfl 40 (.tmp 3) rfl (w.heap.size + 1) rfl 40 #[.int .i64 x.k, .int .i64 x.o.id, .int .i64 x.o.p, .int .i64 x.o.d, .int .i64 x.o.n, .int .i64 x.o.f, .int .i64 x.o.e, .int .i64 x.o.c, .int .i64 x.o.s, .bool x.o.two, .int .i64 x.id, .int .i64 x.p, .int .i64 x.d, .int .i64 x.n, .int .i64 x.m, .int .i64 x.b, .int .i64 x.a] (0, 0) _ P34.out Tryz.underlying40 rfl (by kernel_rfl) ?_) | (go_at_call 44; with_reducible refine (kS _).mono ?_; rintro e w9 ⟨rfl, hb9⟩; have b9 := onto b4 hb9; clear hb9))
  exact ⟨rfl, zcu 6 (by have hz := HZ.out; simp [wdC, H5.out, hz]) (by decide) rfl b9⟩
 have kS := fun W => zbt x 6 W (show (x.p != oo.p) = false by simp [hz])
 have H6 := hidden hz
 clear hz
 go_upto_region 6 with (first | (refine wpList_load_row rfl 40 (.tmp 3) rfl (w.heap.size + 1) rfl 40 #[.int .i64 x.k, .int .i64 x.o.id, .int .i64 x.o.p, .int .i64 x.o.d, .int .i64 x.o.n, .int .i64 x.o.f, .int .i64 x.o.e, .int .i64 x.o.c, .int .i64 x.o.s, .bool x.o.two, .int .i64 x.id, .int .i64 x.p, .int .i64 x.d, .int .i64 x.n, .int .i64 x.m, .int .i64 x.b, .int .i64 x.a] (0, 0) _ P34.out Tryz.underlying40 rfl (by kernel_rfl) ?_) | (go_at_call 44; with_reducible refine (kS _).mono ?_; rintro e w5 ⟨rfl, hb5⟩; have b5 := onto b4 hb5; have P25 := hidden (P24.out.below hb5); have P35 := hidden (P34.out.below hb5); have P45 := hidden (P44.out.below hb5); have P75 := hidden (P74.out.below hb5); have N5 := hidden (N4.out.below hb5); clear hb5 b4 P24 P34 P44 P74 N4))
 clear kS r7 qx
 generalize (Value.agg #[.int .i64 x.k, .int .i64 x.o.id, .int .i64 x.o.p, .int .i64 x.o.d, .int .i64 x.o.n, .int .i64 x.o.f, .int .i64 x.o.e, .int .i64 x.o.c, .int .i64 x.o.s, .bool x.o.two, .int .i64 x.id, .int .i64 x.p, .int .i64 x.d, .int .i64 x.n, .int .i64 x.m, .int .i64 x.b, .int .i64 x.a]) = vD5
 have r7 : w5.cell? ⟨w2.heap.size, 2, none⟩ = some (.int .i64 oo.d) := P75.out.cell 2
 have qx : w5.cell? ⟨w.heap.size + 1, 12, none⟩ = some (.int .i64 x.d) := P35.out.cell 12
 by_cases hz : x.d = oo.d
 rotate_left
 ·have kS := fun W => zc3 x 7 W (show (x.d != oo.d) = true by simp [hz])
  have HZ := hidden hz
  clear hz
  go_wp2_with (first | (refine wpList_load_row rfl 40 (.tmp 3) rfl (w.heap.size + 1) rfl 40 #[.int .i64 x.k, .int .i64 x.o.id, .int .i64 x.o.p, .int .i64 x.o.d, .int .i64 x.o.n, .int .i64 x.o.f, .int .i64 x.o.e, .int .i64 x.o.c, .int .i64 x.o.s, .bool x.o.two, .int .i64 x.id, .int .i64 x.p, .int .i64 x.d, .int .i64 x.n, .int .i64 x.m, .int .i64 x.b, .int .i64 x.a] (0, 0) _ P35.out Tryz.underlying40 rfl (by kernel_rfl) ?_) | (go_at_call 44; with_reducible refine (kS _).mono ?_; rintro e w9 ⟨rfl, hb9⟩; have b9 := onto b5 hb9; clear hb9))
  exact ⟨rfl, zcu 7 (by have hz := HZ.out; simp [wdC, H5.out, H6.out, hz]) (by decide) rfl b9⟩
 have kS := fun W => zbt x 7 W (show (x.d != oo.d) = false by simp [hz])
 have H7 := hidden hz
 clear hz
 go_upto_region 7 with (first | (refine wpList_load_row rfl 40 (.tmp 3) rfl (w.heap.size + 1) rfl 40 #[.int .i64 x.k, .int .i64 x.o.id, .int .i64 x.o.p, .int .i64 x.o.d, .int .i64 x.o.n, .int .i64 x.o.f, .int .i64 x.o.e, .int .i64 x.o.c, .int .i64 x.o.s, .bool x.o.two, .int .i64 x.id, .int .i64 x.p, .int .i64 x.d, .int .i64 x.n, .int .i64 x.m, .int .i64 x.b, .int .i64 x.a] (0, 0) _ P35.out Tryz.underlying40 rfl (by kernel_rfl) ?_) | (go_at_call 44; with_reducible refine (kS _).mono ?_; rintro e w6 ⟨rfl, hb6⟩; have b6 := onto b5 hb6; have P26 := hidden (P25.out.below hb6); have P36 := hidden (P35.out.below hb6); have P46 := hidden (P45.out.below hb6); have P76 := hidden (P75.out.below hb6); have N6 := hidden (N5.out.below hb6); clear hb6 b5 P25 P35 P45 P75 N5))
 clear kS r7 qx
 generalize (Value.agg #[.int .i64 x.k, .int .i64 x.o.id, .int .i64 x.o.p, .int .i64 x.o.d, .int .i64 x.o.n, .int .i64 x.o.f, .int .i64 x.o.e, .int .i64 x.o.c, .int .i64 x.o.s, .bool x.o.two, .int .i64 x.id, .int .i64 x.p, .int .i64 x.d, .int .i64 x.n, .int .i64 x.m, .int .i64 x.b, .int .i64 x.a]) = vD6
 have r7 : w6.cell? ⟨w2.heap.size, 3, none⟩ = some (.int .i64 oo.n) := P76.out.cell 3
 have qx : w6.cell? ⟨w.heap.size + 1, 13, none⟩ = some (.int .i64 x.n) := P36.out.cell 13
 by_cases hz : x.n = oo.n
 rotate_left
 ·have kS := fun W => zc3 x 8 W (show (x.n != oo.n) = true by simp [hz])
  have HZ := hidden hz
  clear hz
  go_wp2_with (first | (refine wpList_load_row rfl 40 (.tmp 3) rfl (w.heap.size + 1) rfl 40 #[.int .i64 x.k, .int .i64 x.o.id, .int .i64 x.o.p, .int .i64 x.o.d, .int .i64 x.o.n, .int .i64 x.o.f, .int .i64 x.o.e, .int .i64 x.o.c, .int .i64 x.o.s, .bool x.o.two, .int .i64 x.id, .int .i64 x.p, .int .i64 x.d, .int .i64 x.n, .int .i64 x.m, .int .i64 x.b, .int .i64 x.a] (0, 0) _ P36.out Tryz.underlying40 rfl (by kernel_rfl) ?_) | (go_at_call 44; with_reducible refine (kS _).mono ?_; rintro e w9 ⟨rfl, hb9⟩; have b9 := onto b6 hb9; clear hb9))
  exact ⟨rfl, zcu 8 (by have hz := HZ.out; simp [wdC, H5.out, H6.out, H7.out, hz]) (by decide) rfl b9⟩
 exact absurd ⟨H5.out, H6.out, H7.out, hz⟩ HD.out
end Go.Proofs.YtjlpfpigggdemaaGreatDoor
namespace Go.Proofs.YtjlpfpigggdemaaGreatDoor
open Go.RowKit Va Uo
set_option linter.all false
set_option maxRecDepth 20000 in
set_option maxHeartbeats 16000000 in
theorem zk6 (vb vs : Value) (os : List Od) (ds : List Ds) (base : Nat) (x : Dd) (w : World) (h : Cp.zo w base vb vs os ds) (hbase : base <= w.heap.size) (hn : os.length <= 100) (hr : Ris os) (hat : 0 <= atO os x.o.id) :
  Calls Tryz.prog 46 #[.agg #[vb, vs], aDd x] w fun e w' => e = .panicked [{ v := kz x.k 3, recovered := false }] /\ Below w.heap.size w w' := by
 obtain ⟨a1, c1, a2, c2, rfl, rfl⟩ := h.form
 obtain ⟨hb0, p2, p3, p4⟩ := yh w #[.slice a1 os.length c1, .slice a2 ds.length c2] #[.int .i64 x.k, .int .i64 x.o.id, .int .i64 x.o.p, .int .i64 x.o.d, .int .i64 x.o.n, .int .i64 x.o.f, .int .i64 x.o.e, .int .i64 x.o.c, .int .i64 x.o.s, .bool x.o.two, .int .i64 x.id, .int .i64 x.p, .int .i64 x.d, .int .i64 x.n, .int .i64 x.m, .int .i64 x.b, .int .i64 x.a] #[.slice none 0 0, .slice none 0 0] 27 40 27
 have hN0 := h.below hb0
 have HN := hidden hN0
 have hsz0 : w.heap.size + 1 + 1 + 1 = (((w.alloc (.cells #[.slice a1 os.length c1, .slice a2 ds.length c2] 27)).alloc (.cells #[.int .i64 x.k, .int .i64 x.o.id, .int .i64 x.o.p, .int .i64 x.o.d, .int .i64 x.o.n, .int .i64 x.o.f, .int .i64 x.o.e, .int .i64 x.o.c, .int .i64 x.o.s, .bool x.o.two, .int .i64 x.id, .int .i64 x.p, .int .i64 x.d, .int .i64 x.n, .int .i64 x.m, .int .i64 x.b, .int .i64 x.a] 40)).alloc (.cells #[.slice none 0 0, .slice none 0 0] 27)).heap.size := by simp
 unfold aDd
 clear h hN0
 go_enter Tryz.func46, Tryz.ntmps46
 go_upto_region 1 with fail
 generalize (((w.alloc (.cells #[.slice a1 os.length c1, .slice a2 ds.length c2] 27)).alloc (.cells #[.int .i64 x.k, .int .i64 x.o.id, .int .i64 x.o.p, .int .i64 x.o.d, .int .i64 x.o.n, .int .i64 x.o.f, .int .i64 x.o.e, .int .i64 x.o.c, .int .i64 x.o.s, .bool x.o.two, .int .i64 x.id, .int .i64 x.p, .int .i64 x.d, .int .i64 x.n, .int .i64 x.m, .int .i64 x.b, .int .i64 x.a] 40)).alloc (.cells #[.slice none 0 0, .slice none 0 0] 27)) = W0 at *
 have z0 := hb0.size
 have HB0 := hidden hb0
 have P2 := hidden p2
 have P3 := hidden p3
 have P4 := hidden p4
 have e20 : W0.cell? ⟨w.heap.size, 0, none⟩ = some _ := p2.cell 0
 have e21 : W0.cell? ⟨w.heap.size, 1, none⟩ = some _ := p2.cell 1
 obtain ⟨d0, ⟨d1, d2, d3, d4, d5, d6, d7, d8, d9⟩, da, db, dc, dd, de, df, dg⟩ := p3.deed
 clear p2 p3 p4 hb0
 have hPL := zcc a1 os.length c1 (.slice a2 ds.length c2) os x.o.id W0 (za1 rfl HN.out.1).row (by omega) hr ⟨_, _, _, rfl⟩
 have HYS : Hid (∀ k', Cut os x.o.id k' -> qm os x.o.id k' = true) := fun k' hc => by
  cases hq : qm os x.o.id k' with
  | true => rfl
  | false => have := zdz hr hc hq; omega
 have kS := fun W => zce x 3 W
 clear hat hr
 clear d0 d2 d3 d4 d5 d6 d7 d8 d9 da db dc dd de df dg
 go_upto_region 2 with (go_at_call 53; refine hPL.mono ?_; rintro e w1 ⟨k', hcut, rfl, hb1⟩; rw [HYS.out k' hcut]; have b1 := onto HB0.out hb1; have P21 := hidden (P2.out.below hb1); have P31 := hidden (P3.out.below hb1); have P41 := hidden (P4.out.below hb1); have N1 := hidden (HN.out.below hb1); have z1 := hb1.size; clear hb1)
 clear d1 hcut
 go_wp2_with (first | (refine wpList_load_row rfl 40 (.tmp 3) rfl (w.heap.size + 1) rfl 40 #[.int .i64 x.k, .int .i64 x.o.id, .int .i64 x.o.p, .int .i64 x.o.d, .int .i64 x.o.n, .int .i64 x.o.f, .int .i64 x.o.e, .int .i64 x.o.c, .int .i64 x.o.s, .bool x.o.two, .int .i64 x.id, .int .i64 x.p, .int .i64 x.d, .int .i64 x.n, .int .i64 x.m, .int .i64 x.b, .int .i64 x.a] (0, 0) _ P31.out Tryz.underlying40 rfl (by kernel_rfl) ?_) | (go_at_call 44; with_reducible refine (kS _).mono ?_; rintro e w2 ⟨rfl, hb2⟩; have b2 := onto b1 hb2; clear hb2))
 exact ⟨rfl, rfl, b2⟩
set_option maxRecDepth 20000 in
set_option maxHeartbeats 16000000 in
theorem zk0 (vb vs : Value) (os : List Od) (ds : List Ds) (base : Nat) (x : Dd) (w : World) (h : Cp.zo w base vb vs os ds) (hbase : base <= w.heap.size) (hn : os.length <= 100) (hr : Ris os) (hat : atO os x.o.id < 0) (hl : os.length = 100) :
  Calls Tryz.prog 46 #[.agg #[vb, vs], aDd x] w fun e w' => e = .panicked [{ v := kz x.k 12, recovered := false }] /\ Below w.heap.size w w' := by
 have HL := hidden hl
 clear hl
 obtain ⟨a1, c1, a2, c2, rfl, rfl⟩ := h.form
 obtain ⟨hb0, p2, p3, p4⟩ := yh w #[.slice a1 os.length c1, .slice a2 ds.length c2] #[.int .i64 x.k, .int .i64 x.o.id, .int .i64 x.o.p, .int .i64 x.o.d, .int .i64 x.o.n, .int .i64 x.o.f, .int .i64 x.o.e, .int .i64 x.o.c, .int .i64 x.o.s, .bool x.o.two, .int .i64 x.id, .int .i64 x.p, .int .i64 x.d, .int .i64 x.n, .int .i64 x.m, .int .i64 x.b, .int .i64 x.a] #[.slice none 0 0, .slice none 0 0] 27 40 27
 have hN0 := h.below hb0
 have HN := hidden hN0
 have hsz0 : w.heap.size + 1 + 1 + 1 = (((w.alloc (.cells #[.slice a1 os.length c1, .slice a2 ds.length c2] 27)).alloc (.cells #[.int .i64 x.k, .int .i64 x.o.id, .int .i64 x.o.p, .int .i64 x.o.d, .int .i64 x.o.n, .int .i64 x.o.f, .int .i64 x.o.e, .int .i64 x.o.c, .int .i64 x.o.s, .bool x.o.two, .int .i64 x.id, .int .i64 x.p, .int .i64 x.d, .int .i64 x.n, .int .i64 x.m, .int .i64 x.b, .int .i64 x.a] 40)).alloc (.cells #[.slice none 0 0, .slice none 0 0] 27)).heap.size := by simp
 unfold aDd
 clear h hN0
 go_enter Tryz.func46, Tryz.ntmps46
 go_upto_region 1 with fail
 generalize (((w.alloc (.cells #[.slice a1 os.length c1, .slice a2 ds.length c2] 27)).alloc (.cells #[.int .i64 x.k, .int .i64 x.o.id, .int .i64 x.o.p, .int .i64 x.o.d, .int .i64 x.o.n, .int .i64 x.o.f, .int .i64 x.o.e, .int .i64 x.o.c, .int .i64 x.o.s, .bool x.o.two, .int .i64 x.id, .int .i64 x.p, .int .i64 x.d, .int .i64 x.n, .int .i64 x.m, .int .i64 x.b, .int .i64 x.a] 40)).alloc (.cells #[.slice none 0 0, .slice none 0 0] 27)) = W0 at *
 have z0 := hb0.size
 have HB0 := hidden hb0
 have P2 := hidden p2
 have P3 := hidden p3
 have P4 := hidden p4
 have e20 : W0.cell? ⟨w.heap.size, 0, none⟩ = some _ := p2.cell 0
 have e21 : W0.cell? ⟨w.heap.size, 1, none⟩ = some _ := p2.cell 1
 obtain ⟨d0, ⟨d1, d2, d3, d4, d5, d6, d7, d8, d9⟩, da, db, dc, dd, de, df, dg⟩ := p3.deed
 clear p2 p3 p4 hb0
 have hPL := zcc a1 os.length c1 (.slice a2 ds.length c2) os x.o.id W0 (za1 rfl HN.out.1).row (by omega) hr ⟨_, _, _, rfl⟩
 have HNO : Hid (∀ k', Cut os x.o.id k' -> qm os x.o.id k' = false) := fun k' hc => by
  cases hq : qm os x.o.id k' with
  | false => rfl
  | true => have := (zbx hr hc hq).1; omega
 have kN := fun W => zbz x 3 W
 have kS := fun W => zc3 x 12 W (show ((os.length : Int) == 100) = true by rw [HL.out]; rfl)
 clear hat hr
 clear d0 d2 d3 d4 d5 d6 d7 d8 d9 da db dc dd de df dg
 go_upto_region 2 with (go_at_call 53; refine hPL.mono ?_; rintro e w1 ⟨k', hcut, rfl, hb1⟩; rw [HNO.out k' hcut]; have b1 := onto HB0.out hb1; have P21 := hidden (P2.out.below hb1); have P31 := hidden (P3.out.below hb1); have P41 := hidden (P4.out.below hb1); have N1 := hidden (HN.out.below hb1); have z1 := hb1.size; clear hb1)
 clear d1 hcut
 go_upto_region 3 with (first | (refine wpList_load_row rfl 40 (.tmp 3) rfl (w.heap.size + 1) rfl 40 #[.int .i64 x.k, .int .i64 x.o.id, .int .i64 x.o.p, .int .i64 x.o.d, .int .i64 x.o.n, .int .i64 x.o.f, .int .i64 x.o.e, .int .i64 x.o.c, .int .i64 x.o.s, .bool x.o.two, .int .i64 x.id, .int .i64 x.p, .int .i64 x.d, .int .i64 x.n, .int .i64 x.m, .int .i64 x.b, .int .i64 x.a] (0, 0) _ P31.out Tryz.underlying40 rfl (by kernel_rfl) ?_) | (go_at_call 44; with_reducible refine (kN _).mono ?_; rintro e w2 ⟨rfl, hb2⟩; have b2 := onto b1 hb2; have P22 := hidden (P21.out.below hb2); have P32 := hidden (P31.out.below hb2); clear hb2))
 obtain ⟨q20, q21⟩ := P22.out.two
 go_wp2_with (first | (refine wpList_load_row rfl 40 (.tmp 3) rfl (w.heap.size + 1) rfl 40 #[.int .i64 x.k, .int .i64 x.o.id, .int .i64 x.o.p, .int .i64 x.o.d, .int .i64 x.o.n, .int .i64 x.o.f, .int .i64 x.o.e, .int .i64 x.o.c, .int .i64 x.o.s, .bool x.o.two, .int .i64 x.id, .int .i64 x.p, .int .i64 x.d, .int .i64 x.n, .int .i64 x.m, .int .i64 x.b, .int .i64 x.a] (0, 0) _ P32.out Tryz.underlying40 rfl (by kernel_rfl) ?_) | (go_at_call 44; with_reducible refine (kS _).mono ?_; rintro e w3 ⟨rfl, hb3⟩; have b3 := onto b2 hb3; clear hb3))
 exact ⟨rfl, rfl, b3⟩
end Go.Proofs.YtjlpfpigggdemaaGreatDoor
