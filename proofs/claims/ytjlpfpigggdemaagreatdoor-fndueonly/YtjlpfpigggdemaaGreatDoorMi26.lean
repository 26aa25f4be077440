/-
 Merged: U50 U51 U52.
-/
import Derived.Test.YtjlpfpigggdemaaGreatDoorMi24
import Derived.Test.YtjlpfpigggdemaaGreatDoorMi25
import Derived.Test.YtjlpfpigggdemaaGreatDoorMi3
import Derived.WalkKit
import Derived.LaidEql
import Derived.Stop.Asserts
import Derived.RowKitTokens
import Derived.Test.YtjlpfpigggdemaaGreatDoorMi2
namespace Go.Proofs.YtjlpfpigggdemaaGreatDoor
set_option maxRecDepth 8000
set_option maxHeartbeats 4000000
open Go.RowKit Va Uo Go.Maps
set_option linter.all false
theorem zjk {w W : World} {tm : Array Value} {base B : Nat} {v1 v2 : Value} {L1 : List Od} {L2 : List Ds} {vs : Array Value} (p : PB W B vs 27) (hs : vs = #[.slice none 0 0, .slice none 0 0]) (hl : base <= B) (hb : Below base w W) (hN : Cp.zo W base v1 v2 L1 L2) (h4 : tm.getD 4 undef = .pointer (some ⟨B, 0, none⟩)) :
  bodyPost Tryz.prog Tryz.f46 (fun e w' => ∃ v1 v2, e = .returned (.agg #[v1, v2]) /\ Cp.zo w' base v1 v2 L1 L2 /\ Below base w w') Exit.ret ⟨tm, []⟩ ((W.setCell ⟨B, 0, none⟩ v1).setCell ⟨B, 1, none⟩ v2) := by
 subst hs
 have p4 : PB ((W.setCell ⟨B, 0, none⟩ v1).setCell ⟨B, 1, none⟩ v2) B #[v1, v2] 27 := (p.set 0 v1).set 1 v2
 refine bodyPost_ret (v := .agg #[v1, v2]) (results_cell_row Tryz.results46 _ _ B 27 _ (0, 0) _ h4 p4 Tryz.underlying27 rfl (by kernel_rfl)) rfl ⟨v1, v2, rfl, ⟨?_, ?_⟩, (hb.setCell (p := ⟨B, 0, none⟩) hl _).setCell (p := ⟨B, 1, none⟩) hl _⟩
 ·exact Cp.jo (Cp.jo hN.1 (jb hN.1 p (by decide)) _ _) (jb hN.1 p (by decide)) _ _
 ·exact Cp.jo (Cp.jo hN.2 (jb hN.2 p (by decide)) _ _) (jb hN.2 p (by decide)) _ _
theorem zhm {W W' : World} {B : Nat} {vs : Array Value} {t : TypeId} {r : Option Nat} (h : PB W B vs t) (hg : W.grownBy W' r) (hr : ¬ r = some B) : PB W' B vs t :=
 (hg.block B h.lt (fun e => hr e.symm)).trans h
theorem zgi {w : World} {b1 b2 e1 e2 s1 s2 n1 n2 : Nat} {v1 v2 : Value} {x1 x2 : List Value} (h1 : w.ownsRow b1 e1 s1 v1 n1 x1) (h2 : w.ownsRow b2 e2 s2 v2 n2 x2) (hne : e1 ≠ e2) : v1.ownBlock = none ∨ v1.ownBlock ≠ v2.ownBlock := by
 obtain ⟨_, ⟨rfl, _⟩ | ⟨g1, cap1, cur1, rfl, _, hg1, _⟩⟩ := h1
 ·exact .inl rfl
 ·obtain ⟨_, ⟨rfl, _⟩ | ⟨g2, cap2, cur2, rfl, _, hg2, _⟩⟩ := h2
  ·exact .inr (fun e => by cases e)
  ·refine .inr (fun e => ?_)
   have e2 : g1 = g2 := by simpa [Value.ownBlock] using e
   subst e2
   rw [hg1] at hg2
   simp at hg2
   exact hne hg2.2
theorem iins_any (ad : Option Addr) (c k : Nat) (os : List Od) (base vb : Nat) (o : Od) (w : World) (h : w.ownsRow base 38 9 (.slice ad os.length c) os.length (zt 9 jd os)) (hbase : base <= w.heap.size) (hn : os.length <= 100) (hk : k <= os.length) (hv : PB w vb (od9 o).toArray 38) (hvb : ∀ g, ad = some ⟨g, 0, none⟩ -> vb ≠ g) :
  Calls Tryz.prog 73 #[.slice ad os.length c, .int .i64 k, .slice (some ⟨vb, 0, none⟩) 1 1] w fun e w' => ∃ ad' c', e = .returned (.slice ad' (os.length + 1) c') /\ w'.ownsRow base 38 9 (.slice ad' (os.length + 1) c') (os.length + 1) (zt 9 jd (os.take k ++ o :: os.drop k)) /\ w.grownBy w' (Value.slice ad os.length c).ownBlock := by
 rcases Nat.lt_or_ge k os.length with hlt | hge
 ·cases ad with
  | none => have := ((zf2 h).2.2.1 rfl).1; omega
  | some a =>
   obtain ⟨g, rfl⟩ := (zf2 h).2.2.2 a rfl
   rcases Nat.lt_or_ge c (os.length + 1) with hc | hc
   ·exact zkk g c k os base vb o w h hbase hn hlt hc hv (hvb g rfl)
   ·exact zkl g c k os base vb o w h hn hlt hc hv (hvb g rfl)
 ·have e : k = os.length := by omega
  subst e
  have hcut := zf7 (s := 9) (cs := jd) os os.length (Nat.le_refl _) o
  rw [zfv] at hcut
  rw [hcut, List.take_of_length_le (by rw [za2]; exact Nat.le_refl _), List.drop_eq_nil_of_le (by rw [za2]; exact Nat.le_refl _), List.append_nil]
  exact iins_end ad c os base vb o w h hbase hn hv
set_option maxRecDepth 20000 in
set_option maxHeartbeats 16000000 in
theorem zk2 (vb vs : Value) (os : List Od) (ds : List Ds) (base : Nat) (x : Dd) (w : World) (h : Cp.zo w base vb vs os ds) (hbase : base <= w.heap.size) (hn : os.length <= 100) (hr : Ris os) (hat : atO os x.o.id < 0) (hl : os.length < 100) :
  Calls Tryz.prog 46 #[.agg #[vb, vs], aDd x] w fun e w' => ∃ v1 v2, e = .returned (.agg #[v1, v2]) /\ Cp.zo w' base v1 v2 (yl os x.o) ds /\ Below base w w' := by
 have HL := hidden hl
 clear hl
 obtain ⟨a1, c1, a2, c2, rfl, rfl⟩ := h.form
 obtain ⟨hb0, p2, p3, p4⟩ := yh w #[.slice a1 os.length c1, .slice a2 ds.length c2] #[.int .i64 x.k, .int .i64 x.o.id, .int .i64 x.o.p, .int .i64 x.o.d, .int .i64 x.o.n, .int .i64 x.o.f, .int .i64 x.o.e, .int .i64 x.o.c, .int .i64 x.o.s, .bool x.o.two, .int .i64 x.id, .int .i64 x.p, .int .i64 x.d, .int .i64 x.n, .int .i64 x.m, .int .i64 x.b, .int .i64 x.a] #[.slice none 0 0, .slice none 0 0] 27 40 27
 have hN0 := h.below hb0
 have HN := hidden hN0
 have hsz0 : w.heap.size + 1 + 1 + 1 = (((w.alloc (.cells #[.slice a1 os.length c1, .slice a2 ds.length c2] 27)).alloc (.cells #[.int .i64 x.k, .int .i64 x.o.id, .int .i64 x.o.p, .int .i64 x.o.d, .int .i64 x.o.n, .int .i64 x.o.f, .int .i64 x.o.e, .int .i64 x.o.c, .int .i64 x.o.s, .bool x.o.two, .int .i64 x.id, .int .i64 x.p, .int .i64 x.d, .int .i64 x.n, .int .i64 x.m, .int .i64 x.b, .int .i64 x.a] 40)).alloc (.cells #[.slice none 0 0, .slice none 0 0] 27)).heap.size := by simp
 unfold aDd
 have hbltX := hidden (fun k hk => (zcw h.1 k hk).2)
 have hbgeX := hidden (fun k hk => (zcw h.1 k hk).1)
 clear h hN0
 go_enter Tryz.func46, Tryz.ntmps46
 go_upto_region 1 with fail
 generalize (((w.alloc (.cells #[.slice a1 os.length c1, .slice a2 ds.length c2] 27)).alloc (.cells #[.int .i64 x.k, .int .i64 x.o.id, .int .i64 x.o.p, .int .i64 x.o.d, .int .i64 x.o.n, .int .i64 x.o.f, .int .i64 x.o.e, .int .i64 x.o.c, .int .i64 x.o.s, .bool x.o.two, .int .i64 x.id, .int .i64 x.p, .int .i64 x.d, .int .i64 x.n, .int .i64 x.m, .int .i64 x.b, .int .i64 x.a] 40)).alloc (.cells #[.slice none 0 0, .slice none 0 0] 27)) = W0 at *
 have z0 := hb0.size
 have HB0 := hidden hb0
 have P2 := hidden p2
 have P3 := hidden p3
 have P4 := hidden p4
 have e20 : W0.cell? ⟨w.heap.size, 0, none⟩ = some _ := p2.cell 0
 have e21 : W0.cell? ⟨w.heap.size, 1, none⟩ = some _ := p2.cell 1
 obtain ⟨d0, ⟨d1, d2, d3, d4, d5, d6, d7, d8, d9⟩, da, db, dc, dd, de, df, dg⟩ := p3.deed
 clear p2 p3 p4 hb0
 have hPL := zcc a1 os.length c1 (.slice a2 ds.length c2) os x.o.id W0 (za1 rfl HN.out.1).row (by omega) hr ⟨_, _, _, rfl⟩
 have HNO : Hid (∀ k', Cut os x.o.id k' -> qm os x.o.id k' = false) := fun k' hc => by
  cases hq : qm os x.o.id k' with
  | false => rfl
  | true => have := (zbx hr hc hq).1; omega
 have kN := fun W => zbz x 3 W
 have kS := fun W => zbt x 12 W (show ((os.length : Int) == 100) = false by have := HL.out; simp; omega)
 have HCU : Hid (∀ k', Cut os x.o.id k' -> yl os x.o = os.take k' ++ x.o :: os.drop k') := fun k' hc => zhj hr hc (HNO.out k' hc)
 clear hat hr
 clear d0 d2 d3 d4 d5 d6 d7 d8 d9 da db dc dd de df dg
 go_upto_region 2 with (go_at_call 53; refine hPL.mono ?_; rintro e w1 ⟨k', hcut, rfl, hb1⟩; rw [HNO.out k' hcut]; have b1 := onto HB0.out hb1; have P21 := hidden (P2.out.below hb1); have P31 := hidden (P3.out.below hb1); have P41 := hidden (P4.out.below hb1); have N1 := hidden (HN.out.below hb1); have z1 := hb1.size; clear hb1)
 have HK := hidden (HCU.out k' hcut)
 have hk'n : k' <= os.length := hcut.1
 clear d1 hcut HCU
 go_upto_region 3 with (first | (refine wpList_load_row rfl 40 (.tmp 3) rfl (w.heap.size + 1) rfl 40 #[.int .i64 x.k, .int .i64 x.o.id, .int .i64 x.o.p, .int .i64 x.o.d, .int .i64 x.o.n, .int .i64 x.o.f, .int .i64 x.o.e, .int .i64 x.o.c, .int .i64 x.o.s, .bool x.o.two, .int .i64 x.id, .int .i64 x.p, .int .i64 x.d, .int .i64 x.n, .int .i64 x.m, .int .i64 x.b, .int .i64 x.a] (0, 0) _ P31.out Tryz.underlying40 rfl (by kernel_rfl) ?_) | (go_at_call 44; with_reducible refine (kN _).mono ?_; rintro e w2 ⟨rfl, hb2⟩; have b2 := onto b1 hb2; have P22 := hidden (P21.out.below hb2); have P32 := hidden (P31.out.below hb2); have P42 := hidden (P41.out.below hb2); have N2 := hidden (N1.out.below hb2); have z2 := hb2.size; clear hb2))
 obtain ⟨q20, q21⟩ := P22.out.two
 go_upto_region 4 with (first | (refine wpList_load_row rfl 40 (.tmp 3) rfl (w.heap.size + 1) rfl 40 #[.int .i64 x.k, .int .i64 x.o.id, .int .i64 x.o.p, .int .i64 x.o.d, .int .i64 x.o.n, .int .i64 x.o.f, .int .i64 x.o.e, .int .i64 x.o.c, .int .i64 x.o.s, .bool x.o.two, .int .i64 x.id, .int .i64 x.p, .int .i64 x.d, .int .i64 x.n, .int .i64 x.m, .int .i64 x.b, .int .i64 x.a] (0, 0) _ P32.out Tryz.underlying40 rfl (by kernel_rfl) ?_) | (go_at_call 44; with_reducible refine (kS _).mono ?_; rintro e w3 ⟨rfl, hb3⟩; have b3 := onto b2 hb3; have P23 := hidden (P22.out.below hb3); have P33 := hidden (P32.out.below hb3); have P43 := hidden (P42.out.below hb3); have N3 := hidden (N2.out.below hb3); have z3 := hb3.size; clear hb3))
 clear kN kS P21 P31 P41 P22 P32 P42 N1 N2 b1 b2 hPL HNO HN HB0 P2 P3 P4 e20 e21 q20 q21
 obtain ⟨q20, q21⟩ := P23.out.two
 obtain ⟨d0, ⟨d1, d2, d3, d4, d5, d6, d7, d8, d9⟩, -⟩ := P33.out.deed
 generalize (Value.agg #[.int .i64 x.k, .int .i64 x.o.id, .int .i64 x.o.p, .int .i64 x.o.d, .int .i64 x.o.n, .int .i64 x.o.f, .int .i64 x.o.e, .int .i64 x.o.c, .int .i64 x.o.s, .bool x.o.two, .int .i64 x.id, .int .i64 x.p, .int .i64 x.d, .int .i64 x.n, .int .i64 x.m, .int .i64 x.b, .int .i64 x.a]) = vD3
 have hz3 := b3.size
 have hvb := PB.new w3 #[.int .i64 x.o.id, .int .i64 x.o.p, .int .i64 x.o.d, .int .i64 x.o.n, .int .i64 x.o.f, .int .i64 x.o.e, .int .i64 x.o.c, .int .i64 x.o.s, .bool x.o.two] 38
 have hb4 : Below w3.heap.size w3 (w3.alloc (.cells #[.int .i64 x.o.id, .int .i64 x.o.p, .int .i64 x.o.d, .int .i64 x.o.n, .int .i64 x.o.f, .int .i64 x.o.e, .int .i64 x.o.c, .int .i64 x.o.s, .bool x.o.two] 38)) := (Below.refl _ _).alloc (Nat.le_refl _) _
 have hne : ∀ g, a1 = some ⟨g, 0, none⟩ -> g < w.heap.size := fun g hg => hbltX.out g (by rw [hg]; rfl)
 have hI := iins_any a1 c1 k' os base w3.heap.size x.o (w3.alloc (.cells #[.int .i64 x.o.id, .int .i64 x.o.p, .int .i64 x.o.d, .int .i64 x.o.n, .int .i64 x.o.f, .int .i64 x.o.e, .int .i64 x.o.c, .int .i64 x.o.s, .bool x.o.two] 38)) (zam N3.out.1 hb4) (by simp; omega) (by have := HL.out; omega) hk'n hvb (fun g hg => by have := hne g hg; omega)
 have P24 := hidden (P23.out.below hb4)
 have P44 := hidden (P43.out.below hb4)
 have N4 := hidden (zam N3.out.2 hb4)
 have b4 := onto b3 hb4
 have hz4 : (w3.alloc (.cells #[.int .i64 x.o.id, .int .i64 x.o.p, .int .i64 x.o.d, .int .i64 x.o.n, .int .i64 x.o.f, .int .i64 x.o.e, .int .i64 x.o.c, .int .i64 x.o.s, .bool x.o.two] 38)).heap.size = w3.heap.size + 1 := by simp
 clear hvb
 rw [<- HK.out] at hI
 have HIL : Hid ((yl os x.o).length = os.length + 1) := by rw [Hid, HK.out]; simp; omega
 go_wp2_with fail
 with_reducible refine hI.mono ?_
 rintro e w5 ⟨ad5, c5, rfl, ho5, hg5⟩
 have HO5 := hidden ho5
 have HG5 := hidden hg5
 have P25 := hidden (zhm P24.out hg5 (fun e => absurd (hbltX.out _ e) (by omega)))
 have P45 := hidden (zhm P44.out hg5 (fun e => absurd (hbltX.out _ e) (by omega)))
 have N5 := hidden (World.ownsRow.kept N4.out hg5 (zgi (zam N3.out.2 hb4) (zam N3.out.1 hb4) (by decide)))
 have b5 := hidden ((b4.mono hbase).grown hg5 (Nat.le_trans hbase (by omega)) (fun k hk => hbgeX.out k hk))
 obtain ⟨p50, p51⟩ := P25.out.two
 have f50 := P25.out.frozen 0
 clear ho5 hg5
 go_upto_region 5 with fail
 clear hI d0 d1 d2 d3 d4 d5 d6 d7 d8 d9 q20 q21
 have P26 := hidden (P25.out.put 0 (.slice ad5 (os.length + 1) c5) (vs' := #[.slice ad5 (os.length + 1) c5, .slice a2 ds.length c2]) (by simp))
 have P46 := hidden (P45.out.far (b := w.heap.size) (by omega) 0 (.slice ad5 (os.length + 1) c5))
 have O6 := hidden (Cp.jo HO5.out (jb HO5.out P25.out (by decide)) 0 (.slice ad5 (os.length + 1) c5))
 have N6 := hidden (Cp.jo N5.out (jb N5.out P25.out (by decide)) 0 (.slice ad5 (os.length + 1) c5))
 have b6 := hidden (b5.out.setCell (p := ⟨w.heap.size, 0, none⟩) hbase (.slice ad5 (os.length + 1) c5))
 generalize w5.setCell ⟨w.heap.size, 0, none⟩ (.slice ad5 (os.length + 1) c5) = w6 at *
 have N7 : Hid (Cp.zo w6 base (.slice ad5 (os.length + 1) c5) (.slice a2 ds.length c2) (yl os x.o) ds) := ⟨by rw [HIL.out]; exact O6.out, N6.out⟩
 obtain ⟨q20, q21⟩ := P26.out.two
 have q40 : w6.cell? ⟨w.heap.size + 1 + 1, 0, none⟩ = some _ := P46.out.cell 0
 have q41 : w6.cell? ⟨w.heap.size + 1 + 1, 1, none⟩ = some _ := P46.out.cell 1
 have f40 := P46.out.frozen 0
 have f41 := P46.out.frozen 1
 go_wp2_with fail
 exact zjk P46.out rfl (by omega) b6.out N7.out rfl
end Go.Proofs.YtjlpfpigggdemaaGreatDoor
namespace Go.Proofs.YtjlpfpigggdemaaGreatDoor
open Go.RowKit Go.Extern.Stop Go.Stop Go.Extern Va Uo
set_option linter.all false
theorem zji (t : Addr) (w : World) : (ReflectliteValue.unpack (.iface 84 (.pointer (some t)))).run Tryz.prog w = .ok (.agg #[.pointer (some ⟨1, 84, none⟩), .pointer (some ⟨w.heap.size, 0, none⟩), .int .u64 150]) (w.alloc (.cells #[.pointer (some t)] 84)) := by kernel_rfl
theorem as_typeP (a : Addr) (w : World) : (ReflectliteValue.methodAny (ReflectliteValue.valueError "reflectlite.Value.Type" 0) (fun t _ _ _ => ReflectliteType.toType t) #[.agg #[.pointer (some ⟨1, 84, none⟩), .pointer (some a), .int .u64 150]]).run Tryz.prog w = .ok (.iface 130 (.agg #[.pointer (some ⟨1, 84, none⟩)])) w := by kernel_rfl
theorem as_mKind (h : Value) (w : World) : (Go.method 278 130 (.agg #[h]) "Kind").run Tryz.prog w = .ok (109, h) w := by kernel_rfl
theorem as_kindP (w : World) : ((ReflectliteType.abiMethod fun t => (fun a : Nat => Value.int IntKind.u8 (a : Int)) <$> Rtype.kind t) #[.pointer (some ⟨1, 84, none⟩)]).run Tryz.prog w = .ok (.int .u8 22) w := by kernel_rfl
theorem as_kindO (w : World) : ((ReflectliteType.abiMethod fun t => (fun a : Nat => Value.int IntKind.u8 (a : Int)) <$> Rtype.kind t) #[.pointer (some ⟨1, 79, none⟩)]).run Tryz.prog w = .ok (.int .u8 6) w := by kernel_rfl
theorem as_rlm (z : Sem Value) (f : TypeId -> Addr -> Nat -> Nat -> Sem Value) (v : Value) :
  ReflectliteValue.method z f #[v] = (do match <- ReflectliteValue.parts v with | none => z | some (t, a, fl) => f t a fl (fl % 32)) := rfl
theorem zh4 (a : Addr) (w : World) : (ReflectliteValue.parts (.agg #[.pointer (some ⟨1, 84, none⟩), .pointer (some a), .int .u64 150])).run Tryz.prog w = .ok (some (84, a, 150)) w := by kernel_rfl
theorem zkx (a p : Addr) (W : World) (ha : W.cell? a = some (.pointer (some p))) :
  (ReflectliteValue.method (ReflectliteValue.valueError "reflectlite.Value.IsNil" 0) ReflectliteValue.isNil #[.agg #[.pointer (some ⟨1, 84, none⟩), .pointer (some a), .int .u64 150]]).run Tryz.prog W = .ok (.bool false) W := by
 rw [as_rlm]
 simp only [Sem.run_bind, zh4, Result.andThen]
 simp [ReflectliteValue.isNil, loadVar, isAgg, underlying, Tryz.underlying84, ha, Result.andThen]
theorem as_mElem (h : Value) (w : World) : (Go.method 278 130 (.agg #[h]) "Elem").run Tryz.prog w = .ok (121, .agg #[h]) w := by kernel_rfl
theorem as_mImpl (h : Value) (w : World) : (Go.method 278 130 (.agg #[h]) "Implements").run Tryz.prog w = .ok (122, .agg #[h]) w := by kernel_rfl
theorem zj4 (h : Value) (w : World) : (Go.method 278 130 (.agg #[h]) "AssignableTo").run Tryz.prog w = .ok (119, .agg #[h]) w := by kernel_rfl
theorem as_elemP (w : World) : (ReflectliteType.method ReflectliteType.elem #[.agg #[.pointer (some ⟨1, 84, none⟩)]]).run Tryz.prog w = .ok (.iface 130 (.agg #[.pointer (some ⟨1, 79, none⟩)])) w := by kernel_rfl
theorem as_implO (w : World) : (ReflectliteType.relation "Implements" ReflectliteType.implements_ #[.agg #[.pointer (some ⟨1, 79, none⟩)], .iface 130 (.agg #[.pointer (some ⟨1, 81, none⟩)])]).run Tryz.prog w = .ok (.bool true) w := by kernel_rfl
theorem zj9 (v : Value) (w : World) : (ReflectliteType.typeOf #[.iface 115 v]).run Tryz.prog w = .ok (.iface 130 (.agg #[.pointer (some ⟨1, 115, none⟩)])) w := by kernel_rfl
theorem zkh (v : Value) (w : World) : (ReflectliteType.typeOf #[.iface 79 v]).run Tryz.prog w = .ok (.iface 130 (.agg #[.pointer (some ⟨1, 79, none⟩)])) w := by kernel_rfl
theorem zli (w : World) : (ReflectliteType.relation "AssignableTo" ReflectliteType.assignableTo #[.agg #[.pointer (some ⟨1, 115, none⟩)], .iface 130 (.agg #[.pointer (some ⟨1, 79, none⟩)])]).run Tryz.prog w = .ok (.bool false) w := by kernel_rfl
theorem zlj (w : World) : (ReflectliteType.relation "AssignableTo" ReflectliteType.assignableTo #[.agg #[.pointer (some ⟨1, 79, none⟩)], .iface 130 (.agg #[.pointer (some ⟨1, 79, none⟩)])]).run Tryz.prog w = .ok (.bool true) w := by kernel_rfl
theorem zle (c : Int) (w : World) : (ReflectliteValue.unpack (.iface 79 (.int .i64 c))).run Tryz.prog w = .ok (.agg #[.pointer (some ⟨1, 79, none⟩), .pointer (some ⟨w.heap.size, 0, none⟩), .int .u64 134]) (w.alloc (.cells #[.int .i64 c] 79)) := by kernel_rfl
theorem zjc (w : World) : (Rtype.elem? 84).run Tryz.prog w = .ok (some 79) w := by kernel_rfl
theorem as_mkO (p : Addr) (w : World) : (ReflectliteValue.mk 79 p ReflectliteValue.flagAddr).run Tryz.prog w = .ok (.agg #[.pointer (some ⟨1, 79, none⟩), .pointer (some p), .int .u64 390]) w := by kernel_rfl
theorem as_elemV (a p : Addr) (W : World) (ha : W.cell? a = some (.pointer (some p))) :
  (ReflectliteValue.method (ReflectliteValue.valueError "reflectlite.Value.Elem" 0) ReflectliteValue.elem #[.agg #[.pointer (some ⟨1, 84, none⟩), .pointer (some a), .int .u64 150]]).run Tryz.prog W = .ok (.agg #[.pointer (some ⟨1, 79, none⟩), .pointer (some p), .int .u64 390]) W := by
 rw [as_rlm]
 simp only [Sem.run_bind, zh4, Result.andThen]
 simp [ReflectliteValue.elem, loadVar, isAgg, underlying, Tryz.underlying84, ha, Result.andThen, zjc, as_mkO]
theorem zjl (a : Addr) (w : World) : (ReflectliteValue.parts (.agg #[.pointer (some ⟨1, 79, none⟩), .pointer (some a), .int .u64 390])).run Tryz.prog w = .ok (some (79, a, 390)) w := by kernel_rfl
theorem zki (a : Addr) (w : World) : (ReflectliteValue.parts (.agg #[.pointer (some ⟨1, 79, none⟩), .pointer (some a), .int .u64 134])).run Tryz.prog w = .ok (some (79, a, 134)) w := by kernel_rfl
theorem zk3 (w : World) : (Rtype.directlyAssignable 79 79).run Tryz.prog w = .ok true w := by kernel_rfl
theorem as_set (ta b : Addr) (c : Int) (old : Value) (W : World) (hb : W.cell? b = some (.int .i64 c)) (ht : W.cell? ta = some old) (hf : W.frozen? ta = false) :
  (ReflectliteValue.set #[.agg #[.pointer (some ⟨1, 79, none⟩), .pointer (some ta), .int .u64 390], .agg #[.pointer (some ⟨1, 79, none⟩), .pointer (some b), .int .u64 134]]).run Tryz.prog W = .ok (.tuple #[]) (W.setCell ta (.int .i64 c)) := by
 delta ReflectliteValue.set
 change Sem.run Tryz.prog (@bind Sem _ _ _ (ReflectliteValue.parts (.agg #[.pointer (some ⟨1, 79, none⟩), .pointer (some ta), .int .u64 390])) (fun r1 => @bind Sem _ _ _ (ReflectliteValue.parts (.agg #[.pointer (some ⟨1, 79, none⟩), .pointer (some b), .int .u64 134])) (fun r2 => _))) W = _
 simp only [Sem.run_bind, zjl, zki, Result.andThen]
 simp [ReflectliteValue.flagAddr, loadVar, isAgg, underlying, Tryz.underlying79, hb, Result.andThen, zk3, storeVar, Value.cells, storeCells, Addr.add]
 rw [run_store Tryz.prog W ta _ _ (by rfl)]
 simp [ht, hf]
theorem zlk (k : Int) (c : Value) (w : World) : (Go.method 278 115 (.agg #[.int .i64 k, c]) "Unwrap").run Tryz.prog w = .ok (117, .agg #[.int .i64 k, c]) w := by kernel_rfl
end Go.Proofs.YtjlpfpigggdemaaGreatDoor
namespace Go.Proofs.YtjlpfpigggdemaaGreatDoor
open Go.RowKit Go.Extern.Stop Go.Stop Go.Extern Va Uo
set_option linter.all false
theorem ta_as (v : Value) (xT : TypeId) (w : World) : (Instr.typeAssert (.iface 115 v) xT 135 true).run Tryz.prog w = .ok (.tuple #[.nilIface, .bool false]) w := run_typeAssert_lacksB Tryz.underlying135 (by kernel_rfl) (by kernel_rfl) v xT w
theorem ta_un (v : Value) (xT : TypeId) (w : World) : (Instr.typeAssert (.iface 115 v) xT 138 true).run Tryz.prog w = .ok (.tuple #[.iface 115 v, .bool true]) w := run_typeAssert_hasB Tryz.underlying138 (by kernel_rfl) v xT w
theorem ta_er (v : Value) (xT : TypeId) (w : World) : (Instr.typeAssert (.iface 115 v) xT 81 true).run Tryz.prog w = .ok (.tuple #[.iface 115 v, .bool true]) w := run_typeAssert_hasB Tryz.underlying81 (by kernel_rfl) v xT w
theorem zla (k : Int) (c : Value) (w : World) : Calls Tryz.prog 117 #[.agg #[.int .i64 k, .iface 79 c]] w fun e w' => e = .returned (.iface 79 c) /\ Below w.heap.size w w' := by
 go_enter Tryz.func117, Tryz.ntmps117
 go_wp2_with fail
 go_ret
 exact ⟨rfl, by repeat (first | exact Below.refl _ _ | assumption | refine jq ?_ | refine zao ?_ _ | refine Below.setCell ?_ (by first | omega | (simp; done) | (simp; omega)) _ | refine Below.alloc ?_ (by first | omega | (simp; done) | (simp; omega)) _)⟩
set_option maxRecDepth 20000 in
set_option maxHeartbeats 16000000 in
theorem as_two (k c z : Int) (T A : Nat) (w : World) (hA : PB w A #[.pointer (some ⟨T, 0, none⟩)] 84) (hT : PB w T #[.int .i64 z] 79) (hTA : T ≠ A) :
  Calls Tryz.prog 68 #[.iface 115 (.agg #[.int .i64 k, .iface 79 (.int .i64 c)]), .iface 84 (.pointer (some ⟨T, 0, none⟩)), .agg #[.pointer (some ⟨1, 84, none⟩), .pointer (some ⟨A, 0, none⟩), .int .u64 150], .iface 130 (.agg #[.pointer (some ⟨1, 79, none⟩)])] w fun e w' => e = .returned (.bool true) /\ PB w' T #[.int .i64 c] 79 /\ Below T w w' := by
 have hvo := @run_callFunc_extern Tryz.prog 65 _ (fun args => ReflectliteValue.unpack (args.getD 0 (.tuple #[]))) Tryz.func65 (by kernel_rfl) (by kernel_rfl) (by kernel_rfl) (by kernel_rfl)
 have hto := @run_callFunc_extern Tryz.prog 87 _ (ReflectliteType.typeOf) Tryz.func87 (by kernel_rfl) (by kernel_rfl) (by kernel_rfl) (by kernel_rfl)
 have has := @run_callFunc_extern Tryz.prog 119 _ (ReflectliteType.relation "AssignableTo" ReflectliteType.assignableTo) Tryz.func119 (by kernel_rfl) (by kernel_rfl) (by kernel_rfl) (by kernel_rfl)
 have hev := @run_callFunc_extern Tryz.prog 88 _ (ReflectliteValue.method (ReflectliteValue.valueError "reflectlite.Value.Elem" 0) ReflectliteValue.elem) Tryz.func88 (by kernel_rfl) (by kernel_rfl) (by kernel_rfl) (by kernel_rfl)
 have hset := @run_callFunc_extern Tryz.prog 89 _ (ReflectliteValue.set) Tryz.func89 (by kernel_rfl) (by kernel_rfl) (by kernel_rfl) (by kernel_rfl)
 have tS := zj9
 have tO := zkh
 have mA := zj4
 have aS := zli
 have aO := zlj
 have v2 := zle
 have mU := zlk
 have a1 := ta_as
 have a2 := ta_un
 have kU := zla k (.int .i64 c)
 have hb0 : Below w.heap.size w (w.alloc (.cells #[.pointer (some ⟨1, 84, none⟩), .pointer (some ⟨A, 0, none⟩), .int .u64 150] 105)) := (Below.refl _ _).alloc (Nat.le_refl _) _
 have P0 := hidden (PB.new w #[.pointer (some ⟨1, 84, none⟩), .pointer (some ⟨A, 0, none⟩), .int .u64 150] 105)
 have hTl := hT.lt
 have hAl := hA.lt
 have HA := hidden (hA.below hb0)
 have HT := hidden (hT.below hb0)
 clear hA hT
 go_enter Tryz.func68, Tryz.ntmps68
 go_upto_region 1 with fail
 generalize w.alloc (.cells #[.pointer (some ⟨1, 84, none⟩), .pointer (some ⟨A, 0, none⟩), .int .u64 150] 105) = w0 at *
 refine wp_loop_rounds 2 ?_
 rw [rounds_succ]
 go_wp2_with (go_at_call 117; refine (kU _).mono ?_; rintro e w1 ⟨rfl, hb1⟩)
 clear kU a1 a2 mU tS aS
 have P1 := P0.out.below hb1
 have A1 := HA.out.below hb1
 have T1 := HT.out.below hb1
 have b1 := hb0.trans (hb1.mono hb0.size)
 have z1 := hb1.size
 have z0 := hb0.size
 have hbN : Below w1.heap.size w1 (w1.alloc (.cells #[.int .i64 c] 79)) := (Below.refl _ _).alloc (Nat.le_refl _) _
 have T2 := T1.below hbN
 have e0 := as_elemV ⟨A, 0, none⟩ ⟨T, 0, none⟩ w1 (A1.cell 0)
 have st := as_set ⟨T, 0, none⟩ ⟨w1.heap.size, 0, none⟩ c (.int .i64 z) (w1.alloc (.cells #[.int .i64 c] 79)) ((PB.new w1 #[.int .i64 c] 79).cell 0) (T2.cell 0) (T2.frozen 0)
 obtain ⟨c0, c1, c2⟩ := P1.three
 have HFin := hidden (T2.put 0 (.int .i64 c) (vs' := #[.int .i64 c]) (by simp))
 have HB := hidden (((b1.trans (hbN.mono (by omega))).mono (show T <= w.heap.size by omega)).setCell (p := ⟨T, 0, none⟩) (Nat.le_refl _) (.int .i64 c))
 clear hb0 hb1 P0 HA HT A1 T1 T2 hbN P1
 rw [rounds_succ]
 go_wp2_with fail
 go_ret
 exact ⟨rfl, HFin.out, HB.out⟩
set_option maxRecDepth 20000 in
set_option maxHeartbeats 16000000 in
theorem as_all (k c z : Int) (T : Nat) (w : World) (hT : PB w T #[.int .i64 z] 79) (hg : w.cell? ⟨0, 0, none⟩ = some (.iface 130 (.agg #[.pointer (some ⟨1, 81, none⟩)]))) (h0 : 0 < w.heap.size) :
  Calls Tryz.prog 43 #[.iface 115 (.agg #[.int .i64 k, .iface 79 (.int .i64 c)]), .iface 84 (.pointer (some ⟨T, 0, none⟩))] w fun e w' => e = .returned (.bool true) /\ PB w' T #[.int .i64 c] 79 /\ Below T w w' := by
 have hvo := @run_callFunc_extern Tryz.prog 65 _ (fun args => ReflectliteValue.unpack (args.getD 0 (.tuple #[]))) Tryz.func65 (by kernel_rfl) (by kernel_rfl) (by kernel_rfl) (by kernel_rfl)
 have hty := @run_callFunc_extern Tryz.prog 66 _ (ReflectliteValue.methodAny (ReflectliteValue.valueError "reflectlite.Value.Type" 0) (fun t _ _ _ => ReflectliteType.toType t)) Tryz.func66 (by kernel_rfl) (by kernel_rfl) (by kernel_rfl) (by kernel_rfl)
 have hnil := @run_callFunc_extern Tryz.prog 67 _ (ReflectliteValue.method (ReflectliteValue.valueError "reflectlite.Value.IsNil" 0) ReflectliteValue.isNil) Tryz.func67 (by kernel_rfl) (by kernel_rfl) (by kernel_rfl) (by kernel_rfl)
 have hkind := @run_callFunc_extern Tryz.prog 109 _ (ReflectliteType.abiMethod fun t => do pure (.int .u8 (<- Rtype.kind t))) Tryz.func109 (by kernel_rfl) (by kernel_rfl) (by kernel_rfl) (by kernel_rfl)
 have hel := @run_callFunc_extern Tryz.prog 121 _ (ReflectliteType.method ReflectliteType.elem) Tryz.func121 (by kernel_rfl) (by kernel_rfl) (by kernel_rfl) (by kernel_rfl)
 have him := @run_callFunc_extern Tryz.prog 122 _ (ReflectliteType.relation "Implements" ReflectliteType.implements_) Tryz.func122 (by kernel_rfl) (by kernel_rfl) (by kernel_rfl) (by kernel_rfl)
 have f6 := zji
 have f7 := as_typeP
 have mK := as_mKind
 have mE := as_mElem
 have mI := as_mImpl
 have kP := as_kindP
 have kO := as_kindO
 have eP := as_elemP
 have iO := as_implO
 have hTl := hT.lt
 have hb1 : Below w.heap.size w (w.alloc (.cells #[.pointer (some ⟨T, 0, none⟩)] 84)) := (Below.refl _ _).alloc (Nat.le_refl _) _
 have hb2 : Below w.heap.size w ((w.alloc (.cells #[.pointer (some ⟨T, 0, none⟩)] 84)).alloc (.cells #[.pointer (some ⟨1, 84, none⟩), .pointer (some ⟨w.heap.size, 0, none⟩), .int .u64 150] 105)) := hb1.alloc (by simp) _
 have PA := (PB.new w #[.pointer (some ⟨T, 0, none⟩)] 84).alloc (.cells #[.pointer (some ⟨1, 84, none⟩), .pointer (some ⟨w.heap.size, 0, none⟩), .int .u64 150] 105)
 have PV := PB.new (w.alloc (.cells #[.pointer (some ⟨T, 0, none⟩)] 84)) #[.pointer (some ⟨1, 84, none⟩), .pointer (some ⟨w.heap.size, 0, none⟩), .int .u64 150] 105
 simp only [World.size_alloc] at PV
 have hg2 : ((w.alloc (.cells #[.pointer (some ⟨T, 0, none⟩)] 84)).alloc (.cells #[.pointer (some ⟨1, 84, none⟩), .pointer (some ⟨w.heap.size, 0, none⟩), .int .u64 150] 105)).cell? ⟨0, 0, none⟩ = some (.iface 130 (.agg #[.pointer (some ⟨1, 81, none⟩)])) := (hb2.cell (p := ⟨0, 0, none⟩) h0).trans hg
 have T2 := hT.below hb2
 have n8 := zkx ⟨w.heap.size, 0, none⟩ ⟨T, 0, none⟩ _ (PA.cell 0)
 have kA := as_two k c z T w.heap.size _ PA T2 (by omega)
 obtain ⟨c0, c1, c2⟩ := PV.three
 clear PV PA T2 hT hg hb1
 go_enter Tryz.func43, Tryz.ntmps43
 go_wp2_with (go_at_call 68; refine kA.mono ?_; rintro e w3 ⟨rfl, hP3, hb3⟩)
 go_ret
 exact ⟨rfl, hP3, (hb2.mono (by omega)).trans hb3⟩
theorem zlg (k c : Int) (w : World) (hg : w.cell? ⟨0, 0, none⟩ = some (.iface 130 (.agg #[.pointer (some ⟨1, 81, none⟩)]))) (h0 : 0 < w.heap.size) :
  Calls Tryz.prog 27 #[kz k c] w fun e w' => e = .returned (.int .i64 c) /\ Below w.heap.size w w' := by
 have hb0 : Below w.heap.size w (w.alloc (.cells #[.int .i64 0] 79)) := (Below.refl _ _).alloc (Nat.le_refl _) _
 have kA := as_all k c 0 w.heap.size _ (PB.new w #[.int .i64 0] 79) ((hb0.cell (p := ⟨0, 0, none⟩) h0).trans hg) (by simp)
 have a1 := ta_er
 unfold kz
 clear hg
 go_enter Tryz.func27, Tryz.ntmps27
 go_upto_region 4 with (go_at_call 43; refine kA.mono ?_; rintro e w3 ⟨rfl, hP3, hb3⟩)
 have c0 : w3.cell? ⟨w.heap.size, 0, none⟩ = some (.int .i64 c) := hP3.cell 0
 go_wp2_with fail
 go_ret
 exact ⟨rfl, hb0.trans hb3⟩
end Go.Proofs.YtjlpfpigggdemaaGreatDoor
