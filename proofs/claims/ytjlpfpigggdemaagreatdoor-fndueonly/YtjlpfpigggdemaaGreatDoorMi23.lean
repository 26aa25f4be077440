/-
 Merged: U39 U41.
-/
import Derived.Test.YtjlpfpigggdemaaGreatDoorMi22
namespace Go.Proofs.YtjlpfpigggdemaaGreatDoor
set_option maxRecDepth 8000
set_option maxHeartbeats 4000000
open Go.RowKit Va Uo
set_option linter.all false
def wdC (ds : List Ds) (x : Dd) (oo : Od) : Int :=
 if ¬ oo.s = 2 then 5 else if ¬ x.p = oo.p then 6 else if ¬ x.d = oo.d then 7 else if ¬ x.n = oo.n then 8 else if (jh ds x.m oo oo.c.toNat).length = 0 then 9
 else if ¬ za3 oo.two x.b x.a = true then 10 else if ¬ zay ds x.m = false then 11 else if ds.length = 500 then 12 else 0
def WD (base : Nat) (vb : Value) (os : List Od) (ds : List Ds) (x : Dd) (oo : Od) (w : World) (e : Ending) (w' : World) : Prop :=
 (¬ wdC ds x oo = 0 /\ e = .panicked [{ v := kz x.k (wdC ds x oo), recovered := false }] /\ Below w.heap.size w w') ∨ (wdC ds x oo = 0 /\ ∃ v2, e = .returned (.agg #[vb, v2]) /\ Cp.zo w' base vb v2 os (ds ++ [⟨x.id, ((jh ds x.m oo oo.c.toNat).getD 0 default).t, x.m, x.b, x.a⟩]) /\ Below base w w')
theorem zcu {base : Nat} {vb : Value} {os : List Od} {ds : List Ds} {x : Dd} {oo : Od} {w w' : World} {e : Ending} (c : Int) (hc : wdC ds x oo = c) (h0 : ¬ c = 0) (he : e = .panicked [{ v := kz x.k c, recovered := false }]) (hb : Below w.heap.size w w') : WD base vb os ds x oo w e w' := Or.inl ⟨hc ▸ h0, hc ▸ he, hb⟩
theorem zjn {w : World} {base c g : Nat} {D : List Du} (h : w.ownsRow base 33 3 (.slice (some ⟨g, 0, none⟩) D.length c) D.length (zt 3 jc D)) (hn : ¬ D.length = 0) : ∃ cs, PB w g cs 33 /\ cs[1]? = some (.int .i64 (D.getD 0 default).t) := by
 obtain ⟨q, ⟨q1, q2⟩ | ⟨g', cap, cur, q1, hb, hg, hc, hm, hs, ht⟩⟩ := h
 ·cases q1
 ·simp only [Value.slice.injEq, Option.some.injEq, Addr.mk.injEq, and_true, true_and] at q1
  obtain ⟨rfl, -⟩ := q1
  refine ⟨cur, hg, ?_⟩
  obtain ⟨d, hd⟩ : ∃ d, D[0]? = some d := ⟨_, List.getElem?_eq_getElem (by omega)⟩
  have h1 := jg (cs := jc) (s := 3) D 0 d hd 1 (by decide)
  rw [<- ht, List.getElem?_take, if_pos (by omega), Array.getElem?_toList] at h1
  rw [zee hd]
  exact h1
theorem PB.ty {W : World} {B : Nat} {vs vs' : Array Value} {t t' : TypeId} (h : PB W B vs t) (h' : PB W B vs' t') : t = t' := by
 unfold PB at h h'
 rw [h] at h'
 simp only [Option.some.injEq, Obj.cells.injEq] at h'
 exact h'.2.1
theorem dose_end {w W : World} {tm : Array Value} {base B : Nat} {v1 v2 : Value} {os : List Od} {ds : List Ds} {x : Dd} {oo : Od} (hc : wdC ds x oo = 0) (p : PB W B #[.slice none 0 0, .slice none 0 0] 27) (hl : base <= B) (hb : Below base w W) (hN : Cp.zo W base v1 v2 os (ds ++ [⟨x.id, ((jh ds x.m oo oo.c.toNat).getD 0 default).t, x.m, x.b, x.a⟩])) (h4 : tm.getD 4 undef = .pointer (some ⟨B, 0, none⟩)) :
  bodyPost Tryz.prog Tryz.f47 (WD base v1 os ds x oo w) Exit.ret ⟨tm, []⟩ ((W.setCell ⟨B, 0, none⟩ v1).setCell ⟨B, 1, none⟩ v2) := by
 have p4 : PB ((W.setCell ⟨B, 0, none⟩ v1).setCell ⟨B, 1, none⟩ v2) B #[v1, v2] 27 := (p.set 0 v1).set 1 v2
 refine bodyPost_ret (v := .agg #[v1, v2]) (results_cell_row Tryz.results47 _ _ B 27 _ (0, 0) _ h4 p4 Tryz.underlying27 rfl (by kernel_rfl)) rfl (Or.inr ⟨hc, v2, rfl, ⟨?_, ?_⟩, (hb.setCell (p := ⟨B, 0, none⟩) hl _).setCell (p := ⟨B, 1, none⟩) hl _⟩)
 ·exact Cp.jo (Cp.jo hN.1 (jb hN.1 p (by decide)) _ _) (jb hN.1 p (by decide)) _ _
 ·exact Cp.jo (Cp.jo hN.2 (jb hN.2 p (by decide)) _ _) (jb hN.2 p (by decide)) _ _
set_option maxRecDepth 20000 in
set_option maxHeartbeats 16000000 in
theorem zjh (vb vs : Value) (os : List Od) (ds : List Ds) (base : Nat) (x : Dd) (w : World) (h : Cp.zo w base vb vs os ds) (hbase : base <= w.heap.size) (hn : os.length <= 100) (hr : Ris os) (hat : atO os x.id < 0) :
  Calls Tryz.prog 47 #[.agg #[vb, vs], aDd x] w fun e w' => e = .panicked [{ v := kz x.k 4, recovered := false }] /\ Below w.heap.size w w' := by
 obtain ⟨a1, c1, a2, c2, rfl, rfl⟩ := h.form
 obtain ⟨hb0, p2, p3, p4⟩ := yh w #[.slice a1 os.length c1, .slice a2 ds.length c2] #[.int .i64 x.k, .int .i64 x.o.id, .int .i64 x.o.p, .int .i64 x.o.d, .int .i64 x.o.n, .int .i64 x.o.f, .int .i64 x.o.e, .int .i64 x.o.c, .int .i64 x.o.s, .bool x.o.two, .int .i64 x.id, .int .i64 x.p, .int .i64 x.d, .int .i64 x.n, .int .i64 x.m, .int .i64 x.b, .int .i64 x.a] #[.slice none 0 0, .slice none 0 0] 27 40 27
 have hN0 := h.below hb0
 have HN := hidden hN0
 have hsz0 : w.heap.size + 1 + 1 + 1 = (((w.alloc (.cells #[.slice a1 os.length c1, .slice a2 ds.length c2] 27)).alloc (.cells #[.int .i64 x.k, .int .i64 x.o.id, .int .i64 x.o.p, .int .i64 x.o.d, .int .i64 x.o.n, .int .i64 x.o.f, .int .i64 x.o.e, .int .i64 x.o.c, .int .i64 x.o.s, .bool x.o.two, .int .i64 x.id, .int .i64 x.p, .int .i64 x.d, .int .i64 x.n, .int .i64 x.m, .int .i64 x.b, .int .i64 x.a] 40)).alloc (.cells #[.slice none 0 0, .slice none 0 0] 27)).heap.size := by simp
 unfold aDd
 clear h hN0
 go_enter Tryz.func47, Tryz.ntmps47
 go_upto_region 1 with fail
 generalize (((w.alloc (.cells #[.slice a1 os.length c1, .slice a2 ds.length c2] 27)).alloc (.cells #[.int .i64 x.k, .int .i64 x.o.id, .int .i64 x.o.p, .int .i64 x.o.d, .int .i64 x.o.n, .int .i64 x.o.f, .int .i64 x.o.e, .int .i64 x.o.c, .int .i64 x.o.s, .bool x.o.two, .int .i64 x.id, .int .i64 x.p, .int .i64 x.d, .int .i64 x.n, .int .i64 x.m, .int .i64 x.b, .int .i64 x.a] 40)).alloc (.cells #[.slice none 0 0, .slice none 0 0] 27)) = W0 at *
 have z0 := hb0.size
 have HB0 := hidden hb0
 have P2 := hidden p2
 have P3 := hidden p3
 have P4 := hidden p4
 have e20 : W0.cell? ⟨w.heap.size, 0, none⟩ = some _ := p2.cell 0
 have e21 : W0.cell? ⟨w.heap.size, 1, none⟩ = some _ := p2.cell 1
 obtain ⟨d0, ⟨d1, d2, d3, d4, d5, d6, d7, d8, d9⟩, da, db, dc, dd, de, df, dg⟩ := p3.deed
 clear p2 p3 p4 hb0
 have hPL := zcc a1 os.length c1 (.slice a2 ds.length c2) os x.id W0 (za1 rfl HN.out.1).row (by omega) hr ⟨_, _, _, rfl⟩
 have HNO : Hid (∀ k', Cut os x.id k' -> qm os x.id k' = false) := fun k' hc => by
  cases hq : qm os x.id k' with
  | false => rfl
  | true => have := (zbx hr hc hq).1; omega
 have kS := fun W => zce x 4 W
 clear hat hr
 clear d0 d1 d2 d3 d4 d5 d6 d7 d8 d9 db dc dd de df dg
 go_upto_region 2 with (go_at_call 53; refine hPL.mono ?_; rintro e w1 ⟨k', hcut, rfl, hb1⟩; rw [HNO.out k' hcut]; have bA := onto HB0.out hb1; have P21 := hidden (P2.out.below hb1); have P31 := hidden (P3.out.below hb1); have P41 := hidden (P4.out.below hb1); have N1 := hidden (HN.out.below hb1); have z1 := hb1.size; clear hb1 hcut)
 clear da
 go_wp2_with (first | (refine wpList_load_row rfl 40 (.tmp 3) rfl (w.heap.size + 1) rfl 40 #[.int .i64 x.k, .int .i64 x.o.id, .int .i64 x.o.p, .int .i64 x.o.d, .int .i64 x.o.n, .int .i64 x.o.f, .int .i64 x.o.e, .int .i64 x.o.c, .int .i64 x.o.s, .bool x.o.two, .int .i64 x.id, .int .i64 x.p, .int .i64 x.d, .int .i64 x.n, .int .i64 x.m, .int .i64 x.b, .int .i64 x.a] (0, 0) _ P31.out Tryz.underlying40 rfl (by kernel_rfl) ?_) | (go_at_call 44; with_reducible refine (kS _).mono ?_; rintro e w2 ⟨rfl, hb2⟩; have bB := onto bA hb2; clear hb2))
 exact ⟨rfl, rfl, bB⟩
end Go.Proofs.YtjlpfpigggdemaaGreatDoor
namespace Go.Proofs.YtjlpfpigggdemaaGreatDoor
open Go.RowKit Va Uo
set_option linter.all false
set_option maxRecDepth 20000 in
set_option maxHeartbeats 16000000 in
theorem zke (vb vs : Value) (os : List Od) (ds : List Ds) (base : Nat) (x : Dd) (w : World) (h : Cp.zo w base vb vs os ds) (hbase : base <= w.heap.size) (hn : os.length <= 100) (hr : Ris os) (hm : ds.length <= 500) (hbd : ∀ (i : Nat) (d : Ds), ds[i]? = some d -> Bd d.o /\ Bd d.t) (ht : zl x.m = true) (k : Nat) (oo : Od) (hat : atO os x.id = (k : Int)) (hko : os[k]? = some oo) (hod : odB oo = true) (h5 : oo.s = 2) (h6 : x.p = oo.p) (h7 : x.d = oo.d) (h8 : x.n = oo.n) :
  Calls Tryz.prog 47 #[.agg #[vb, vs], aDd x] w (WD base vb os ds x oo w) := by
 have H5 := hidden h5
 have H6 := hidden h6
 have H7 := hidden h7
 have H8 := hidden h8
 clear h5 h6 h7 h8
 obtain ⟨a1, c1, a2, c2, rfl, rfl⟩ := h.form
 obtain ⟨hb0, p2, p3, p4⟩ := yh w #[.slice a1 os.length c1, .slice a2 ds.length c2] #[.int .i64 x.k, .int .i64 x.o.id, .int .i64 x.o.p, .int .i64 x.o.d, .int .i64 x.o.n, .int .i64 x.o.f, .int .i64 x.o.e, .int .i64 x.o.c, .int .i64 x.o.s, .bool x.o.two, .int .i64 x.id, .int .i64 x.p, .int .i64 x.d, .int .i64 x.n, .int .i64 x.m, .int .i64 x.b, .int .i64 x.a] #[.slice none 0 0, .slice none 0 0] 27 40 27
 have hN0 := h.below hb0
 have HN := hidden hN0
 have hsz0 : w.heap.size + 1 + 1 + 1 = (((w.alloc (.cells #[.slice a1 os.length c1, .slice a2 ds.length c2] 27)).alloc (.cells #[.int .i64 x.k, .int .i64 x.o.id, .int .i64 x.o.p, .int .i64 x.o.d, .int .i64 x.o.n, .int .i64 x.o.f, .int .i64 x.o.e, .int .i64 x.o.c, .int .i64 x.o.s, .bool x.o.two, .int .i64 x.id, .int .i64 x.p, .int .i64 x.d, .int .i64 x.n, .int .i64 x.m, .int .i64 x.b, .int .i64 x.a] 40)).alloc (.cells #[.slice none 0 0, .slice none 0 0] 27)).heap.size := by simp
 unfold aDd
 clear h hN0
 go_enter Tryz.func47, Tryz.ntmps47
 go_upto_region 1 with fail
 generalize (((w.alloc (.cells #[.slice a1 os.length c1, .slice a2 ds.length c2] 27)).alloc (.cells #[.int .i64 x.k, .int .i64 x.o.id, .int .i64 x.o.p, .int .i64 x.o.d, .int .i64 x.o.n, .int .i64 x.o.f, .int .i64 x.o.e, .int .i64 x.o.c, .int .i64 x.o.s, .bool x.o.two, .int .i64 x.id, .int .i64 x.p, .int .i64 x.d, .int .i64 x.n, .int .i64 x.m, .int .i64 x.b, .int .i64 x.a] 40)).alloc (.cells #[.slice none 0 0, .slice none 0 0] 27)) = W0 at *
 have z0 := hb0.size
 have HB0 := hidden hb0
 have P2 := hidden p2
 have P3 := hidden p3
 have P4 := hidden p4
 have e20 : W0.cell? ⟨w.heap.size, 0, none⟩ = some _ := p2.cell 0
 have e21 : W0.cell? ⟨w.heap.size, 1, none⟩ = some _ := p2.cell 1
 obtain ⟨d0, ⟨d1, d2, d3, d4, d5, d6, d7, d8, d9⟩, da, db, dc, dd, de, df, dg⟩ := p3.deed
 clear p2 p3 p4 hb0
 have hPL := zcc a1 os.length c1 (.slice a2 ds.length c2) os x.id W0 (za1 rfl HN.out.1).row (by omega) hr ⟨_, _, _, rfl⟩
 have HYES : Hid (∀ k', Cut os x.id k' -> k' = k /\ qm os x.id k' = true) := fun k' hc => by
  cases hq : qm os x.id k' with
  | false => have := zdz hr hc hq; omega
  | true => have := (zbx hr hc hq).1; exact ⟨by omega, rfl⟩
 have kN := fun W => zbz x 4 W
 have hkl : k < os.length := (List.getElem?_eq_some_iff.1 hko).1
 clear hat hr
 have HBD := hidden hbd
 clear hbd
 clear d0 d1 d2 d3 d4 d5 d6 d7 d8 d9 db dc dd de df dg
 go_upto_region 2 with (go_at_call 53; refine hPL.mono ?_; rintro e w1 ⟨k', hcut, rfl, hb1⟩; obtain ⟨rfl, hia⟩ := HYES.out k' hcut; rw [hia]; have bA := onto HB0.out hb1; have P21 := hidden (P2.out.below hb1); have P31 := hidden (P3.out.below hb1); have P41 := hidden (P4.out.below hb1); have N1 := hidden (HN.out.below hb1); have z1 := hb1.size; clear hb1 hcut)
 clear da
 go_upto_region 3 with (first | (refine wpList_load_row rfl 40 (.tmp 3) rfl (w.heap.size + 1) rfl 40 #[.int .i64 x.k, .int .i64 x.o.id, .int .i64 x.o.p, .int .i64 x.o.d, .int .i64 x.o.n, .int .i64 x.o.f, .int .i64 x.o.e, .int .i64 x.o.c, .int .i64 x.o.s, .bool x.o.two, .int .i64 x.id, .int .i64 x.p, .int .i64 x.d, .int .i64 x.n, .int .i64 x.m, .int .i64 x.b, .int .i64 x.a] (0, 0) _ P31.out Tryz.underlying40 rfl (by kernel_rfl) ?_) | (go_at_call 44; with_reducible refine (kN _).mono ?_; rintro e w2 ⟨rfl, hb2⟩; have b2 := onto bA hb2; have P22 := hidden (P21.out.below hb2); have P32 := hidden (P31.out.below hb2); have P42 := hidden (P41.out.below hb2); have N2 := hidden (N1.out.below hb2); have z2 := hb2.size; clear hb2))
 clear kN P21 P31 P41 N1 bA hPL HYES HN HB0 P2 P3 P4 e20 e21
 obtain ⟨G, rfl⟩ := zeh N2.out.1 (by omega)
 have HR := fun j hj => (jw N2.out.1 (jg os k' oo hko j hj)).1
 have r0 : w2.cell? ⟨G, k' * 9, none⟩ = some (.int .i64 oo.id) := HR 0 (by decide)
 have r1 : w2.cell? ⟨G, k' * 9 + 1, none⟩ = some (.int .i64 oo.p) := HR 1 (by decide)
 have r2 : w2.cell? ⟨G, k' * 9 + 2, none⟩ = some (.int .i64 oo.d) := HR 2 (by decide)
 have r3 : w2.cell? ⟨G, k' * 9 + 3, none⟩ = some (.int .i64 oo.n) := HR 3 (by decide)
 have r4 : w2.cell? ⟨G, k' * 9 + 4, none⟩ = some (.int .i64 oo.f) := HR 4 (by decide)
 have r5 : w2.cell? ⟨G, k' * 9 + 5, none⟩ = some (.int .i64 oo.e) := HR 5 (by decide)
 have r6 : w2.cell? ⟨G, k' * 9 + 6, none⟩ = some (.int .i64 oo.c) := HR 6 (by decide)
 have r7 : w2.cell? ⟨G, k' * 9 + 7, none⟩ = some (.int .i64 oo.s) := HR 7 (by decide)
 have r8 : w2.cell? ⟨G, k' * 9 + 8, none⟩ = some (.bool oo.two) := HR 8 (by decide)
 clear HR
 obtain ⟨q20, q21⟩ := P22.out.two
 have hk1 : (k' : Int) < (os.length : Int) := by omega
 have hk2 : (0 : Int) <= (k' : Int) := by omega
 go_upto_region 4 with fail
 clear r0 r1 r2 r3 r4 r5 r6 r7 r8 q20 q21
 have hb3 : Below w2.heap.size w2 (w2.alloc (.cells #[.int .i64 oo.id, .int .i64 oo.p, .int .i64 oo.d, .int .i64 oo.n, .int .i64 oo.f, .int .i64 oo.e, .int .i64 oo.c, .int .i64 oo.s, .bool oo.two] 38)) := (Below.refl _ _).alloc (Nat.le_refl _) _
 have P73 := hidden (PB.new w2 #[.int .i64 oo.id, .int .i64 oo.p, .int .i64 oo.d, .int .i64 oo.n, .int .i64 oo.f, .int .i64 oo.e, .int .i64 oo.c, .int .i64 oo.s, .bool oo.two] 38)
 have b3 := onto b2 hb3
 have P23 := hidden (P22.out.below hb3)
 have P33 := hidden (P32.out.below hb3)
 have P43 := hidden (P42.out.below hb3)
 have N3 := hidden (N2.out.below hb3)
 clear hb3 b2 P22 P32 P42 N2
 generalize w2.alloc (.cells #[.int .i64 oo.id, .int .i64 oo.p, .int .i64 oo.d, .int .i64 oo.n, .int .i64 oo.f, .int .i64 oo.e, .int .i64 oo.c, .int .i64 oo.s, .bool oo.two] 38) = w3 at *
 generalize (Value.agg #[.int .i64 x.k, .int .i64 x.o.id, .int .i64 x.o.p, .int .i64 x.o.d, .int .i64 x.o.n, .int .i64 x.o.f, .int .i64 x.o.e, .int .i64 x.o.c, .int .i64 x.o.s, .bool x.o.two, .int .i64 x.id, .int .i64 x.p, .int .i64 x.d, .int .i64 x.n, .int .i64 x.m, .int .i64 x.b, .int .i64 x.a]) = vD3
 generalize (Value.agg #[.int .i64 oo.id, .int .i64 oo.p, .int .i64 oo.d, .int .i64 oo.n, .int .i64 oo.f, .int .i64 oo.e, .int .i64 oo.c, .int .i64 oo.s, .bool oo.two]) = vO3
 generalize (Value.agg #[Value.slice (some ⟨G, 0, none⟩) os.length c1, Value.slice a2 ds.length c2]) = vC3
 have r7 : w3.cell? ⟨w2.heap.size, 7, none⟩ = some (.int .i64 oo.s) := P73.out.cell 7
 have kS := fun W => zbt x 5 W (show (oo.s != 2) = false by have hz := H5.out; simp [hz])
 go_upto_region 5 with (first | (refine wpList_load_row rfl 40 (.tmp 3) rfl (w.heap.size + 1) rfl 40 #[.int .i64 x.k, .int .i64 x.o.id, .int .i64 x.o.p, .int .i64 x.o.d, .int .i64 x.o.n, .int .i64 x.o.f, .int .i64 x.o.e, .int .i64 x.o.c, .int .i64 x.o.s, .bool x.o.two, .int .i64 x.id, .int .i64 x.p, .int .i64 x.d, .int .i64 x.n, .int .i64 x.m, .int .i64 x.b, .int .i64 x.a] (0, 0) _ P33.out Tryz.underlying40 rfl (by kernel_rfl) ?_) | (go_at_call 44; with_reducible refine (kS _).mono ?_; rintro e w4 ⟨rfl, hb4⟩; have b4 := onto b3 hb4; have P24 := hidden (P23.out.below hb4); have P34 := hidden (P33.out.below hb4); have P44 := hidden (P43.out.below hb4); have P74 := hidden (P73.out.below hb4); have N4 := hidden (N3.out.below hb4); clear hb4 b3 P23 P33 P43 P73 N3))
 clear kS r7
 generalize (Value.agg #[.int .i64 x.k, .int .i64 x.o.id, .int .i64 x.o.p, .int .i64 x.o.d, .int .i64 x.o.n, .int .i64 x.o.f, .int .i64 x.o.e, .int .i64 x.o.c, .int .i64 x.o.s, .bool x.o.two, .int .i64 x.id, .int .i64 x.p, .int .i64 x.d, .int .i64 x.n, .int .i64 x.m, .int .i64 x.b, .int .i64 x.a]) = vD4
 have r7 : w4.cell? ⟨w2.heap.size, 1, none⟩ = some (.int .i64 oo.p) := P74.out.cell 1
 have qx : w4.cell? ⟨w.heap.size + 1, 11, none⟩ = some (.int .i64 x.p) := P34.out.cell 11
 have kS := fun W => zbt x 6 W (show (x.p != oo.p) = false by have hz := H6.out; simp [hz])
 go_upto_region 6 with (first | (refine wpList_load_row rfl 40 (.tmp 3) rfl (w.heap.size + 1) rfl 40 #[.int .i64 x.k, .int .i64 x.o.id, .int .i64 x.o.p, .int .i64 x.o.d, .int .i64 x.o.n, .int .i64 x.o.f, .int .i64 x.o.e, .int .i64 x.o.c, .int .i64 x.o.s, .bool x.o.two, .int .i64 x.id, .int .i64 x.p, .int .i64 x.d, .int .i64 x.n, .int .i64 x.m, .int .i64 x.b, .int .i64 x.a] (0, 0) _ P34.out Tryz.underlying40 rfl (by kernel_rfl) ?_) | (go_at_call 44; with_reducible refine (kS _).mono ?_; rintro e w5 ⟨rfl, hb5⟩; have b5 := onto b4 hb5; have P25 := hidden (P24.out.below hb5); have P35 := hidden (P34.out.below hb5); have P45 := hidden (P44.out.below hb5); have P75 := hidden (P74.out.below hb5); have N5 := hidden (N4.out.below hb5); clear hb5 b4 P24 P34 P44 P74 N4))
 clear kS r7 qx
 generalize (Value.agg #[.int .i64 x.k, .int .i64 x.o.id, .int .i64 x.o.p, .int .i64 x.o.d, .int .i64 x.o.n, .int .i64 x.o.f, .int .i64 x.o.e, .int .i64 x.o.c, .int .i64 x.o.s, .bool x.o.two, .int .i64 x.id, .int .i64 x.p, .int .i64 x.d, .int .i64 x.n, .int .i64 x.m, .int .i64 x.b, .int .i64 x.a]) = vD5
 have r7 : w5.cell? ⟨w2.heap.size, 2, none⟩ = some (.int .i64 oo.d) := P75.out.cell 2
 have qx : w5.cell? ⟨w.heap.size + 1, 12, none⟩ = some (.int .i64 x.d) := P35.out.cell 12
 have kS := fun W => zbt x 7 W (show (x.d != oo.d) = false by have hz := H7.out; simp [hz])
 go_upto_region 7 with (first | (refine wpList_load_row rfl 40 (.tmp 3) rfl (w.heap.size + 1) rfl 40 #[.int .i64 x.k, .int .i64 x.o.id, .int .i64 x.o.p, .int .i64 x.o.d, .int .i64 x.o.n, .int .i64 x.o.f, .int .i64 x.o.e, .int .i64 x.o.c, .int .i64 x.o.s, .bool x.o.two, .int .i64 x.id, .int .i64 x.p, .int .i64 x.d, .int .i64 x.n, .int .i64 x.m, .int .i64 x.b, .int .i64 x.a] (0, 0) _ P35.out Tryz.underlying40 rfl (by kernel_rfl) ?_) | (go_at_call 44; with_reducible refine (kS _).mono ?_; rintro e w6 ⟨rfl, hb6⟩; have b6 := onto b5 hb6; have P26 := hidden (P25.out.below hb6); have P36 := hidden (P35.out.below hb6); have P46 := hidden (P45.out.below hb6); have P76 := hidden (P75.out.below hb6); have N6 := hidden (N5.out.below hb6); clear hb6 b5 P25 P35 P45 P75 N5))
 clear kS r7 qx
 generalize (Value.agg #[.int .i64 x.k, .int .i64 x.o.id, .int .i64 x.o.p, .int .i64 x.o.d, .int .i64 x.o.n, .int .i64 x.o.f, .int .i64 x.o.e, .int .i64 x.o.c, .int .i64 x.o.s, .bool x.o.two, .int .i64 x.id, .int .i64 x.p, .int .i64 x.d, .int .i64 x.n, .int .i64 x.m, .int .i64 x.b, .int .i64 x.a]) = vD6
 have r7 : w6.cell? ⟨w2.heap.size, 3, none⟩ = some (.int .i64 oo.n) := P76.out.cell 3
 have qx : w6.cell? ⟨w.heap.size + 1, 13, none⟩ = some (.int .i64 x.n) := P36.out.cell 13
 have kS := fun W => zbt x 8 W (show (x.n != oo.n) = false by have hz := H8.out; simp [hz])
 go_upto_region 8 with (first | (refine wpList_load_row rfl 40 (.tmp 3) rfl (w.heap.size + 1) rfl 40 #[.int .i64 x.k, .int .i64 x.o.id, .int .i64 x.o.p, .int .i64 x.o.d, .int .i64 x.o.n, .int .i64 x.o.f, .int .i64 x.o.e, .int .i64 x.o.c, .int .i64 x.o.s, .bool x.o.two, .int .i64 x.id, .int .i64 x.p, .int .i64 x.d, .int .i64 x.n, .int .i64 x.m, .int .i64 x.b, .int .i64 x.a] (0, 0) _ P36.out Tryz.underlying40 rfl (by kernel_rfl) ?_) | (go_at_call 44; with_reducible refine (kS _).mono ?_; rintro e w7 ⟨rfl, hb7⟩; have b7 := onto b6 hb7; have P27 := hidden (P26.out.below hb7); have P37 := hidden (P36.out.below hb7); have P47 := hidden (P46.out.below hb7); have P77 := hidden (P76.out.below hb7); have N7 := hidden (N6.out.below hb7); clear hb7 b6 P26 P36 P46 P76 N6))
 clear kS r7 qx
 generalize (Value.agg #[.int .i64 x.k, .int .i64 x.o.id, .int .i64 x.o.p, .int .i64 x.o.d, .int .i64 x.o.n, .int .i64 x.o.f, .int .i64 x.o.e, .int .i64 x.o.c, .int .i64 x.o.s, .bool x.o.two, .int .i64 x.id, .int .i64 x.p, .int .i64 x.d, .int .i64 x.n, .int .i64 x.m, .int .i64 x.b, .int .i64 x.a]) = vD7
 refine regD8 (B2 := w.heap.size) (B3 := w.heap.size + 1) (B7 := w2.heap.size) (vo := .slice (some ⟨G, 0, none⟩) os.length c1) (ad := a2) (dcap := c2) (ds := ds) (x := x) (o := oo) rfl rfl rfl rfl P27.out P37.out P77.out (za1 rfl N7.out.2).row hm HBD.out hod ht ?_
 intro b' w8 hf8 hb8 hr8
 obtain ⟨g, c8, hv8, ho8⟩ := hr8
 (rw [layD8 hf8]; simp only [Rg.fl0, Rg.fl1, Rg.fl2, Nat.reduceAdd]; rw [hv8])
 clear hf8 hv8
 have z7 := b7.size
 have b8 := onto b7 hb8; have P28 := hidden (P27.out.below hb8); have P38 := hidden (P37.out.below hb8); have P48 := hidden (P47.out.below hb8); have P78 := hidden (P77.out.below hb8); have N8 := hidden (N7.out.below hb8); clear hb8 b7 P27 P37 P47 P77 N7
 have D8 := hidden (fun hn => zjn ho8 hn)
 clear ho8
 generalize Rg.out (Rg.opsOf Tryz.f47 8) b' = yF
 have h0L : wdC ds x oo = if (jh ds x.m oo oo.c.toNat).length = 0 then 9 else if ¬ za3 oo.two x.b x.a = true then 10 else if ¬ zay ds x.m = false then 11 else if ds.length = 500 then 12 else 0 := by simp [wdC, H5.out, H6.out, H7.out, H8.out]
 generalize hLm : (jh ds x.m oo oo.c.toNat).length = m8 at h0L D8 ⊢
 have H0L := hidden h0L
 have HLM := hidden hLm
 clear h0L hLm
 go_frame
 by_cases hz : ¬ m8 = 0
 rotate_left
 ·have kS := fun W => zc3 x 9 W (show ((m8 : Int) == 0) = true by simp at hz; simp [hz])
  have HZ := hidden hz
  clear hz
  go_wp2_with (first | (refine wpList_load_row rfl 40 (.tmp 3) rfl (w.heap.size + 1) rfl 40 #[.int .i64 x.k, .int .i64 x.o.id, .int .i64 x.o.p, .int .i64 x.o.d, .int .i64 x.o.n, .int .i64 x.o.f, .int .i64 x.o.e, .int .i64 x.o.c, .int .i64 x.o.s, .bool x.o.two, .int .i64 x.id, .int .i64 x.p, .int .i64 x.d, .int .i64 x.n, .int .i64 x.m, .int .i64 x.b, .int .i64 x.a] (0, 0) _ P38.out Tryz.underlying40 rfl (by kernel_rfl) ?_) | (go_at_call 44; with_reducible refine (kS _).mono ?_; rintro e w9 ⟨rfl, hb9⟩; have b9 := onto b8 hb9; clear hb9))
  exact ⟨rfl, zcu 9 (by have hz := HZ.out; rw [H0L.out]; simp at hz; simp [hz]) (by decide) rfl b9⟩
 have kS := fun W => zbt x 9 W (show ((m8 : Int) == 0) = false by simp [hz])
 have H9 := hidden hz
 clear hz
 go_upto_region 10 with (first | (refine wpList_load_row rfl 40 (.tmp 3) rfl (w.heap.size + 1) rfl 40 #[.int .i64 x.k, .int .i64 x.o.id, .int .i64 x.o.p, .int .i64 x.o.d, .int .i64 x.o.n, .int .i64 x.o.f, .int .i64 x.o.e, .int .i64 x.o.c, .int .i64 x.o.s, .bool x.o.two, .int .i64 x.id, .int .i64 x.p, .int .i64 x.d, .int .i64 x.n, .int .i64 x.m, .int .i64 x.b, .int .i64 x.a] (0, 0) _ P38.out Tryz.underlying40 rfl (by kernel_rfl) ?_) | (go_at_call 44; with_reducible refine (kS _).mono ?_; rintro e w9 ⟨rfl, hb9⟩; have hbG := hb9; have b9 := onto b8 hb9; have P29 := hidden (P28.out.below hb9); have P39 := hidden (P38.out.below hb9); have P49 := hidden (P48.out.below hb9); have P79 := hidden (P78.out.below hb9); have N9 := hidden (N8.out.below hb9); clear hb9 b8 P28 P38 P48 P78 N8))
 clear kS
 generalize (Value.agg #[.int .i64 x.k, .int .i64 x.o.id, .int .i64 x.o.p, .int .i64 x.o.d, .int .i64 x.o.n, .int .i64 x.o.f, .int .i64 x.o.e, .int .i64 x.o.c, .int .i64 x.o.s, .bool x.o.two, .int .i64 x.id, .int .i64 x.p, .int .i64 x.d, .int .i64 x.n, .int .i64 x.m, .int .i64 x.b, .int .i64 x.a]) = vD9
 obtain ⟨cs, pg, hcs⟩ := D8.out H9.out
 have PG9 := hidden (pg.below hbG)
 clear pg hbG D8
 by_cases hz : za3 oo.two x.b x.a = true
 rotate_left
 ·refine regD10d (B3 := w.heap.size + 1) (B7 := w2.heap.size) (x := x) (o := oo) rfl rfl rfl P39.out P79.out (by simpa using hz) ?_
  intro b' w10 hf10 hb10
  (rw [layD10n hf10]; simp only [Rg.fl0, Rg.fl1, Rg.fl2, Nat.reduceAdd])
  exact ⟨rfl, zcu 10 (by rw [H0L.out]; simp [H9.out, hz]) (by decide) rfl (onto b9 hb10)⟩
 have H10 := hidden hz
 clear hz
 refine regD10y (B3 := w.heap.size + 1) (B7 := w2.heap.size) (x := x) (o := oo) rfl rfl rfl P39.out P79.out H10.out ?_
 intro b' w10 hf10 hb10
 (rw [layD10y hf10]; simp only [Rg.fl0, Rg.fl1, Rg.fl2, Nat.reduceAdd])
 clear hf10
 have PG10 := hidden (PG9.out.below hb10)
 have b10 := onto b9 hb10; have P210 := hidden (P29.out.below hb10); have P310 := hidden (P39.out.below hb10); have P410 := hidden (P49.out.below hb10); have P710 := hidden (P79.out.below hb10); have N10 := hidden (N9.out.below hb10); clear hb10 b9 P29 P39 P49 P79 N9
 clear PG9
 generalize Rg.out (Rg.opsOf Tryz.f47 10) b' = yF
 go_frame
 by_cases hz : zay ds x.m = false
 rotate_left
 ·have HZ := hidden hz
  clear hz
  go_upto_region 11 with fail
  refine regD11d (B3 := w.heap.size + 1) (B2 := w.heap.size) (x := x) (ad := a2) (dcap := c2) (ds := ds) (vo := .slice (some ⟨G, 0, none⟩) os.length c1) rfl rfl rfl P310.out P210.out (za1 rfl N10.out.2).row (by omega) ⟨_, _, _, rfl⟩ (by simpa using HZ.out) ?_
  intro b' w11 hf11 hb11
  (rw [layD11n hf11]; simp only [Rg.fl0, Rg.fl1, Rg.fl2, Nat.reduceAdd])
  exact ⟨rfl, zcu 11 (by rw [H0L.out]; simp [H9.out, H10.out, HZ.out]) (by decide) rfl (onto b10 hb11)⟩
 have H11 := hidden hz
 clear hz
 go_upto_region 11 with fail
 refine regD11y (B3 := w.heap.size + 1) (B2 := w.heap.size) (x := x) (ad := a2) (dcap := c2) (ds := ds) (vo := .slice (some ⟨G, 0, none⟩) os.length c1) rfl rfl rfl P310.out P210.out (za1 rfl N10.out.2).row (by omega) ⟨_, _, _, rfl⟩ H11.out ?_
 intro b' w11 hf11 hb11
 (rw [layD11y hf11]; simp only [Rg.fl0, Rg.fl1, Rg.fl2, Nat.reduceAdd])
 clear hf11
 have PG11 := hidden (PG10.out.below hb11)
 have b11 := onto b10 hb11; have P211 := hidden (P210.out.below hb11); have P311 := hidden (P310.out.below hb11); have P411 := hidden (P410.out.below hb11); have P711 := hidden (P710.out.below hb11); have N11 := hidden (N10.out.below hb11); clear hb11 b10 P210 P310 P410 P710 N10
 clear PG10
 generalize Rg.out (Rg.opsOf Tryz.f47 11) b' = yF
 go_frame
 go_upto_region 12 with fail
 obtain ⟨q20, q21⟩ := P211.out.two
 by_cases hz : ¬ ds.length = 500
 rotate_left
 ·have kS := fun W => zc3 x 12 W (show ((ds.length : Int) == 500) = true by simp at hz; simp [hz])
  have HZ := hidden hz
  clear hz
  go_wp2_with (first | (refine wpList_load_row rfl 40 (.tmp 3) rfl (w.heap.size + 1) rfl 40 #[.int .i64 x.k, .int .i64 x.o.id, .int .i64 x.o.p, .int .i64 x.o.d, .int .i64 x.o.n, .int .i64 x.o.f, .int .i64 x.o.e, .int .i64 x.o.c, .int .i64 x.o.s, .bool x.o.two, .int .i64 x.id, .int .i64 x.p, .int .i64 x.d, .int .i64 x.n, .int .i64 x.m, .int .i64 x.b, .int .i64 x.a] (0, 0) _ P311.out Tryz.underlying40 rfl (by kernel_rfl) ?_) | (go_at_call 44; with_reducible refine (kS _).mono ?_; rintro e w9 ⟨rfl, hb9⟩; have b9 := onto b11 hb9; clear hb9))
  exact ⟨rfl, zcu 12 (by have hz := HZ.out; rw [H0L.out]; simp at hz; simp [H9.out, H10.out, H11.out, hz]) (by decide) rfl b9⟩
 have kS := fun W => zbt x 12 W (show ((ds.length : Int) == 500) = false by simp; omega)
 have H12 := hidden hz
 clear hz
 go_upto_region 13 with (first | (refine wpList_load_row rfl 40 (.tmp 3) rfl (w.heap.size + 1) rfl 40 #[.int .i64 x.k, .int .i64 x.o.id, .int .i64 x.o.p, .int .i64 x.o.d, .int .i64 x.o.n, .int .i64 x.o.f, .int .i64 x.o.e, .int .i64 x.o.c, .int .i64 x.o.s, .bool x.o.two, .int .i64 x.id, .int .i64 x.p, .int .i64 x.d, .int .i64 x.n, .int .i64 x.m, .int .i64 x.b, .int .i64 x.a] (0, 0) _ P311.out Tryz.underlying40 rfl (by kernel_rfl) ?_) | (go_at_call 44; with_reducible refine (kS _).mono ?_; rintro e w12 ⟨rfl, hb12⟩; have b12 := onto b11 hb12; have P212 := hidden (P211.out.below hb12); have P312 := hidden (P311.out.below hb12); have P412 := hidden (P411.out.below hb12); have P712 := hidden (P711.out.below hb12); have N12 := hidden (N11.out.below hb12); have PG12 := hidden (PG11.out.below hb12); clear hb12 b11 P211 P311 P411 P711 N11))
 clear kS q20 q21
 generalize (Value.agg #[.int .i64 x.k, .int .i64 x.o.id, .int .i64 x.o.p, .int .i64 x.o.d, .int .i64 x.o.n, .int .i64 x.o.f, .int .i64 x.o.e, .int .i64 x.o.c, .int .i64 x.o.s, .bool x.o.two, .int .i64 x.id, .int .i64 x.p, .int .i64 x.d, .int .i64 x.n, .int .i64 x.m, .int .i64 x.b, .int .i64 x.a]) = vD12
 have hne : ∀ {B t : Nat} {vs : Array Value}, PB w12 B vs t -> t ≠ 27 -> w.heap.size ≠ B := fun hp ht e => ht (by subst e; exact PB.ty hp P212.out)
 refine regW13 (w0 := w) (base := base) (nn := ds.length) (xs := zt 5 jy ds) (vs := .slice a2 ds.length c2) (v6 := .slice (some ⟨G, 0, none⟩) os.length c1) (n6 := os.length) (ys := zt 9 jd os) (B3 := w.heap.size + 1) (B4 := w.heap.size + 1 + 1) (B6 := w.heap.size) (gd := g) (m := m8) (cap := c8) (x := x) (t := ((jh ds x.m oo oo.c.toNat).getD 0 default).t) (cs := cs) rfl rfl rfl rfl (b12.mono hbase) hbase ⟨P312.out, PG12.out, P412.out, N12.out.1⟩ P212.out hbase N12.out.2 trivial (by omega) (by omega) (by omega) (hne PG12.out (by decide)) (by have := H9.out; omega) hcs ?_
 intro b' w13 v hf13 hb13 hP13 hT13 hv13 ho13
 obtain ⟨va, vc, rfl⟩ := hv13
 (rw [layW13 hf13]; simp only [Rg.fl0, Rg.fl1, Rg.fl2, Nat.reduceAdd])
 clear hf13
 have N13 : Cp.zo w13 base (.slice (some ⟨G, 0, none⟩) os.length c1) (.slice va (ds.length + 1) vc) os (ds ++ [⟨x.id, ((jh ds x.m oo oo.c.toNat).getD 0 default).t, x.m, x.b, x.a⟩]) := by
  refine ⟨hP13.2.2.2, ?_⟩
  rw [zb9, show (ds ++ [(⟨x.id, ((jh ds x.m oo oo.c.toNat).getD 0 default).t, x.m, x.b, x.a⟩ : Ds)]).length = ds.length + 1 from by rw [List.length_append]; rfl]
  exact ho13
 have HN13 := hidden N13
 have P413 := hidden hP13.2.2.1
 have HB13 := hidden hb13
 have hc0 : wdC ds x oo = 0 := by rw [H0L.out]; simp [H9.out, H10.out, H11.out, H12.out]
 obtain ⟨q20, q21⟩ := hT13.two
 have q40 : w13.cell? ⟨w.heap.size + 1 + 1, 0, none⟩ = some _ := P413.out.cell 0
 have q41 : w13.cell? ⟨w.heap.size + 1 + 1, 1, none⟩ = some _ := P413.out.cell 1
 have f40 := P413.out.frozen 0
 have f41 := P413.out.frozen 1
 clear N13 hP13 hT13 ho13 hb13 hne
 generalize Rg.out (Rg.opsOf Tryz.f47 13) b' = yF
 go_frame
 go_wp2_with fail
 exact dose_end hc0 P413.out (by omega) HB13.out HN13.out rfl
end Go.Proofs.YtjlpfpigggdemaaGreatDoor
