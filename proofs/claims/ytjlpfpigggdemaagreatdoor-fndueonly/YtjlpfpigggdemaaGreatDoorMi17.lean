/-
 Merged: U36 U35.
-/
import Derived.Test.YtjlpfpigggdemaaGreatDoorMi10
namespace Go.Proofs.YtjlpfpigggdemaaGreatDoor
set_option maxRecDepth 8000
set_option maxHeartbeats 4000000
open Go.RowKit Va Uo
set_option linter.all false
theorem set_end {w W : World} {tm : Array Value} {base B : Nat} {v1 v2 : Value} {L1 : List Od} {L2 : List Ds} {vs : Array Value} (p : PB W B vs 27) (hs : vs = #[.slice none 0 0, .slice none 0 0]) (hl : base <= B) (hb : Below base w W) (hN : Cp.zo W base v1 v2 L1 L2) (h4 : tm.getD 4 undef = .pointer (some ⟨B, 0, none⟩)) :
  bodyPost Tryz.prog Tryz.f48 (fun e w' => e = .returned (.agg #[v1, v2]) /\ Cp.zo w' base v1 v2 L1 L2 /\ Below base w w') Exit.ret ⟨tm, []⟩ ((W.setCell ⟨B, 0, none⟩ v1).setCell ⟨B, 1, none⟩ v2) := by
 subst hs
 have p4 : PB ((W.setCell ⟨B, 0, none⟩ v1).setCell ⟨B, 1, none⟩ v2) B #[v1, v2] 27 := (p.set 0 v1).set 1 v2
 refine bodyPost_ret (v := .agg #[v1, v2]) (results_cell_row Tryz.results48 _ _ B 27 _ (0, 0) _ h4 p4 Tryz.underlying27 rfl (by kernel_rfl)) rfl ⟨rfl, ⟨?_, ?_⟩, (hb.setCell (p := ⟨B, 0, none⟩) hl _).setCell (p := ⟨B, 1, none⟩) hl _⟩
 ·exact Cp.jo (Cp.jo hN.1 (jb hN.1 p (by decide)) _ _) (jb hN.1 p (by decide)) _ _
 ·exact Cp.jo (Cp.jo hN.2 (jb hN.2 p (by decide)) _ _) (jb hN.2 p (by decide)) _ _
set_option maxRecDepth 20000 in
set_option maxHeartbeats 16000000 in
theorem zkc (vb vs : Value) (os : List Od) (ds : List Ds) (base : Nat) (x : Dd) (w : World) (h : Cp.zo w base vb vs os ds) (hbase : base <= w.heap.size) (hn : os.length <= 100) (hr : Ris os) (hk : x.k = 2 ∨ x.k = 3 ∨ x.k = 4) (k : Nat) (oo : Od) (hat : atO os x.id = (k : Int)) (hko : os[k]? = some oo) (hf : yc oo.s x.k = true) :
  Calls Tryz.prog 48 #[.agg #[vb, vs], aDd x] w fun e w' => e = .returned (.agg #[vb, vs]) /\ Cp.zo w' base vb vs (os.set k { oo with s := x.k }) ds /\ Below base w w' := by
 obtain ⟨a1, c1, a2, c2, rfl, rfl⟩ := h.form
 obtain ⟨hb0, p2, p3, p4⟩ := yh w #[.slice a1 os.length c1, .slice a2 ds.length c2] #[.int .i64 x.k, .int .i64 x.o.id, .int .i64 x.o.p, .int .i64 x.o.d, .int .i64 x.o.n, .int .i64 x.o.f, .int .i64 x.o.e, .int .i64 x.o.c, .int .i64 x.o.s, .bool x.o.two, .int .i64 x.id, .int .i64 x.p, .int .i64 x.d, .int .i64 x.n, .int .i64 x.m, .int .i64 x.b, .int .i64 x.a] #[.slice none 0 0, .slice none 0 0] 27 40 27
 have hN0 := h.below hb0
 have HN := hidden hN0
 have hsz0 : w.heap.size + 1 + 1 + 1 = (((w.alloc (.cells #[.slice a1 os.length c1, .slice a2 ds.length c2] 27)).alloc (.cells #[.int .i64 x.k, .int .i64 x.o.id, .int .i64 x.o.p, .int .i64 x.o.d, .int .i64 x.o.n, .int .i64 x.o.f, .int .i64 x.o.e, .int .i64 x.o.c, .int .i64 x.o.s, .bool x.o.two, .int .i64 x.id, .int .i64 x.p, .int .i64 x.d, .int .i64 x.n, .int .i64 x.m, .int .i64 x.b, .int .i64 x.a] 40)).alloc (.cells #[.slice none 0 0, .slice none 0 0] 27)).heap.size := by simp
 unfold aDd
 clear h hN0
 go_enter Tryz.func48, Tryz.ntmps48
 go_upto_region 1 with fail
 generalize (((w.alloc (.cells #[.slice a1 os.length c1, .slice a2 ds.length c2] 27)).alloc (.cells #[.int .i64 x.k, .int .i64 x.o.id, .int .i64 x.o.p, .int .i64 x.o.d, .int .i64 x.o.n, .int .i64 x.o.f, .int .i64 x.o.e, .int .i64 x.o.c, .int .i64 x.o.s, .bool x.o.two, .int .i64 x.id, .int .i64 x.p, .int .i64 x.d, .int .i64 x.n, .int .i64 x.m, .int .i64 x.b, .int .i64 x.a] 40)).alloc (.cells #[.slice none 0 0, .slice none 0 0] 27)) = W0 at *
 have z0 := hb0.size
 have HB0 := hidden hb0
 have P2 := hidden p2
 have P3 := hidden p3
 have P4 := hidden p4
 have e20 : W0.cell? ⟨w.heap.size, 0, none⟩ = some _ := p2.cell 0
 have e21 : W0.cell? ⟨w.heap.size, 1, none⟩ = some _ := p2.cell 1
 obtain ⟨d0, ⟨d1, d2, d3, d4, d5, d6, d7, d8, d9⟩, da, db, dc, dd, de, df, dg⟩ := p3.deed
 clear p2 p3 p4 hb0
 have hPL := zcc a1 os.length c1 (.slice a2 ds.length c2) os x.id W0 (za1 rfl HN.out.1).row (by omega) hr ⟨_, _, _, rfl⟩
 have HYES : Hid (∀ k', Cut os x.id k' -> k' = k /\ qm os x.id k' = true) := fun k' hc => by
  cases hq : qm os x.id k' with
  | false => have := zdz hr hc hq; omega
  | true => have := (zbx hr hc hq).1; exact ⟨by omega, rfl⟩
 have kN := fun W => zbz x 4 W
 have hkl : k < os.length := (List.getElem?_eq_some_iff.1 hko).1
 clear hat hr
 go_upto_region 3 with (first | (go_at_call 53; refine hPL.mono ?_; rintro e w1 ⟨k', hcut, rfl, hb1⟩; obtain ⟨rfl, hia⟩ := HYES.out k' hcut; rw [hia]; have bA := onto HB0.out hb1; have P21 := hidden (P2.out.below hb1); have P31 := hidden (P3.out.below hb1); have P41 := hidden (P4.out.below hb1); have N1 := hidden (HN.out.below hb1); have z1 := hb1.size; obtain ⟨q20, q21⟩ := P21.out.two; obtain ⟨q0, ⟨q1, q2, q3, q4, q5, q6, q7, q8, q9⟩, qa, qb, qc, qd, qe, qf, qg⟩ := P31.out.deed; clear hb1 hcut) | (go_at_call 44; with_reducible refine (kN _).mono ?_; rintro e w2 ⟨rfl, hb2⟩; have bB := onto bA hb2; have P22 := hidden (P21.out.below hb2); have P32 := hidden (P31.out.below hb2); have P42 := hidden (P41.out.below hb2); have N2 := hidden (N1.out.below hb2); have z2 := hb2.size; clear hb2))
 clear q20 q21 q0 q1 q2 q3 q4 q5 q6 q7 q8 q9 qa qb qc qd qe qf qg kN P21 P31 P41 N1 bA
 obtain ⟨G, rfl⟩ := zeh N2.out.1 (by omega)
 refine regS3 (B2 := w.heap.size) (B3 := w.heap.size + 1) (g := G) (off := 0) (N := os.length) (cap := c1) (k := k') (vd := .slice a2 ds.length c2) (x := x) (s := oo.s) rfl rfl rfl rfl P32.out P22.out (by omega) (zh1 N2.out hko) (zbu N2.out.1).2 hk ?_
 intro b' w3 hf3 hb3 hv3
 (rw [layS3 hf3]; simp only [Rg.fl0, Rg.fl1, Rg.fl2, Nat.reduceAdd]; rw [hv3, hf])
 clear hf3 hv3
 have bC := onto bB hb3
 have P23 := hidden (P22.out.below hb3)
 have P33 := hidden (P32.out.below hb3)
 have P43 := hidden (P42.out.below hb3)
 have N3 := hidden (N2.out.below hb3)
 have z3 := hb3.size
 clear hb3 bB P22 P32 P42 N2
 generalize Rg.out (Rg.opsOf Tryz.f48 3) b' = yF
 obtain ⟨q20, q21⟩ := P23.out.two
 obtain ⟨q0, ⟨q1, q2, q3, q4, q5, q6, q7, q8, q9⟩, qa, qb, qc, qd, qe, qf, qg⟩ := P33.out.deed
 go_frame
 simp only [if_true]
 have hk0 : ¬ x.k = 0 := by omega
 have kS := fun W => zbt x 5 W (show (x.k == 0) = false by simpa using hk0)
 go_upto_region 5 with (go_at_call 44; with_reducible refine (kS _).mono ?_; rintro e w4 ⟨rfl, hb4⟩; have bD := onto bC hb4; have P24 := hidden (P23.out.below hb4); have P44 := hidden (P43.out.below hb4); have N4 := hidden (N3.out.below hb4); have z4 := hb4.size; clear hb4)
 clear q20 q21 q0 q1 q2 q3 q4 q5 q6 q7 q8 q9 qa qb qc qd qe qf qg kS P23 P33 P43 N3 bC
 obtain ⟨q20, q21⟩ := P24.out.two
 obtain ⟨er, fr⟩ := jw N4.out.1 (jg os k' oo hko 7 (by decide))
 have er' : w4.cell? ⟨G, k' * 9 + 7, none⟩ = some (.int .i64 oo.s) := er
 have hk1 : (k' : Int) < (os.length : Int) := by omega
 have hk2 : (0 : Int) <= (k' : Int) := by omega
 clear er
 go_upto_region 6 with fail
 clear q20 q21 er' fr
 have N5 := hidden (set_newU N4.out hko x.k)
 have P25 := hidden (P24.out.far (fun e => jb N4.out.1 P24.out (by decide) (by rw [<- e]; rfl)) (k' * 9 + 7) (.int .i64 x.k))
 have P45 := hidden (P44.out.far (fun e => jb N4.out.1 P44.out (by decide) (by rw [<- e]; rfl)) (k' * 9 + 7) (.int .i64 x.k))
 have b5 := hidden ((bD.mono hbase).setCell (p := ⟨G, k' * 9 + 7, none⟩) (zbu N4.out.1).1 (.int .i64 x.k))
 generalize w4.setCell ⟨G, k' * 9 + 7, none⟩ (.int .i64 x.k) = w5 at *
 clear N4 P24 P44 bD
 obtain ⟨q20, q21⟩ := P25.out.two
 have q40 : w5.cell? ⟨w.heap.size + 1 + 1, 0, none⟩ = some _ := P45.out.cell 0
 have q41 : w5.cell? ⟨w.heap.size + 1 + 1, 1, none⟩ = some _ := P45.out.cell 1
 have f40 := P45.out.frozen 0
 have f41 := P45.out.frozen 1
 go_wp2_with fail
 exact set_end P45.out rfl (by omega) b5.out N5.out rfl
end Go.Proofs.YtjlpfpigggdemaaGreatDoor
namespace Go.Proofs.YtjlpfpigggdemaaGreatDoor
open Go.RowKit Va Uo
set_option linter.all false
set_option maxRecDepth 20000 in
set_option maxHeartbeats 16000000 in
theorem zkv (vb vs : Value) (os : List Od) (ds : List Ds) (base : Nat) (x : Dd) (w : World) (h : Cp.zo w base vb vs os ds) (hbase : base <= w.heap.size) (hn : os.length <= 100) (hr : Ris os) (hk : x.k = 2 ∨ x.k = 3 ∨ x.k = 4) (k : Nat) (oo : Od) (hat : atO os x.id = (k : Int)) (hko : os[k]? = some oo) (hf : yc oo.s x.k = false) :
  Calls Tryz.prog 48 #[.agg #[vb, vs], aDd x] w fun e w' => e = .panicked [{ v := kz x.k 5, recovered := false }] /\ Below w.heap.size w w' := by
 obtain ⟨a1, c1, a2, c2, rfl, rfl⟩ := h.form
 obtain ⟨hb0, p2, p3, p4⟩ := yh w #[.slice a1 os.length c1, .slice a2 ds.length c2] #[.int .i64 x.k, .int .i64 x.o.id, .int .i64 x.o.p, .int .i64 x.o.d, .int .i64 x.o.n, .int .i64 x.o.f, .int .i64 x.o.e, .int .i64 x.o.c, .int .i64 x.o.s, .bool x.o.two, .int .i64 x.id, .int .i64 x.p, .int .i64 x.d, .int .i64 x.n, .int .i64 x.m, .int .i64 x.b, .int .i64 x.a] #[.slice none 0 0, .slice none 0 0] 27 40 27
 have hN0 := h.below hb0
 have HN := hidden hN0
 have hsz0 : w.heap.size + 1 + 1 + 1 = (((w.alloc (.cells #[.slice a1 os.length c1, .slice a2 ds.length c2] 27)).alloc (.cells #[.int .i64 x.k, .int .i64 x.o.id, .int .i64 x.o.p, .int .i64 x.o.d, .int .i64 x.o.n, .int .i64 x.o.f, .int .i64 x.o.e, .int .i64 x.o.c, .int .i64 x.o.s, .bool x.o.two, .int .i64 x.id, .int .i64 x.p, .int .i64 x.d, .int .i64 x.n, .int .i64 x.m, .int .i64 x.b, .int .i64 x.a] 40)).alloc (.cells #[.slice none 0 0, .slice none 0 0] 27)).heap.size := by simp
 unfold aDd
 clear h hN0
 go_enter Tryz.func48, Tryz.ntmps48
 go_upto_region 1 with fail
 generalize (((w.alloc (.cells #[.slice a1 os.length c1, .slice a2 ds.length c2] 27)).alloc (.cells #[.int .i64 x.k, .int .i64 x.o.id, .int .i64 x.o.p, .int .i64 x.o.d, .int .i64 x.o.n, .int .i64 x.o.f, .int .i64 x.o.e, .int .i64 x.o.c, .int .i64 x.o.s, .bool x.o.two, .int .i64 x.id, .int .i64 x.p, .int .i64 x.d, .int .i64 x.n, .int .i64 x.m, .int .i64 x.b, .int .i64 x.a] 40)).alloc (.cells #[.slice none 0 0, .slice none 0 0] 27)) = W0 at *
 have z0 := hb0.size
 have HB0 := hidden hb0
 have P2 := hidden p2
 have P3 := hidden p3
 have P4 := hidden p4
 have e20 : W0.cell? ⟨w.heap.size, 0, none⟩ = some _ := p2.cell 0
 have e21 : W0.cell? ⟨w.heap.size, 1, none⟩ = some _ := p2.cell 1
 obtain ⟨d0, ⟨d1, d2, d3, d4, d5, d6, d7, d8, d9⟩, da, db, dc, dd, de, df, dg⟩ := p3.deed
 clear p2 p3 p4 hb0
 have hPL := zcc a1 os.length c1 (.slice a2 ds.length c2) os x.id W0 (za1 rfl HN.out.1).row (by omega) hr ⟨_, _, _, rfl⟩
 have HYES : Hid (∀ k', Cut os x.id k' -> k' = k /\ qm os x.id k' = true) := fun k' hc => by
  cases hq : qm os x.id k' with
  | false => have := zdz hr hc hq; omega
  | true => have := (zbx hr hc hq).1; exact ⟨by omega, rfl⟩
 have kN := fun W => zbz x 4 W
 have hkl : k < os.length := (List.getElem?_eq_some_iff.1 hko).1
 clear hat hr
 go_upto_region 3 with (first | (go_at_call 53; refine hPL.mono ?_; rintro e w1 ⟨k', hcut, rfl, hb1⟩; obtain ⟨rfl, hia⟩ := HYES.out k' hcut; rw [hia]; have bA := onto HB0.out hb1; have P21 := hidden (P2.out.below hb1); have P31 := hidden (P3.out.below hb1); have P41 := hidden (P4.out.below hb1); have N1 := hidden (HN.out.below hb1); have z1 := hb1.size; obtain ⟨q20, q21⟩ := P21.out.two; obtain ⟨q0, ⟨q1, q2, q3, q4, q5, q6, q7, q8, q9⟩, qa, qb, qc, qd, qe, qf, qg⟩ := P31.out.deed; clear hb1 hcut) | (go_at_call 44; with_reducible refine (kN _).mono ?_; rintro e w2 ⟨rfl, hb2⟩; have bB := onto bA hb2; have P22 := hidden (P21.out.below hb2); have P32 := hidden (P31.out.below hb2); have P42 := hidden (P41.out.below hb2); have N2 := hidden (N1.out.below hb2); have z2 := hb2.size; clear hb2))
 clear q20 q21 q0 q1 q2 q3 q4 q5 q6 q7 q8 q9 qa qb qc qd qe qf qg kN P21 P31 P41 N1 bA
 obtain ⟨G, rfl⟩ := zeh N2.out.1 (by omega)
 refine regS3 (B2 := w.heap.size) (B3 := w.heap.size + 1) (g := G) (off := 0) (N := os.length) (cap := c1) (k := k') (vd := .slice a2 ds.length c2) (x := x) (s := oo.s) rfl rfl rfl rfl P32.out P22.out (by omega) (zh1 N2.out hko) (zbu N2.out.1).2 hk ?_
 intro b' w3 hf3 hb3 hv3
 (rw [layS3 hf3]; simp only [Rg.fl0, Rg.fl1, Rg.fl2, Nat.reduceAdd]; rw [hv3, hf])
 clear hf3 hv3
 have bC := onto bB hb3
 have P23 := hidden (P22.out.below hb3)
 have P33 := hidden (P32.out.below hb3)
 have P43 := hidden (P42.out.below hb3)
 have N3 := hidden (N2.out.below hb3)
 have z3 := hb3.size
 clear hb3 bB P22 P32 P42 N2
 generalize Rg.out (Rg.opsOf Tryz.f48 3) b' = yF
 obtain ⟨q20, q21⟩ := P23.out.two
 obtain ⟨q0, ⟨q1, q2, q3, q4, q5, q6, q7, q8, q9⟩, qa, qb, qc, qd, qe, qf, qg⟩ := P33.out.deed
 go_frame
 simp only [Bool.false_eq_true, if_false]
 have kS := fun W => zce x 5 W
 go_wp2_with (go_at_call 44; with_reducible refine (kS _).mono ?_; rintro e w4 ⟨rfl, hb4⟩; have bD := onto bC hb4; clear hb4)
 exact ⟨rfl, rfl, bD⟩
end Go.Proofs.YtjlpfpigggdemaaGreatDoor
