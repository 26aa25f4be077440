/-
 Merged: U46.
-/
import Derived.Test.YtjlpfpigggdemaaGreatDoorMi15
namespace Go.Proofs.YtjlpfpigggdemaaGreatDoor
open Go.RowKit Va Uo
set_option linter.all false
set_option maxRecDepth 20000 in
set_option maxHeartbeats 16000000 in
theorem zln (ao : Option Addr) (n cap : Nat) (ad : Option Addr) (m dcap : Nat) (os : List Od) (ds : List Ds) (x : Dd) (w : World) (hR : Cp.CRw w (.slice ao n cap) (.slice ad m dcap) os ds) (hn : os.length <= 1048576) (hm : ds.length <= 1048576) (hc : ji os ds = false) :
  Calls Tryz.prog 28 #[.agg #[.slice ao n cap, .slice ad m dcap], aDd x] w fun e w' => e = .panicked [{ v := kz x.k 1, recovered := false }] /\ Below w.heap.size w w' := by
 have HR := hidden hR
 clear hR
 obtain ⟨hb0, p2, p3, p4⟩ := yh w #[.slice ao n cap, .slice ad m dcap] #[.int .i64 x.k, .int .i64 x.o.id, .int .i64 x.o.p, .int .i64 x.o.d, .int .i64 x.o.n, .int .i64 x.o.f, .int .i64 x.o.e, .int .i64 x.o.c, .int .i64 x.o.s, .bool x.o.two, .int .i64 x.id, .int .i64 x.p, .int .i64 x.d, .int .i64 x.n, .int .i64 x.m, .int .i64 x.b, .int .i64 x.a] #[.slice none 0 0, .slice none 0 0] 27 40 27
 unfold aDd
 go_enter Tryz.func28, Tryz.ntmps28
 go_upto_region 1 with fail
 generalize (((w.alloc (.cells #[.slice ao n cap, .slice ad m dcap] 27)).alloc (.cells #[.int .i64 x.k, .int .i64 x.o.id, .int .i64 x.o.p, .int .i64 x.o.d, .int .i64 x.o.n, .int .i64 x.o.f, .int .i64 x.o.e, .int .i64 x.o.c, .int .i64 x.o.s, .bool x.o.two, .int .i64 x.id, .int .i64 x.p, .int .i64 x.d, .int .i64 x.n, .int .i64 x.m, .int .i64 x.b, .int .i64 x.a] 40)).alloc (.cells #[.slice none 0 0, .slice none 0 0] 27)) = W0 at *
 have hr0 := HR.out.below hb0
 refine regB1d (B3 := w.heap.size + 1) (B2 := w.heap.size) (x := x) (os := os) (ds := ds) rfl rfl rfl p3 p2 hr0.1 hr0.2 hn hm hc ?_
 intro b' w1 hf1 hb1
 (rw [zcv hf1]; simp only [Rg.fl0, Rg.fl1, Rg.fl2, Nat.reduceAdd])
 exact ⟨rfl, rfl, onto hb0 hb1⟩
set_option maxRecDepth 20000 in
set_option maxHeartbeats 16000000 in
theorem zkd (ao : Option Addr) (n cap : Nat) (ad : Option Addr) (m dcap : Nat) (os : List Od) (ds : List Ds) (x : Dd) (w : World) (hR : Cp.CRw w (.slice ao n cap) (.slice ad m dcap) os ds) (hn : os.length <= 1048576) (hm : ds.length <= 1048576) (hc : ji os ds = true) (hx : ddB x = false) :
  Calls Tryz.prog 28 #[.agg #[.slice ao n cap, .slice ad m dcap], aDd x] w fun e w' => e = .panicked [{ v := kz x.k 2, recovered := false }] /\ Below w.heap.size w w' := by
 have HR := hidden hR
 clear hR
 obtain ⟨hb0, p2, p3, p4⟩ := yh w #[.slice ao n cap, .slice ad m dcap] #[.int .i64 x.k, .int .i64 x.o.id, .int .i64 x.o.p, .int .i64 x.o.d, .int .i64 x.o.n, .int .i64 x.o.f, .int .i64 x.o.e, .int .i64 x.o.c, .int .i64 x.o.s, .bool x.o.two, .int .i64 x.id, .int .i64 x.p, .int .i64 x.d, .int .i64 x.n, .int .i64 x.m, .int .i64 x.b, .int .i64 x.a] #[.slice none 0 0, .slice none 0 0] 27 40 27
 unfold aDd
 go_enter Tryz.func28, Tryz.ntmps28
 go_upto_region 1 with fail
 generalize (((w.alloc (.cells #[.slice ao n cap, .slice ad m dcap] 27)).alloc (.cells #[.int .i64 x.k, .int .i64 x.o.id, .int .i64 x.o.p, .int .i64 x.o.d, .int .i64 x.o.n, .int .i64 x.o.f, .int .i64 x.o.e, .int .i64 x.o.c, .int .i64 x.o.s, .bool x.o.two, .int .i64 x.id, .int .i64 x.p, .int .i64 x.d, .int .i64 x.n, .int .i64 x.m, .int .i64 x.b, .int .i64 x.a] 40)).alloc (.cells #[.slice none 0 0, .slice none 0 0] 27)) = W0 at *
 have hr0 := HR.out.below hb0
 refine zc4 (B3 := w.heap.size + 1) (B2 := w.heap.size) (x := x) (os := os) (ds := ds) rfl rfl rfl p3 p2 hr0.1 hr0.2 hn hm hc ?_
 intro b' w1 hf1 hb1
 (rw [zcv hf1]; simp only [Rg.fl0, Rg.fl1, Rg.fl2, Nat.reduceAdd])
 clear hf1 hr0
 have P21 := hidden (p2.below hb1)
 have P31 := hidden (p3.below hb1)
 have P41 := hidden (p4.below hb1)
 have b1 := hidden (onto hb0 hb1)
 clear p2 p3 p4 hb0 hb1
 generalize Rg.out (Rg.opsOf Tryz.f28 1) b' = yF
 go_frame
 go_upto_region 2 with fail
 refine regB2d (B3 := w.heap.size + 1) (x := x) rfl rfl P31.out hx ?_
 intro b' w2 hf2 hb2
 (rw [zdi hf2]; simp only [Rg.fl0, Rg.fl1, Rg.fl2, Nat.reduceAdd])
 exact ⟨rfl, rfl, onto b1.out hb2⟩
set_option maxRecDepth 20000 in
set_option maxHeartbeats 16000000 in
theorem zix (ao : Option Addr) (n cap : Nat) (ad : Option Addr) (m dcap : Nat) (os : List Od) (ds : List Ds) (x : Dd) (w : World) (hR : Cp.CRw w (.slice ao n cap) (.slice ad m dcap) os ds) (hn : os.length <= 1048576) (hm : ds.length <= 1048576) (hc : ji os ds = true) (hx : ddB x = true) (hk : x.k = 1) (c : Int) (hcall : ∀ base W a1 c1 a2 c2, Cp.zo W base (.slice a1 os.length c1) (.slice a2 ds.length c2) os ds -> base <= W.heap.size -> Calls Tryz.prog 46 #[.agg #[.slice a1 os.length c1, .slice a2 ds.length c2], .agg #[.int .i64 x.k, .int .i64 x.o.id, .int .i64 x.o.p, .int .i64 x.o.d, .int .i64 x.o.n, .int .i64 x.o.f, .int .i64 x.o.e, .int .i64 x.o.c, .int .i64 x.o.s, .bool x.o.two, .int .i64 x.id, .int .i64 x.p, .int .i64 x.d, .int .i64 x.n, .int .i64 x.m, .int .i64 x.b, .int .i64 x.a]] W fun e w' => e = .panicked [{ v := kz x.k c, recovered := false }] /\ Below W.heap.size W w') :
  Calls Tryz.prog 28 #[.agg #[.slice ao n cap, .slice ad m dcap], aDd x] w fun e w' => e = .panicked [{ v := kz x.k c, recovered := false }] /\ Below w.heap.size w w' := by
 have hkb : (x.k == 1) = true := by rw [hk]; rfl
 clear hk
 have HC := hidden hcall
 clear hcall
 have HR := hidden hR
 clear hR
 obtain ⟨hb0, p2, p3, p4⟩ := yh w #[.slice ao n cap, .slice ad m dcap] #[.int .i64 x.k, .int .i64 x.o.id, .int .i64 x.o.p, .int .i64 x.o.d, .int .i64 x.o.n, .int .i64 x.o.f, .int .i64 x.o.e, .int .i64 x.o.c, .int .i64 x.o.s, .bool x.o.two, .int .i64 x.id, .int .i64 x.p, .int .i64 x.d, .int .i64 x.n, .int .i64 x.m, .int .i64 x.b, .int .i64 x.a] #[.slice none 0 0, .slice none 0 0] 27 40 27
 unfold aDd
 go_enter Tryz.func28, Tryz.ntmps28
 go_upto_region 1 with fail
 generalize (((w.alloc (.cells #[.slice ao n cap, .slice ad m dcap] 27)).alloc (.cells #[.int .i64 x.k, .int .i64 x.o.id, .int .i64 x.o.p, .int .i64 x.o.d, .int .i64 x.o.n, .int .i64 x.o.f, .int .i64 x.o.e, .int .i64 x.o.c, .int .i64 x.o.s, .bool x.o.two, .int .i64 x.id, .int .i64 x.p, .int .i64 x.d, .int .i64 x.n, .int .i64 x.m, .int .i64 x.b, .int .i64 x.a] 40)).alloc (.cells #[.slice none 0 0, .slice none 0 0] 27)) = W0 at *
 have hr0 := HR.out.below hb0
 refine zc4 (B3 := w.heap.size + 1) (B2 := w.heap.size) (x := x) (os := os) (ds := ds) rfl rfl rfl p3 p2 hr0.1 hr0.2 hn hm hc ?_
 intro b' w1 hf1 hb1
 (rw [zcv hf1]; simp only [Rg.fl0, Rg.fl1, Rg.fl2, Nat.reduceAdd])
 clear hf1 hr0
 have P21 := hidden (p2.below hb1)
 have P31 := hidden (p3.below hb1)
 have P41 := hidden (p4.below hb1)
 have b1 := hidden (onto hb0 hb1)
 clear p2 p3 p4 hb0 hb1
 generalize Rg.out (Rg.opsOf Tryz.f28 1) b' = yF
 go_frame
 go_upto_region 2 with fail
 refine zdp (B3 := w.heap.size + 1) (x := x) rfl rfl P31.out hx ?_
 intro b' w2 hf2 hb2
 (rw [zdi hf2]; simp only [Rg.fl0, Rg.fl1, Rg.fl2, Nat.reduceAdd])
 clear hf2
 have P22 := hidden (P21.out.below hb2)
 have P32 := hidden (P31.out.below hb2)
 have P42 := hidden (P41.out.below hb2)
 have b2 := hidden (onto b1.out hb2)
 have z2 := hidden (onto b1.out hb2).size
 clear P21 P31 P41 b1 hb2
 generalize Rg.out (Rg.opsOf Tryz.f28 2) b' = yF
 go_frame
 have q0 : w2.cell? ⟨w.heap.size + 1, 0, none⟩ = some (.int .i64 x.k) := P32.out.cell 0
 go_upto_region 5 with fail
 refine regH5d (w0 := w) (B2 := w.heap.size) (B3 := w.heap.size + 1) (B4 := w.heap.size + 1 + 1) (ao := ao) (ad := ad) (n := n) (cap := cap) (m := m) (dcap := dcap) (os := os) (ds := ds) (x := x) (c := c) rfl rfl rfl rfl P22.out P32.out P42.out b2.out (by omega) HR.out hn hm (fun W a1 c1 a2 c2 h1 h2 => HC.out _ W a1 c1 a2 c2 h1 h2) ?_
 intro b' w3 hf3 hb3
 (rw [layH5y hf3]; simp only [Rg.fl0, Rg.fl1, Rg.fl2, Nat.reduceAdd])
 exact ⟨rfl, rfl, hb3⟩
set_option maxRecDepth 20000 in
set_option maxHeartbeats 16000000 in
theorem zkz (ao : Option Addr) (n cap : Nat) (ad : Option Addr) (m dcap : Nat) (os : List Od) (ds : List Ds) (x : Dd) (w : World) (hR : Cp.CRw w (.slice ao n cap) (.slice ad m dcap) os ds) (hn : os.length <= 1048576) (hm : ds.length <= 1048576) (hc : ji os ds = true) (hx : ddB x = true) (hk : x.k = 1) (os2 : List Od) (ds2 : List Ds) (hcall : ∀ base W a1 c1 a2 c2, Cp.zo W base (.slice a1 os.length c1) (.slice a2 ds.length c2) os ds -> base <= W.heap.size -> Calls Tryz.prog 46 #[.agg #[.slice a1 os.length c1, .slice a2 ds.length c2], .agg #[.int .i64 x.k, .int .i64 x.o.id, .int .i64 x.o.p, .int .i64 x.o.d, .int .i64 x.o.n, .int .i64 x.o.f, .int .i64 x.o.e, .int .i64 x.o.c, .int .i64 x.o.s, .bool x.o.two, .int .i64 x.id, .int .i64 x.p, .int .i64 x.d, .int .i64 x.n, .int .i64 x.m, .int .i64 x.b, .int .i64 x.a]] W fun e w' => ∃ v1 v2, e = .returned (.agg #[v1, v2]) /\ Cp.zo w' base v1 v2 os2 ds2 /\ Below base W w') :
  Calls Tryz.prog 28 #[.agg #[.slice ao n cap, .slice ad m dcap], aDd x] w fun e w' => ∃ v1 v2, e = .returned (.agg #[v1, v2]) /\ Cp.zo w' w.heap.size v1 v2 os2 ds2 /\ Below w.heap.size w w' := by
 have hkb : (x.k == 1) = true := by rw [hk]; rfl
 clear hk
 have HC := hidden hcall
 clear hcall
 have HR := hidden hR
 clear hR
 obtain ⟨hb0, p2, p3, p4⟩ := yh w #[.slice ao n cap, .slice ad m dcap] #[.int .i64 x.k, .int .i64 x.o.id, .int .i64 x.o.p, .int .i64 x.o.d, .int .i64 x.o.n, .int .i64 x.o.f, .int .i64 x.o.e, .int .i64 x.o.c, .int .i64 x.o.s, .bool x.o.two, .int .i64 x.id, .int .i64 x.p, .int .i64 x.d, .int .i64 x.n, .int .i64 x.m, .int .i64 x.b, .int .i64 x.a] #[.slice none 0 0, .slice none 0 0] 27 40 27
 unfold aDd
 go_enter Tryz.func28, Tryz.ntmps28
 go_upto_region 1 with fail
 generalize (((w.alloc (.cells #[.slice ao n cap, .slice ad m dcap] 27)).alloc (.cells #[.int .i64 x.k, .int .i64 x.o.id, .int .i64 x.o.p, .int .i64 x.o.d, .int .i64 x.o.n, .int .i64 x.o.f, .int .i64 x.o.e, .int .i64 x.o.c, .int .i64 x.o.s, .bool x.o.two, .int .i64 x.id, .int .i64 x.p, .int .i64 x.d, .int .i64 x.n, .int .i64 x.m, .int .i64 x.b, .int .i64 x.a] 40)).alloc (.cells #[.slice none 0 0, .slice none 0 0] 27)) = W0 at *
 have hr0 := HR.out.below hb0
 refine zc4 (B3 := w.heap.size + 1) (B2 := w.heap.size) (x := x) (os := os) (ds := ds) rfl rfl rfl p3 p2 hr0.1 hr0.2 hn hm hc ?_
 intro b' w1 hf1 hb1
 (rw [zcv hf1]; simp only [Rg.fl0, Rg.fl1, Rg.fl2, Nat.reduceAdd])
 clear hf1 hr0
 have P21 := hidden (p2.below hb1)
 have P31 := hidden (p3.below hb1)
 have P41 := hidden (p4.below hb1)
 have b1 := hidden (onto hb0 hb1)
 clear p2 p3 p4 hb0 hb1
 generalize Rg.out (Rg.opsOf Tryz.f28 1) b' = yF
 go_frame
 go_upto_region 2 with fail
 refine zdp (B3 := w.heap.size + 1) (x := x) rfl rfl P31.out hx ?_
 intro b' w2 hf2 hb2
 (rw [zdi hf2]; simp only [Rg.fl0, Rg.fl1, Rg.fl2, Nat.reduceAdd])
 clear hf2
 have P22 := hidden (P21.out.below hb2)
 have P32 := hidden (P31.out.below hb2)
 have P42 := hidden (P41.out.below hb2)
 have b2 := hidden (onto b1.out hb2)
 have z2 := hidden (onto b1.out hb2).size
 clear P21 P31 P41 b1 hb2
 generalize Rg.out (Rg.opsOf Tryz.f28 2) b' = yF
 go_frame
 have q0 : w2.cell? ⟨w.heap.size + 1, 0, none⟩ = some (.int .i64 x.k) := P32.out.cell 0
 go_upto_region 5 with fail
 refine regH5y (w0 := w) (B2 := w.heap.size) (B3 := w.heap.size + 1) (B4 := w.heap.size + 1 + 1) (ao := ao) (ad := ad) (n := n) (cap := cap) (m := m) (dcap := dcap) (os := os) (ds := ds) (x := x) (c := 0) (os2 := os2) (ds2 := ds2) rfl rfl rfl rfl P22.out P32.out P42.out b2.out (by omega) HR.out hn hm (by omega) (by omega) (fun W a1 c1 a2 c2 h1 h2 => HC.out _ W a1 c1 a2 c2 h1 h2) ?_
 intro b' w3 v1 v2 hf3 hb3 p43 hN3
 (rw [layH5y hf3]; simp only [Rg.fl0, Rg.fl1, Rg.fl2, Nat.reduceAdd])
 clear hf3
 have HB3 := hidden hb3
 have P43 := hidden p43
 have N3 := hidden (zav hN3 z2.out)
 clear hb3 p43 hN3
 generalize Rg.out (Rg.opsOf Tryz.f28 5) b' = yF
 go_frame
 go_wp2_with fail
 exact bodyPost_ret (v := .agg #[v1, v2]) (results_cell_row Tryz.results28 _ _ (w.heap.size + 1 + 1) 27 _ (0, 0) _ rfl P43.out Tryz.underlying27 rfl (by kernel_rfl)) rfl ⟨v1, v2, rfl, N3.out, HB3.out⟩
set_option maxRecDepth 20000 in
set_option maxHeartbeats 16000000 in
theorem zg5 (ao : Option Addr) (n cap : Nat) (ad : Option Addr) (m dcap : Nat) (os : List Od) (ds : List Ds) (x : Dd) (w : World) (hR : Cp.CRw w (.slice ao n cap) (.slice ad m dcap) os ds) (hn : os.length <= 1048576) (hm : ds.length <= 1048576) (hc : ji os ds = true) (hx : ddB x = true) (hk : x.k = 5) (c : Int) (hcall : ∀ base W a1 c1 a2 c2, Cp.zo W base (.slice a1 os.length c1) (.slice a2 ds.length c2) os ds -> base <= W.heap.size -> Calls Tryz.prog 47 #[.agg #[.slice a1 os.length c1, .slice a2 ds.length c2], .agg #[.int .i64 x.k, .int .i64 x.o.id, .int .i64 x.o.p, .int .i64 x.o.d, .int .i64 x.o.n, .int .i64 x.o.f, .int .i64 x.o.e, .int .i64 x.o.c, .int .i64 x.o.s, .bool x.o.two, .int .i64 x.id, .int .i64 x.p, .int .i64 x.d, .int .i64 x.n, .int .i64 x.m, .int .i64 x.b, .int .i64 x.a]] W fun e w' => e = .panicked [{ v := kz x.k c, recovered := false }] /\ Below W.heap.size W w') :
  Calls Tryz.prog 28 #[.agg #[.slice ao n cap, .slice ad m dcap], aDd x] w fun e w' => e = .panicked [{ v := kz x.k c, recovered := false }] /\ Below w.heap.size w w' := by
 have hk1 : (x.k == 1) = false := by rw [hk]; rfl
 have hkb : (x.k == 5) = true := by rw [hk]; rfl
 clear hk
 have HC := hidden hcall
 clear hcall
 have HR := hidden hR
 clear hR
 obtain ⟨hb0, p2, p3, p4⟩ := yh w #[.slice ao n cap, .slice ad m dcap] #[.int .i64 x.k, .int .i64 x.o.id, .int .i64 x.o.p, .int .i64 x.o.d, .int .i64 x.o.n, .int .i64 x.o.f, .int .i64 x.o.e, .int .i64 x.o.c, .int .i64 x.o.s, .bool x.o.two, .int .i64 x.id, .int .i64 x.p, .int .i64 x.d, .int .i64 x.n, .int .i64 x.m, .int .i64 x.b, .int .i64 x.a] #[.slice none 0 0, .slice none 0 0] 27 40 27
 unfold aDd
 go_enter Tryz.func28, Tryz.ntmps28
 go_upto_region 1 with fail
 generalize (((w.alloc (.cells #[.slice ao n cap, .slice ad m dcap] 27)).alloc (.cells #[.int .i64 x.k, .int .i64 x.o.id, .int .i64 x.o.p, .int .i64 x.o.d, .int .i64 x.o.n, .int .i64 x.o.f, .int .i64 x.o.e, .int .i64 x.o.c, .int .i64 x.o.s, .bool x.o.two, .int .i64 x.id, .int .i64 x.p, .int .i64 x.d, .int .i64 x.n, .int .i64 x.m, .int .i64 x.b, .int .i64 x.a] 40)).alloc (.cells #[.slice none 0 0, .slice none 0 0] 27)) = W0 at *
 have hr0 := HR.out.below hb0
 refine zc4 (B3 := w.heap.size + 1) (B2 := w.heap.size) (x := x) (os := os) (ds := ds) rfl rfl rfl p3 p2 hr0.1 hr0.2 hn hm hc ?_
 intro b' w1 hf1 hb1
 (rw [zcv hf1]; simp only [Rg.fl0, Rg.fl1, Rg.fl2, Nat.reduceAdd])
 clear hf1 hr0
 have P21 := hidden (p2.below hb1)
 have P31 := hidden (p3.below hb1)
 have P41 := hidden (p4.below hb1)
 have b1 := hidden (onto hb0 hb1)
 clear p2 p3 p4 hb0 hb1
 generalize Rg.out (Rg.opsOf Tryz.f28 1) b' = yF
 go_frame
 go_upto_region 2 with fail
 refine zdp (B3 := w.heap.size + 1) (x := x) rfl rfl P31.out hx ?_
 intro b' w2 hf2 hb2
 (rw [zdi hf2]; simp only [Rg.fl0, Rg.fl1, Rg.fl2, Nat.reduceAdd])
 clear hf2
 have P22 := hidden (P21.out.below hb2)
 have P32 := hidden (P31.out.below hb2)
 have P42 := hidden (P41.out.below hb2)
 have b2 := hidden (onto b1.out hb2)
 have z2 := hidden (onto b1.out hb2).size
 clear P21 P31 P41 b1 hb2
 generalize Rg.out (Rg.opsOf Tryz.f28 2) b' = yF
 go_frame
 have q0 : w2.cell? ⟨w.heap.size + 1, 0, none⟩ = some (.int .i64 x.k) := P32.out.cell 0
 go_upto_region 7 with fail
 refine regH7d (w0 := w) (B2 := w.heap.size) (B3 := w.heap.size + 1) (B4 := w.heap.size + 1 + 1) (ao := ao) (ad := ad) (n := n) (cap := cap) (m := m) (dcap := dcap) (os := os) (ds := ds) (x := x) (c := c) rfl rfl rfl rfl P22.out P32.out P42.out b2.out (by omega) HR.out hn hm (fun W a1 c1 a2 c2 h1 h2 => HC.out _ W a1 c1 a2 c2 h1 h2) ?_
 intro b' w3 hf3 hb3
 (rw [layH7y hf3]; simp only [Rg.fl0, Rg.fl1, Rg.fl2, Nat.reduceAdd])
 exact ⟨rfl, rfl, hb3⟩
set_option maxRecDepth 20000 in
set_option maxHeartbeats 16000000 in
theorem zlh (ao : Option Addr) (n cap : Nat) (ad : Option Addr) (m dcap : Nat) (os : List Od) (ds : List Ds) (x : Dd) (w : World) (hR : Cp.CRw w (.slice ao n cap) (.slice ad m dcap) os ds) (hn : os.length <= 1048576) (hm : ds.length <= 1048576) (hc : ji os ds = true) (hx : ddB x = true) (hk : x.k = 5) (os2 : List Od) (ds2 : List Ds) (hcall : ∀ base W a1 c1 a2 c2, Cp.zo W base (.slice a1 os.length c1) (.slice a2 ds.length c2) os ds -> base <= W.heap.size -> Calls Tryz.prog 47 #[.agg #[.slice a1 os.length c1, .slice a2 ds.length c2], .agg #[.int .i64 x.k, .int .i64 x.o.id, .int .i64 x.o.p, .int .i64 x.o.d, .int .i64 x.o.n, .int .i64 x.o.f, .int .i64 x.o.e, .int .i64 x.o.c, .int .i64 x.o.s, .bool x.o.two, .int .i64 x.id, .int .i64 x.p, .int .i64 x.d, .int .i64 x.n, .int .i64 x.m, .int .i64 x.b, .int .i64 x.a]] W fun e w' => ∃ v1 v2, e = .returned (.agg #[v1, v2]) /\ Cp.zo w' base v1 v2 os2 ds2 /\ Below base W w') :
  Calls Tryz.prog 28 #[.agg #[.slice ao n cap, .slice ad m dcap], aDd x] w fun e w' => ∃ v1 v2, e = .returned (.agg #[v1, v2]) /\ Cp.zo w' w.heap.size v1 v2 os2 ds2 /\ Below w.heap.size w w' := by
 have hk1 : (x.k == 1) = false := by rw [hk]; rfl
 have hkb : (x.k == 5) = true := by rw [hk]; rfl
 clear hk
 have HC := hidden hcall
 clear hcall
 have HR := hidden hR
 clear hR
 obtain ⟨hb0, p2, p3, p4⟩ := yh w #[.slice ao n cap, .slice ad m dcap] #[.int .i64 x.k, .int .i64 x.o.id, .int .i64 x.o.p, .int .i64 x.o.d, .int .i64 x.o.n, .int .i64 x.o.f, .int .i64 x.o.e, .int .i64 x.o.c, .int .i64 x.o.s, .bool x.o.two, .int .i64 x.id, .int .i64 x.p, .int .i64 x.d, .int .i64 x.n, .int .i64 x.m, .int .i64 x.b, .int .i64 x.a] #[.slice none 0 0, .slice none 0 0] 27 40 27
 unfold aDd
 go_enter Tryz.func28, Tryz.ntmps28
 go_upto_region 1 with fail
 generalize (((w.alloc (.cells #[.slice ao n cap, .slice ad m dcap] 27)).alloc (.cells #[.int .i64 x.k, .int .i64 x.o.id, .int .i64 x.o.p, .int .i64 x.o.d, .int .i64 x.o.n, .int .i64 x.o.f, .int .i64 x.o.e, .int .i64 x.o.c, .int .i64 x.o.s, .bool x.o.two, .int .i64 x.id, .int .i64 x.p, .int .i64 x.d, .int .i64 x.n, .int .i64 x.m, .int .i64 x.b, .int .i64 x.a] 40)).alloc (.cells #[.slice none 0 0, .slice none 0 0] 27)) = W0 at *
 have hr0 := HR.out.below hb0
 refine zc4 (B3 := w.heap.size + 1) (B2 := w.heap.size) (x := x) (os := os) (ds := ds) rfl rfl rfl p3 p2 hr0.1 hr0.2 hn hm hc ?_
 intro b' w1 hf1 hb1
 (rw [zcv hf1]; simp only [Rg.fl0, Rg.fl1, Rg.fl2, Nat.reduceAdd])
 clear hf1 hr0
 have P21 := hidden (p2.below hb1)
 have P31 := hidden (p3.below hb1)
 have P41 := hidden (p4.below hb1)
 have b1 := hidden (onto hb0 hb1)
 clear p2 p3 p4 hb0 hb1
 generalize Rg.out (Rg.opsOf Tryz.f28 1) b' = yF
 go_frame
 go_upto_region 2 with fail
 refine zdp (B3 := w.heap.size + 1) (x := x) rfl rfl P31.out hx ?_
 intro b' w2 hf2 hb2
 (rw [zdi hf2]; simp only [Rg.fl0, Rg.fl1, Rg.fl2, Nat.reduceAdd])
 clear hf2
 have P22 := hidden (P21.out.below hb2)
 have P32 := hidden (P31.out.below hb2)
 have P42 := hidden (P41.out.below hb2)
 have b2 := hidden (onto b1.out hb2)
 have z2 := hidden (onto b1.out hb2).size
 clear P21 P31 P41 b1 hb2
 generalize Rg.out (Rg.opsOf Tryz.f28 2) b' = yF
 go_frame
 have q0 : w2.cell? ⟨w.heap.size + 1, 0, none⟩ = some (.int .i64 x.k) := P32.out.cell 0
 go_upto_region 7 with fail
 refine regH7y (w0 := w) (B2 := w.heap.size) (B3 := w.heap.size + 1) (B4 := w.heap.size + 1 + 1) (ao := ao) (ad := ad) (n := n) (cap := cap) (m := m) (dcap := dcap) (os := os) (ds := ds) (x := x) (c := 0) (os2 := os2) (ds2 := ds2) rfl rfl rfl rfl P22.out P32.out P42.out b2.out (by omega) HR.out hn hm (by omega) (by omega) (fun W a1 c1 a2 c2 h1 h2 => HC.out _ W a1 c1 a2 c2 h1 h2) ?_
 intro b' w3 v1 v2 hf3 hb3 p43 hN3
 (rw [layH7y hf3]; simp only [Rg.fl0, Rg.fl1, Rg.fl2, Nat.reduceAdd])
 clear hf3
 have HB3 := hidden hb3
 have P43 := hidden p43
 have N3 := hidden (zav hN3 z2.out)
 clear hb3 p43 hN3
 generalize Rg.out (Rg.opsOf Tryz.f28 7) b' = yF
 go_frame
 go_wp2_with fail
 exact bodyPost_ret (v := .agg #[v1, v2]) (results_cell_row Tryz.results28 _ _ (w.heap.size + 1 + 1) 27 _ (0, 0) _ rfl P43.out Tryz.underlying27 rfl (by kernel_rfl)) rfl ⟨v1, v2, rfl, N3.out, HB3.out⟩
set_option maxRecDepth 20000 in
set_option maxHeartbeats 16000000 in
theorem zhf (ao : Option Addr) (n cap : Nat) (ad : Option Addr) (m dcap : Nat) (os : List Od) (ds : List Ds) (x : Dd) (w : World) (hR : Cp.CRw w (.slice ao n cap) (.slice ad m dcap) os ds) (hn : os.length <= 1048576) (hm : ds.length <= 1048576) (hc : ji os ds = true) (hx : ddB x = true) (hk : ¬ x.k = 1) (hk5 : ¬ x.k = 5) (c : Int) (hcall : ∀ base W a1 c1 a2 c2, Cp.zo W base (.slice a1 os.length c1) (.slice a2 ds.length c2) os ds -> base <= W.heap.size -> Calls Tryz.prog 48 #[.agg #[.slice a1 os.length c1, .slice a2 ds.length c2], .agg #[.int .i64 x.k, .int .i64 x.o.id, .int .i64 x.o.p, .int .i64 x.o.d, .int .i64 x.o.n, .int .i64 x.o.f, .int .i64 x.o.e, .int .i64 x.o.c, .int .i64 x.o.s, .bool x.o.two, .int .i64 x.id, .int .i64 x.p, .int .i64 x.d, .int .i64 x.n, .int .i64 x.m, .int .i64 x.b, .int .i64 x.a]] W fun e w' => e = .panicked [{ v := kz x.k c, recovered := false }] /\ Below W.heap.size W w') :
  Calls Tryz.prog 28 #[.agg #[.slice ao n cap, .slice ad m dcap], aDd x] w fun e w' => e = .panicked [{ v := kz x.k c, recovered := false }] /\ Below w.heap.size w w' := by
 have hk1 : (x.k == 1) = false := by simpa using hk
 have hkb : (x.k == 5) = false := by simpa using hk5
 clear hk hk5
 have HC := hidden hcall
 clear hcall
 have HR := hidden hR
 clear hR
 obtain ⟨hb0, p2, p3, p4⟩ := yh w #[.slice ao n cap, .slice ad m dcap] #[.int .i64 x.k, .int .i64 x.o.id, .int .i64 x.o.p, .int .i64 x.o.d, .int .i64 x.o.n, .int .i64 x.o.f, .int .i64 x.o.e, .int .i64 x.o.c, .int .i64 x.o.s, .bool x.o.two, .int .i64 x.id, .int .i64 x.p, .int .i64 x.d, .int .i64 x.n, .int .i64 x.m, .int .i64 x.b, .int .i64 x.a] #[.slice none 0 0, .slice none 0 0] 27 40 27
 unfold aDd
 go_enter Tryz.func28, Tryz.ntmps28
 go_upto_region 1 with fail
 generalize (((w.alloc (.cells #[.slice ao n cap, .slice ad m dcap] 27)).alloc (.cells #[.int .i64 x.k, .int .i64 x.o.id, .int .i64 x.o.p, .int .i64 x.o.d, .int .i64 x.o.n, .int .i64 x.o.f, .int .i64 x.o.e, .int .i64 x.o.c, .int .i64 x.o.s, .bool x.o.two, .int .i64 x.id, .int .i64 x.p, .int .i64 x.d, .int .i64 x.n, .int .i64 x.m, .int .i64 x.b, .int .i64 x.a] 40)).alloc (.cells #[.slice none 0 0, .slice none 0 0] 27)) = W0 at *
 have hr0 := HR.out.below hb0
 refine zc4 (B3 := w.heap.size + 1) (B2 := w.heap.size) (x := x) (os := os) (ds := ds) rfl rfl rfl p3 p2 hr0.1 hr0.2 hn hm hc ?_
 intro b' w1 hf1 hb1
 (rw [zcv hf1]; simp only [Rg.fl0, Rg.fl1, Rg.fl2, Nat.reduceAdd])
 clear hf1 hr0
 have P21 := hidden (p2.below hb1)
 have P31 := hidden (p3.below hb1)
 have P41 := hidden (p4.below hb1)
 have b1 := hidden (onto hb0 hb1)
 clear p2 p3 p4 hb0 hb1
 generalize Rg.out (Rg.opsOf Tryz.f28 1) b' = yF
 go_frame
 go_upto_region 2 with fail
 refine zdp (B3 := w.heap.size + 1) (x := x) rfl rfl P31.out hx ?_
 intro b' w2 hf2 hb2
 (rw [zdi hf2]; simp only [Rg.fl0, Rg.fl1, Rg.fl2, Nat.reduceAdd])
 clear hf2
 have P22 := hidden (P21.out.below hb2)
 have P32 := hidden (P31.out.below hb2)
 have P42 := hidden (P41.out.below hb2)
 have b2 := hidden (onto b1.out hb2)
 have z2 := hidden (onto b1.out hb2).size
 clear P21 P31 P41 b1 hb2
 generalize Rg.out (Rg.opsOf Tryz.f28 2) b' = yF
 go_frame
 have q0 : w2.cell? ⟨w.heap.size + 1, 0, none⟩ = some (.int .i64 x.k) := P32.out.cell 0
 go_upto_region 8 with fail
 refine regH8d (w0 := w) (B2 := w.heap.size) (B3 := w.heap.size + 1) (B4 := w.heap.size + 1 + 1) (ao := ao) (ad := ad) (n := n) (cap := cap) (m := m) (dcap := dcap) (os := os) (ds := ds) (x := x) (c := c) rfl rfl rfl rfl P22.out P32.out P42.out b2.out (by omega) HR.out hn hm (fun W a1 c1 a2 c2 h1 h2 => HC.out _ W a1 c1 a2 c2 h1 h2) ?_
 intro b' w3 hf3 hb3
 (rw [layH8y hf3]; simp only [Rg.fl0, Rg.fl1, Rg.fl2, Nat.reduceAdd])
 exact ⟨rfl, rfl, hb3⟩
set_option maxRecDepth 20000 in
set_option maxHeartbeats 16000000 in
theorem zjr (ao : Option Addr) (n cap : Nat) (ad : Option Addr) (m dcap : Nat) (os : List Od) (ds : List Ds) (x : Dd) (w : World) (hR : Cp.CRw w (.slice ao n cap) (.slice ad m dcap) os ds) (hn : os.length <= 1048576) (hm : ds.length <= 1048576) (hc : ji os ds = true) (hx : ddB x = true) (hk : ¬ x.k = 1) (hk5 : ¬ x.k = 5) (os2 : List Od) (ds2 : List Ds) (hcall : ∀ base W a1 c1 a2 c2, Cp.zo W base (.slice a1 os.length c1) (.slice a2 ds.length c2) os ds -> base <= W.heap.size -> Calls Tryz.prog 48 #[.agg #[.slice a1 os.length c1, .slice a2 ds.length c2], .agg #[.int .i64 x.k, .int .i64 x.o.id, .int .i64 x.o.p, .int .i64 x.o.d, .int .i64 x.o.n, .int .i64 x.o.f, .int .i64 x.o.e, .int .i64 x.o.c, .int .i64 x.o.s, .bool x.o.two, .int .i64 x.id, .int .i64 x.p, .int .i64 x.d, .int .i64 x.n, .int .i64 x.m, .int .i64 x.b, .int .i64 x.a]] W fun e w' => ∃ v1 v2, e = .returned (.agg #[v1, v2]) /\ Cp.zo w' base v1 v2 os2 ds2 /\ Below base W w') :
  Calls Tryz.prog 28 #[.agg #[.slice ao n cap, .slice ad m dcap], aDd x] w fun e w' => ∃ v1 v2, e = .returned (.agg #[v1, v2]) /\ Cp.zo w' w.heap.size v1 v2 os2 ds2 /\ Below w.heap.size w w' := by
 have hk1 : (x.k == 1) = false := by simpa using hk
 have hkb : (x.k == 5) = false := by simpa using hk5
 clear hk hk5
 have HC := hidden hcall
 clear hcall
 have HR := hidden hR
 clear hR
 obtain ⟨hb0, p2, p3, p4⟩ := yh w #[.slice ao n cap, .slice ad m dcap] #[.int .i64 x.k, .int .i64 x.o.id, .int .i64 x.o.p, .int .i64 x.o.d, .int .i64 x.o.n, .int .i64 x.o.f, .int .i64 x.o.e, .int .i64 x.o.c, .int .i64 x.o.s, .bool x.o.two, .int .i64 x.id, .int .i64 x.p, .int .i64 x.d, .int .i64 x.n, .int .i64 x.m, .int .i64 x.b, .int .i64 x.a] #[.slice none 0 0, .slice none 0 0] 27 40 27
 unfold aDd
 go_enter Tryz.func28, Tryz.ntmps28
 go_upto_region 1 with fail
 generalize (((w.alloc (.cells #[.slice ao n cap, .slice ad m dcap] 27)).alloc (.cells #[.int .i64 x.k, .int .i64 x.o.id, .int .i64 x.o.p, .int .i64 x.o.d, .int .i64 x.o.n, .int .i64 x.o.f, .int .i64 x.o.e, .int .i64 x.o.c, .int .i64 x.o.s, .bool x.o.two, .int .i64 x.id, .int .i64 x.p, .int .i64 x.d, .int .i64 x.n, .int .i64 x.m, .int .i64 x.b, .int .i64 x.a] 40)).alloc (.cells #[.slice none 0 0, .slice none 0 0] 27)) = W0 at *
 have hr0 := HR.out.below hb0
 refine zc4 (B3 := w.heap.size + 1) (B2 := w.heap.size) (x := x) (os := os) (ds := ds) rfl rfl rfl p3 p2 hr0.1 hr0.2 hn hm hc ?_
 intro b' w1 hf1 hb1
 (rw [zcv hf1]; simp only [Rg.fl0, Rg.fl1, Rg.fl2, Nat.reduceAdd])
 clear hf1 hr0
 have P21 := hidden (p2.below hb1)
 have P31 := hidden (p3.below hb1)
 have P41 := hidden (p4.below hb1)
 have b1 := hidden (onto hb0 hb1)
 clear p2 p3 p4 hb0 hb1
 generalize Rg.out (Rg.opsOf Tryz.f28 1) b' = yF
 go_frame
 go_upto_region 2 with fail
 refine zdp (B3 := w.heap.size + 1) (x := x) rfl rfl P31.out hx ?_
 intro b' w2 hf2 hb2
 (rw [zdi hf2]; simp only [Rg.fl0, Rg.fl1, Rg.fl2, Nat.reduceAdd])
 clear hf2
 have P22 := hidden (P21.out.below hb2)
 have P32 := hidden (P31.out.below hb2)
 have P42 := hidden (P41.out.below hb2)
 have b2 := hidden (onto b1.out hb2)
 have z2 := hidden (onto b1.out hb2).size
 clear P21 P31 P41 b1 hb2
 generalize Rg.out (Rg.opsOf Tryz.f28 2) b' = yF
 go_frame
 have q0 : w2.cell? ⟨w.heap.size + 1, 0, none⟩ = some (.int .i64 x.k) := P32.out.cell 0
 go_upto_region 8 with fail
 refine regH8y (w0 := w) (B2 := w.heap.size) (B3 := w.heap.size + 1) (B4 := w.heap.size + 1 + 1) (ao := ao) (ad := ad) (n := n) (cap := cap) (m := m) (dcap := dcap) (os := os) (ds := ds) (x := x) (c := 0) (os2 := os2) (ds2 := ds2) rfl rfl rfl rfl P22.out P32.out P42.out b2.out (by omega) HR.out hn hm (by omega) (by omega) (fun W a1 c1 a2 c2 h1 h2 => HC.out _ W a1 c1 a2 c2 h1 h2) ?_
 intro b' w3 v1 v2 hf3 hb3 p43 hN3
 (rw [layH8y hf3]; simp only [Rg.fl0, Rg.fl1, Rg.fl2, Nat.reduceAdd])
 clear hf3
 have HB3 := hidden hb3
 have P43 := hidden p43
 have N3 := hidden (zav hN3 z2.out)
 clear hb3 p43 hN3
 generalize Rg.out (Rg.opsOf Tryz.f28 8) b' = yF
 go_frame
 go_wp2_with fail
 exact bodyPost_ret (v := .agg #[v1, v2]) (results_cell_row Tryz.results28 _ _ (w.heap.size + 1 + 1) 27 _ (0, 0) _ rfl P43.out Tryz.underlying27 rfl (by kernel_rfl)) rfl ⟨v1, v2, rfl, N3.out, HB3.out⟩
end Go.Proofs.YtjlpfpigggdemaaGreatDoor
