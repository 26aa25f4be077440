/-
 Merged: U34 U43 Rt U7.
-/
import Derived.Test.YtjlpfpigggdemaaGreatDoorMi3
import Derived.Test.YtjlpfpigggdemaaGreatDoorMi6
import Derived.Test.YtjlpfpigggdemaaGreatDoorMi7
import Derived.Test.YtjlpfpigggdemaaGreatDoorMi9
import Derived.Maps.OwnSet
import Derived.Maps.OwnOps
import Derived.WideKeyEntry
import Derived.Test.YtjlpfpigggdemaaGreatDoorMi2
import Derived.DeepKeys4
import Derived.Maps.Views
namespace Go.Proofs.YtjlpfpigggdemaaGreatDoor
set_option maxRecDepth 8000
set_option maxHeartbeats 4000000
open Go.RowKit Va Uo
set_option linter.all false
set_option maxRecDepth 20000 in
set_option maxHeartbeats 16000000 in
theorem zll {l : List Od} {i : Nat} {o : Od} (h : l[i]? = some o) (q : Int) : (zt 9 jd l).set (i * 9 + 7) (.int .i64 q) = zt 9 jd (l.set i { o with s := q }) := by
 have hi : i < l.length := (List.getElem?_eq_some_iff.1 h).1
 refine List.ext_getElem? fun j => ?_
 by_cases hj : j < l.length * 9
 ·obtain ⟨x, hx⟩ : ∃ x, l[j / 9]? = some x := ⟨_, List.getElem?_eq_getElem (by omega)⟩
  have g1 := jg (s := 9) (cs := jd) l (j / 9) x hx (j % 9) (by omega)
  rw [show j / 9 * 9 + j % 9 = j by omega] at g1
  by_cases hq : j / 9 = i
  ·subst hq
   rw [h] at hx
   obtain rfl := Option.some.inj hx
   have g2 := jg (s := 9) (cs := jd) (l.set (j / 9) { o with s := q }) (j / 9) { o with s := q } (by rw [List.getElem?_set_self hi]) (j % 9) (by omega)
   rw [show j / 9 * 9 + j % 9 = j by omega] at g2
   rw [g2]
   by_cases h7 : j % 9 = 7
   ·rw [show j / 9 * 9 + 7 = j by omega, List.getElem?_set_self (by rw [za2]; omega), h7]
    rfl
   ·rw [List.getElem?_set_ne (by omega), g1]
    rcases (show j % 9 = 0 ∨ j % 9 = 1 ∨ j % 9 = 2 ∨ j % 9 = 3 ∨ j % 9 = 4 ∨ j % 9 = 5 ∨ j % 9 = 6 ∨ j % 9 = 8 by omega) with e | e | e | e | e | e | e | e <;> rw [e] <;> rfl
  ·have g2 := jg (s := 9) (cs := jd) (l.set i { o with s := q }) (j / 9) x (by rw [List.getElem?_set_ne (fun e => hq e.symm)]; exact hx) (j % 9) (by omega)
   rw [show j / 9 * 9 + j % 9 = j by omega] at g2
   rw [g2, List.getElem?_set_ne (by omega), g1]
 ·rw [List.getElem?_eq_none (by rw [List.length_set, za2]; omega), List.getElem?_eq_none (by rw [za2, List.length_set]; omega)]
theorem zeh {w : World} {base t s n c : Nat} {ad : Option Addr} {xs : List Value} (h : w.ownsRow base t s (.slice ad n c) n xs) (hn : ¬ n = 0) : ∃ G, ad = some ⟨G, 0, none⟩ := by
 obtain ⟨q, ⟨q1, q2⟩ | ⟨g, cap, cur, q1, _⟩⟩ := h
 ·simp only [Value.slice.injEq] at q1; exact absurd q1.2.1 hn
 ·simp only [Value.slice.injEq] at q1
  exact ⟨g, q1.1⟩
theorem set_newU {w : World} {base G c : Nat} {v2 : Value} {os : List Od} {ds : List Ds} {k : Nat} {o : Od} (h : Cp.zo w base (.slice (some ⟨G, 0, none⟩) os.length c) v2 os ds) (hko : os[k]? = some o) (q : Int) :
  Cp.zo (w.setCell ⟨G, k * 9 + 7, none⟩ (.int .i64 q)) base (.slice (some ⟨G, 0, none⟩) os.length c) v2 (os.set k { o with s := q }) ds := by
 have hk := (List.getElem?_eq_some_iff.1 hko).1
 refine ⟨?_, Cp.jo h.2 (fun e => Cp.zds h.1 h.2 (by decide) G rfl e) _ _⟩
 rw [<- zll hko, List.length_set]
 exact zc6 h.1 (k * 9 + 7) (by omega) _
theorem zh1 {w : World} {base G c : Nat} {v2 : Value} {os : List Od} {ds : List Ds} {k : Nat} {o : Od} (h : Cp.zo w base (.slice (some ⟨G, 0, none⟩) os.length c) v2 os ds) (hko : os[k]? = some o) : w.cell? ⟨G, 0 + k * 9 + 7, none⟩ = some (.int .i64 o.s) := by
 rw [Nat.zero_add]
 exact (jw h.1 (jg os k o hko 7 (by decide))).1
theorem zc3 (x : Dd) (c : Int) (w : World) {t : Bool} (ht : t = true) : Calls Tryz.prog 44 #[.agg #[.int .i64 x.k, .int .i64 x.o.id, .int .i64 x.o.p, .int .i64 x.o.d, .int .i64 x.o.n, .int .i64 x.o.f, .int .i64 x.o.e, .int .i64 x.o.c, .int .i64 x.o.s, .bool x.o.two, .int .i64 x.id, .int .i64 x.p, .int .i64 x.d, .int .i64 x.n, .int .i64 x.m, .int .i64 x.b, .int .i64 x.a], .bool t, .int .i64 c] w fun e w' => e = .panicked [{ v := kz x.k c, recovered := false }] /\ Below w.heap.size w w' := by subst ht; exact zce x c w
theorem zbt (x : Dd) (c : Int) (w : World) {t : Bool} (ht : t = false) : Calls Tryz.prog 44 #[.agg #[.int .i64 x.k, .int .i64 x.o.id, .int .i64 x.o.p, .int .i64 x.o.d, .int .i64 x.o.n, .int .i64 x.o.f, .int .i64 x.o.e, .int .i64 x.o.c, .int .i64 x.o.s, .bool x.o.two, .int .i64 x.id, .int .i64 x.p, .int .i64 x.d, .int .i64 x.n, .int .i64 x.m, .int .i64 x.b, .int .i64 x.a], .bool t, .int .i64 c] w fun e w' => e = .returned (.tuple #[]) /\ Below w.heap.size w w' := by subst ht; exact zbz x c w
set_option maxRecDepth 20000 in
set_option maxHeartbeats 16000000 in
theorem zjz (vb vs : Value) (os : List Od) (ds : List Ds) (base : Nat) (x : Dd) (w : World) (h : Cp.zo w base vb vs os ds) (hbase : base <= w.heap.size) (hn : os.length <= 100) (hr : Ris os) (hat : atO os x.id < 0) :
  Calls Tryz.prog 48 #[.agg #[vb, vs], aDd x] w fun e w' => e = .panicked [{ v := kz x.k 4, recovered := false }] /\ Below w.heap.size w w' := by
 obtain ⟨a1, c1, a2, c2, rfl, rfl⟩ := h.form
 obtain ⟨hb0, p2, p3, p4⟩ := yh w #[.slice a1 os.length c1, .slice a2 ds.length c2] #[.int .i64 x.k, .int .i64 x.o.id, .int .i64 x.o.p, .int .i64 x.o.d, .int .i64 x.o.n, .int .i64 x.o.f, .int .i64 x.o.e, .int .i64 x.o.c, .int .i64 x.o.s, .bool x.o.two, .int .i64 x.id, .int .i64 x.p, .int .i64 x.d, .int .i64 x.n, .int .i64 x.m, .int .i64 x.b, .int .i64 x.a] #[.slice none 0 0, .slice none 0 0] 27 40 27
 have hN0 := h.below hb0
 have HN := hidden hN0
 have hsz0 : w.heap.size + 1 + 1 + 1 = (((w.alloc (.cells #[.slice a1 os.length c1, .slice a2 ds.length c2] 27)).alloc (.cells #[.int .i64 x.k, .int .i64 x.o.id, .int .i64 x.o.p, .int .i64 x.o.d, .int .i64 x.o.n, .int .i64 x.o.f, .int .i64 x.o.e, .int .i64 x.o.c, .int .i64 x.o.s, .bool x.o.two, .int .i64 x.id, .int .i64 x.p, .int .i64 x.d, .int .i64 x.n, .int .i64 x.m, .int .i64 x.b, .int .i64 x.a] 40)).alloc (.cells #[.slice none 0 0, .slice none 0 0] 27)).heap.size := by simp
 unfold aDd
 clear h hN0
 go_enter Tryz.func48, Tryz.ntmps48
 go_upto_region 1 with fail
 generalize (((w.alloc (.cells #[.slice a1 os.length c1, .slice a2 ds.length c2] 27)).alloc (.cells #[.int .i64 x.k, .int .i64 x.o.id, .int .i64 x.o.p, .int .i64 x.o.d, .int .i64 x.o.n, .int .i64 x.o.f, .int .i64 x.o.e, .int .i64 x.o.c, .int .i64 x.o.s, .bool x.o.two, .int .i64 x.id, .int .i64 x.p, .int .i64 x.d, .int .i64 x.n, .int .i64 x.m, .int .i64 x.b, .int .i64 x.a] 40)).alloc (.cells #[.slice none 0 0, .slice none 0 0] 27)) = W0 at *
 have z0 := hb0.size
 have HB0 := hidden hb0
 have P2 := hidden p2
 have P3 := hidden p3
 have P4 := hidden p4
 have e20 : W0.cell? ⟨w.heap.size, 0, none⟩ = some _ := p2.cell 0
 have e21 : W0.cell? ⟨w.heap.size, 1, none⟩ = some _ := p2.cell 1
 obtain ⟨d0, ⟨d1, d2, d3, d4, d5, d6, d7, d8, d9⟩, da, db, dc, dd, de, df, dg⟩ := p3.deed
 clear p2 p3 p4 hb0
 have hPL := zcc a1 os.length c1 (.slice a2 ds.length c2) os x.id W0 (za1 rfl HN.out.1).row (by omega) hr ⟨_, _, _, rfl⟩
 have HNO : Hid (∀ k', Cut os x.id k' -> qm os x.id k' = false) := fun k' hc => by
  cases hq : qm os x.id k' with
  | false => rfl
  | true => have := (zbx hr hc hq).1; omega
 have kS := fun W => zce x 4 W
 clear hat hr
 go_wp2_with (first | (go_at_call 53; refine hPL.mono ?_; rintro e w1 ⟨k', hcut, rfl, hb1⟩; rw [HNO.out k' hcut]; have bA := onto HB0.out hb1; have P21 := hidden (P2.out.below hb1); have P31 := hidden (P3.out.below hb1); have P41 := hidden (P4.out.below hb1); have N1 := hidden (HN.out.below hb1); have z1 := hb1.size; obtain ⟨q20, q21⟩ := P21.out.two; obtain ⟨q0, ⟨q1, q2, q3, q4, q5, q6, q7, q8, q9⟩, qa, qb, qc, qd, qe, qf, qg⟩ := P31.out.deed; clear hb1 hcut) | (go_at_call 44; with_reducible refine (kS _).mono ?_; rintro e w2 ⟨rfl, hb2⟩; have bB := onto bA hb2; clear hb2))
 exact ⟨rfl, rfl, bB⟩
end Go.Proofs.YtjlpfpigggdemaaGreatDoor
namespace Go.Proofs.YtjlpfpigggdemaaGreatDoor
open Go.RowKit Va Uo
set_option linter.all false
def zch (os : List Od) (ds : List Ds) (c : Int) (w : World) (e : Ending) (w' : World) : Prop :=
 ∃ v1 v2, e = .returned (.tuple #[.agg #[v1, v2], .int .i64 c]) /\ Cp.zo w' w.heap.size v1 v2 os ds /\ Below w.heap.size w w'
theorem zgk (w : World) (b : Nat) : Cp.zo w b (.slice none 0 0) (.slice none 0 0) [] [] := ⟨⟨rfl, Or.inl ⟨rfl, rfl⟩⟩, ⟨rfl, Or.inl ⟨rfl, rfl⟩⟩⟩
theorem zav {w : World} {base b2 : Nat} {vb vs : Value} {B : List Od} {S : List Ds} (h : Cp.zo w base vb vs B S) (hb : b2 <= base) : Cp.zo w b2 vb vs B S := ⟨Cp.own_base h.1 hb, Cp.own_base h.2 hb⟩
theorem zh0 {P : Program} {fn : Func} {p u : Tmp} {ty : TypeId} (h : fn.results = #[.cell p ty, .tmp u]) (tmps : Array Value) (w : World) (g : Nat) (t : TypeId) (cs : Array Value) (d : TypeDesc)
  (hp : tmps.getD p undef = .pointer (some ⟨g, 0, none⟩)) (hg : PB w g cs t) (hu : P.underlying ty = some d) (hd : (match d with | .struct _ | .array _ _ => true | _ => false) = true) (hi : (P.info? ty).map (·.size) = some cs.size) :
  (results fn tmps).run P w = .ok (.tuple #[.agg cs, tmps.getD u undef]) w := by
 have hl := run_loadVar_row (P := P) w g t ty cs _ d hg hu hd hi
 rw [results_cell_tmp h, hp]
 simp [asAddr, hl, Result.andThen]
theorem ziy {w W : World} {tm : Array Value} {B : Nat} {v1 v2 : Value} {L1 : List Od} {L2 : List Ds} {c : Int} (p : PB W B #[.slice none 0 0, .slice none 0 0] 27) (hl : w.heap.size <= B) (hb : Below w.heap.size w W) (hN : Cp.zo W w.heap.size v1 v2 L1 L2) (h4 : tm.getD 4 undef = .pointer (some ⟨B, 0, none⟩)) (h5 : tm.getD 5 undef = .int .i64 c) :
  bodyPost Tryz.prog Tryz.f26 (zch L1 L2 c w) Exit.ret ⟨tm, []⟩ ((W.setCell ⟨B, 0, none⟩ v1).setCell ⟨B, 1, none⟩ v2) := by
 have p4 : PB ((W.setCell ⟨B, 0, none⟩ v1).setCell ⟨B, 1, none⟩ v2) B #[v1, v2] 27 := (p.set 0 v1).set 1 v2
 refine bodyPost_ret (zh0 Tryz.results26 _ _ B 27 _ _ h4 p4 Tryz.underlying27 rfl (by kernel_rfl)) rfl ⟨v1, v2, by rw [h5], ⟨?_, ?_⟩, (hb.setCell (p := ⟨B, 0, none⟩) hl _).setCell (p := ⟨B, 1, none⟩) hl _⟩
 ·exact Cp.jo (Cp.jo hN.1 (jb hN.1 p (by decide)) _ _) (jb hN.1 p (by decide)) _ _
 ·exact Cp.jo (Cp.jo hN.2 (jb hN.2 p (by decide)) _ _) (jb hN.2 p (by decide)) _ _
set_option maxRecDepth 20000 in
set_option maxHeartbeats 16000000 in
theorem zja (ao : Option Addr) (n cap : Nat) (ad : Option Addr) (m dcap : Nat) (c : Int) (w : World) (hc : c = 1) :
  Calls Tryz.prog 26 #[.agg #[.slice ao n cap, .slice ad m dcap], .int .i64 c] w (zch [] [] c w) := by
 have hb0 : Below w.heap.size w ((w.alloc (.cells #[.slice ao n cap, .slice ad m dcap] 27)).alloc (.cells #[.slice none 0 0, .slice none 0 0] 27)) := ((Below.refl _ _).alloc (Nat.le_refl _) _).alloc (by simp) _
 have p2 : PB ((w.alloc (.cells #[.slice ao n cap, .slice ad m dcap] 27)).alloc (.cells #[.slice none 0 0, .slice none 0 0] 27)) w.heap.size #[.slice ao n cap, .slice ad m dcap] 27 := (PB.new w #[.slice ao n cap, .slice ad m dcap] 27).alloc _
 have p4 : PB ((w.alloc (.cells #[.slice ao n cap, .slice ad m dcap] 27)).alloc (.cells #[.slice none 0 0, .slice none 0 0] 27)) (w.heap.size + 1) #[.slice none 0 0, .slice none 0 0] 27 := by
  have := PB.new (w.alloc (.cells #[.slice ao n cap, .slice ad m dcap] 27)) #[.slice none 0 0, .slice none 0 0] 27
  simpa using this
 have HC := hidden hc
 clear hc
 go_enter Tryz.func26, Tryz.ntmps26
 go_upto_region 1 with fail
 generalize ((w.alloc (.cells #[.slice ao n cap, .slice ad m dcap] 27)).alloc (.cells #[.slice none 0 0, .slice none 0 0] 27)) = W0 at *
 have hc := HC.out
 subst hc
 have q40 : W0.cell? ⟨w.heap.size + 1, 0, none⟩ = some _ := p4.cell 0
 have q41 : W0.cell? ⟨w.heap.size + 1, 1, none⟩ = some _ := p4.cell 1
 have f40 := p4.frozen 0
 have f41 := p4.frozen 1
 have P4 := hidden p4
 have HB := hidden hb0
 clear p2 p4 hb0
 go_wp2_with fail
 exact ziy P4.out (by omega) HB.out (zgk _ _) rfl rfl
set_option maxRecDepth 20000 in
set_option maxHeartbeats 16000000 in
theorem zk5 (ao : Option Addr) (n cap : Nat) (ad : Option Addr) (m dcap : Nat) (c : Int) (w : World) (os : List Od) (ds : List Ds) (h : Cp.CRw w (.slice ao n cap) (.slice ad m dcap) os ds) (hn : os.length <= 1048576) (hm : ds.length <= 1048576) (hc : ¬ c = 1) :
  Calls Tryz.prog 26 #[.agg #[.slice ao n cap, .slice ad m dcap], .int .i64 c] w (zch os ds c w) := by
 have HH := hidden h
 clear h
 have hb0 : Below w.heap.size w ((w.alloc (.cells #[.slice ao n cap, .slice ad m dcap] 27)).alloc (.cells #[.slice none 0 0, .slice none 0 0] 27)) := ((Below.refl _ _).alloc (Nat.le_refl _) _).alloc (by simp) _
 have p2 : PB ((w.alloc (.cells #[.slice ao n cap, .slice ad m dcap] 27)).alloc (.cells #[.slice none 0 0, .slice none 0 0] 27)) w.heap.size #[.slice ao n cap, .slice ad m dcap] 27 := (PB.new w #[.slice ao n cap, .slice ad m dcap] 27).alloc _
 have p4 : PB ((w.alloc (.cells #[.slice ao n cap, .slice ad m dcap] 27)).alloc (.cells #[.slice none 0 0, .slice none 0 0] 27)) (w.heap.size + 1) #[.slice none 0 0, .slice none 0 0] 27 := by
  have := PB.new (w.alloc (.cells #[.slice ao n cap, .slice ad m dcap] 27)) #[.slice none 0 0, .slice none 0 0] 27
  simpa using this
 have HC := hidden hc
 clear hc
 go_enter Tryz.func26, Tryz.ntmps26
 go_upto_region 1 with fail
 generalize ((w.alloc (.cells #[.slice ao n cap, .slice ad m dcap] 27)).alloc (.cells #[.slice none 0 0, .slice none 0 0] 27)) = W0 at *
 obtain ⟨q20, q21⟩ := p2.two
 have hc := HC.out
 have HA := hidden (Cp.zdf ao ad n cap m dcap os ds W0 (HH.out.below hb0) hn hm)
 have P4 := hidden p4
 have HB := hidden hb0
 have z0 := hb0.size
 clear p2 p4 hb0
 go_upto_region 3 with fail
 clear hc
 go_wp2_with (go_at_call 42; (with_reducible refine HA.out.mono ?_); rintro e w1 ⟨a1, c1, a2, c2, rfl, hN1, hb1⟩; have b1 := hidden (onto HB.out hb1); have P41 := hidden (P4.out.below hb1); have N1 := hidden (zav hN1 z0); have q40 : w1.cell? ⟨w.heap.size + 1, 0, none⟩ = some _ := P41.out.cell 0; have q41 : w1.cell? ⟨w.heap.size + 1, 1, none⟩ = some _ := P41.out.cell 1; have f40 := P41.out.frozen 0; have f41 := P41.out.frozen 1; clear hb1 hN1 q20 q21)
 exact ziy P41.out (by omega) b1.out N1.out rfl rfl
end Go.Proofs.YtjlpfpigggdemaaGreatDoor
namespace Go.Proofs.YtjlpfpigggdemaaGreatDoor.Rt
open Go Go.Maps Go.ChangeMaps Go.MapKept
open Go.WideMaps (KeyLaw)
open Go.WideElems (Fit rd rg pl entry_then_store)
set_option linter.all false
section
variable {H : Type} {P : Program} {w : World} {t k e : TypeId} {b n : Nat} {D : DataW H}
theorem zcz {R : Value -> Option (DataW H × List MemPlace)} {w2 : World} (h : w.ownsMap P k R b n D) (he : w2.heap[b]? = w.heap[b]?) : w2.ownsMap P k R b n D := by
 obtain ⟨es, clock, hb, r⟩ := h
 exact ⟨es, clock, he.trans hb, r⟩
set_option maxRecDepth 20000 in
set_option maxHeartbeats 16000000 in
theorem zjm (K : KeyLaw P k) (ht : P.underlying t = some (.map k e)) (he : P.underlying e = some (.int .i64)) (hz : ∀ u : World, (zeroValue e).run P u = .ok (.int .i64 0) u) (h : w.ownsMap P k (plainElem P e) b n D) (hn : n < maxLen)
  {key : Value} {kl : Lit} (hkey : keyOf P k key = some kl) {c : Int} (hc : D.atKey kl (.lit (.int .i64 0)) = .lit (.int .i64 c)) :
  ∃ (st : Nat) (es9 : Array MapEntry) (ck9 : Nat), (∀ u : World, u.heap[b]? = w.heap[b]? -> (Instr.mapEntry t (.map (some b)) key).run P u = .ok (.tuple #[.int .i64 c, goInt st]) (setBlock u b (.map es9 ck9))) /\
   (∀ u : World, u.heap[b]? = some (.map es9 ck9) -> (Instr.lookup t (.map (some b)) key false).run P u = .ok (.int .i64 c) u) /\
   ∀ (u : World) (a : Int), (Lit.int .i64 a).wf = true -> u.heap[b]? = some (.map es9 ck9) -> ∃ o2, (Instr.entryStore t (.map (some b)) (goInt st) (.int .i64 a)).run P u = .ok () (setBlock u b o2) /\ ∀ u2 : World, u2.heap[b]? = some o2 -> u2.ownsMap P k (plainElem P e) b (n + 1) (D.put kl (.lit (.int .i64 a))) := by
 have h0 := h
 obtain ⟨es, clock, hb, F, hs, hD⟩ := h
 have K2 : Keyed P k := Keyed.of_law K
 have hw0 : (Lit.int .i64 0).wf = true := by decide
 obtain ⟨s1, s2, s3⟩ := F.stamped
 have gen : ∀ u : World, u.heap[b]? = w.heap[b]? -> ∃ (v0 : Value) (st : Nat) (es1 : Array MapEntry) (clock1 : Nat), (Instr.mapEntry t (.map (some b)) key).run P u = .ok (.tuple #[v0, goInt st]) (setBlock u b (.map es1 clock1)) /\
   ((∃ e0 ∈ es.toList, e0.key = key /\ v0 = e0.val) ∨ ((∀ x ∈ es.toList, x.key ≠ key) /\ v0 = .int .i64 0)) /\
   ∀ (w2 : World) (val : Value), w2.heap[b]? = some (.map es1 clock1) -> ∃ es' clock', (Instr.entryStore t (.map (some b)) (goInt st) val).run P w2 = .ok () (setBlock w2 b (.map es' clock')) /\
    (Instr.mapUpdate t (.map (some b)) key val).run P u = .ok () (setBlock u b (.map es' clock')) := fun u hu => entry_then_store K ht hz (hu.trans hb) F hkey
 rcases K.find w hkey es.toList F.keys with ⟨h1, h2⟩ | ⟨j, e0, h1, h2, h3⟩
 ·-- there was none
  have run1 : ∀ u : World, u.heap[b]? = w.heap[b]? -> (Instr.mapEntry t (.map (some b)) key).run P u = .ok (.tuple #[.int .i64 0, goInt clock]) (setBlock u b (.map (es.push ⟨key, .int .i64 0, clock⟩) (clock + 1))) := fun u hu => by
   rcases K.find u hkey es.toList F.keys with ⟨k1, _⟩ | ⟨j, e0, _, k2, k3⟩
   ·simp [Instr.mapEntry, run_underlying ht, MapKept.run_getObj_map (hu.trans hb), K.check u false hkey, k1, hz, MapKept.run_setObj_map _ (hu.trans hb), Result.andThen, setBlock]
   ·exact absurd k3 (h2 e0 (List.mem_of_getElem? k2))
  have hc0 : c = 0 := by
   rcases fit_look false K2 ht (hz w) hb F hkey with ⟨_, _, hat⟩ | ⟨e0, y, m0, m1, _⟩
   ·rw [hD, hat] at hc
    simpa using hc.symm
   ·exact absurd m1 (h2 e0 m0)
  subst hc0
  have up : ∀ u : World, u.heap[b]? = w.heap[b]? -> ∀ val, (Instr.mapUpdate t (.map (some b)) key val).run P u = .ok () (setBlock u b (.map (es.push ⟨key, val, clock⟩) (clock + 1))) := fun u hu val => by
   rcases K.find u hkey es.toList F.keys with ⟨k1, _⟩ | ⟨j, e0, _, k2, k3⟩
   ·simp [Instr.mapUpdate, run_underlying ht, MapKept.run_getObj_map (hu.trans hb), K.check u false hkey, k1, MapKept.run_setObj_map _ (hu.trans hb), Result.andThen, setBlock]
   ·exact absurd k3 (h2 e0 (List.mem_of_getElem? k2))
  have owns : ∀ a : Int, (Lit.int .i64 a).wf = true -> ∀ u2 : World, u2.heap[b]? = some (.map (es.push ⟨key, .int .i64 a, clock⟩) (clock + 1)) -> u2.ownsMap P k (plainElem P e) b (n + 1) (D.put kl (.lit (.int .i64 a))) := fun a ha u2 hu2 => by
   obtain ⟨w', r1, r2, _⟩ := h0.update K2 ht hn hkey (plainElem_int he ha)
   rw [up w rfl] at r1
   cases r1
   exact zcz r2 (by rw [hu2, heap_setBlock_same hb])
  refine ⟨clock, _, _, run1, fun u hu => ?_, fun u a ha hu => ?_⟩
  ·have hu' := owns 0 hw0 u hu
   obtain ⟨c1, q1, q2, _⟩ := hu'.lookup_int K2 ht he (hz u) hkey
   rw [atKey_put_same h0.isMap (K2.key hkey)] at q2
   have : c1 = 0 := by simpa using q2.symm
   rw [q1, this]
  ·obtain ⟨v0, st, es1, clock1, r1, _, r3⟩ := gen w rfl
   rw [run1 w rfl] at r1
   simp only [Result.ok.injEq, Value.tuple.injEq] at r1
   obtain ⟨rv, rw1⟩ := r1
   have est : goInt clock = goInt st := by have := congrArg (fun x : Array Value => x.getD 1 undef) rv; exact this
   have eob : some (Obj.map (es.push ⟨key, .int .i64 0, clock⟩) (clock + 1)) = some (Obj.map es1 clock1) := by
    have := congrArg (fun u : World => u.heap[b]?) rw1
    simpa [heap_setBlock_same hb] using this
   obtain ⟨es', clock', p1, p2⟩ := r3 u (.int .i64 a) (hu.trans eob)
   rw [up w rfl] at p2
   refine ⟨_, by rw [est]; exact p1, fun u2 hu2 => owns a ha u2 ?_⟩
   have := congrArg (fun r : Result Unit => match r with | .ok _ v => v.heap[b]? | _ => none) p2
   simp only [heap_setBlock_same hb] at this
   rw [hu2, <- this]
 ·-- there was one
  have hj : es[j]? = some e0 := by simpa using h2
  have hce : e0.val = .int .i64 c := by
   rcases fit_look false K2 ht (hz w) hb F hkey with ⟨_, m1, _⟩ | ⟨e1, y, m0, m1, m2, m3, hat, _⟩
   ·exact absurd h3 (m1 e0 (List.mem_of_getElem? h2))
   ·have e10 : e1.val = e0.val := by
     have q1 : (Instr.lookup t (.map (some b)) key false).run P w = .ok e0.val w := by
      simp [Instr.lookup, run_underlying ht, MapKept.run_getObj_map hb, K2.check w _ hkey, h1, Result.andThen]
     rw [q1] at m2
     simpa using m2.symm
    obtain ⟨a, ea, ez, _⟩ := plainElem_int_inv he m3
    rw [hD, hat, ez] at hc
    have : a = c := by simpa using hc
    rw [<- e10, ea, this]
  have hsame : es.modify j (fun e => { e with key := key }) = es := by
   apply Array.ext'
   rw [Array.toList_modify, modify_eq_set _ _ _ _ h2]
   have : ({ e0 with key := key } : MapEntry) = e0 := by rw [<- h3]
   rw [this]
   exact WideElems.set_self _ _ _ h2
  have fnd : ∀ u : World, (Instr.findKey k key es.toList).run P u = .ok (some (j, e0.val)) u := fun u => by
   rcases K.find u hkey es.toList F.keys with ⟨_, k1⟩ | ⟨j2, e2, k1, k2, k3⟩
   ·exact absurd h3 (k1 e0 (List.mem_of_getElem? h2))
   ·obtain ⟨hr1, hr2⟩ : j2 = j /\ e2 = e0 := by
     have hj2 := (List.getElem?_eq_some_iff.1 k2).1
     have hj1 := (List.getElem?_eq_some_iff.1 h2).1
     by_cases q : j2 = j
     ·subst q; rw [k2] at h2; exact ⟨rfl, by simpa using h2⟩
     ·have hp := List.pairwise_iff_getElem.1 s3
      have m1 : (es.toList.map (·.key))[j2]'(by simpa using hj2) = key := by
       rw [List.getElem_map, (List.getElem?_eq_some_iff.1 k2).2]; exact k3
      have m2 : (es.toList.map (·.key))[j]'(by simpa using hj1) = key := by
       rw [List.getElem_map, (List.getElem?_eq_some_iff.1 h2).2]; exact h3
      rcases Nat.lt_or_gt_of_ne q with q' | q'
      ·exact absurd (m1.trans m2.symm) (hp j2 j (by simpa using hj2) (by simpa using hj1) q')
      ·exact absurd (m2.trans m1.symm) (hp j j2 (by simpa using hj1) (by simpa using hj2) q')
    rw [k1, hr1, hr2]
  have run1 : ∀ u : World, u.heap[b]? = w.heap[b]? -> (Instr.mapEntry t (.map (some b)) key).run P u = .ok (.tuple #[.int .i64 c, goInt e0.born]) (setBlock u b (.map es clock)) := fun u hu => by
   simp [Instr.mapEntry, run_underlying ht, MapKept.run_getObj_map (hu.trans hb), K.check u false hkey, fnd u, hj, h3, K.stays u hkey, hsame, MapKept.run_setObj_map _ (hu.trans hb), Result.andThen, setBlock, hce]
  refine ⟨e0.born, _, _, run1, fun u hu => ?_, fun u a ha hu => ?_⟩
  ·simp [Instr.lookup, run_underlying ht, MapKept.run_getObj_map hu, K2.check u _ hkey, fnd u, Result.andThen, hce]
  ·obtain ⟨v0, st, es1, clock1, r1, _, r3⟩ := gen w rfl
   rw [run1 w rfl] at r1
   simp only [Result.ok.injEq, Value.tuple.injEq] at r1
   obtain ⟨rv, rw1⟩ := r1
   have est : goInt e0.born = goInt st := by have := congrArg (fun x : Array Value => x.getD 1 undef) rv; exact this
   have eob : some (Obj.map es clock) = some (Obj.map es1 clock1) := by
    have := congrArg (fun u : World => u.heap[b]?) rw1
    simpa [heap_setBlock_same hb] using this
   obtain ⟨es', clock', p1, p2⟩ := r3 u (.int .i64 a) (hu.trans eob)
   refine ⟨_, by rw [est]; exact p1, fun u2 hu2 => ?_⟩
   obtain ⟨w', q1, q2, _⟩ := h0.update K2 ht hn hkey (plainElem_int he ha)
   rw [p2] at q1
   cases q1
   exact zcz q2 (by rw [hu2, heap_setBlock_same hb])
end
end Go.Proofs.YtjlpfpigggdemaaGreatDoor.Rt
namespace Go.Proofs.YtjlpfpigggdemaaGreatDoor
open Go.RowKit Va Uo Go.Maps
set_option linter.all false
theorem laidT : laidOutB Tryz.prog = true := by kernel_rfl
theorem lawT : WideMaps.KeyLaw Tryz.prog 68 := deep_law_laid laidT (m := 2) (by omega) (of_decide_eq_true (by kernel_rfl)) (by kernel_rfl) (by kernel_rfl)
theorem zf6 : Keyed Tryz.prog 68 := Keyed.of_law lawT
def kT (o t : Int) : Lit := .string (keyBytes [.int .i64 o, .int .i64 t])
def Bd (x : Int) : Prop := 0 <= x /\ x <= 1000000
theorem wfT {x : Int} (h : Bd x) : (Lit.int .i64 x).wf = true := by
 obtain ⟨h0, h1⟩ := h
 exact WalkArith.wf_i64 (by omega)
theorem ktyT : Tryz.prog.keyType 68 = true := by kernel_rfl
theorem litsT {o t : Int} (ho : (Lit.int .i64 o).wf = true) (ht : (Lit.int .i64 t).wf = true) : ∀ n, Tryz.prog.keyLits (n + 2) 68 [.int .i64 o, .int .i64 t] = some [.int .i64 o, .int .i64 t] := by
 intro n
 have c1 : Tryz.prog.cellsOf 68 = 2 := by kernel_rfl
 have c2 : Tryz.prog.cellsOf 2 = 1 := by kernel_rfl
 unfold Program.keyLits
 rw [Tryz.underlying68]
 simp [c1, c2, Program.keyLits, Tryz.underlying2, ho, ht]
theorem zec {o t : Int} (ho : Bd o) (ht : Bd t) : keyOf Tryz.prog 68 (.agg #[.int .i64 o, .int .i64 t]) = some (kT o t) := by
 have c1 : Tryz.prog.cellsOf 68 = 2 := by kernel_rfl
 have hf : (Value.agg #[.int .i64 o, .int .i64 t]).formed Tryz.prog 68 = true := by
  simp [Value.formed, Tryz.underlying68, c1]
 have hs : ∃ n, Tryz.prog.types.size + 1 = n + 2 := ⟨Tryz.prog.types.size - 1, by
  have : 68 < Tryz.prog.types.size := of_decide_eq_true (by kernel_rfl)
  omega⟩
 obtain ⟨n, hn⟩ := hs
 unfold keyOf
 rw [Tryz.underlying68]
 simp only [ktyT, hf, Bool.and_self, if_true, hn]
 have := litsT (wfT ho) (wfT ht) n
 simp [Value.cells, this, kT]
theorem kT_inj {o t o' t' : Int} (ho : Bd o) (ht : Bd t) (ho' : Bd o') (ht' : Bd t') (h : kT o t = kT o' t') : o = o' /\ t = t' := by
 have := zf6.inj (zec ho ht) (h ▸ zec ho' ht')
 simpa using this
theorem zgh (o t : Int) : WideAt.IsKeyLit (kT o t) := trivial
theorem zkg (l : List Ds) (d : Ds) : apartB (l ++ [d]) = (apartB l && !vw l d.o d.t) := by
 have g1 : ∀ j, j < l.length -> (l ++ [d]).getD j default = l.getD j default := fun j hj => by
  rw [List.getD_eq_getElem?_getD, List.getD_eq_getElem?_getD, List.getElem?_append_left hj]
 have g2 : (l ++ [d]).getD l.length default = d := by simp
 rw [Bool.eq_iff_iff]
 simp only [apartB, Bool.and_eq_true, List.all_eq_true, List.mem_range, List.length_append, List.length_singleton, Bool.not_eq_true', vw, List.any_eq_false]
 constructor
 ·intro h
  refine ⟨fun i hi j hj => ?_, fun x hx => ?_⟩
  ·have := h i (by omega) j hj
   unfold za6 at *
   rw [g1 i hi, g1 j (by omega)] at this
   exact this
  ·obtain ⟨j, hj, rfl⟩ := List.getElem_of_mem hx
   have := h l.length (by omega) j hj
   unfold za6 at this
   rw [g2, g1 j hj, List.getD_eq_getElem?_getD, List.getElem?_eq_getElem hj] at this
   simpa using this
 ·rintro ⟨h1, h2⟩ i hi j hj
  by_cases q : i = l.length
  ·subst q
   unfold za6
   rw [g2, g1 j hj, List.getD_eq_getElem?_getD, List.getElem?_eq_getElem hj]
   have := h2 (l[j]) (List.getElem_mem _)
   simpa using this
  ·have := h1 i (by omega) j hj
   unfold za6 at *
   rw [g1 i (by omega), g1 j (by omega)]
   exact this
theorem zhs (l : List Ds) (d : Ds) (o t : Int) : vw (l ++ [d]) o t = (vw l o t || (decide (d.o = o) && decide (d.t = t))) := by simp [vw]
structure Cnt (D : DataW Unit) (l : List Ds) : Prop where
 at' : ∀ o t, Bd o -> Bd t -> ∃ n : Int, D.atKey (kT o t) (.lit (.int .i64 0)) = .lit (.int .i64 n) /\ 0 <= n /\ n <= l.length /\ (n = 0 ↔ vw l o t = false)
 has' : ∀ o t, Bd o -> Bd t -> Maps.has D (kT o t) = vw l o t
 size' : Maps.size D <= l.length /\ (Maps.size D = l.length ↔ apartB l = true)
 tidy' : Tidy D
theorem Cnt.nil : Cnt (.map []) [] :=
 ⟨fun o t _ _ => ⟨0, rfl, Int.le_refl _, Int.le_refl _, by simp [vw]⟩, fun o t _ _ => rfl, ⟨Nat.le_refl _, by simp [Maps.size, apartB]⟩, tidy_empty⟩
set_option maxRecDepth 20000 in
set_option maxHeartbeats 16000000 in
theorem Cnt.snoc {D : DataW Unit} {l : List Ds} {d : Ds} {n : Int} (h : Cnt D l) (ho : Bd d.o) (ht : Bd d.t) (hn : D.atKey (kT d.o d.t) (.lit (.int .i64 0)) = .lit (.int .i64 n)) : Cnt (D.put (kT d.o d.t) (.lit (.int .i64 (n + 1)))) (l ++ [d]) := by
 obtain ⟨n', hn', p0, p1, p2⟩ := h.at' d.o d.t ho ht
 have hnn : n' = n := by rw [hn] at hn'; simpa using hn'.symm
 subst hnn
 have hm := h.tidy'.isMap
 refine ⟨fun o t bo bt => ?_, fun o t bo bt => ?_, ?_, h.tidy'.put (zgh _ _) _⟩
 ·rw [zhs]
  by_cases q : d.o = o /\ d.t = t
  ·obtain ⟨rfl, rfl⟩ := q
   rw [atKey_put_same hm (zgh _ _)]
   refine ⟨n' + 1, rfl, by omega, by simp; omega, ?_⟩
   simp
   omega
  ·have hne : kT o t ≠ kT d.o d.t := fun e => by
    obtain ⟨e1, e2⟩ := kT_inj bo bt ho ht e
    exact q ⟨e1.symm, e2.symm⟩
   rw [atKey_put_other hne]
   obtain ⟨m, m0, m1, m2, m3⟩ := h.at' o t bo bt
   have : (decide (d.o = o) && decide (d.t = t)) = false := by
    by_cases a : d.o = o <;> by_cases b : d.t = t <;> simp [a, b]
    exact q ⟨a, b⟩
   rw [this, Bool.or_false]
   exact ⟨m, m0, m1, by simp; omega, m3⟩
 ·rw [zhs]
  by_cases q : d.o = o /\ d.t = t
  ·obtain ⟨rfl, rfl⟩ := q
   rw [has_put_same hm (zgh _ _)]
   simp
  ·have hne : kT o t ≠ kT d.o d.t := fun e => by
    obtain ⟨e1, e2⟩ := kT_inj bo bt ho ht e
    exact q ⟨e1.symm, e2.symm⟩
   rw [has_put_other hne, h.has' o t bo bt]
   have : (decide (d.o = o) && decide (d.t = t)) = false := by
    by_cases a : d.o = o <;> by_cases b : d.t = t <;> simp [a, b]
    exact q ⟨a, b⟩
   rw [this, Bool.or_false]
 ·rw [size_put h.tidy', h.has' _ _ ho ht, zkg]
  have hs := h.size'
  cases hg : vw l d.o d.t with
  | false =>
   simp only [List.length_append, List.length_singleton, Bool.not_false, Bool.and_true, Bool.false_eq_true, if_false]
   refine ⟨by omega, ?_⟩
   rw [<- hs.2]
   omega
  | true =>
   simp only [List.length_append, List.length_singleton, Bool.not_true, Bool.and_false, if_true]
   refine ⟨by omega, ?_⟩
   constructor
   ·intro e; omega
   ·intro e; cases e
end Go.Proofs.YtjlpfpigggdemaaGreatDoor
